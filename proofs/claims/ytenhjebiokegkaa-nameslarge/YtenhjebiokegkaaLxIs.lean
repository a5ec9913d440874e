import Derived.Test.YtenhjebiokegkaaLxBytes
namespace Go.Proofs.Ytenhjebiokegkaa.Lx
open Go.RowKit Go.Proofs.Ytenhjebiokegkaa.Sp

/-- a kept word -/
def kp (t : List Nat) : Bool := kept.contains t
theorem tx_toList (s : ByteArray) : tx s = s.toList.map UInt8.toNat := by rw [Lib.toList_data]; rfl
def keptB : List (List UInt8) := [[112, 111, 108, 105, 99, 121], [113, 117, 101, 117, 101], [114, 101, 115, 105, 100, 101, 110, 116], [103, 104, 111, 115, 116], [118, 97, 114], [105, 110], [116, 97, 103], [114, 101, 113, 117, 105, 114, 101], [114, 117, 108, 101], [111, 110], [104, 105, 116], [109, 105, 115, 115], [105, 102], [101, 108, 115, 101], [108, 111, 111, 112], [119, 104, 105, 108, 101], [115, 101, 116], [109, 97, 114, 107], [105, 110, 115, 101, 114, 116], [109, 111, 118, 101], [102, 111, 114, 103, 101, 116], [115, 104, 105, 102, 116], [101, 118, 105, 99, 116], [116, 111], [100, 114, 111, 112], [99, 97, 108, 108], [112, 97, 115, 115], [102, 114, 111, 110, 116], [98, 97, 99, 107], [120], [116, 114, 117, 101], [102, 97, 108, 115, 101], [108, 101, 110], [99, 97, 112], [115, 105, 122, 101], [116, 111, 116, 97, 108], [101, 109, 112, 116, 121], [102, 117, 108, 108], [97, 116], [109, 105, 110], [109, 97, 120]]
theorem keptB_map : kept = keptB.map (List.map UInt8.toNat) := by decide +kernel
theorem kp_iff (s : ByteArray) : kp (tx s) = decide (s.toList ∈ keptB) := by
  rw [Bool.eq_iff_iff, kp, keptB_map, tx_toList]
  simp only [List.contains_iff_mem, decide_eq_true_eq, List.mem_map]
  constructor
  · rintro ⟨a, h1, h2⟩
    rwa [← (List.map_inj_right (fun x y e => UInt8.toNat_inj.1 e)).1 h2]
  · exact fun h => ⟨_, h, rfl⟩

set_option maxHeartbeats 4000000 in
set_option maxRecDepth 100000 in
theorem is_any (s : ByteArray) (w : World) : Calls Try.prog 67 #[.string s] w fun e w' => e = .returned (.bool (kp (tx s))) ∧ w' = w := by
  have HF : Hid (kp (tx s) = decide (s.toList ∈ keptB)) := kp_iff s
  generalize kp (tx s) = z at *
  go_enter Try.func67, Try.ntmps67
  go_wp2
  all_goals try go_ret
  all_goals refine ⟨ret_b ?_, rfl⟩
  all_goals rw [HF.out]
  all_goals generalize s.toList = t at *
  all_goals simp only [beq_iff_eq, beq_eq_false_iff_ne, ne_eq] at *
  all_goals (first | contradiction | (rename_i h; rw [h]; decide) | (symm; apply decide_eq_false; intro hm; simp only [keptB, List.mem_cons, List.not_mem_nil, or_false] at hm; rcases hm with h | h | h | h | h | h | h | h | h | h | h | h | h | h | h | h | h | h | h | h | h | h | h | h | h | h | h | h | h | h | h | h | h | h | h | h | h | h | h | h | h <;> contradiction))
end Go.Proofs.Ytenhjebiokegkaa.Lx
