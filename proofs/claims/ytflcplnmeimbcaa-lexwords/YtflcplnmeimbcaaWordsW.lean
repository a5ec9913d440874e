import Derived.Test.YtflcplnmeimbcaaLxKnown
import Derived.Test.YtflcplnmeimbcaaLxRefB
import Derived.Test.YtflcplnmeimbcaaLxKin
import Derived.Test.YtflcplnmeimbcaaLxStrs
namespace Go.Proofs.Ytflcplnmeimbcaa.lexWords
open Go.RowKit Go.Proofs.Ytflcplnmeimbcaa.Sp Go.Proofs.Ytflcplnmeimbcaa.Lx

set_option maxHeartbeats 6400000 in
set_option maxRecDepth 100000 in
theorem walk (ao : Option Addr) (ss : List ByteArray) (cap : Nat) (w : World) (h : IsStrs w ao ss) (hn : ss.length ≤ 140737488351232) (hs : ∀ x ∈ ss, x.size ≤ 140737488351232) :
    Calls Try.prog 5 #[.slice ao ss.length cap] w fun e w' => e = .returned (.bool true) ∧ Below w.heap.size w w' := by
  have HI : Hid (IsStrs w ao ss) := h
  have HS : Hid (∀ x ∈ ss, x.size ≤ 140737488351232) := hs
  clear h hs
  go_enter Try.func5, Try.ntmps5
  go_wp2_with fail
  refine (known_any _).mono ?_
  rintro e w1 ⟨rfl, hB1⟩
  have HB1 : Hid (Below w.heap.size w w1) := hB1
  clear hB1
  go_wp2_with fail
  go_loopw [3] (fun i wr => ∃ k : Nat, k ≤ ss.length ∧ i = .int .i64 k ∧ Below w.heap.size w wr) (fun i _ => ss.length - (intOf i).toNat)
  case atStart => exact ⟨0, Nat.zero_le _, rfl, HB1.out⟩
  case round =>
    obtain ⟨k, hk, rfl, hB⟩ := hrel
    have HB : Hid (Below w.heap.size w wr) := hB
    clear hB
    by_cases hlt : k < ss.length
    · obtain ⟨x, hx⟩ : ∃ x, ss[k]? = some x := ⟨_, List.getElem?_eq_getElem hlt⟩
      have hxs : x.size ≤ 140737488351232 := HS.out x (List.mem_of_getElem? hx)
      obtain ⟨g, o, rfl, hg, hc⟩ := (HI.out.below HB.out) k x hx
      clear hx
      have HX : Hid (x.size ≤ 4611686018427387000) := by show _ ≤ _; omega
      clear hxs
      generalize HY : kp (tx x) = y
      generalize HZ : isName (tx x) = z
      have c1 : Hid (∀ w, Calls Try.prog 16 #[.string x] w fun e w' => e = .returned (.bool y) ∧ w' = w) := fun w => by rw [← HY]; exact is_any x w
      have c2 : Hid (∀ w, Calls Try.prog 17 #[.string x] w fun e w' => e = .returned (.bool y) ∧ w' = w) := fun w => by rw [← HY]; exact refIs_any x w HX.out
      have c3 : Hid (∀ w, Calls Try.prog 18 #[.string x] w fun e w' => e = .returned (.bool z) ∧ Below w.heap.size w w') := fun w => by rw [← HZ]; exact isName_any x w
      have c4 : Hid (∀ w, Calls Try.prog 19 #[.string x] w fun e w' => e = .returned (.bool z) ∧ w' = w) := fun w => by rw [← HZ]; exact refIsName_any x w HX.out
      clear HY HZ
      have hyy : (y != y) = false := by simp
      have hzz : (z != z) = false := by simp
      have hne : Nonempty (Kin wr) := Kin.there wr
      have hcy : ∀ y : Kin wr, y.u.cell? ⟨g, o + k, none⟩ = some (.string x) := fun y => y.cell hg hc
      go_wp2_with fail
      refine wp_region_kin (by kernel_rfl) (by kernel_rfl) ?_
      repeat (quiet_step ((first | (go_at_call 16; exact kin_same (c1.out _)) | (go_at_call 17; exact kin_same (c2.out _)) | (go_at_call 19; exact kin_same (c4.out _)) | (go_at_call 18; exact kin_of (c3.out _)))))
      refine wpQuiet_nil ?_
      rintro _ ⟨q, rfl⟩
      have HB2 : Hid (Below w.heap.size w q.u) := HB.out.trans (q.ok.mono HB.out.size)
      generalize q.u = wq at *
      go_wp2_with fail
      go_roundw
      case rel => exact ⟨k + 1, by omega, by go_num, HB2.out⟩
      case measure => simp [intOf]; omega
    · have hd : decide ((k : Int) < (ss.length : Int)) = false := by simp; omega
      go_wp2
      go_ret
      exact ⟨rfl, HB.out⟩
end Go.Proofs.Ytflcplnmeimbcaa.lexWords
