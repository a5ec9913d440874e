import Derived.Test.YtkkplmkpemajfabDoorTold
import Derived.LaidEql
namespace Go.Proofs.YtkkplmkpemajfabDoor.Sp
open Go.RowKit

/-- two errors that are numbers of one type, held against each other -/
theorem eql_errno (a b : Int) (w : World) : (binOp .eql 31 (.iface 22 (.int .i64 a)) (.iface 22 (.int .i64 b))).run Tryd.prog w = .ok (.bool (a == b)) w := by
  obtain ⟨i, hi, hc⟩ : ∃ i, Tryd.prog.info? 22 = some i ∧ i.comparable = true := by
    have h : (Tryd.prog.info? 22).map (·.comparable) = some true := by kernel_rfl
    obtain ⟨i, h1, h2⟩ := Option.map_eq_some_iff.1 h
    exact ⟨i, h1, h2⟩
  have h : ∀ d : Nat, (Op.equalIn (d + 2) 31 (.iface 22 (.int .i64 a)) (.iface 22 (.int .i64 b))).run Tryd.prog w = .ok (a == b) w := fun d => by
    simp [Op.equalIn, run_underlying Tryd.underlying31, run_underlying Tryd.underlying22, typeInfo, hi, hc]
  simp only [binOp]
  simp [Op.equal, Op.maxDepth, h 9998]

theorem unwrap_any (q : Nat) (e : Int) (w : World) (h : w.cell? ⟨q, 0, none⟩ = some (.int .i64 e)) :
    Calls Tryd.prog 8 #[.pointer (some ⟨q, 0, none⟩)] w fun x w' => x = .returned (.iface 22 (.int .i64 e)) ∧ w' = w := by
  go_enter Tryd.func8, Tryd.ntmps8
  go_wp2
  go_ret
  exact ⟨rfl, rfl⟩
end Go.Proofs.YtkkplmkpemajfabDoor.Sp
namespace Go.Proofs.YtkkplmkpemajfabDoor.spanFree
open Go.RowKit Go.Proofs.YtkkplmkpemajfabDoor.Sp

set_option maxHeartbeats 3200000 in
set_option maxRecDepth 100000 in
theorem walk (e a line col : Int) (w : World) (ht : Tab w) (l0 : -9223372036854775808 ≤ line) (l1 : line ≤ 9223372036854775807) (c0 : -9223372036854775808 ≤ col) (c1 : col ≤ 9223372036854775807) :
    Calls Tryd.prog 3 #[.agg #[.int .i64 e, .int .i64 a], .int .i64 line, .int .i64 col] w fun x w' => x = .returned (.bool true) ∧ Below w.heap.size w w' := by
  have B0 : Hid (-9223372036854775808 ≤ line ∧ line ≤ 9223372036854775807 ∧ -9223372036854775808 ≤ col ∧ col ≤ 9223372036854775807) := ⟨l0, l1, c0, c1⟩
  have he := eql_errno e e
  obtain ⟨W0, hW0⟩ : ∃ W0, W0 = (w.alloc (.cells #[.int .i64 e, .int .i64 a] 24)).alloc (.cells #[.int .i64 e, .int .i64 a, .int .i64 line, .int .i64 col] 27) := ⟨_, rfl⟩
  have hX : W0.heap[w.heap.size + 1]? = some (.cells #[.int .i64 e, .int .i64 a, .int .i64 line, .int .i64 col] 27) := by
    rw [hW0]
    have := heap_alloc_new (w.alloc (.cells #[.int .i64 e, .int .i64 a] 24)) (.cells #[.int .i64 e, .int .i64 a, .int .i64 line, .int .i64 col] 27)
    simpa using this
  have k1 : W0.cell? ⟨w.heap.size, 0, none⟩ = some (.int .i64 e) := by rw [hW0]; simp
  have k2 : W0.cell? ⟨w.heap.size + 1, 0, none⟩ = some (.int .i64 e) := by rw [Lib.cell_of_heap hX]; rfl
  have hz : W0.heap.size = w.heap.size + 2 := by rw [hW0]; simp
  have hB0 : Below w.heap.size w W0 := by rw [hW0]; exact ((Below.refl _ w).alloc (Nat.le_refl _) _).alloc (by simp) _
  have HX : Hid (W0.heap[w.heap.size + 1]? = some (.cells #[.int .i64 e, .int .i64 a, .int .i64 line, .int .i64 col] 27) ∧ Below w.heap.size w W0 ∧ Tab W0) := ⟨hX, hB0, tab_below ht hB0⟩
  have z1 : w.heap.size < W0.heap.size := by omega
  have z2 : w.heap.size + 1 < W0.heap.size := by omega
  have HW : Hid (W0 = (w.alloc (.cells #[.int .i64 e, .int .i64 a] 24)).alloc (.cells #[.int .i64 e, .int .i64 a, .int .i64 line, .int .i64 col] 27)) := hW0
  clear l0 l1 c0 c1 ht hX hB0 hz hW0 k1
  go_enter Tryd.func3, Tryd.ntmps3
  go_wp2
  rw [← HW.out]
  have k1 : W0.cell? ⟨w.heap.size, 0, none⟩ = some (.int .i64 e) := by rw [HW.out]; simp
  go_region_with (first | (go_at_call 5; refine (terr_any (w.heap.size + 1) e a line col W0.drew HX.out.1 (tab_below HX.out.2.2 (Below.refl _ _).drew) B0.out.1 B0.out.2.1 B0.out.2.2.1 B0.out.2.2.2).mono ?_; rintro x w1 ⟨rfl, hB1⟩; have k3 : w1.cell? ⟨w.heap.size, 0, none⟩ = some (.int .i64 e) := (hB1.cell (p := ⟨w.heap.size, 0, none⟩) z1).trans k1; have k4 : w1.cell? ⟨w.heap.size + 1, 0, none⟩ = some (.int .i64 e) := (hB1.cell (p := ⟨w.heap.size + 1, 0, none⟩) z2).trans k2) | (go_at_call 7; refine (word_any e _).mono ?_; rintro x w2 ⟨rfl, hw2⟩; rw [hw2]; clear hw2 w2) | (go_at_call 6; refine (told_any (word e) line col _ (word_len e) B0.out.1 B0.out.2.1 B0.out.2.2.1 B0.out.2.2.2).mono ?_; rintro x w3 ⟨rfl, hB3⟩; have k5 : w3.cell? ⟨w.heap.size, 0, none⟩ = some (.int .i64 e) := (hB3.cell (p := ⟨w.heap.size, 0, none⟩) (Nat.lt_of_lt_of_le z1 hB1.size)).trans k3; have k6 : w3.cell? ⟨w.heap.size + 1, 0, none⟩ = some (.int .i64 e) := (hB3.cell (p := ⟨w.heap.size + 1, 0, none⟩) (Nat.lt_of_lt_of_le z2 hB1.size)).trans k4) | (go_at_call 8; refine (unwrap_any _ e _ k6).mono ?_; rintro x w4 ⟨rfl, hw4⟩; rw [hw4]; clear hw4 w4) | (go_at_call 9; refine (head_any _).mono ?_; rintro x w5 ⟨rfl, hB5⟩))
  all_goals (go_wp2; go_ret; have A := HX.out.2.1.drew.trans (hB1.mono HX.out.2.1.size); have B := A.trans (hB3.mono A.size); exact ⟨rfl, B.trans (hB5.mono B.size)⟩)
end Go.Proofs.YtkkplmkpemajfabDoor.spanFree
