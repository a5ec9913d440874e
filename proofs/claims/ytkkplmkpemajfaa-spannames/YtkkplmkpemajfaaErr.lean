import Derived.Test.YtkkplmkpemajfaaHead
namespace Go.Proofs.Ytkkplmkpemajfaa.Sp
open Go.RowKit

set_option maxHeartbeats 800000 in
theorem error_some (b : Nat) (s : ByteArray) (e a : Int) (w : World) (h : IsText w b s) (he : ¬ e = 0) :
    Calls Try.prog 9 #[.pointer (some ⟨b, 0, none⟩), .agg #[.int .i64 e, .int .i64 a]] w fun x w' => ∃ q, x = .returned (.iface 51 (.pointer (some ⟨q, 0, none⟩))) ∧
      w.heap.size ≤ q ∧ w'.heap[q]? = some (.cells #[.int .i64 e, .int .i64 a, .int .i64 (SL s a), .int .i64 (SC s a)] 53) ∧ Below w.heap.size w w' := by
  have hq : (e == 0) = false := by simp [he]
  have hb := h.hb
  clear he
  go_enter Try.func9, Try.ntmps9
  go_wp2_with fail
  refine (spot_any b s a _ (h.below ((Below.refl _ w).alloc (Nat.le_refl _) _))).mono ?_
  rintro x w1 ⟨rfl, hB⟩
  have hz : w.heap.size < w1.heap.size := by have := hB.size; simp at this; omega
  have c0 : w1.cell? ⟨w.heap.size, 0, none⟩ = some (.int .i64 e) := (hB.cell (p := ⟨w.heap.size, 0, none⟩) (by simp)).trans (by simp)
  have c1 : w1.cell? ⟨w.heap.size, 1, none⟩ = some (.int .i64 a) := (hB.cell (p := ⟨w.heap.size, 1, none⟩) (by simp)).trans (by simp)
  have HB : Hid (Below w.heap.size w w1) := ((Below.refl _ w).alloc (Nat.le_refl _) _).trans (hB.mono (by simp))
  clear hB
  go_wp2
  go_ret
  exact ⟨w1.heap.size, rfl, by omega, heap_alloc_new _ _, HB.out.alloc (by omega) _⟩

theorem error_none (b : Nat) (a : Int) (w : World) :
    Calls Try.prog 9 #[.pointer (some ⟨b, 0, none⟩), .agg #[.int .i64 0, .int .i64 a]] w fun x w' => x = .returned .nilIface ∧ Below w.heap.size w w' := by
  go_enter Try.func9, Try.ntmps9
  go_wp2
  go_ret
  exact ⟨rfl, (Below.refl _ w).alloc (Nat.le_refl _) _⟩
end Go.Proofs.Ytkkplmkpemajfaa.Sp
