import Derived.Test.YtcicifcnffacpaaDoorCdKind
import Derived.Laws.Tables
namespace Go.Proofs.YtcicifcnffacpaaDoor.Cd
open Go.RowKit Go.Proofs.YtcicifcnffacpaaDoor.Nm

set_option maxHeartbeats 3200000 in
set_option maxRecDepth 100000 in
/-- operandsOf -/
theorem cops (o a b c d : Int) (w : World) : Calls Tryd.prog 59 #[.agg #[.int .i64 o, .int .i64 a, .int .i64 b, .int .i64 c, .int .i64 d]] w fun e w' => e = .returned (.agg #[.int .i64 a, .int .i64 b, .int .i64 c, .int .i64 d]) ∧ Below w.heap.size w w' := by
  go_enter Tryd.func59, Tryd.ntmps59
  go_wp2_with fail
  refine bodyPost_ret ?_ rfl ⟨rfl, ((Below.refl _ w).alloc (Nat.le_refl _) _).alloc (by simp) _⟩
  simp [results, Tryd.results59, go_sem]
/-- how an operand of each kind is read, written, told -/
def wayL : List Value := [.func (.func 61) #[] #[], .func (.func 62) #[] #[], .func (.func 63) #[] #[], .func (.func 64) #[] #[], .func (.func 65) #[] #[], .func (.func 66) #[] #[], .func (.func 64) #[] #[], .func (.func 65) #[] #[], .func (.func 67) #[] #[], .func (.func 64) #[] #[], .func (.func 65) #[] #[], .func (.func 68) #[] #[], .func (.func 64) #[] #[], .func (.func 65) #[] #[], .func (.func 69) #[] #[], .func (.func 70) #[] #[], .func (.func 71) #[] #[], .func (.func 72) #[] #[], .func (.func 64) #[] #[], .func (.func 65) #[] #[], .func (.func 73) #[] #[], .func (.func 64) #[] #[], .func (.func 65) #[] #[], .func (.func 72) #[] #[], .func (.func 64) #[] #[], .func (.func 65) #[] #[], .func (.func 74) #[] #[]]
theorem below_setRow {n : Nat} {w w' : World} {g : Nat} {cs : Array Value} (h : Below n w w') (hg : n ≤ g) : Below n w (w'.setRow g cs) := by
  refine ⟨h.os, h.tape, h.output, by simpa using h.size, fun k hk => ?_⟩
  have e : (w'.setRow g cs).heap[k]? = w'.heap[k]? := by
    unfold World.setRow
    simp only [Array.getElem?_modify]
    rw [if_neg (by omega)]
  exact e.trans (h.block k hk)
set_option maxHeartbeats 6400000 in
set_option maxRecDepth 100000 in
/-- ways -/
theorem cways (w : World) : Calls Tryd.prog 30 #[] w fun e w' => e = .returned (.agg wayL.toArray) ∧ Below w.heap.size w w' := by
  go_enter Tryd.func30, Tryd.ntmps30
  go_wp2_with (refine wpList_store_row rfl 64 _ _ rfl w.heap.size wayL.toArray rfl rfl 64 _ (heap_alloc_new w _) (by kernel_rfl) rfl (by kernel_rfl) ?_)
  refine bodyPost_ret (results_cell_row (P := Tryd.prog) (fn := Tryd.f30) Tryd.results30 _ _ w.heap.size 64 wayL.toArray (0, 0) _ rfl (setRow_heap _ _ _ _ _ _ (heap_alloc_new w _)) Tryd.underlying64 rfl (by kernel_rfl)) rfl ?_
  exact ⟨rfl, below_setRow ((Below.refl _ w).alloc (Nat.le_refl _) _) (Nat.le_refl _)⟩
end Go.Proofs.YtcicifcnffacpaaDoor.Cd
