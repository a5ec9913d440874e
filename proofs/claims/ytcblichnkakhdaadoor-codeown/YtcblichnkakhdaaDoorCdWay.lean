import Derived.Test.YtcblichnkakhdaaDoorCdKind
import Derived.Laws.Tables
namespace Go.Proofs.YtcblichnkakhdaaDoor.Cd
open Go.RowKit Go.Proofs.YtcblichnkakhdaaDoor.Nm

set_option maxHeartbeats 3200000 in
set_option maxRecDepth 100000 in
/-- operandsOf -/
theorem cops (o a b c d : Int) (w : World) : Calls Tryd.prog 62 #[.agg #[.int .i64 o, .int .i64 a, .int .i64 b, .int .i64 c, .int .i64 d]] w fun e w' => e = .returned (.agg #[.int .i64 a, .int .i64 b, .int .i64 c, .int .i64 d]) ∧ Below w.heap.size w w' := by
  go_enter Tryd.func62, Tryd.ntmps62
  go_wp2_with fail
  refine bodyPost_ret ?_ rfl ⟨rfl, ((Below.refl _ w).alloc (Nat.le_refl _) _).alloc (by simp) _⟩
  simp [results, Tryd.results62, go_sem]
/-- how an operand of each kind is read, written, told -/
def wayL : List Value := [.func (.func 28) #[] #[], .func (.func 29) #[] #[], .func (.func 30) #[] #[], .func (.func 31) #[] #[], .func (.func 32) #[] #[], .func (.func 33) #[] #[], .func (.func 31) #[] #[], .func (.func 32) #[] #[], .func (.func 34) #[] #[], .func (.func 31) #[] #[], .func (.func 32) #[] #[], .func (.func 35) #[] #[], .func (.func 31) #[] #[], .func (.func 32) #[] #[], .func (.func 36) #[] #[], .func (.func 37) #[] #[], .func (.func 38) #[] #[], .func (.func 39) #[] #[], .func (.func 31) #[] #[], .func (.func 32) #[] #[], .func (.func 40) #[] #[], .func (.func 31) #[] #[], .func (.func 32) #[] #[], .func (.func 39) #[] #[], .func (.func 31) #[] #[], .func (.func 32) #[] #[], .func (.func 41) #[] #[]]
theorem below_setRow {n : Nat} {w w' : World} {g : Nat} {cs : Array Value} (h : Below n w w') (hg : n ≤ g) : Below n w (w'.setRow g cs) := by
  refine ⟨h.os, h.tape, h.output, by simpa using h.size, fun k hk => ?_⟩
  have e : (w'.setRow g cs).heap[k]? = w'.heap[k]? := by
    unfold World.setRow
    simp only [Array.getElem?_modify]
    rw [if_neg (by omega)]
  exact e.trans (h.block k hk)
set_option maxHeartbeats 6400000 in
set_option maxRecDepth 100000 in
/-- ways -/
theorem cways (w : World) : Calls Tryd.prog 14 #[] w fun e w' => e = .returned (.agg wayL.toArray) ∧ Below w.heap.size w w' := by
  go_enter Tryd.func14, Tryd.ntmps14
  go_wp2_with (refine wpList_store_row rfl 51 _ _ rfl w.heap.size wayL.toArray rfl rfl 51 _ (heap_alloc_new w _) (by kernel_rfl) rfl (by kernel_rfl) ?_)
  refine bodyPost_ret (results_cell_row (P := Tryd.prog) (fn := Tryd.f14) Tryd.results14 _ _ w.heap.size 51 wayL.toArray (0, 0) _ rfl (setRow_heap _ _ _ _ _ _ (heap_alloc_new w _)) Tryd.underlying51 rfl (by kernel_rfl)) rfl ?_
  exact ⟨rfl, below_setRow ((Below.refl _ w).alloc (Nat.le_refl _) _) (Nat.le_refl _)⟩
end Go.Proofs.YtcblichnkakhdaaDoor.Cd
