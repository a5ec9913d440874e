import Derived.Test.YtcblichnkakhdaaDoorVfPure
import Derived.Laws.Tables
namespace Go.Proofs.YtcblichnkakhdaaDoor.Vf
open Go.RowKit

set_option maxHeartbeats 3200000 in
set_option maxRecDepth 100000 in
/-- operandsOf -/
theorem cops (o a b c d : Int) (w : World) : Calls Tryd.prog 62 #[.agg #[.int .i64 o, .int .i64 a, .int .i64 b, .int .i64 c, .int .i64 d]] w fun e w' => e = .returned (.agg #[.int .i64 a, .int .i64 b, .int .i64 c, .int .i64 d]) ∧ Below w.heap.size w w' := by
  go_enter Tryd.func62, Tryd.ntmps62
  go_wp2_with fail
  refine bodyPost_ret ?_ rfl ⟨rfl, ((Below.refl _ w).alloc (Nat.le_refl _) _).alloc (by simp) _⟩
  simp [results, Tryd.results62, go_sem]
/-- which numbers operands of each kind may be -/
def spanL (nq nv nt nc : Nat) : List Value := [.int .i64 0, .int .i64 0, .int .i64 0, .int .i64 ((nq : Int) - 1), .int .i64 0, .int .i64 ((nv : Int) - 1), .int .i64 0, .int .i64 ((nt : Int) - 1), .int .i64 0, .int .i64 1, .int .i64 (-1073741824), .int .i64 1073741824, .int .i64 0, .int .i64 1, .int .i64 0, .int .i64 4194304, .int .i64 0, .int .i64 ((nc : Int) - 1)]
set_option maxHeartbeats 6400000 in
set_option maxRecDepth 100000 in
theorem cspans {qo vo tto oo co : Option Addr} {nq qc nv vc nt tc no oc nc cc : Nat} {miss : Int} (hq : nq ≤ 9223372036854775807) (hv : nv ≤ 9223372036854775807) (ht : nt ≤ 9223372036854775807) (hc : nc ≤ 9223372036854775807) (w : World) :
    Calls Tryd.prog 47 #[.agg #[.slice qo nq qc, .slice vo nv vc, .slice tto nt tc, .slice oo no oc, .int .i64 miss, .slice co nc cc]] w fun e w' => e = .returned (.agg (spanL nq nv nt nc).toArray) ∧ Below w.heap.size w w' := by
  have hq1 : (nq : Int) ≤ 9223372036854775807 := by omega
  have hv1 : (nv : Int) ≤ 9223372036854775807 := by omega
  have ht1 : (nt : Int) ≤ 9223372036854775807 := by omega
  have hc1 : (nc : Int) ≤ 9223372036854775807 := by omega
  clear hq hv ht hc
  go_enter Tryd.func47, Tryd.ntmps47
  go_wp2_with fail
  refine bodyPost_ret (results_cell_row (P := Tryd.prog) (fn := Tryd.f47) Tryd.results47 _ _ (w.heap.size + 1) 86 (spanL nq nv nt nc).toArray (0, 0) _ rfl (by
    rw [← show (w.alloc (.cells #[.slice qo nq qc, .slice vo nv vc, .slice tto nt tc, .slice oo no oc, .int .i64 miss, .slice co nc cc] 29)).heap.size = w.heap.size + 1 by simp]
    exact heap_alloc_new _ _) Tryd.underlying86 rfl (by kernel_rfl)) rfl ?_
  exact ⟨rfl, ((Below.refl _ w).alloc (Nat.le_refl _) _).alloc (by simp) _⟩
end Go.Proofs.YtcblichnkakhdaaDoor.Vf
