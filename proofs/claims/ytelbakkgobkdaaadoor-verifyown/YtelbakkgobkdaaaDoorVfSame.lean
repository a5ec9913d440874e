import Derived.Test.YtelbakkgobkdaaaDoorVfWk
import Derived.DeepKeys
namespace Go.Proofs.YtelbakkgobkdaaaDoor.Vf
open Go.RowKit Go.Proofs.YtelbakkgobkdaaaDoor.Nm

theorem keyU (d n : Nat) (h : n < 18446744073709551616) : Tryd.prog.keyLits (d + 1) 65 [.int .u64 (n : Int)] = some [.int .u64 (n : Int)] := by
  have hw : (Lit.int .u64 (n : Int)).wf = true := by
    have e0 : IntKind.u64.min = 0 := by decide
    have e1 : IntKind.u64.max = 18446744073709551615 := by decide
    show (decide (IntKind.u64.min ≤ (n : Int)) && decide ((n : Int) ≤ IntKind.u64.max)) = true
    rw [e0, e1, decide_eq_true (by omega), decide_eq_true (by omega)]
    rfl
  simp [Program.keyLits, Tryd.underlying65, hw]
theorem cellsA : Tryd.prog.cellsOf 66 = 4 := by kernel_rfl
theorem cellsU : Tryd.prog.cellsOf 65 = 1 := by kernel_rfl
theorem key4 (x0 x1 x2 x3 : Nat) (h0 : x0 < 18446744073709551616) (h1 : x1 < 18446744073709551616) (h2 : x2 < 18446744073709551616) (h3 : x3 < 18446744073709551616) : Tryd.prog.keyLits 5 66 [.int .u64 (x0 : Int), .int .u64 (x1 : Int), .int .u64 (x2 : Int), .int .u64 (x3 : Int)] = some [.int .u64 (x0 : Int), .int .u64 (x1 : Int), .int .u64 (x2 : Int), .int .u64 (x3 : Int)] := by
  unfold Program.keyLits
  rw [Tryd.underlying66]
  simp only [cellsA, cellsU]
  simp [List.range_succ, keyU 3 _ h0, keyU 3 _ h1, keyU 3 _ h2, keyU 3 _ h3]
/-- two rows of four words are compared -/
theorem eq4 (x0 x1 x2 x3 y0 y1 y2 y3 : Nat) (h0 : x0 < 18446744073709551616) (h1 : x1 < 18446744073709551616) (h2 : x2 < 18446744073709551616) (h3 : x3 < 18446744073709551616) (g0 : y0 < 18446744073709551616) (g1 : y1 < 18446744073709551616) (g2 : y2 < 18446744073709551616) (g3 : y3 < 18446744073709551616) (u : World) : ∃ r : Bool, Sem.run Tryd.prog (Op.equalIn 10000 66 (.agg #[.int .u64 (x0 : Int), .int .u64 (x1 : Int), .int .u64 (x2 : Int), .int .u64 (x3 : Int)]) (.agg #[.int .u64 (y0 : Int), .int .u64 (y1 : Int), .int .u64 (y2 : Int), .int .u64 (y3 : Int)])) u = .ok r u ∧ (r = true ↔ x0 = y0 ∧ x1 = y1 ∧ x2 = y2 ∧ x3 = y3) := by
  obtain ⟨r, e1, e2⟩ := run_equalIn_deep (P := Tryd.prog) 9995 5 66 (by kernel_rfl) u 5 5 (.agg #[.int .u64 (x0 : Int), .int .u64 (x1 : Int), .int .u64 (x2 : Int), .int .u64 (x3 : Int)]) (.agg #[.int .u64 (y0 : Int), .int .u64 (y1 : Int), .int .u64 (y2 : Int), .int .u64 (y3 : Int)]) _ _ (by kernel_rfl) (by kernel_rfl) (key4 x0 x1 x2 x3 h0 h1 h2 h3) (key4 y0 y1 y2 y3 g0 g1 g2 g3)
  refine ⟨r, e1, e2.trans ?_⟩
  simp
  omega
set_option maxHeartbeats 3200000 in
set_option maxRecDepth 100000 in
/-- alike -/
theorem alike_any (a b : List Bool) (hb : b.length ≤ 256) (w : World) :
    Calls Tryd.prog 70 #[.agg (opV a).toArray, .agg (opV b).toArray] w fun e w' => e = .returned (.bool (decide (a = b))) ∧ Below w.heap.size w w' := by
  by_cases hl : a.length = b.length
  · have hq := fun u => eq4 (wd a 0) (wd a 1) (wd a 2) (wd a 3) (wd b 0) (wd b 1) (wd b 2) (wd b 3) (wd_lt _ _) (wd_lt _ _) (wd_lt _ _) (wd_lt _ _) (wd_lt _ _) (wd_lt _ _) (wd_lt _ _) (wd_lt _ _) u
    have hd : (decide (a = b)) = true ↔ (wd a 0 = wd b 0 ∧ wd a 1 = wd b 1 ∧ wd a 2 = wd b 2 ∧ wd a 3 = wd b 3) := by
      rw [decide_eq_true_iff]
      exact ⟨fun e => by subst e; exact ⟨rfl, rfl, rfl, rfl⟩, fun ⟨h0, h1, h2, h3⟩ => wd_inj hl (by omega) h0 h1 h2 h3⟩
    have hq2 : ∀ u, Sem.run Tryd.prog (Op.equalIn 10000 66 (.agg #[.int .u64 (wd a 0 : Int), .int .u64 (wd a 1 : Int), .int .u64 (wd a 2 : Int), .int .u64 (wd a 3 : Int)]) (.agg #[.int .u64 (wd b 0 : Int), .int .u64 (wd b 1 : Int), .int .u64 (wd b 2 : Int), .int .u64 (wd b 3 : Int)])) u = .ok (decide (a = b)) u := fun u => by
      obtain ⟨r, h1, h2⟩ := hq u
      rw [h1, Bool.eq_iff_iff.2 (h2.trans hd.symm)]
    unfold opV
    rw [hl]
    generalize decide (a = b) = r at *
    clear hq hd hl
    go_enter Tryd.func70, Tryd.ntmps70
    go_wp2_with fail
    go_ret
    exact ⟨rfl, ((Below.refl _ w).alloc (Nat.le_refl _) _).alloc (by simp) _⟩
  · have hab : ¬ a = b := fun e => hl (by rw [e])
    rw [decide_eq_false hab]
    have hl' : ¬ (a.length : Int) = (b.length : Int) := by omega
    unfold opV
    clear hab
    go_enter Tryd.func70, Tryd.ntmps70
    go_wp2_with fail
    go_ret
    exact ⟨by simp, ((Below.refl _ w).alloc (Nat.le_refl _) _).alloc (by simp) _⟩
def sdV (s : Sd) : Array Value := #[.int .i64 (s.ty.length : Int), .int .u64 (wd s.ty 0 : Int), .int .u64 (wd s.ty 1 : Int), .int .u64 (wd s.ty 2 : Int), .int .u64 (wd s.ty 3 : Int), .bool true, .int .i64 (s.hand : Int), .int .i64 s.turn]
set_option maxHeartbeats 3200000 in
set_option maxRecDepth 100000 in
/-- within -/
theorem within_any (s : Sd) (n : Int) (w : World) :
    Calls Tryd.prog 69 #[.agg (sdV s), .int .i64 n] w fun e w' => e = .returned (.agg (sdV { s with turn := n })) ∧ Below w.heap.size w w' := by
  obtain ⟨ty, hd, tn⟩ := s
  unfold sdV
  dsimp only
  generalize (ty.length : Int) = z0
  generalize (wd ty 0 : Int) = z1
  generalize (wd ty 1 : Int) = z2
  generalize (wd ty 2 : Int) = z3
  generalize (wd ty 3 : Int) = z4
  go_enter Tryd.func69, Tryd.ntmps69
  go_wp2_with fail
  refine bodyPost_ret ?_ rfl ⟨rfl, ((Below.refl _ w).alloc (Nat.le_refl _) _).alloc (by simp) _⟩
  simp [results, Tryd.results69, go_sem]
set_option maxHeartbeats 3200000 in
set_option maxRecDepth 100000 in
/-- fresh -/
theorem fresh_any (w : World) : Calls Tryd.prog 41 #[] w fun e w' => e = .returned (.agg (sdV freshS)) ∧ Below w.heap.size w w' := by
  go_enter Tryd.func41, Tryd.ntmps41
  go_wp2_with fail
  refine bodyPost_ret ?_ rfl ⟨rfl, (Below.refl _ w).alloc (Nat.le_refl _) _⟩
  simp [results, Tryd.results41, go_sem, sdV, freshS, wd, wd0]
end Go.Proofs.YtelbakkgobkdaaaDoor.Vf
