import Derived.Test.YtelbakkgobkdaaaDoorVfWith
import Derived.Test.YtelbakkgobkdaaaDoorNmOwn
namespace Go.Proofs.YtelbakkgobkdaaaDoor.Vf
open Go.RowKit Go.Proofs.YtelbakkgobkdaaaDoor.Nm

set_option maxHeartbeats 6400000 in
set_option maxRecDepth 100000 in
theorem without_0 (ty : List Bool) (w : World) :
    Calls Tryd.prog 101 #[.agg (opV ty).toArray, .int .i64 0] w fun e w' => e = .returned (.agg (opV ty).toArray) ∧ Below w.heap.size w w' := by
  unfold opV
  go_enter Tryd.func101, Tryd.ntmps101
  go_wp2_with fail
  refine wp_loop_rounds 1 ?_
  rw [rounds_succ]
  go_wp2_with fail
  refine bodyPost_ret ?_ rfl ⟨rfl, ((Below.refl _ w).alloc (Nat.le_refl _) _).alloc (by simp) _⟩
  simp [results, Tryd.results101, go_sem]
/-- what becomes of the words where an operand is taken -/
theorem pop_words (l : List Bool) (b : Bool) (hh : l.length < 256) : ∃ r : Nat, r < 64 ∧ l.length % 64 = r ∧
    ((l.length / 64 = 0 ∧ bits .andNot .u64 (wd (l ++ [b]) 0 : Int) (IntKind.u64.wrap (2 ^ r)) = (wd l 0 : Int) ∧ wd (l ++ [b]) 1 = wd l 1 ∧ wd (l ++ [b]) 2 = wd l 2 ∧ wd (l ++ [b]) 3 = wd l 3) ∨
     (l.length / 64 = 1 ∧ bits .andNot .u64 (wd (l ++ [b]) 1 : Int) (IntKind.u64.wrap (2 ^ r)) = (wd l 1 : Int) ∧ wd (l ++ [b]) 0 = wd l 0 ∧ wd (l ++ [b]) 2 = wd l 2 ∧ wd (l ++ [b]) 3 = wd l 3) ∨
     (l.length / 64 = 2 ∧ bits .andNot .u64 (wd (l ++ [b]) 2 : Int) (IntKind.u64.wrap (2 ^ r)) = (wd l 2 : Int) ∧ wd (l ++ [b]) 0 = wd l 0 ∧ wd (l ++ [b]) 1 = wd l 1 ∧ wd (l ++ [b]) 3 = wd l 3) ∨
     (l.length / 64 = 3 ∧ bits .andNot .u64 (wd (l ++ [b]) 3 : Int) (IntKind.u64.wrap (2 ^ r)) = (wd l 3 : Int) ∧ wd (l ++ [b]) 0 = wd l 0 ∧ wd (l ++ [b]) 1 = wd l 1 ∧ wd (l ++ [b]) 2 = wd l 2)) := by
  refine ⟨l.length % 64, Nat.mod_lt _ (by omega), rfl, ?_⟩
  have ho := not_bits (wd_lt (l ++ [b]) _) (Nat.mod_lt l.length (by omega)) (wd_snoc_not l b)
  have hq : l.length / 64 = 0 ∨ l.length / 64 = 1 ∨ l.length / 64 = 2 ∨ l.length / 64 = 3 := by omega
  rcases hq with hq | hq | hq | hq
  · rw [hq] at ho
    exact Or.inl ⟨hq, ho, wd_snoc_ne l b 1 (by omega), wd_snoc_ne l b 2 (by omega), wd_snoc_ne l b 3 (by omega)⟩
  · rw [hq] at ho
    exact Or.inr (Or.inl ⟨hq, ho, wd_snoc_ne l b 0 (by omega), wd_snoc_ne l b 2 (by omega), wd_snoc_ne l b 3 (by omega)⟩)
  · rw [hq] at ho
    exact Or.inr (Or.inr (Or.inl ⟨hq, ho, wd_snoc_ne l b 0 (by omega), wd_snoc_ne l b 1 (by omega), wd_snoc_ne l b 3 (by omega)⟩))
  · rw [hq] at ho
    exact Or.inr (Or.inr (Or.inr ⟨hq, ho, wd_snoc_ne l b 0 (by omega), wd_snoc_ne l b 1 (by omega), wd_snoc_ne l b 2 (by omega)⟩))
set_option maxHeartbeats 6400000 in
set_option maxRecDepth 100000 in
theorem without_1 (l : List Bool) (b : Bool) (hh : l.length < 256) (w : World) :
    Calls Tryd.prog 101 #[.agg (opV (l ++ [b])).toArray, .int .i64 1] w fun e w' => e = .returned (.agg (opV l).toArray) ∧ Below w.heap.size w w' := by
  obtain ⟨r, hr, hrm, hw⟩ := pop_words l b hh
  have hm1 : (l.length : Int) < 256 := by omega
  unfold opV
  rw [List.length_append, List.length_singleton]
  rcases hw with ⟨hq, ho, e1, e2, e3⟩ | ⟨hq, ho, e1, e2, e3⟩ | ⟨hq, ho, e1, e2, e3⟩ | ⟨hq, ho, e1, e2, e3⟩
  all_goals
    rw [e1, e2, e3]
    clear e1 e2 e3
    have HO : Hid _ := ho
    generalize hu0 : wd (l ++ [b]) 0 = x0 at *
    generalize hu1 : wd (l ++ [b]) 1 = x1 at *
    generalize hu2 : wd (l ++ [b]) 2 = x2 at *
    generalize hu3 : wd (l ++ [b]) 3 = x3 at *
    generalize hv0 : wd l 0 = y0 at *
    generalize hv1 : wd l 1 = y1 at *
    generalize hv2 : wd l 2 = y2 at *
    generalize hv3 : wd l 3 = y3 at *
    clear hu0 hu1 hu2 hu3 hv0 hv1 hv2 hv3 hh
    generalize l.length = h at *
    go_enter Tryd.func101, Tryd.ntmps101
    go_wp2_with fail
    refine wp_loop_rounds 2 ?_
    rw [rounds_succ]
    go_wp2_with fail
    go_region
    go_wp2_with fail
    rw [rounds_succ]
    go_wp2_with fail
    refine bodyPost_ret ?_ rfl ⟨rfl, (((Below.refl _ w).alloc (Nat.le_refl _) _).alloc (by simp) _).drew⟩
    simp [results, Tryd.results101, go_sem]
end Go.Proofs.YtelbakkgobkdaaaDoor.Vf
