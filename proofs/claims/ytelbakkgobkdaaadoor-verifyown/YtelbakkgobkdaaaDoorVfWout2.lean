import Derived.Test.YtelbakkgobkdaaaDoorVfFit
namespace Go.Proofs.YtelbakkgobkdaaaDoor.Vf
open Go.RowKit Go.Proofs.YtelbakkgobkdaaaDoor.Nm

set_option maxHeartbeats 12800000 in
set_option maxRecDepth 100000 in
theorem without_2 (l : List Bool) (b c : Bool) (hh : l.length < 255) (w : World) :
    Calls Tryd.prog 101 #[.agg (opV (l ++ [b] ++ [c])).toArray, .int .i64 2] w fun e w' => e = .returned (.agg (opV l).toArray) ∧ Below w.heap.size w w' := by
  obtain ⟨r, hr, hrm, hw⟩ := pop_words l b (by omega)
  obtain ⟨s, hs, hsm, hv⟩ := pop_words (l ++ [b]) c (by rw [List.length_append, List.length_singleton]; omega)
  have hm1 : (l.length : Int) < 255 := by omega
  unfold opV
  have e0 : (l ++ [b] ++ [c]).length = l.length + 1 + 1 := by simp
  rw [List.length_append, List.length_singleton] at hsm hv
  rw [e0]
  obtain ⟨m, hm⟩ : ∃ m, m = l.length + 1 := ⟨_, rfl⟩
  have hm2 : (m : Int) < 256 := by omega
  have hA : (m : Int) - 1 = (l.length : Int) := by omega
  rw [← hm] at hsm hv ⊢
  rcases hw with ⟨hq, ho, e1, e2, e3⟩ | ⟨hq, ho, e1, e2, e3⟩ | ⟨hq, ho, e1, e2, e3⟩ | ⟨hq, ho, e1, e2, e3⟩
  all_goals
    rcases hv with ⟨kq, ko, f1, f2, f3⟩ | ⟨kq, ko, f1, f2, f3⟩ | ⟨kq, ko, f1, f2, f3⟩ | ⟨kq, ko, f1, f2, f3⟩
    all_goals
      first
        | (exfalso; clear ho ko e1 e2 e3 f1 f2 f3; omega)
        | (rw [f1, f2, f3]
           simp only [e1, e2, e3] at ko ⊢
           clear e1 e2 e3 f1 f2 f3 e0 hm
           generalize hz0 : wd (l ++ [b] ++ [c]) 0 = z0 at *
           generalize hz1 : wd (l ++ [b] ++ [c]) 1 = z1 at *
           generalize hz2 : wd (l ++ [b] ++ [c]) 2 = z2 at *
           generalize hz3 : wd (l ++ [b] ++ [c]) 3 = z3 at *
           generalize hu0 : wd (l ++ [b]) 0 = x0 at *
           generalize hu1 : wd (l ++ [b]) 1 = x1 at *
           generalize hu2 : wd (l ++ [b]) 2 = x2 at *
           generalize hu3 : wd (l ++ [b]) 3 = x3 at *
           generalize hv0 : wd l 0 = y0 at *
           generalize hv1 : wd l 1 = y1 at *
           generalize hv2 : wd l 2 = y2 at *
           generalize hv3 : wd l 3 = y3 at *
           clear hu0 hu1 hu2 hu3 hv0 hv1 hv2 hv3 hz0 hz1 hz2 hz3 hh
           generalize l.length = h at *
           go_enter Tryd.func101, Tryd.ntmps101
           go_wp2_with fail
           refine wp_loop_rounds 3 ?_
           rw [rounds_succ]
           go_wp2_with fail
           go_region
           go_wp2_with fail
           rw [rounds_succ]
           go_wp2_with fail
           go_region
           go_wp2_with fail
           rw [rounds_succ]
           go_wp2_with fail
           refine bodyPost_ret ?_ rfl ⟨rfl, ((((Below.refl _ w).alloc (Nat.le_refl _) _).alloc (by simp) _).drew).drew⟩
           simp [results, Tryd.results101, go_sem])
theorem snoc_of {ty : List Bool} (h : 0 < ty.length) : ∃ l b, ty = l ++ [b] ∧ l = ty.take (ty.length - 1) := by
  refine ⟨ty.take (ty.length - 1), ty[ty.length - 1], ?_, rfl⟩
  have e := List.take_add_one (l := ty) (i := ty.length - 1)
  rw [show ty.length - 1 + 1 = ty.length by omega, List.take_length, List.getElem?_eq_getElem (by omega)] at e
  exact e
theorem without_any (ty : List Bool) (n : Nat) (hn : n ≤ 2) (hl : n ≤ ty.length) (hh : ty.length ≤ 256) (w : World) :
    Calls Tryd.prog 101 #[.agg (opV ty).toArray, .int .i64 (n : Int)] w fun e w' => e = .returned (.agg (opV (ty.take (ty.length - n))).toArray) ∧ Below w.heap.size w w' := by
  have h012 : n = 0 ∨ n = 1 ∨ n = 2 := by omega
  rcases h012 with rfl | rfl | rfl
  · rw [Nat.sub_zero, List.take_length]
    exact without_0 ty w
  · obtain ⟨l, b, e, el⟩ := snoc_of (ty := ty) (by omega)
    have hb : l.length + 1 = ty.length := by rw [e]; simp
    rw [← el]
    rw [e]
    exact without_1 l b (by omega) w
  · obtain ⟨l, b, e, el⟩ := snoc_of (ty := ty) (by omega)
    have hb : l.length + 1 = ty.length := by rw [e]; simp
    obtain ⟨l2, b2, e2, el2⟩ := snoc_of (ty := l) (by omega)
    have hb2 : l2.length + 1 = l.length := by rw [e2]; simp
    have h1 : ty.take (ty.length - 2) = l2 := by
      rw [el2, el, List.take_take]
      congr 1
      rw [List.length_take]
      omega
    rw [h1, e, e2]
    exact without_2 l2 b2 b (by omega) w
end Go.Proofs.YtelbakkgobkdaaaDoor.Vf
