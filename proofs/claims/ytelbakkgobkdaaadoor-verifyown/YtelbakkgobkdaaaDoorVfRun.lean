import Derived.Test.YtelbakkgobkdaaaDoorVfJudge
namespace Go.Proofs.YtelbakkgobkdaaaDoor.Vf
open Go.RowKit Go.Proofs.YtelbakkgobkdaaaDoor.Nm
/-- what Run tells -/
structure RuP (w : World) (p : Pg) (r : Ending) (w' : World) : Prop where
  bel : Below w.heap.size w w'
  err : ∀ e n, judge p = .error (e, n) → r = .returned (.tuple #[.agg #[.slice none 0 0, .int .i64 0], .agg #[.int .i64 (e : Int), .int .i64 n]])
  ok : ∀ g, judge p = .ok g → ∃ b, r = .returned (.tuple #[.agg #[.slice (some ⟨b, 0, none⟩) p.on.length p.on.length, .int .i64 (cst p p.miss)], .agg #[.int .i64 0, .int .i64 0]]) ∧ w.heap.size ≤ b ∧ Rf w' b (iC (p.on.map (cst p)))
set_option maxHeartbeats 12800000 in
set_option maxRecDepth 100000 in
/-- Run -/
theorem run_any (v : PV) (p : Pg) (w : World) (hP : IsPg w v p) (hE : Ef w) : Calls Tryd.prog 9 #[.agg (pvC v p)] w (RuP w p) := by
  have HJu : Hid (∀ W, Below w.heap.size w W → Calls Tryd.prog 19 #[.agg (pvC v p)] W (JuP W p)) := fun W hb => judge_any v p W (hP.below hb) (hE.below hb)
  obtain ⟨qo, qc, vo, vc, tto, tc, oo, oc, co, cc⟩ := v
  show Calls _ _ #[.agg #[.slice qo p.gh.length qc, .slice vo p.vs.length vc, .slice tto p.ts.length tc, .slice oo p.on.length oc, .int .i64 p.miss, .slice co p.cd.length cc]] _ _
  unfold pvC at HJu
  dsimp only at HJu
  have HB : Hid (Bx3 w (((w.alloc (.cells #[.slice qo p.gh.length qc, .slice vo p.vs.length vc, .slice tto p.ts.length tc, .slice oo p.on.length oc, .int .i64 p.miss, .slice co p.cd.length cc] 27)).alloc (.cells #[.slice none 0 0, .int .i64 0] 32)).alloc (.cells #[.int .i64 0, .int .i64 0] 35)) 27 32 35 #[.slice qo p.gh.length qc, .slice vo p.vs.length vc, .slice tto p.ts.length tc, .slice oo p.on.length oc, .int .i64 p.miss, .slice co p.cd.length cc] #[.slice none 0 0, .int .i64 0] #[.int .i64 0, .int .i64 0]) := Bx3.new w _ _ _ _ _ _
  clear hP hE
  go_enter Tryd.func9, Tryd.ntmps9
  go_upto_region 1 with fail
  have HL1 : Hid (w.heap.size + 1 + 1 < (((w.alloc (.cells #[.slice qo p.gh.length qc, .slice vo p.vs.length vc, .slice tto p.ts.length tc, .slice oo p.on.length oc, .int .i64 p.miss, .slice co p.cd.length cc] 27)).alloc (.cells #[.slice none 0 0, .int .i64 0] 32)).alloc (.cells #[.int .i64 0, .int .i64 0] 35)).heap.size) := blk_lt HB.out.h2
  generalize (((w.alloc (.cells #[.slice qo p.gh.length qc, .slice vo p.vs.length vc, .slice tto p.ts.length tc, .slice oo p.on.length oc, .int .i64 p.miss, .slice co p.cd.length cc] 27)).alloc (.cells #[.slice none 0 0, .int .i64 0] 32)).alloc (.cells #[.int .i64 0, .int .i64 0] 35)) = W0 at *
  obtain ⟨i0, i1, i2, i3, i4, i5⟩ := cells6 HB.out.h0
  go_wp2_with fail
  refine (HJu.out _ HB.out.bel).mono ?_
  rintro e w1 hj
  obtain ⟨s0, n0, m0, o1, n1, m1, cm, f0, f1, rfl⟩ : ∃ s0 n0 m0 o1 n1 m1 cm f0 f1, e = .returned (.tuple #[.slice s0 n0 m0, .agg #[.slice o1 n1 m1, .int .i64 cm], .agg #[.int .i64 f0, .int .i64 f1]]) := by
    cases hR : judge p with
    | error x => obtain ⟨er, n⟩ := x; exact ⟨_, _, _, _, _, _, _, _, _, hj.err er n hR⟩
    | ok g => obtain ⟨gb, b, h, -⟩ := hj.ok g hR; exact ⟨_, _, _, _, _, _, _, _, _, h⟩
  have HJ : Hid (JuP W0 p _ w1) := hj
  have HB1 : Hid (Bx3 w w1 27 32 35 #[.slice qo p.gh.length qc, .slice vo p.vs.length vc, .slice tto p.ts.length tc, .slice oo p.on.length oc, .int .i64 p.miss, .slice co p.cd.length cc] #[.slice none 0 0, .int .i64 0] #[.int .i64 0, .int .i64 0]) := HB.out.below hj.bel
  clear hj HB HJu i0 i1 i2 i3 i4 i5
  go_upto_region 2 with fail
  have hs6 : (w1.alloc (.cells #[.slice o1 n1 m1, .int .i64 cm] 32)).heap.size = w1.heap.size + 1 := by simp
  have hal : Below w1.heap.size w1 ((w1.alloc (.cells #[.slice o1 n1 m1, .int .i64 cm] 32)).alloc (.cells #[.int .i64 f0, .int .i64 f1] 35)) := ((Below.refl _ w1).alloc (Nat.le_refl _) _).alloc (by rw [hs6]; omega) _
  have HB6 : Hid (Bx3 w ((w1.alloc (.cells #[.slice o1 n1 m1, .int .i64 cm] 32)).alloc (.cells #[.int .i64 f0, .int .i64 f1] 35)) 27 32 35 #[.slice qo p.gh.length qc, .slice vo p.vs.length vc, .slice tto p.ts.length tc, .slice oo p.on.length oc, .int .i64 p.miss, .slice co p.cd.length cc] #[.slice none 0 0, .int .i64 0] #[.int .i64 0, .int .i64 0]) := HB1.out.below hal
  have hc6 : ((w1.alloc (.cells #[.slice o1 n1 m1, .int .i64 cm] 32)).alloc (.cells #[.int .i64 f0, .int .i64 f1] 35)).heap[w1.heap.size]? = some (.cells #[.slice o1 n1 m1, .int .i64 cm] 32 (0, 0)) := (((Below.refl _ (w1.alloc (.cells #[.slice o1 n1 m1, .int .i64 cm] 32))).alloc (Nat.le_refl _) _).block _ (by rw [hs6]; omega)).trans (heap_alloc_new w1 _)
  have hd6 : ((w1.alloc (.cells #[.slice o1 n1 m1, .int .i64 cm] 32)).alloc (.cells #[.int .i64 f0, .int .i64 f1] 35)).heap[w1.heap.size + 1]? = some (.cells #[.int .i64 f0, .int .i64 f1] 35 (0, 0)) := by have := heap_alloc_new (w1.alloc (.cells #[.slice o1 n1 m1, .int .i64 cm] 32)) (.cells #[.int .i64 f0, .int .i64 f1] 35); rwa [hs6] at this
  have HF6 : Hid (((w1.alloc (.cells #[.slice o1 n1 m1, .int .i64 cm] 32)).alloc (.cells #[.int .i64 f0, .int .i64 f1] 35)).heap[w1.heap.size]? = some (.cells #[.slice o1 n1 m1, .int .i64 cm] 32 (0, 0)) ∧ ((w1.alloc (.cells #[.slice o1 n1 m1, .int .i64 cm] 32)).alloc (.cells #[.int .i64 f0, .int .i64 f1] 35)).heap[w1.heap.size + 1]? = some (.cells #[.int .i64 f0, .int .i64 f1] 35 (0, 0)) ∧ w.heap.size + 1 + 1 < w1.heap.size) := ⟨hc6, hd6, blk_lt HB1.out.h2⟩
  have HRd : Hid (∀ b l, Rf w1 b l → Rf ((w1.alloc (.cells #[.slice o1 n1 m1, .int .i64 cm] 32)).alloc (.cells #[.int .i64 f0, .int .i64 f1] 35)) b l) := fun b l h => Rf.below h hal
  clear HB1 hs6 hal hc6 hd6
  generalize ((w1.alloc (.cells #[.slice o1 n1 m1, .int .i64 cm] 32)).alloc (.cells #[.int .i64 f0, .int .i64 f1] 35)) = W6 at *
  generalize w1.heap.size = cb at *
  have HSS : Hid (∀ X, X.heap[cb]? = W6.heap[cb]? → X.heap[cb + 1]? = W6.heap[cb + 1]? → (fun w' : World => w'.cell? ⟨cb, 0, none⟩ = some (.slice o1 n1 m1) ∧ w'.cell? ⟨cb, 1, none⟩ = some (.int .i64 cm) ∧ w'.cell? ⟨cb + 1, 0, none⟩ = some (.int .i64 f0) ∧ w'.cell? ⟨cb + 1, 1, none⟩ = some (.int .i64 f1)) X) := fun X hX hY => by
    obtain ⟨s0, s1⟩ := cells2 (hX.trans HF6.out.1)
    obtain ⟨s2, s3⟩ := cells2 (hY.trans HF6.out.2.1)
    exact ⟨s0, s1, s2, s3⟩
  refine wp_region_held (S := fun w' : World => w'.cell? ⟨cb, 0, none⟩ = some (.slice o1 n1 m1) ∧ w'.cell? ⟨cb, 1, none⟩ = some (.int .i64 cm) ∧ w'.cell? ⟨cb + 1, 0, none⟩ = some (.int .i64 f0) ∧ w'.cell? ⟨cb + 1, 1, none⟩ = some (.int .i64 f1)) (by kernel_rfl) ?_
  change wpAnyH _ _ _ _ _ _ _ _ W6.drew
  have hS := HSS.out W6.drew rfl rfl
  have hBd : Bx3 w W6.drew 27 32 35 #[.slice qo p.gh.length qc, .slice vo p.vs.length vc, .slice tto p.ts.length tc, .slice oo p.on.length oc, .int .i64 p.miss, .slice co p.cd.length cc] #[.slice none 0 0, .int .i64 0] #[.int .i64 0, .int .i64 0] := HB6.out.below (Below.refl _ W6).drew
  refine tqA 0 rfl hS ?_
  refine tqA 1 rfl hS ?_
  have hk1 : ∀ j, w.heap.size + 1 + 1 < j → (W6.drew.setRow (w.heap.size + 1) #[.slice o1 n1 m1, .int .i64 cm]).heap[j]? = W6.heap[j]? := fun j hj => setRow_other _ _ _ _ (by omega)
  have hB1 := hBd.set1 #[.slice o1 n1 m1, .int .i64 cm]
  refine stA 2 (by kernel_rfl) rfl rfl 32 (.tmp 2) (.tmp 13) rfl (w.heap.size + 1) #[.slice o1 n1 m1, .int .i64 cm] (by go_simp) (by go_simp) 32 _ hBd.h1 (by kernel_rfl) rfl (by kernel_rfl) (HSS.out _ (hk1 _ HF6.out.2.2) (hk1 _ (by have := HF6.out.2.2; omega))) (fun hS => ?_)
  have hk2 : ∀ j, w.heap.size + 1 + 1 < j → ((W6.drew.setRow (w.heap.size + 1) #[.slice o1 n1 m1, .int .i64 cm]).setRow (w.heap.size + 1 + 1) #[.int .i64 f0, .int .i64 f1]).heap[j]? = W6.heap[j]? := fun j hj => (setRow_other _ _ _ _ (by omega)).trans (hk1 j hj)
  have hB2 := hB1.set2 #[.int .i64 f0, .int .i64 f1]
  refine stA 3 (by kernel_rfl) rfl rfl 35 (.tmp 3) (.tmp 14) rfl (w.heap.size + 1 + 1) #[.int .i64 f0, .int .i64 f1] (by go_simp) (by go_simp) 35 _ hB1.h2 (by kernel_rfl) rfl (by kernel_rfl) (HSS.out _ (hk2 _ HF6.out.2.2) (hk2 _ (by have := HF6.out.2.2; omega))) (fun hS => ?_)
  refine wpAnyH_done (by kernel_rfl) ?_ _
  have HB7 : Hid (Bx3 w ((W6.drew.setRow (w.heap.size + 1) #[.slice o1 n1 m1, .int .i64 cm]).setRow (w.heap.size + 1 + 1) #[.int .i64 f0, .int .i64 f1]) 27 32 35 #[.slice qo p.gh.length qc, .slice vo p.vs.length vc, .slice tto p.ts.length tc, .slice oo p.on.length oc, .int .i64 p.miss, .slice co p.cd.length cc] #[.slice o1 n1 m1, .int .i64 cm] #[.int .i64 f0, .int .i64 f1]) := hB2
  have HR7 : Hid (∀ b l, w.heap.size + 1 + 1 < b → Rf w1 b l → Rf ((W6.drew.setRow (w.heap.size + 1) #[.slice o1 n1 m1, .int .i64 cm]).setRow (w.heap.size + 1 + 1) #[.int .i64 f0, .int .i64 f1]) b l) := fun b l hb h => Rf.same (HRd.out b l h) (hk2 _ hb) (by simp)
  clear hS hk1 hk2 hB1 hB2 hBd HSS HF6 HB6 HRd
  generalize ((W6.drew.setRow (w.heap.size + 1) #[.slice o1 n1 m1, .int .i64 cm]).setRow (w.heap.size + 1 + 1) #[.int .i64 f0, .int .i64 f1]) = W7 at *
  obtain ⟨y0, y1⟩ := cells2 HB7.out.h1
  obtain ⟨z0, z1⟩ := cells2 HB7.out.h2
  go_wp2_with fail
  refine bodyPost_ret (v := .tuple #[.agg #[.slice o1 n1 m1, .int .i64 cm], .agg #[.int .i64 f0, .int .i64 f1]]) (by simp [results, Tryd.results9, go_sem, y0, y1, z0, z1]) rfl ?_
  refine ⟨HB7.out.bel, fun e n hj => ?_, fun g hj => ?_⟩
  · have h := HJ.out.err e n hj
    simp only [Ending.returned.injEq, Value.tuple.injEq, Array.mk.injEq, List.cons.injEq, and_true] at h
    rw [h.2.1, h.2.2]
  · obtain ⟨gb, b, h, -, -, -, hb, hr⟩ := HJ.out.ok g hj
    simp only [Ending.returned.injEq, Value.tuple.injEq, Array.mk.injEq, List.cons.injEq, and_true] at h
    exact ⟨b, by rw [h.2.1, h.2.2], by have := HL1.out; have := hj; omega, HR7.out b _ (by have := HL1.out; omega) hr⟩
end Go.Proofs.YtelbakkgobkdaaaDoor.Vf
