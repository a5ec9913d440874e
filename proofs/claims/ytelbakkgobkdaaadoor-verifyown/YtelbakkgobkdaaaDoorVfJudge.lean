import Derived.Test.YtelbakkgobkdaaaDoorVfWalk
import Derived.Test.YtelbakkgobkdaaaDoorVfCost
import Derived.Test.YtelbakkgobkdaaaDoorVfFuOk
import Derived.Test.YtelbakkgobkdaaaDoorVfChk
namespace Go.Proofs.YtelbakkgobkdaaaDoor.Vf
open Go.RowKit Go.Proofs.YtelbakkgobkdaaaDoor.Nm
/-- what judge tells -/
structure JuP (w : World) (p : Pg) (r : Ending) (w' : World) : Prop where
  bel : Below w.heap.size w w'
  err : ∀ e n, judge p = .error (e, n) → r = .returned (.tuple #[.slice none 0 0, .agg #[.slice none 0 0, .int .i64 0], .agg #[.int .i64 (e : Int), .int .i64 n]])
  ok : ∀ g, judge p = .ok g → ∃ gb b, r = .returned (.tuple #[.slice (some ⟨gb, 0, none⟩) p.cd.length p.cd.length, .agg #[.slice (some ⟨b, 0, none⟩) p.on.length p.on.length, .int .i64 (cst p p.miss)], .agg #[.int .i64 0, .int .i64 0]]) ∧ w.heap.size ≤ gb ∧ w'.heap[gb]? = some (.cells (gotC p.cd.length g).toArray 71 (0, 0)) ∧ Inv p g ∧ w.heap.size ≤ b ∧ Rf w' b (iC (p.on.map (cst p)))
theorem rd_same {W X : World} {b f : Nat} {l : List Value} (h : Rd W (some ⟨b, f, none⟩) l) (hX : X.heap[b]? = W.heap[b]?) (hs : W.heap.size ≤ X.heap.size) : Rd X (some ⟨b, f, none⟩) l := fun j x hx => by
  obtain ⟨b', f', e, hl, hc⟩ := h j x hx
  cases e
  exact ⟨b, f, rfl, by omega, (World.cell?_of_block (a := ⟨b, f + j, none⟩) hX).trans hc⟩
set_option maxHeartbeats 12800000 in
set_option maxRecDepth 100000 in
/-- judge -/
theorem judge_any (v : PV) (p : Pg) (w : World) (hP : IsPg w v p) (hE : Ef w) : Calls Tryd.prog 19 #[.agg (pvC v p)] w (JuP w p) := by
  have HCk : Hid (∀ W, Below w.heap.size w W → Calls Tryd.prog 25 #[.agg (pvC v p)] W fun e w' => e = .returned (.int .i64 (chk p : Int)) ∧ Below W.heap.size W w') := fun W hb => chk_any v p W (hP.below hb)
  have HNw : Hid (chk p = 0 → ∀ W, Below w.heap.size w W → Calls Tryd.prog 26 #[.agg (pvC v p)] W (NwP W v p)) := fun h W hb => new_any v p W (hP.below hb) (by have := (chk_of h).1; omega) (chk_of h).2.1 (chk_of h).2.2.1
  have HEf : Hid (∀ W, Below w.heap.size w W → Ef W) := fun W hb => hE.below hb
  have HPg : Hid (∀ W, Below w.heap.size w W → IsPg W v p) := fun W hb => hP.below hb
  have hck : chk p < 1000 := by
    unfold chk
    split
    · have key : ∀ l : List Ins, firstE (insF p) l < 1000 := by
        intro l
        induction l with
        | nil => unfold firstE; omega
        | cons x l ih =>
          have hx : insF p x < 1000 := by
            unfold insF
            dsimp only
            split
            · split <;> omega
            · omega
          unfold firstE
          split
          · exact ih
          · exact hx
      exact key _
    · omega
  obtain ⟨qo, qc, vo, vc, tto, tc, oo, oc, co, cc⟩ := v
  show Calls _ _ #[.agg #[.slice qo p.gh.length qc, .slice vo p.vs.length vc, .slice tto p.ts.length tc, .slice oo p.on.length oc, .int .i64 p.miss, .slice co p.cd.length cc]] _ _
  unfold pvC at HCk HNw
  dsimp only at HCk HNw
  have HB : Hid (Bx3 w (((w.alloc (.cells #[.slice qo p.gh.length qc, .slice vo p.vs.length vc, .slice tto p.ts.length tc, .slice oo p.on.length oc, .int .i64 p.miss, .slice co p.cd.length cc] 27)).alloc (.cells #[.slice none 0 0, .int .i64 0] 32)).alloc (.cells #[.int .i64 0, .int .i64 0] 35)) 27 32 35 #[.slice qo p.gh.length qc, .slice vo p.vs.length vc, .slice tto p.ts.length tc, .slice oo p.on.length oc, .int .i64 p.miss, .slice co p.cd.length cc] #[.slice none 0 0, .int .i64 0] #[.int .i64 0, .int .i64 0]) := Bx3.new w _ _ _ _ _ _
  clear hP hE
  go_enter Tryd.func19, Tryd.ntmps19
  go_upto_region 1 with fail
  generalize ((w.alloc (.cells #[.slice qo p.gh.length qc, .slice vo p.vs.length vc, .slice tto p.ts.length tc, .slice oo p.on.length oc, .int .i64 p.miss, .slice co p.cd.length cc] 27)).alloc (.cells #[.slice none 0 0, .int .i64 0] 32)).alloc (.cells #[.int .i64 0, .int .i64 0] 35) = W0 at *
  obtain ⟨i0, i1, i2, i3, i4, i5⟩ := cells6 HB.out.h0
  go_wp2_with fail
  refine (HCk.out _ HB.out.bel).mono ?_
  rintro e w1 ⟨rfl, hb1⟩
  have HB1 : Hid (Bx3 w w1 27 32 35 #[.slice qo p.gh.length qc, .slice vo p.vs.length vc, .slice tto p.ts.length tc, .slice oo p.on.length oc, .int .i64 p.miss, .slice co p.cd.length cc] #[.slice none 0 0, .int .i64 0] #[.int .i64 0, .int .i64 0]) := HB.out.below hb1
  have HL1 : Hid (w.heap.size + 1 + 1 < w1.heap.size) := blk_lt HB1.out.h2
  clear hb1 HB HCk i0 i1 i2 i3 i4 i5
  have HJ : Hid (judge p = if chk p = 0 then (match walkP p p.cd.length 0 (got0 p) with | .error (e, i) => .error (e, (i : Int)) | .ok g => match costF p (evs p) with | some n => .error (97, n) | none => .ok g) else .error (chk p, 0)) := rfl
  have HOk : Hid (chk p = 0 → p.on.length ≤ 16 ∧ p.cd.length ≤ 262144 ∧ (∀ n ∈ evs p, -1 ≤ n ∧ n < (p.cd.length : Int)) ∧ ∀ i, i < p.cd.length → OkI p (p.at i)) := fun h => chk_of h
  generalize chk p = ck at *
  obtain ⟨i0, i1, i2, i3, i4, i5⟩ := cells6 HB1.out.h0
  obtain ⟨y0, y1⟩ := cells2 HB1.out.h1
  obtain ⟨z0, z1⟩ := cells2 HB1.out.h2
  rcases Nat.eq_zero_or_pos ck with rfl | hz
  · have HN0 := show Hid _ from HNw.out rfl
    have HO0 := show Hid _ from HOk.out rfl
    have HJ0 := show Hid _ from HJ.out.trans (if_pos rfl)
    clear HNw HOk HJ
    go_wp2_with fail
    refine (HN0.out _ HB1.out.bel).mono ?_
    rintro e w2 ⟨⟨wb, gb, eo, ec, rfl, hwa⟩⟩
    have hI := got0_inv HO0.out.2.2.1
    have HWk : Hid (Calls Tryd.prog 27 #[.pointer (some ⟨wb, 0, none⟩)] w2 (WlP w1 w2 wb gb ⟨qo, qc, vo, vc, tto, tc, oo, oc, co, cc⟩ p eo ec p.cd.length (walkP p p.cd.length 0 (got0 p)))) := walk_any hwa hI (HEf.out _ (HB1.out.bel.trans (hwa.bel.mono HB1.out.bel.size))) (by have := hwa.lg; have := blk_lt HB1.out.h0; omega) HO0.out.2.2.2 HO0.out.2.1
    have HB2 := show Hid _ from HB1.out
    have HFu : Hid (∀ g, walkP p p.cd.length 0 (got0 p) = .ok g → ∀ i, i < p.cd.length → FuOk p i) := fun g h => fuOk_of h HO0.out.2.2.2
    clear i0 i1 i2 i3 i4 i5 y0 y1 z0 z1 HB1 hI HN0 HEf hwa
    generalize walkP p p.cd.length 0 (got0 p) = R at *
    go_wp2_with fail
    refine HWk.out.mono ?_
    rintro e w3 hwl
    have HB3 : Hid (Bx3 w w3 27 32 35 #[.slice qo p.gh.length qc, .slice vo p.vs.length vc, .slice tto p.ts.length tc, .slice oo p.on.length oc, .int .i64 p.miss, .slice co p.cd.length cc] #[.slice none 0 0, .int .i64 0] #[.int .i64 0, .int .i64 0]) := HB2.out.below hwl.bel
    clear HB2 HWk
    have hal : Below w3.heap.size w3 (w3.alloc (.cells #[.int .i64 0, .int .i64 0] 35)) := (Below.refl _ w3).alloc (Nat.le_refl _) _
    have hnw : (w3.alloc (.cells #[.int .i64 0, .int .i64 0] 35)).heap[w3.heap.size]? = some (.cells #[.int .i64 0, .int .i64 0] 35 (0, 0)) := heap_alloc_new w3 _
    cases R with
    | error ei =>
      obtain ⟨er, i⟩ := ei
      obtain ⟨rfl, hne⟩ := hwl.err er i rfl
      have HJ2 : Hid (judge p = .error (er, (i : Int))) := HJ0.out
      have hz2 : (er : Int) ≠ 0 := by omega
      clear hwl HJ0 HO0 HPg HFu hal hnw
      go_upto_region 7 with fail
      have HB4 : Hid (Bx3 w (w3.alloc (.cells #[.int .i64 (er : Int), .int .i64 (i : Int)] 35)) 27 32 35 #[.slice qo p.gh.length qc, .slice vo p.vs.length vc, .slice tto p.ts.length tc, .slice oo p.on.length oc, .int .i64 p.miss, .slice co p.cd.length cc] #[.slice none 0 0, .int .i64 0] #[.int .i64 0, .int .i64 0]) := HB3.out.below ((Below.refl _ w3).alloc (Nat.le_refl _) _)
      have HF4 : Hid ((w3.alloc (.cells #[.int .i64 (er : Int), .int .i64 (i : Int)] 35)).heap[w3.heap.size]? = some (.cells #[.int .i64 (er : Int), .int .i64 (i : Int)] 35 (0, 0)) ∧ w.heap.size + 1 + 1 < w3.heap.size) := ⟨heap_alloc_new w3 _, blk_lt HB3.out.h2⟩
      clear HB3
      generalize w3.alloc (.cells #[.int .i64 (er : Int), .int .i64 (i : Int)] 35) = W4 at *
      generalize w3.heap.size = fb at *
      have HSS : Hid (∀ X, X.heap[fb]? = W4.heap[fb]? → (fun w' : World => w'.cell? ⟨fb, 0, none⟩ = some (.int .i64 (er : Int)) ∧ w'.cell? ⟨fb, 1, none⟩ = some (.int .i64 (i : Int))) X) := fun X hX => cells2 (hX.trans HF4.out.1)
      refine wp_region_held (S := fun w' : World => w'.cell? ⟨fb, 0, none⟩ = some (.int .i64 (er : Int)) ∧ w'.cell? ⟨fb, 1, none⟩ = some (.int .i64 (i : Int))) (by kernel_rfl) ?_
      change wpAnyH _ _ _ _ _ _ _ _ W4.drew
      have hS := HSS.out W4.drew rfl
      have hBd : Bx3 w W4.drew 27 32 35 #[.slice qo p.gh.length qc, .slice vo p.vs.length vc, .slice tto p.ts.length tc, .slice oo p.on.length oc, .int .i64 p.miss, .slice co p.cd.length cc] #[.slice none 0 0, .int .i64 0] #[.int .i64 0, .int .i64 0] := HB4.out.below (Below.refl _ W4).drew
      refine tqA 0 rfl hS ?_
      refine tqA 1 rfl hS ?_
      refine wpAnyH_ready (rs := [2]) (by kernel_rfl) (by simp) ?_
      refine AllReadyH.cons rfl (fun K hK => ?_) AllReadyH.nil
      go_simp
      refine hK.out _ _ hS (fun hS => ?_)
      clear hK K
      have hk1 : (W4.drew.setRow (w.heap.size + 1) #[.slice none 0 0, .int .i64 0]).heap[fb]? = W4.heap[fb]? := setRow_other _ _ _ _ (by have := HF4.out.2; omega)
      have hB1 := hBd.set1 #[.slice none 0 0, .int .i64 0]
      refine stA 3 (by kernel_rfl) rfl rfl 32 (.tmp 3) (.tmp 24) rfl (w.heap.size + 1) #[.slice none 0 0, .int .i64 0] (by go_simp) (by go_simp) 32 _ hBd.h1 (by kernel_rfl) rfl (by kernel_rfl) (HSS.out _ hk1) (fun hS => ?_)
      have hk2 : ((W4.drew.setRow (w.heap.size + 1) #[.slice none 0 0, .int .i64 0]).setRow (w.heap.size + 1 + 1) #[.int .i64 (er : Int), .int .i64 (i : Int)]).heap[fb]? = W4.heap[fb]? := (setRow_other _ _ _ _ (by have := HF4.out.2; omega)).trans hk1
      have hB2 := hB1.set2 #[.int .i64 (er : Int), .int .i64 (i : Int)]
      refine stA 4 (by kernel_rfl) rfl rfl 35 (.tmp 4) (.tmp 25) rfl (w.heap.size + 1 + 1) #[.int .i64 (er : Int), .int .i64 (i : Int)] (by go_simp) (by go_simp) 35 _ hB1.h2 (by kernel_rfl) rfl (by kernel_rfl) (HSS.out _ hk2) (fun hS => ?_)
      refine wpAnyH_done (by kernel_rfl) ?_ _
      have HB5 : Hid (Bx3 w ((W4.drew.setRow (w.heap.size + 1) #[.slice none 0 0, .int .i64 0]).setRow (w.heap.size + 1 + 1) #[.int .i64 (er : Int), .int .i64 (i : Int)]) 27 32 35 #[.slice qo p.gh.length qc, .slice vo p.vs.length vc, .slice tto p.ts.length tc, .slice oo p.on.length oc, .int .i64 p.miss, .slice co p.cd.length cc] #[.slice none 0 0, .int .i64 0] #[.int .i64 (er : Int), .int .i64 (i : Int)]) := hB2
      clear hS hk1 hk2 hB1 hB2 hBd HSS HF4 HB4
      generalize (W4.drew.setRow (w.heap.size + 1) #[.slice none 0 0, .int .i64 0]).setRow (w.heap.size + 1 + 1) #[.int .i64 (er : Int), .int .i64 (i : Int)] = W5 at *
      obtain ⟨y0, y1⟩ := cells2 HB5.out.h1
      obtain ⟨z0, z1⟩ := cells2 HB5.out.h2
      go_wp2_with fail
      refine bodyPost_ret (v := .tuple #[.slice none 0 0, .agg #[.slice none 0 0, .int .i64 0], .agg #[.int .i64 (er : Int), .int .i64 (i : Int)]]) (by simp [results, Tryd.results19, go_sem, y0, y1, z0, z1]) rfl ?_
      refine ⟨HB5.out.bel, fun e n hj => ?_, fun g hj => ?_⟩
      · rw [HJ2.out] at hj
        cases hj
        rfl
      · rw [HJ2.out] at hj
        cases hj
    | ok g =>
      obtain ⟨rfl, hwa, hinv⟩ := hwl.ok g rfl
      have HJ2 := show Hid _ from HJ0.out
      clear hwl HJ0 hal hnw
      go_upto_region 8 with fail
      have hal : Below w3.heap.size w3 (w3.alloc (.cells #[.int .i64 0, .int .i64 0] 35)) := (Below.refl _ w3).alloc (Nat.le_refl _) _
      have HB4 : Hid (Bx3 w (w3.alloc (.cells #[.int .i64 0, .int .i64 0] 35)) 27 32 35 #[.slice qo p.gh.length qc, .slice vo p.vs.length vc, .slice tto p.ts.length tc, .slice oo p.on.length oc, .int .i64 p.miss, .slice co p.cd.length cc] #[.slice none 0 0, .int .i64 0] #[.int .i64 0, .int .i64 0]) := HB3.out.below hal
      have HWa : Hid (Wa w1 (w3.alloc (.cells #[.int .i64 0, .int .i64 0] 35)) wb gb ⟨qo, qc, vo, vc, tto, tc, oo, oc, co, cc⟩ p eo ec p.cd.length g) := hwa.below hal
      have HCo : Hid (Calls Tryd.prog 28 #[.agg #[.slice qo p.gh.length qc, .slice vo p.vs.length vc, .slice tto p.ts.length tc, .slice oo p.on.length oc, .int .i64 p.miss, .slice co p.cd.length cc]] (w3.alloc (.cells #[.int .i64 0, .int .i64 0] 35)) (CoP (w3.alloc (.cells #[.int .i64 0, .int .i64 0] 35)) p)) := costs_any ⟨qo, qc, vo, vc, tto, tc, oo, oc, co, cc⟩ p _ (HPg.out _ HB4.out.bel) (by have := HO0.out.1; omega) HO0.out.2.1 HO0.out.2.2.1 (HFu.out g rfl)
      have HIn : Hid (Inv p g) := hinv
      have HL4 : Hid (w.heap.size + 1 + 1 < (w3.alloc (.cells #[.int .i64 0, .int .i64 0] 35)).heap.size) := blk_lt HB4.out.h2
      clear HB3 hwa hal hinv HPg HFu
      generalize w3.alloc (.cells #[.int .i64 0, .int .i64 0] 35) = W4 at *
      obtain ⟨i0, i1, i2, i3, i4, i5⟩ := cells6 HB4.out.h0
      go_wp2_with fail
      refine HCo.out.mono ?_
      rintro e w5 ⟨hb5, he5, ho5⟩
      have HB5 : Hid (Bx3 w w5 27 32 35 #[.slice qo p.gh.length qc, .slice vo p.vs.length vc, .slice tto p.ts.length tc, .slice oo p.on.length oc, .int .i64 p.miss, .slice co p.cd.length cc] #[.slice none 0 0, .int .i64 0] #[.int .i64 0, .int .i64 0]) := HB4.out.below hb5
      have HW5 := show Hid _ from HWa.out.below hb5
      clear HB4 HWa HCo i0 i1 i2 i3 i4 i5
      cases hcf : costF p (evs p) with
      | some n =>
        obtain rfl := he5 n hcf
        have HJ3 : Hid (judge p = .error (97, n)) := by show _ = _; rw [HJ2.out, hcf]
        clear he5 ho5 HJ2 hcf
        go_upto_region 10 with fail
        have hs6 : (w5.alloc (.cells #[.slice none 0 0, .int .i64 0] 32)).heap.size = w5.heap.size + 1 := by simp
        have HB6 : Hid (Bx3 w ((w5.alloc (.cells #[.slice none 0 0, .int .i64 0] 32)).alloc (.cells #[.int .i64 97, .int .i64 n] 35)) 27 32 35 #[.slice qo p.gh.length qc, .slice vo p.vs.length vc, .slice tto p.ts.length tc, .slice oo p.on.length oc, .int .i64 p.miss, .slice co p.cd.length cc] #[.slice none 0 0, .int .i64 0] #[.int .i64 0, .int .i64 0]) := HB5.out.below (((Below.refl _ w5).alloc (Nat.le_refl _) _).alloc (by rw [hs6]; omega) _)
        have HF6 : Hid (((w5.alloc (.cells #[.slice none 0 0, .int .i64 0] 32)).alloc (.cells #[.int .i64 97, .int .i64 n] 35)).heap[w5.heap.size + 1]? = some (.cells #[.int .i64 97, .int .i64 n] 35 (0, 0)) ∧ w.heap.size + 1 + 1 < w5.heap.size + 1) := ⟨by have := heap_alloc_new (w5.alloc (.cells #[.slice none 0 0, .int .i64 0] 32)) (.cells #[.int .i64 97, .int .i64 n] 35); rwa [hs6] at this, by have := blk_lt HB5.out.h2; omega⟩
        clear HB5 HW5 hs6 hb5
        generalize ((w5.alloc (.cells #[.slice none 0 0, .int .i64 0] 32)).alloc (.cells #[.int .i64 97, .int .i64 n] 35)) = W6 at *
        generalize w5.heap.size + 1 = fb at *
        have HSS : Hid (∀ X, X.heap[fb]? = W6.heap[fb]? → (fun w' : World => w'.cell? ⟨fb, 0, none⟩ = some (.int .i64 97) ∧ w'.cell? ⟨fb, 1, none⟩ = some (.int .i64 n)) X) := fun X hX => cells2 (hX.trans HF6.out.1)
        refine wp_region_held (S := fun w' : World => w'.cell? ⟨fb, 0, none⟩ = some (.int .i64 97) ∧ w'.cell? ⟨fb, 1, none⟩ = some (.int .i64 n)) (by kernel_rfl) ?_
        change wpAnyH _ _ _ _ _ _ _ _ W6.drew
        have hS := HSS.out W6.drew rfl
        have hBd : Bx3 w W6.drew 27 32 35 #[.slice qo p.gh.length qc, .slice vo p.vs.length vc, .slice tto p.ts.length tc, .slice oo p.on.length oc, .int .i64 p.miss, .slice co p.cd.length cc] #[.slice none 0 0, .int .i64 0] #[.int .i64 0, .int .i64 0] := HB6.out.below (Below.refl _ W6).drew
        refine tqA 0 rfl hS ?_
        refine tqA 1 rfl hS ?_
        refine wpAnyH_ready (rs := [2]) (by kernel_rfl) (by simp) ?_
        refine AllReadyH.cons rfl (fun K hK => ?_) AllReadyH.nil
        go_simp
        refine hK.out _ _ hS (fun hS => ?_)
        clear hK K
        have hk1 : (W6.drew.setRow (w.heap.size + 1) #[.slice none 0 0, .int .i64 0]).heap[fb]? = W6.heap[fb]? := setRow_other _ _ _ _ (by have := HF6.out.2; omega)
        have hB1 := hBd.set1 #[.slice none 0 0, .int .i64 0]
        refine stA 3 (by kernel_rfl) rfl rfl 32 (.tmp 3) (.tmp 34) rfl (w.heap.size + 1) #[.slice none 0 0, .int .i64 0] (by go_simp) (by go_simp) 32 _ hBd.h1 (by kernel_rfl) rfl (by kernel_rfl) (HSS.out _ hk1) (fun hS => ?_)
        have hk2 : ((W6.drew.setRow (w.heap.size + 1) #[.slice none 0 0, .int .i64 0]).setRow (w.heap.size + 1 + 1) #[.int .i64 97, .int .i64 n]).heap[fb]? = W6.heap[fb]? := (setRow_other _ _ _ _ (by have := HF6.out.2; omega)).trans hk1
        have hB2 := hB1.set2 #[.int .i64 97, .int .i64 n]
        refine stA 4 (by kernel_rfl) rfl rfl 35 (.tmp 4) (.tmp 35) rfl (w.heap.size + 1 + 1) #[.int .i64 97, .int .i64 n] (by go_simp) (by go_simp) 35 _ hB1.h2 (by kernel_rfl) rfl (by kernel_rfl) (HSS.out _ hk2) (fun hS => ?_)
        refine wpAnyH_done (by kernel_rfl) ?_ _
        have HB7 : Hid (Bx3 w ((W6.drew.setRow (w.heap.size + 1) #[.slice none 0 0, .int .i64 0]).setRow (w.heap.size + 1 + 1) #[.int .i64 97, .int .i64 n]) 27 32 35 #[.slice qo p.gh.length qc, .slice vo p.vs.length vc, .slice tto p.ts.length tc, .slice oo p.on.length oc, .int .i64 p.miss, .slice co p.cd.length cc] #[.slice none 0 0, .int .i64 0] #[.int .i64 97, .int .i64 n]) := hB2
        clear hS hk1 hk2 hB1 hB2 hBd HSS HF6 HB6
        generalize (W6.drew.setRow (w.heap.size + 1) #[.slice none 0 0, .int .i64 0]).setRow (w.heap.size + 1 + 1) #[.int .i64 97, .int .i64 n] = W7 at *
        obtain ⟨y0, y1⟩ := cells2 HB7.out.h1
        obtain ⟨z0, z1⟩ := cells2 HB7.out.h2
        go_wp2_with fail
        refine bodyPost_ret (v := .tuple #[.slice none 0 0, .agg #[.slice none 0 0, .int .i64 0], .agg #[.int .i64 97, .int .i64 n]]) (by simp [results, Tryd.results19, go_sem, y0, y1, z0, z1]) rfl ?_
        refine ⟨HB7.out.bel, fun e n hj => ?_, fun g hj => ?_⟩
        · rw [HJ3.out] at hj
          cases hj
          rfl
        · rw [HJ3.out] at hj
          cases hj
      | none =>
        obtain ⟨b, rfl, hlb, hrd⟩ := ho5 hcf
        have HJ3 : Hid (judge p = .ok g) := by show _ = _; rw [HJ2.out, hcf]
        have HRd : Hid (Rf w5 b (iC (p.on.map (cst p)))) := hrd
        clear he5 ho5 HJ2 hcf hrd
        generalize hcm : cst p p.miss = cm at *
        go_upto_region 11 with fail
        have hs6 : (w5.alloc (.cells #[.slice (some ⟨b, 0, none⟩) p.on.length p.on.length, .int .i64 cm] 32)).heap.size = w5.heap.size + 1 := by simp
        have hal : Below w5.heap.size w5 ((w5.alloc (.cells #[.slice (some ⟨b, 0, none⟩) p.on.length p.on.length, .int .i64 cm] 32)).alloc (.cells #[.int .i64 0, .int .i64 0] 35)) := ((Below.refl _ w5).alloc (Nat.le_refl _) _).alloc (by rw [hs6]; omega) _
        have HB6 : Hid (Bx3 w ((w5.alloc (.cells #[.slice (some ⟨b, 0, none⟩) p.on.length p.on.length, .int .i64 cm] 32)).alloc (.cells #[.int .i64 0, .int .i64 0] 35)) 27 32 35 #[.slice qo p.gh.length qc, .slice vo p.vs.length vc, .slice tto p.ts.length tc, .slice oo p.on.length oc, .int .i64 p.miss, .slice co p.cd.length cc] #[.slice none 0 0, .int .i64 0] #[.int .i64 0, .int .i64 0]) := HB5.out.below hal
        have HW6 : Hid (Wa w1 ((w5.alloc (.cells #[.slice (some ⟨b, 0, none⟩) p.on.length p.on.length, .int .i64 cm] 32)).alloc (.cells #[.int .i64 0, .int .i64 0] 35)) wb gb ⟨qo, qc, vo, vc, tto, tc, oo, oc, co, cc⟩ p eo ec p.cd.length g) := HW5.out.below hal
        have HR6 : Hid (Rf ((w5.alloc (.cells #[.slice (some ⟨b, 0, none⟩) p.on.length p.on.length, .int .i64 cm] 32)).alloc (.cells #[.int .i64 0, .int .i64 0] 35)) b (iC (p.on.map (cst p)))) := Rf.below HRd.out hal
        have hc6 : ((w5.alloc (.cells #[.slice (some ⟨b, 0, none⟩) p.on.length p.on.length, .int .i64 cm] 32)).alloc (.cells #[.int .i64 0, .int .i64 0] 35)).heap[w5.heap.size]? = some (.cells #[.slice (some ⟨b, 0, none⟩) p.on.length p.on.length, .int .i64 cm] 32 (0, 0)) := (((Below.refl _ (w5.alloc (.cells #[.slice (some ⟨b, 0, none⟩) p.on.length p.on.length, .int .i64 cm] 32))).alloc (Nat.le_refl _) _).block _ (by rw [hs6]; omega)).trans (heap_alloc_new w5 _)
        have HF6 : Hid (((w5.alloc (.cells #[.slice (some ⟨b, 0, none⟩) p.on.length p.on.length, .int .i64 cm] 32)).alloc (.cells #[.int .i64 0, .int .i64 0] 35)).heap[w5.heap.size]? = some (.cells #[.slice (some ⟨b, 0, none⟩) p.on.length p.on.length, .int .i64 cm] 32 (0, 0)) ∧ w.heap.size + 1 + 1 < w5.heap.size ∧ w.heap.size + 1 + 1 < wb ∧ w.heap.size + 1 + 1 < gb ∧ w.heap.size + 1 + 1 < b) := ⟨hc6, blk_lt HB5.out.h2, by have := HL1.out; have := HW5.out.lw; omega, by have := HL1.out; have := HW5.out.lg; omega, by have := HL4.out; omega⟩
        clear HB5 HW5 hs6 hb5 hal hc6 HRd hlb HL1 HL4
        generalize ((w5.alloc (.cells #[.slice (some ⟨b, 0, none⟩) p.on.length p.on.length, .int .i64 cm] 32)).alloc (.cells #[.int .i64 0, .int .i64 0] 35)) = W6 at *
        generalize w5.heap.size = cb at *
        have HSS : Hid (∀ X, X.heap[cb]? = W6.heap[cb]? → X.heap[wb]? = W6.heap[wb]? → (fun w' : World => w'.cell? ⟨cb, 0, none⟩ = some (.slice (some ⟨b, 0, none⟩) p.on.length p.on.length) ∧ w'.cell? ⟨cb, 1, none⟩ = some (.int .i64 cm) ∧ w'.cell? ⟨wb, 7, none⟩ = some (.slice (some ⟨gb, 0, none⟩) p.cd.length p.cd.length)) X) := fun X hX hY => by
          obtain ⟨s0, s1⟩ := cells2 (hX.trans HF6.out.1)
          obtain ⟨-, -, -, -, -, -, -, c7⟩ := cells8 (hY.trans HW6.out.wk.hw)
          exact ⟨s0, s1, c7⟩
        refine wp_region_held (S := fun w' : World => w'.cell? ⟨cb, 0, none⟩ = some (.slice (some ⟨b, 0, none⟩) p.on.length p.on.length) ∧ w'.cell? ⟨cb, 1, none⟩ = some (.int .i64 cm) ∧ w'.cell? ⟨wb, 7, none⟩ = some (.slice (some ⟨gb, 0, none⟩) p.cd.length p.cd.length)) (by kernel_rfl) ?_
        change wpAnyH _ _ _ _ _ _ _ _ W6.drew
        have hS := HSS.out W6.drew rfl rfl
        have hBd : Bx3 w W6.drew 27 32 35 #[.slice qo p.gh.length qc, .slice vo p.vs.length vc, .slice tto p.ts.length tc, .slice oo p.on.length oc, .int .i64 p.miss, .slice co p.cd.length cc] #[.slice none 0 0, .int .i64 0] #[.int .i64 0, .int .i64 0] := HB6.out.below (Below.refl _ W6).drew
        refine tqA 0 rfl hS ?_
        refine tqA 1 rfl hS ?_
        refine tqA 2 rfl hS ?_
        refine tqA 3 rfl hS ?_
        refine tqA 4 rfl hS ?_
        refine tqA 5 rfl hS ?_
        refine wpAnyH_ready (rs := [6]) (by kernel_rfl) (by simp) ?_
        refine AllReadyH.cons rfl (fun K hK => ?_) AllReadyH.nil
        go_simp
        refine hK.out _ _ hS (fun hS => ?_)
        clear hK K
        have hk1 : ∀ j, w.heap.size + 1 + 1 < j → (W6.drew.setRow (w.heap.size + 1) #[.slice (some ⟨b, 0, none⟩) p.on.length p.on.length, .int .i64 cm]).heap[j]? = W6.heap[j]? := fun j hj => setRow_other _ _ _ _ (by omega)
        have hB1 := hBd.set1 #[.slice (some ⟨b, 0, none⟩) p.on.length p.on.length, .int .i64 cm]
        refine stA 7 (by kernel_rfl) rfl rfl 32 (.tmp 3) (.tmp 40) rfl (w.heap.size + 1) #[.slice (some ⟨b, 0, none⟩) p.on.length p.on.length, .int .i64 cm] (by go_simp) (by go_simp) 32 _ hBd.h1 (by kernel_rfl) rfl (by kernel_rfl) (HSS.out _ (hk1 _ HF6.out.2.1) (hk1 _ HF6.out.2.2.1)) (fun hS => ?_)
        have hk2 : ∀ j, w.heap.size + 1 + 1 < j → ((W6.drew.setRow (w.heap.size + 1) #[.slice (some ⟨b, 0, none⟩) p.on.length p.on.length, .int .i64 cm]).setRow (w.heap.size + 1 + 1) #[.int .i64 0, .int .i64 0]).heap[j]? = W6.heap[j]? := fun j hj => (setRow_other _ _ _ _ (by omega)).trans (hk1 j hj)
        have hB2 := hB1.set2 #[.int .i64 0, .int .i64 0]
        refine stA 8 (by kernel_rfl) rfl rfl 35 (.tmp 4) (.tmp 41) rfl (w.heap.size + 1 + 1) #[.int .i64 0, .int .i64 0] (by go_simp) (by go_simp) 35 _ hB1.h2 (by kernel_rfl) rfl (by kernel_rfl) (HSS.out _ (hk2 _ HF6.out.2.1) (hk2 _ HF6.out.2.2.1)) (fun hS => ?_)
        refine wpAnyH_done (by kernel_rfl) ?_ _
        have HB7 : Hid (Bx3 w ((W6.drew.setRow (w.heap.size + 1) #[.slice (some ⟨b, 0, none⟩) p.on.length p.on.length, .int .i64 cm]).setRow (w.heap.size + 1 + 1) #[.int .i64 0, .int .i64 0]) 27 32 35 #[.slice qo p.gh.length qc, .slice vo p.vs.length vc, .slice tto p.ts.length tc, .slice oo p.on.length oc, .int .i64 p.miss, .slice co p.cd.length cc] #[.slice (some ⟨b, 0, none⟩) p.on.length p.on.length, .int .i64 cm] #[.int .i64 0, .int .i64 0]) := hB2
        have HG7 : Hid (((W6.drew.setRow (w.heap.size + 1) #[.slice (some ⟨b, 0, none⟩) p.on.length p.on.length, .int .i64 cm]).setRow (w.heap.size + 1 + 1) #[.int .i64 0, .int .i64 0]).heap[gb]? = some (.cells (gotC p.cd.length g).toArray 71 (0, 0)) ∧ w.heap.size ≤ gb) := ⟨(hk2 _ HF6.out.2.2.2.1).trans HW6.out.wk.gt, by have := HF6.out.2.2.2.1; omega⟩
        have HR7 : Hid (Rf ((W6.drew.setRow (w.heap.size + 1) #[.slice (some ⟨b, 0, none⟩) p.on.length p.on.length, .int .i64 cm]).setRow (w.heap.size + 1 + 1) #[.int .i64 0, .int .i64 0]) b (iC (p.on.map (cst p))) ∧ w.heap.size ≤ b) := ⟨Rf.same HR6.out (hk2 _ HF6.out.2.2.2.2) (by simp), by have := HF6.out.2.2.2.2; omega⟩
        clear hS hk1 hk2 hB1 hB2 hBd HSS HF6 HB6 HW6 HR6
        generalize ((W6.drew.setRow (w.heap.size + 1) #[.slice (some ⟨b, 0, none⟩) p.on.length p.on.length, .int .i64 cm]).setRow (w.heap.size + 1 + 1) #[.int .i64 0, .int .i64 0]) = W7 at *
        obtain ⟨y0, y1⟩ := cells2 HB7.out.h1
        obtain ⟨z0, z1⟩ := cells2 HB7.out.h2
        go_wp2_with fail
        refine bodyPost_ret (v := .tuple #[.slice (some ⟨gb, 0, none⟩) p.cd.length p.cd.length, .agg #[.slice (some ⟨b, 0, none⟩) p.on.length p.on.length, .int .i64 cm], .agg #[.int .i64 0, .int .i64 0]]) (by simp [results, Tryd.results19, go_sem, y0, y1, z0, z1]) rfl ?_
        refine ⟨HB7.out.bel, fun e n hj => ?_, fun g hj => ?_⟩
        · rw [HJ3.out] at hj
          cases hj
        · rw [HJ3.out] at hj
          cases hj
          exact ⟨gb, b, by rw [hcm], HG7.out.2, HG7.out.1, HIn.out, HR7.out.2, HR7.out.1⟩
  · have HJ2 : Hid (judge p = .error (ck, 0)) := HJ.out.trans (if_neg (by omega))
    have hz1 : (0 : Int) < (ck : Int) := by omega
    have hz2 : (ck : Int) ≠ 0 := by omega
    have fz1 : ∀ j, w1.frozen? ⟨w.heap.size + 1, j, none⟩ = false := fun j => by have := HB1.out.h1; simp only [World.frozen?, this]; rfl
    have fz2 : ∀ j, w1.frozen? ⟨w.heap.size + 1 + 1, j, none⟩ = false := fun j => by have := HB1.out.h2; simp only [World.frozen?, this]; rfl
    clear HJ HNw HOk HEf HPg
    go_wp2_with fail
    have HBe : Hid (Below w.heap.size w ((((w1.setCell ⟨w.heap.size + 1, 0, none⟩ (.slice none 0 0)).setCell ⟨w.heap.size + 1, 1, none⟩ (.int .i64 0)).setCell ⟨w.heap.size + 1 + 1, 0, none⟩ (.int .i64 (ck : Int))).setCell ⟨w.heap.size + 1 + 1, 1, none⟩ (.int .i64 0))) := (((HB1.out.bel.setCell (by show _ ≤ _ + 1; omega) _).setCell (by show _ ≤ _ + 1; omega) _).setCell (by show _ ≤ _ + 1 + 1; omega) _).setCell (by show _ ≤ _ + 1 + 1; omega) _
    refine bodyPost_ret (v := .tuple #[.slice none 0 0, .agg #[.slice none 0 0, .int .i64 0], .agg #[.int .i64 (ck : Int), .int .i64 0]]) (by simp [results, Tryd.results19, go_sem, y0, y1, z0, z1]) rfl ?_
    refine ⟨HBe.out, fun e n hj => ?_, fun g hj => ?_⟩
    · rw [HJ2.out] at hj
      cases hj
      rfl
    · rw [HJ2.out] at hj
      cases hj
end Go.Proofs.YtelbakkgobkdaaaDoor.Vf
