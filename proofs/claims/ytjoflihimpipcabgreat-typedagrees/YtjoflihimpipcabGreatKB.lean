import Derived.Test.YtjoflihimpipcabGreatKA
import Derived.Test.YtjoflihimpipcabGreatK43
set_option maxHeartbeats 25600000
set_option maxRecDepth 100000
namespace Go.Proofs.YtjoflihimpipcabGreat.Nm.Ty.Ag
open Go.RowKit Go.Maps Go.Proofs.YtjoflihimpipcabGreat.Sp Go.Proofs.YtjoflihimpipcabGreat.Lx Go.Proofs.YtjoflihimpipcabGreat.Gr Go.Proofs.YtjoflihimpipcabGreat.Nm Go.Proofs.YtjoflihimpipcabGreat.Nm.Ty
theorem nats_iv {w : World} {uo : Option Addr} {us : List Nat} (h : IsNats w uo us) : IsVals w uo (iv (us.map fun n : Nat => (n : Int))) := fun k x hx => by
  simp only [iv, List.map_map, List.getElem?_map] at hx
  cases hu : us[k]? with
  | none => rw [hu] at hx; cases hx
  | some u =>
    rw [hu] at hx
    cases hx
    exact h k u hu
/-- a policy that was told can be read -/
theorem told_rd {w : World} {base : Nat} {v : Value} {p : Pl} (h : IsPl w base v p) : ∃ ao qo vo tto uo oo ac qc vc tc uc oc, v = pvG p.g ao qo vo tto uo oo ac qc vc tc uc oc ∧ (ao = none → ac = 0) ∧ RdG w p.g ao qo vo tto uo oo := by
  obtain ⟨rb, qo, vo, tto, uo, oo, ac, qc, vc, tc, uc, oc, hv0, hrw, hrd, hnat, huc⟩ := h.rd
  refine ⟨some ⟨rb, 0, none⟩, qo, vo, tto, uo, oo, ac, qc, vc, tc, uc, oc, ?_, nofun, ⟨hrd.r, hrd.q, hrd.v, hrd.t, nats_iv hnat, hrd.o⟩⟩
  rw [hv0]
  simp [pv, pvG, Pl.g]
/-- the law at work: its boxes; all that was when the policy had been told is as it was -/
structure Zw (w3 W : World) (pc : Array Value) (fe fa : Int) : Prop where
  p : W.heap[w3.heap.size]? = some (.cells pc 30 (0, 0))
  f : W.heap[w3.heap.size + 1]? = some (.cells #[.int .i64 fe, .int .i64 fa] 33 (0, 0))
  be : Below w3.heap.size w3 W
theorem Zw.below {w3 W W' : World} {pc : Array Value} {fe fa : Int} (h : Zw w3 W pc fe fa) (hb : Below W.heap.size W W') : Zw w3 W' pc fe fa := ⟨(hb.block _ (blk_lt h.p)).trans h.p, (hb.block _ (blk_lt h.f)).trans h.f, h.be.trans (hb.mono h.be.size)⟩
theorem Zw.put {w3 W : World} {pc : Array Value} {fe fa : Int} (h : Zw w3 W pc fe fa) (e a : Int) : Zw w3 ((W.setCell ⟨w3.heap.size + 1, 0, none⟩ (.int .i64 e)).setCell ⟨w3.heap.size + 1, 1, none⟩ (.int .i64 a)) pc e a ∧ ∀ k, k ≠ w3.heap.size + 1 → ((W.setCell ⟨w3.heap.size + 1, 0, none⟩ (.int .i64 e)).setCell ⟨w3.heap.size + 1, 1, none⟩ (.int .i64 a)).heap[k]? = W.heap[k]? := by
  obtain ⟨c1, c2, c3⟩ := put2M (v0 := .int .i64 e) (v1 := .int .i64 a) h.be (Nat.le_succ _) h.f
  exact ⟨⟨(c3 _ (by omega)).trans h.p, c1, c2⟩, c3⟩
theorem fit_rng {gh : Nat → Bool} {nq : Nat} {size : Int} {cs : Nat → Int} {nc : Nat} (h : fitE gh nq size cs nc = 0) : (0 ≤ size ∧ size ≤ 1048576) ∧ nc = nq ∧ ∀ k, k < nc → 0 ≤ cs k ∧ cs k ≤ 1048576 := by
  unfold fitE at h
  split at h
  · rename_i h1
    exact ⟨⟨by have := h1.1; omega, h1.2.1⟩, h1.2.2.1, fun k hk => by have := h1.2.2.2.1 k hk; unfold okC at this; omega⟩
  · omega
/-- Types of a policy, in one form -/
theorem types_bad {P : Pg} {ao qo vo tto uo oo : Option Addr} {ac qc vc tc uc oc : Nat} {w : World} (h : RdG w P ao qo vo tto uo oo) (hs : P.Sm) (hnil : ao = none → ac = 0) (hok : IsOk P) (hR : Rdy P) (hf : (fltN P.rows (ghL P.qs) P.rows.length).1 ≠ 0) :
    Calls Tryz.prog 13 #[.agg #[.string P.name, .slice ao P.rows.length ac, .slice qo P.qs.length qc, .slice vo P.vs.length vc, .slice tto P.ts.length tc, .slice uo P.us.length uc, .slice oo P.on.length oc, .int .i64 P.miss]] w fun e w' => e = .returned (.tuple #[pz, .agg #[.int .i64 ((fltN P.rows (ghL P.qs) P.rows.length).1 : Int), .int .i64 ((fltN P.rows (ghL P.qs) P.rows.length).2 : Int)]]) ∧ Below w.heap.size w w' := by
  refine Calls.mono (typesF_any h hs hnil (fun _ => hR)) ?_
  rintro e w' ⟨hb, ⟨h1, _⟩ | ⟨_, _, h1⟩ | ⟨_, h1, _⟩⟩
  · exact absurd hok h1
  · exact ⟨h1, hb⟩
  · exact absurd h1 hf
theorem types_good {P : Pg} {ao qo vo tto uo oo : Option Addr} {ac qc vc tc uc oc : Nat} {w : World} (h : RdG w P ao qo vo tto uo oo) (hs : P.Sm) (hnil : ao = none → ac = 0) (hok : IsOk P) (hR : Rdy P) (hf : (fltN P.rows (ghL P.qs) P.rows.length).1 = 0) :
    Calls Tryz.prog 13 #[.agg #[.string P.name, .slice ao P.rows.length ac, .slice qo P.qs.length qc, .slice vo P.vs.length vc, .slice tto P.ts.length tc, .slice uo P.us.length uc, .slice oo P.on.length oc, .int .i64 P.miss]] w fun e w' => ∃ g, e = .returned (.tuple #[.slice (some ⟨g, 0, none⟩) P.rows.length P.rows.length, .agg #[.int .i64 0, .int .i64 0]]) ∧ w.heap.size ≤ g ∧ RowI w' g P.rows.length (fun i => (rP P.rows i).is) ∧ Below w.heap.size w w' := by
  refine Calls.mono (typesF_any h hs hnil (fun _ => hR)) ?_
  rintro e w' ⟨hb, ⟨h1, _⟩ | ⟨_, h1, _⟩ | ⟨_, _, g, h1, h2, h3⟩⟩
  · exact absurd hok h1
  · exact absurd hf h1
  · exact ⟨g, h1, h2, h3, hb⟩
theorem agreesWalk (ro : Option Addr) (l : List Rz) (rcap : Nat) (csz : Int) (co : Option Addr) (ql : List Int) (cc : Nat) (w : World) (h : IsRz w ro l) (hl : l.length ≤ 2932031007317) (hq : IsVals w co (iv ql)) (hql : ql.length ≤ 17592186043904) (hqi : ∀ n ∈ ql, in64 n) (hcsz : in64 csz) :
    Calls Tryz.prog 4 #[.slice ro l.length rcap, .agg #[.int .i64 csz, .slice co ql.length cc]] w fun e w' => e = .returned (.bool true) ∧ Below w.heap.size w w' := by
  have hb1 : Below w.heap.size w (w.alloc (.cells #[.int .i64 csz, .slice co ql.length cc] 25)) := (Below.refl _ w).alloc (Nat.le_refl _) _
  have HB1 := show Hid _ from hb1
  have HX1 := show Hid _ from heap_alloc_new w (.cells #[.int .i64 csz, .slice co ql.length cc] 25)
  have HKn := show Hid _ from known_any (w.alloc (.cells #[.int .i64 csz, .slice co ql.length cc] 25))
  have HR : Hid (IsRz w ro l ∧ l.length ≤ 2932031007317) := ⟨h, hl⟩
  have HQ : Hid (IsVals w co (iv ql) ∧ ql.length ≤ 17592186043904 ∧ (∀ n ∈ ql, in64 n) ∧ in64 csz) := ⟨hq, hql, hqi, hcsz⟩
  clear h hl hq hql hqi hcsz hb1
  go_enter Tryz.func4, Tryz.ntmps4
  go_wp2_with fail
  generalize (w.alloc (.cells #[.int .i64 csz, .slice co ql.length cc] 25)) = w1 at *
  refine Calls.mono HKn.out ?_
  rintro e w2 ⟨rfl, hb2⟩
  have HB2 : Hid (Below w.heap.size w w2) := HB1.out.trans (hb2.mono HB1.out.size)
  have HX2 : Hid (w2.heap[w.heap.size]? = some (.cells #[.int .i64 csz, .slice co ql.length cc] 25 (0, 0))) := (hb2.block _ (blk_lt HX1.out)).trans HX1.out
  have HRs := show Hid _ from resolve_any (cap := rcap) (HR.out.1.below HB2.out) HR.out.2
  clear hb2 HKn HB1 HX1
  go_wp2_with fail
  refine Calls.mono HRs.out ?_
  rintro e w3 hT
  clear HRs
  cases hres : res l with
  | error ci =>
    rw [hres] at hT
    obtain ⟨hb3, rfl⟩ := hT
    obtain ⟨c1, c2⟩ := ci
    have hp := res_pos hres
    dsimp only at hp ⊢
    have hc0 : ¬ c1 = 0 := by omega
    have HB3 : Hid (Below w.heap.size w ((w3.alloc (.cells #[.string ⟨#[]⟩, pz, pz, pz, pz, pz, pz, .int .i64 0] 30)).alloc (.cells #[.int .i64 (c1 : Int), .int .i64 (c2 : Int)] 33))) := (HB2.out.trans (hb3.mono HB2.out.size)).trans ((((Below.refl _ w3).alloc (Nat.le_refl _) _).alloc (by simp) _).mono (HB2.out.trans (hb3.mono HB2.out.size)).size)
    clear hb3 hp hres
    go_wp2_with fail
    go_ret
    exact ⟨rfl, HB3.out⟩
  | ok p =>
    rw [hres] at hT
    obtain ⟨hb3, v, rfl, hpl⟩ := hT
    obtain ⟨ao, qo, vo, tto, uo, oo, ac, qc, vc, tc, uc, oc, hv, hnil, hrd⟩ := told_rd hpl
    have hsm := (res_sm HR.out.2 hres).1
    have hok : IsOk p.g := ⟨p, by show res (p.rows.map unn) = _; rw [res_back hres]; exact hres, rfl⟩
    have HP : Hid (p.g.Sm ∧ IsOk p.g ∧ Rdy p.g ∧ Rdc p.g ∧ (ao = none → ac = 0)) := ⟨hsm, hok, (rdy_of hsm hok).1, (rdy_of hsm hok).2, hnil⟩
    have t8 := res_told8 hres
    have HMn : Hid (∀ i, i < p.g.rows.length → (rat p.g.rows i).kind = 5 ∨ (rat p.g.rows i).kind = 6 ∨ (rat p.g.rows i).kind = 13 → 0 < km p.g.rows i) := fun i hi hk => by
      have h1 := (t8.kids i hi).1
      have h2 : 0 < least (rat p.rows i).kind := by
        have hk' : (rat p.rows i).kind = 5 ∨ (rat p.rows i).kind = 6 ∨ (rat p.rows i).kind = 13 := hk
        rcases hk' with e | e | e <;> rw [e] <;> decide
      show 0 < km p.rows i
      omega
    have HNm : Hid (∀ i, i < p.g.rows.length → 0 ≤ (rat p.g.rows i).n ∧ (rat p.g.rows i).n ≤ 1073741824) := t8.num
    have HCt : Hid (p.g.vs.length = cntK p.g.rows 4 p.g.rows.length ∧ p.g.ts.length = cntK p.g.rows 5 p.g.rows.length ∧ (rat p.g.rows 0).kind = 1) := res_cnt hres
    have hB3 := HB2.out.trans (hb3.mono HB2.out.size)
    have H3 : Hid (RdG w3 p.g ao qo vo tto uo oo ∧ IsVals w3 co (iv ql) ∧ w3.heap[w.heap.size]? = some (.cells #[.int .i64 csz, .slice co ql.length cc] 25 (0, 0)) ∧ Below w.heap.size w w3) := ⟨hrd, HQ.out.1.below hB3, (hb3.block _ (blk_lt HX2.out)).trans HX2.out, hB3⟩
    subst hv
    clear hsm hok hnil hpl hres t8 hrd hB3 hb3 HB2 HX2 HR
    generalize p.g = P at *
    have hb4 : Below w3.heap.size w3 ((w3.alloc (.cells #[.string P.name, .slice ao P.rows.length ac, .slice qo P.qs.length qc, .slice vo P.vs.length vc, .slice tto P.ts.length tc, .slice uo P.us.length uc, .slice oo P.on.length oc, .int .i64 P.miss] 30)).alloc (.cells #[.int .i64 0, .int .i64 0] 33)) := ((Below.refl _ w3).alloc (Nat.le_refl _) _).alloc (by simp) _
    have HZ4 : Hid (Zw w3 ((w3.alloc (.cells #[.string P.name, .slice ao P.rows.length ac, .slice qo P.qs.length qc, .slice vo P.vs.length vc, .slice tto P.ts.length tc, .slice uo P.us.length uc, .slice oo P.on.length oc, .int .i64 P.miss] 30)).alloc (.cells #[.int .i64 0, .int .i64 0] 33)) #[.string P.name, .slice ao P.rows.length ac, .slice qo P.qs.length qc, .slice vo P.vs.length vc, .slice tto P.ts.length tc, .slice uo P.us.length uc, .slice oo P.on.length oc, .int .i64 P.miss] 0 0) := ⟨by rw [alloc_old _ _ _ (by simp)]; exact alloc_at _ _ _ rfl, alloc_at _ _ _ (by simp), hb4⟩
    have HCc : Hid (∀ W : World, Below w3.heap.size w3 W → W.heap[w.heap.size]? = some (.cells #[.int .i64 csz, .slice co ql.length cc] 25 (0, 0))) := fun W hW => (hW.block _ (blk_lt H3.out.2.2.1)).trans H3.out.2.2.1
    have HT1 : Hid (∀ W : World, Below w3.heap.size w3 W → Calls Tryz.prog 10 #[.agg #[.string P.name, .slice ao P.rows.length ac, .slice qo P.qs.length qc, .slice vo P.vs.length vc, .slice tto P.ts.length tc, .slice uo P.us.length uc, .slice oo P.on.length oc, .int .i64 P.miss], .agg #[.int .i64 csz, .slice co ql.length cc]] W fun e w' => Below W.heap.size W w' ∧ ∃ v1 t1 r1 c1 c2 c3, e = .returned (.tuple #[.agg #[.slice v1 (chkO P csz (fun i => ql.getD i 0) ql.length).vs.length c1, .slice t1 (chkO P csz (fun i => ql.getD i 0) ql.length).ts.length c2, .slice r1 (chkO P csz (fun i => ql.getD i 0) ql.length).rl.length c3], .agg #[.int .i64 (chkO P csz (fun i => ql.getD i 0) ql.length).e, .int .i64 (chkO P csz (fun i => ql.getD i 0) ql.length).a]]) ∧ IsVals w' v1 (vC (chkO P csz (fun i => ql.getD i 0) ql.length).vs) ∧ IsVals w' t1 (iv (chkO P csz (fun i => ql.getD i 0) ql.length).ts) ∧ IsVals w' r1 (iv (chkO P csz (fun i => ql.getD i 0) ql.length).rl) ∧ ∀ a, v1 = some a ∨ t1 = some a ∨ r1 = some a → W.heap.size ≤ a.block) := fun W hW => tcheck_out (H3.out.1.below hW) HP.out.1 HP.out.2.2.2.2 HP.out.2.1 HP.out.2.2.1 HP.out.2.2.2.1 (by have h1 := IsVals.below H3.out.2.1 hW; rw [iv_fL] at h1; exact h1) HQ.out.2.1 HQ.out.2.2.2 (in_getD HQ.out.2.2.1)
    obtain ⟨f0, f1⟩ := cells2 HZ4.out.f
    obtain ⟨k0, k1, k2, k3, k4, k5, k6, k7⟩ := pol8 HZ4.out.p
    dsimp only [pvG] at *
    clear hb4
    by_cases hf : (fltN P.rows (ghL P.qs) P.rows.length).1 = 0
    · have HTy := show Hid _ from types_good (qc := qc) (vc := vc) (tc := tc) (uc := uc) (oc := oc) (H3.out.1.below HZ4.out.be) HP.out.1 HP.out.2.2.2.2 HP.out.2.1 HP.out.2.2.1 hf
      have hru : ruZ P csz (fun i => ql.getD i 0) ql.length = (fitE (ghL P.qs) P.qs.length csz (fun i => ql.getD i 0) ql.length, 0) := if_pos hf
      have HF1 : Hid (∀ W : World, Below w3.heap.size w3 W → Calls Tryz.prog 11 #[.agg #[.string P.name, .slice ao P.rows.length ac, .slice qo P.qs.length qc, .slice vo P.vs.length vc, .slice tto P.ts.length tc, .slice uo P.us.length uc, .slice oo P.on.length oc, .int .i64 P.miss], .agg #[.int .i64 csz, .slice co ql.length cc]] W fun e w' => e = .returned (.agg #[.int .i64 (fitE (ghL P.qs) P.qs.length csz (fun i => ql.getD i 0) ql.length), .int .i64 0]) ∧ Below W.heap.size W w') := fun W hW => Calls.mono (fit_any (H3.out.1.below hW) HP.out.1 HP.out.2.2.2.2 (by have h1 := IsVals.below H3.out.2.1 hW; rw [iv_fL] at h1; exact h1) HQ.out.2.1) (by
        rintro e w' ⟨hb, ⟨h1, _⟩ | ⟨_, h1⟩⟩
        · exact absurd HP.out.2.1 h1
        · exact ⟨h1, hb⟩)
      obtain ⟨V, hV⟩ : ∃ V, V = vB P.rows csz (fun i => ql.getD i 0) P.rows.length := ⟨_, rfl⟩
      have HOp : Hid ((fitE (ghL P.qs) P.qs.length csz (fun i => ql.getD i 0) ql.length ≠ 0 ∧ (chkO P csz (fun i => ql.getD i 0) ql.length).e = 45 ∧ (chkO P csz (fun i => ql.getD i 0) ql.length).a = 0 ∧ fitE (ghL P.qs) P.qs.length csz (fun i => ql.getD i 0) ql.length = 45) ∨ (fitE (ghL P.qs) P.qs.length csz (fun i => ql.getD i 0) ql.length = 0 ∧ ((chkO P csz (fun i => ql.getD i 0) ql.length).e = 43 ∨ (chkO P csz (fun i => ql.getD i 0) ql.length).e = 44) ∧ 0 < (chkO P csz (fun i => ql.getD i 0) ql.length).a ∧ (chkO P csz (fun i => ql.getD i 0) ql.length).a < (P.rows.length : Int)) ∨ (fitE (ghL P.qs) P.qs.length csz (fun i => ql.getD i 0) ql.length = 0 ∧ (chkO P csz (fun i => ql.getD i 0) ql.length) = ⟨0, 0, setV P.rows V P.rows.length, setT P.rows V P.rows.length, (List.range P.rows.length).map (setR P.rows V P.rows.length)⟩ ∧ (setN P.rows V P.rows.length).1 = 0)) := by
        show _ ∨ _ ∨ _
        subst hV
        unfold chkO
        rw [hru]
        dsimp only
        have h1 := fitE_codes (ghL P.qs) P.qs.length csz (fun i => ql.getD i 0) ql.length
        by_cases h0 : fitE (ghL P.qs) P.qs.length csz (fun i => ql.getD i 0) ql.length = 0
        · rw [if_neg (fun h => h h0)]
          by_cases hs : (setN P.rows (vB P.rows csz (fun i => ql.getD i 0) P.rows.length) P.rows.length).1 = 0
          · rw [if_neg (fun h => h hs)]
            exact Or.inr (Or.inr ⟨h0, rfl, hs⟩)
          · rw [if_pos hs]
            have h2 := setN_codes P.rows (vB P.rows csz (fun i => ql.getD i 0) P.rows.length) P.rows.length
            have h3 := setN_pos (v := vB P.rows csz (fun i => ql.getD i 0) P.rows.length) HCt.out.2.2 P.rows.length hs
            exact Or.inr (Or.inl ⟨h0, by dsimp only; omega, by dsimp only; omega, by dsimp only; omega⟩)
        · rw [if_pos h0]
          exact Or.inl ⟨h0, by show fitE (ghL P.qs) P.qs.length csz (fun i => ql.getD i 0) ql.length = 45; omega, rfl, by omega⟩
      have HCn : Hid (fitE (ghL P.qs) P.qs.length csz (fun i => ql.getD i 0) ql.length = 0 → ∀ (W : World) (row a b c : Int), Below w3.heap.size w3 W → conZ P.rows V row = (a, b, c) → Calls Tryz.prog 14 #[.agg #[.string P.name, .slice ao P.rows.length ac, .slice qo P.qs.length qc, .slice vo P.vs.length vc, .slice tto P.ts.length tc, .slice uo P.us.length uc, .slice oo P.on.length oc, .int .i64 P.miss], .agg #[.int .i64 csz, .slice co ql.length cc], .int .i64 row] W fun e w' => e = .returned (.tuple #[.int .i64 a, .agg #[.int .i64 b, .int .i64 c]]) ∧ Below W.heap.size W w') := fun h0 W row a b c hW hz => tconst_out (H3.out.1.below hW) HP.out.1 HP.out.2.2.2.2 HP.out.2.1 HP.out.2.2.1 HP.out.2.2.2.1 (by have h1 := IsVals.below H3.out.2.1 hW; rw [iv_fL] at h1; exact h1) HQ.out.2.1 HQ.out.2.2.2 (in_getD HQ.out.2.2.1) (by rw [hru]; exact h0) (by rw [← hV]; exact hz)
      have HRg : Hid (fitE (ghL P.qs) P.qs.length csz (fun i => ql.getD i 0) ql.length = 0 → ∀ j, j < P.rows.length → Rng (rP P.rows j).is (V j)) := fun h0 j hj => by
        have h1 := fit_rng h0
        rw [hV]
        exact vB_rng HP.out.2.2.1.t.whole hf h1.1 HNm.out (fun i hi hk => by
          obtain ⟨m, hm, hml⟩ := HP.out.2.2.2.1.c i hi hk
          rw [hm, Int.toNat_natCast]
          exact h1.2.2 m (by rw [h1.2.1]; exact hml)) _ j (Nat.le_refl _) hj
      have HNu : Hid (fitE (ghL P.qs) P.qs.length csz (fun i => ql.getD i 0) ql.length = 0 → (setN P.rows V P.rows.length).1 = 0 → ∀ (W : World) (v1 t1 r1 : Option Addr) (c1 c2 c3 : Nat), Below w3.heap.size w3 W → IsVals W v1 (vC (setV P.rows V P.rows.length)) → IsVals W t1 (iv (setT P.rows V P.rows.length)) → IsVals W r1 (iv ((List.range P.rows.length).map (setR P.rows V P.rows.length))) → Calls Tryz.prog 15 #[.agg #[.string P.name, .slice ao P.rows.length ac, .slice qo P.qs.length qc, .slice vo P.vs.length vc, .slice tto P.ts.length tc, .slice uo P.us.length uc, .slice oo P.on.length oc, .int .i64 P.miss], .agg #[.int .i64 csz, .slice co ql.length cc], .agg #[.slice v1 (setV P.rows V P.rows.length).length c1, .slice t1 (setT P.rows V P.rows.length).length c2, .slice r1 P.rows.length c3]] W fun e w' => e = .returned (.bool true) ∧ Below W.heap.size W w') := fun h0 hsn W v1 t1 r1 c1 c2 c3 hW h1 h2 h3 => numbers_any (H3.out.1.below hW) HP.out.1 HP.out.2.2.2.2 HP.out.2.1 HP.out.2.2.1 HP.out.2.2.2.1 (by have h1 := IsVals.below H3.out.2.1 hW; rw [iv_fL] at h1; exact h1) HQ.out.2.1 HQ.out.2.2.2 (in_getD HQ.out.2.2.1) (by rw [hru]; exact h0) hV.symm hf (HRg.out h0) hsn HMn.out h1 h2 h3
      have hln : (P.rows.length : Int) ≤ 2932031007317 := by have := HP.out.1.r; omega
      clear hru hf
      generalize (chkO P csz (fun i => ql.getD i 0) ql.length) = o at *
      generalize fitE (ghL P.qs) P.qs.length csz (fun i => ql.getD i 0) ql.length = F at *
      clear hV
      go_wp2_with fail
      generalize ((w3.alloc (.cells #[.string P.name, .slice ao P.rows.length ac, .slice qo P.qs.length qc, .slice vo P.vs.length vc, .slice tto P.ts.length tc, .slice uo P.us.length uc, .slice oo P.on.length oc, .int .i64 P.miss] 30)).alloc (.cells #[.int .i64 0, .int .i64 0] 33)) = w4 at *
      refine Calls.mono HTy.out ?_
      rintro e w5 ⟨g, rfl, hg, hrow, hb5⟩
      have hL4 : w3.heap.size + 1 < w4.heap.size := blk_lt HZ4.out.f
      obtain ⟨hZ6, h6k⟩ := (HZ4.out.below hb5).put 0 0
      have HRow6 : Hid (RowI ((w5.setCell ⟨w3.heap.size + 1, 0, none⟩ (.int .i64 0)).setCell ⟨w3.heap.size + 1, 1, none⟩ (.int .i64 0)) g P.rows.length (fun i => (rP P.rows i).is)) := hrow.of_block (h6k g (by omega))
      clear f0 f1 k0 k1 k2 k3 k4 k5 k6 k7 HTy
      obtain ⟨f0, f1⟩ := cells2 (HZ4.out.below hb5).f
      have ff : ∀ j, w5.frozen? ⟨w3.heap.size + 1, j, none⟩ = false := fun j => by have := (HZ4.out.below hb5).f; simp only [World.frozen?, this]; rfl
      have HZ6 := show Hid _ from hZ6
      obtain ⟨k0, k1, k2, k3, k4, k5, k6, k7⟩ := pol8 hZ6.p
      obtain ⟨d0, d1⟩ := cells2 (HCc.out _ hZ6.be)
      have HC1 := show Hid _ from HT1.out _ hZ6.be
      clear hZ6 h6k hb5 HT1 hrow hg hL4
      go_wp2_with fail
      generalize ((w5.setCell ⟨w3.heap.size + 1, 0, none⟩ (.int .i64 0)).setCell ⟨w3.heap.size + 1, 1, none⟩ (.int .i64 0)) = w6 at *
      refine Calls.mono HC1.out ?_
      rintro e w7 ⟨hb7, v1, t1, r1, c1, c2, c3, rfl, hv1, ht1, hr1, -⟩
      clear f0 f1 k0 k1 k2 k3 k4 k5 k6 k7 d0 d1 ff HC1
      have hb8 : Below w7.heap.size w7 ((w7.alloc (.cells #[.slice v1 o.vs.length c1, .slice t1 o.ts.length c2, .slice r1 o.rl.length c3] 40)).alloc (.cells #[.int .i64 o.e, .int .i64 o.a] 33)) := ((Below.refl _ w7).alloc (Nat.le_refl _) _).alloc (by simp) _
      have HZ8 := show Hid _ from (HZ6.out.below hb7).below hb8
      have HRow8 : Hid (RowI ((w7.alloc (.cells #[.slice v1 o.vs.length c1, .slice t1 o.ts.length c2, .slice r1 o.rl.length c3] 40)).alloc (.cells #[.int .i64 o.e, .int .i64 o.a] 33)) g P.rows.length (fun i => (rP P.rows i).is)) := ((HRow6.out.below hb7 HRow6.out.lt).below hb8 (by have := HRow6.out.lt; have := hb7.size; omega))
      have HV8 : Hid (IsVals ((w7.alloc (.cells #[.slice v1 o.vs.length c1, .slice t1 o.ts.length c2, .slice r1 o.rl.length c3] 40)).alloc (.cells #[.int .i64 o.e, .int .i64 o.a] 33)) v1 (vC o.vs) ∧ IsVals ((w7.alloc (.cells #[.slice v1 o.vs.length c1, .slice t1 o.ts.length c2, .slice r1 o.rl.length c3] 40)).alloc (.cells #[.int .i64 o.e, .int .i64 o.a] 33)) t1 (iv o.ts) ∧ IsVals ((w7.alloc (.cells #[.slice v1 o.vs.length c1, .slice t1 o.ts.length c2, .slice r1 o.rl.length c3] 40)).alloc (.cells #[.int .i64 o.e, .int .i64 o.a] 33)) r1 (iv o.rl)) := ⟨hv1.below hb8, ht1.below hb8, hr1.below hb8⟩
      have HT8 : Hid (((w7.alloc (.cells #[.slice v1 o.vs.length c1, .slice t1 o.ts.length c2, .slice r1 o.rl.length c3] 40)).alloc (.cells #[.int .i64 o.e, .int .i64 o.a] 33)).heap[w7.heap.size]? = some (.cells #[.slice v1 o.vs.length c1, .slice t1 o.ts.length c2, .slice r1 o.rl.length c3] 40 (0, 0)) ∧ ((w7.alloc (.cells #[.slice v1 o.vs.length c1, .slice t1 o.ts.length c2, .slice r1 o.rl.length c3] 40)).alloc (.cells #[.int .i64 o.e, .int .i64 o.a] 33)).heap[w7.heap.size + 1]? = some (.cells #[.int .i64 o.e, .int .i64 o.a] 33 (0, 0))) := ⟨by rw [alloc_old _ _ _ (by simp)]; exact alloc_at _ _ _ rfl, alloc_at _ _ _ (by simp)⟩
      obtain ⟨f0, f1⟩ := cells2 HZ8.out.f
      obtain ⟨k0, k1, k2, k3, k4, k5, k6, k7⟩ := pol8 HZ8.out.p
      obtain ⟨d0, d1⟩ := cells2 (HCc.out _ HZ8.out.be)
      have HFc := show Hid _ from HF1.out _ HZ8.out.be
      clear hb7 hb8 hv1 ht1 hr1 HZ6 HRow6
      go_wp2_with fail
      generalize ((w7.alloc (.cells #[.slice v1 o.vs.length c1, .slice t1 o.ts.length c2, .slice r1 o.rl.length c3] 40)).alloc (.cells #[.int .i64 o.e, .int .i64 o.a] 33)) = w8 at *
      generalize w7.heap.size = B7 at *
      refine Calls.mono HFc.out ?_
      rintro e w9 ⟨rfl, hb9⟩
      have HZ9 := show Hid _ from HZ8.out.below hb9
      have HRow9 : Hid (RowI w9 g P.rows.length (fun i => (rP P.rows i).is)) := HRow8.out.below hb9 HRow8.out.lt
      have HV9 : Hid (IsVals w9 v1 (vC o.vs) ∧ IsVals w9 t1 (iv o.ts) ∧ IsVals w9 r1 (iv o.rl)) := ⟨HV8.out.1.below hb9, HV8.out.2.1.below hb9, HV8.out.2.2.below hb9⟩
      have HT9 : Hid (w9.heap[B7]? = some (.cells #[.slice v1 o.vs.length c1, .slice t1 o.ts.length c2, .slice r1 o.rl.length c3] 40 (0, 0)) ∧ w9.heap[B7 + 1]? = some (.cells #[.int .i64 o.e, .int .i64 o.a] 33 (0, 0))) := ⟨(hb9.block _ (blk_lt HT8.out.1)).trans HT8.out.1, (hb9.block _ (blk_lt HT8.out.2)).trans HT8.out.2⟩
      have HB9 : Hid (Below w.heap.size w w9) := H3.out.2.2.2.trans (HZ9.out.be.mono H3.out.2.2.2.size)
      clear f0 f1 k0 k1 k2 k3 k4 k5 k6 k7 d0 d1 hb9 HFc HZ8 HRow8 HV8 HT8
      rcases HOp.out with ⟨hF, he, ha, rfl⟩ | hO
      · clear hF HCn HRg HNu HOp
        rw [he, ha] at HT9
        obtain ⟨p0, p1, p2, p3, p4, p5, p6, p7⟩ := pol8 HZ9.out.p
        obtain ⟨m0, m1⟩ := cells2 (HCc.out _ HZ9.out.be)
        obtain ⟨g0, g1⟩ := cells2 HT9.out.2
        have lp := blk_lt HZ9.out.p
        have lc := blk_lt (HCc.out _ HZ9.out.be)
        have lg := blk_lt HT9.out.2
        have yp0 : ∀ y : Kin w9, y.u.cell? ⟨w3.heap.size, 0, none⟩ = some (.string P.name) := fun y => y.cell (a := ⟨w3.heap.size, 0, none⟩) lp p0
        have yp1 : ∀ y : Kin w9, y.u.cell? ⟨w3.heap.size, 1, none⟩ = some (.slice ao P.rows.length ac) := fun y => y.cell (a := ⟨w3.heap.size, 1, none⟩) lp p1
        have yp2 : ∀ y : Kin w9, y.u.cell? ⟨w3.heap.size, 2, none⟩ = some (.slice qo P.qs.length qc) := fun y => y.cell (a := ⟨w3.heap.size, 2, none⟩) lp p2
        have yp3 : ∀ y : Kin w9, y.u.cell? ⟨w3.heap.size, 3, none⟩ = some (.slice vo P.vs.length vc) := fun y => y.cell (a := ⟨w3.heap.size, 3, none⟩) lp p3
        have yp4 : ∀ y : Kin w9, y.u.cell? ⟨w3.heap.size, 4, none⟩ = some (.slice tto P.ts.length tc) := fun y => y.cell (a := ⟨w3.heap.size, 4, none⟩) lp p4
        have yp5 : ∀ y : Kin w9, y.u.cell? ⟨w3.heap.size, 5, none⟩ = some (.slice uo P.us.length uc) := fun y => y.cell (a := ⟨w3.heap.size, 5, none⟩) lp p5
        have yp6 : ∀ y : Kin w9, y.u.cell? ⟨w3.heap.size, 6, none⟩ = some (.slice oo P.on.length oc) := fun y => y.cell (a := ⟨w3.heap.size, 6, none⟩) lp p6
        have yp7 : ∀ y : Kin w9, y.u.cell? ⟨w3.heap.size, 7, none⟩ = some (.int .i64 P.miss) := fun y => y.cell (a := ⟨w3.heap.size, 7, none⟩) lp p7
        have yg0 : ∀ y : Kin w9, y.u.cell? ⟨B7 + 1, 0, none⟩ = some (.int .i64 45) := fun y => y.cell (a := ⟨B7 + 1, 0, none⟩) lg g0
        have yg1 : ∀ y : Kin w9, y.u.cell? ⟨B7 + 1, 1, none⟩ = some (.int .i64 0) := fun y => y.cell (a := ⟨B7 + 1, 1, none⟩) lg g1
        have ym0 : ∀ y : Kin w9, y.u.cell? ⟨w.heap.size, 0, none⟩ = some (.int .i64 csz) := fun y => y.cell (a := ⟨w.heap.size, 0, none⟩) lc m0
        have ym1 : ∀ y : Kin w9, y.u.cell? ⟨w.heap.size, 1, none⟩ = some (.slice co ql.length cc) := fun y => y.cell (a := ⟨w.heap.size, 1, none⟩) lc m1
        have HFa := show Hid _ from fun y : Kin w9 => HF1.out y.u (HZ9.out.below y.ok).be
        have hne := Kin.there w9
        clear HF1 lp lc lg p0 p1 p2 p3 p4 p5 p6 p7 m0 m1 g0 g1 HV9
        go_wp2_with fail
        refine wp_region_kin (by kernel_rfl) (by kernel_rfl) ?_
        iterate 3 quiet_step (with_reducible rfl)
        quiet_step (exact kin_of (HFa.out _))
        iterate 7 quiet_step (with_reducible rfl)
        refine wpQuiet_nil ?_
        rintro _ ⟨y, rfl⟩
        have HBz : Hid (Below w.heap.size w y.u) := HB9.out.trans (y.ok.mono HB9.out.size)
        clear yp0 yp1 yp2 yp3 yp4 yp5 yp6 yp7 yg0 yg1 ym0 ym1 HFa
        generalize y.u = wz at *
        go_wp2
        go_ret
        exact ⟨rfl, HBz.out⟩
      · obtain rfl : F = 0 := by rcases hO with h | h; exact h.1; exact h.1
        have HO2 := show Hid _ from hO
        have HCm := show Hid _ from HCn.out rfl
        have HRh := show Hid _ from HRg.out rfl
        have HNv := show Hid _ from HNu.out rfl
        clear hO HOp HF1 HCn HRg HNu
        obtain ⟨k0, k1, k2, k3, k4, k5, k6, k7⟩ := pol8 HZ9.out.p
        go_wp2_with fail
        go_loopg [10] P.rows.length (fun gq x wr => ∃ k : Nat, k ≤ P.rows.length ∧ gq = P.rows.length - k ∧ x = .int .i64 (k : Int) ∧ Below w9.heap.size w9 wr)
        case atStart => exact ⟨0, Nat.zero_le _, rfl, rfl, Below.refl _ _⟩
        case round =>
          obtain ⟨k, hk, hgk, rfl, hbr⟩ := hrel
          have HG : Hid (gk = P.rows.length - k) := hgk
          have HBr : Hid (Below w9.heap.size w9 wr) := hbr
          have HZr := show Hid _ from HZ9.out.below hbr
          have hkl : (k : Int) ≤ 2932031007317 := by omega
          clear k0 k1 k2 k3 k4 k5 k6 k7
          obtain ⟨k0, k1, k2, k3, k4, k5, k6, k7⟩ := pol8 HZr.out.p
          obtain ⟨d0, d1⟩ := cells2 (HCc.out _ HZr.out.be)
          clear hgk hbr
          by_cases hlt : k < P.rows.length
          · have hlt' : (k : Int) < (P.rows.length : Int) := by omega
            have HLt : Hid (k < P.rows.length) := hlt
            have hrg := HRh.out k hlt
            have hty := is_cases (rat P.rows k).kind (rat P.rows k).n
            have he : conZ P.rows V (k : Int) = if (rP P.rows k).is = 0 ∨ anyC (fun j => rP P.rows (k + j)) (endp P.rows k - k) = true then (0, 42, (k : Int)) else (V k, 0, 0) := by
              unfold conZ
              rw [if_neg (by omega), Int.toNat_natCast]
            have hty' : (rP P.rows k).is = 0 ∨ (rP P.rows k).is = 1 ∨ (rP P.rows k).is = 2 := hty
            clear hk hlt hty
            by_cases hcd : (rP P.rows k).is = 0 ∨ anyC (fun j => rP P.rows (k + j)) (endp P.rows k - k) = true
            · have hz : conZ P.rows V (k : Int) = (0, 42, (k : Int)) := by rw [he, if_pos hcd]
              clear he hcd hrg
              generalize hti : (rP P.rows k).is = ti at hty'
              have HTi : Hid ((rP P.rows k).is = ti) := hti
              clear hti
              by_cases h0 : ti = 0
              · subst h0
                have HC := show Hid _ from HCm.out wr (k : Int) 0 42 (k : Int) HZr.out.be hz
                clear hz
                go_wp2_with fail
                refine Calls.mono HC.out ?_
                rintro e wa ⟨rfl, hba⟩
                have hbX : Below wr.heap.size wr (wa.alloc (.cells #[.int .i64 42, .int .i64 (k : Int)] 33)) := hba.alloc hba.size _
                have HBx : Hid (Below w9.heap.size w9 (wa.alloc (.cells #[.int .i64 42, .int .i64 (k : Int)] 33))) := HBr.out.trans (hbX.mono HBr.out.size)
                have hrc := (HRow9.out.below HBx.out HRow9.out.lt).cell HLt.out
                obtain ⟨q0, q1⟩ := cells2 (heap_alloc_new wa (.cells #[.int .i64 42, .int .i64 (k : Int)] 33))
                clear k0 k1 k2 k3 k4 k5 k6 k7 d0 d1 hba hbX HC
                rw [HTi.out] at hrc
                go_wp2_with fail
                go_roundg (P.rows.length - (k + 1))
                case measure => have h1 := HG.out; have := HLt.out; omega
                case rel => exact ⟨k + 1, HLt.out, rfl, by go_num, HBx.out⟩
              · have h0' : (ti == 0) = false := by simpa using h0
                have HC := show Hid _ from HCm.out wr (k : Int) 0 42 (k : Int) HZr.out.be hz
                clear hz
                go_wp2_with fail
                refine Calls.mono HC.out ?_
                rintro e wa ⟨rfl, hba⟩
                have hbX : Below wr.heap.size wr (wa.alloc (.cells #[.int .i64 42, .int .i64 (k : Int)] 33)) := hba.alloc hba.size _
                have HBx : Hid (Below w9.heap.size w9 (wa.alloc (.cells #[.int .i64 42, .int .i64 (k : Int)] 33))) := HBr.out.trans (hbX.mono HBr.out.size)
                have hrc := (HRow9.out.below HBx.out HRow9.out.lt).cell HLt.out
                obtain ⟨q0, q1⟩ := cells2 (heap_alloc_new wa (.cells #[.int .i64 42, .int .i64 (k : Int)] 33))
                clear k0 k1 k2 k3 k4 k5 k6 k7 d0 d1 hba hbX HC
                rw [HTi.out] at hrc
                go_wp2_with fail
                go_roundg (P.rows.length - (k + 1))
                case measure => have h1 := HG.out; have := HLt.out; omega
                case rel => exact ⟨k + 1, HLt.out, rfl, by go_num, HBx.out⟩
            · have hz : conZ P.rows V (k : Int) = (V k, 0, 0) := by rw [he, if_neg hcd]
              have h0 : (rP P.rows k).is ≠ 0 := fun e => hcd (Or.inl e)
              clear he hcd
              generalize hti : (rP P.rows k).is = ti at hty' hrg h0
              have HTi : Hid ((rP P.rows k).is = ti) := hti
              clear hti
              generalize V k = vk at *
              rcases hty' with h1 | h1 | h1
              · exact absurd h1 h0
              · subst h1
                have hr := hrg.1 rfl
                have l1 : decide (vk < -1073741824) = false := decide_eq_false (by omega)
                have l2 : decide (vk > 1073741824) = false := decide_eq_false (by omega)
                clear hrg h0 hr
                have HC := show Hid _ from HCm.out wr (k : Int) vk 0 0 HZr.out.be hz
                clear hz
                go_wp2_with fail
                refine Calls.mono HC.out ?_
                rintro e wa ⟨rfl, hba⟩
                have hbX : Below wr.heap.size wr (wa.alloc (.cells #[.int .i64 0, .int .i64 0] 33)) := hba.alloc hba.size _
                have HBx : Hid (Below w9.heap.size w9 (wa.alloc (.cells #[.int .i64 0, .int .i64 0] 33))) := HBr.out.trans (hbX.mono HBr.out.size)
                have hrc := (HRow9.out.below HBx.out HRow9.out.lt).cell HLt.out
                obtain ⟨q0, q1⟩ := cells2 (heap_alloc_new wa (.cells #[.int .i64 0, .int .i64 0] 33))
                clear k0 k1 k2 k3 k4 k5 k6 k7 d0 d1 hba hbX HC
                rw [HTi.out] at hrc
                go_wp2_with fail
                go_roundg (P.rows.length - (k + 1))
                case measure => have h1 := HG.out; have := HLt.out; omega
                case rel => exact ⟨k + 1, HLt.out, rfl, by go_num, HBx.out⟩
              · subst h1
                rcases hrg.2 rfl with hr | hr
                · subst hr
                  clear hrg h0
                  have HC := show Hid _ from HCm.out wr (k : Int) 0 0 0 HZr.out.be hz
                  clear hz
                  go_wp2_with fail
                  refine Calls.mono HC.out ?_
                  rintro e wa ⟨rfl, hba⟩
                  have hbX : Below wr.heap.size wr (wa.alloc (.cells #[.int .i64 0, .int .i64 0] 33)) := hba.alloc hba.size _
                  have HBx : Hid (Below w9.heap.size w9 (wa.alloc (.cells #[.int .i64 0, .int .i64 0] 33))) := HBr.out.trans (hbX.mono HBr.out.size)
                  have hrc := (HRow9.out.below HBx.out HRow9.out.lt).cell HLt.out
                  obtain ⟨q0, q1⟩ := cells2 (heap_alloc_new wa (.cells #[.int .i64 0, .int .i64 0] 33))
                  clear k0 k1 k2 k3 k4 k5 k6 k7 d0 d1 hba hbX HC
                  rw [HTi.out] at hrc
                  go_wp2_with fail
                  go_roundg (P.rows.length - (k + 1))
                  case measure => have h1 := HG.out; have := HLt.out; omega
                  case rel => exact ⟨k + 1, HLt.out, rfl, by go_num, HBx.out⟩
                · subst hr
                  clear hrg h0
                  have HC := show Hid _ from HCm.out wr (k : Int) 1 0 0 HZr.out.be hz
                  clear hz
                  go_wp2_with fail
                  refine Calls.mono HC.out ?_
                  rintro e wa ⟨rfl, hba⟩
                  have hbX : Below wr.heap.size wr (wa.alloc (.cells #[.int .i64 0, .int .i64 0] 33)) := hba.alloc hba.size _
                  have HBx : Hid (Below w9.heap.size w9 (wa.alloc (.cells #[.int .i64 0, .int .i64 0] 33))) := HBr.out.trans (hbX.mono HBr.out.size)
                  have hrc := (HRow9.out.below HBx.out HRow9.out.lt).cell HLt.out
                  obtain ⟨q0, q1⟩ := cells2 (heap_alloc_new wa (.cells #[.int .i64 0, .int .i64 0] 33))
                  clear k0 k1 k2 k3 k4 k5 k6 k7 d0 d1 hba hbX HC
                  rw [HTi.out] at hrc
                  go_wp2_with fail
                  go_roundg (P.rows.length - (k + 1))
                  case measure => have h1 := HG.out; have := HLt.out; omega
                  case rel => exact ⟨k + 1, HLt.out, rfl, by go_num, HBx.out⟩
          · have hlt' : ¬ (k : Int) < (P.rows.length : Int) := by omega
            have hT := (HBr.out.block _ (blk_lt HT9.out.1)).trans HT9.out.1
            have hGf := (HBr.out.block _ (blk_lt HT9.out.2)).trans HT9.out.2
            have HBz : Hid (Below w.heap.size w wr) := HB9.out.trans (HBr.out.mono HB9.out.size)
            obtain ⟨g0, g1⟩ := cells2 hGf
            clear hlt hk
            rcases HO2.out with ⟨-, h43, hp, hl⟩ | ⟨-, rfl, hsn⟩
            · have hpd : decide (o.a > 0) = true := decide_eq_true hp
              have hld : decide (o.a < (P.rows.length : Int)) = true := decide_eq_true hl
              have hoe : ¬ o.e = 0 := by omega
              rcases h43 with h | h
              all_goals
                rw [h] at g0
                clear hoe h HO2 HCm HRh HNv
                go_wp2_with fail
                go_ret
                exact ⟨rfl, HBz.out⟩
            · dsimp only at hT g0 g1
              obtain ⟨s0, s1, s2⟩ := cells3 hT
              have hv := IsVals.below HV9.out.1 HBr.out
              have htt := IsVals.below HV9.out.2.1 HBr.out
              have hrr := IsVals.below HV9.out.2.2 HBr.out
              have HNc := show Hid _ from HNv.out hsn wr v1 t1 r1 c1 c2 c3 HZr.out.be hv htt hrr
              have hvl : ((setV P.rows V P.rows.length).length : Int) = (P.vs.length : Int) := by rw [setV_cnt, HCt.out.1]
              have htl : ((setT P.rows V P.rows.length).length : Int) = (P.ts.length : Int) := by rw [setT_cnt, HCt.out.2.1]
              rw [List.length_map, List.length_range] at s2
              clear hv htt hrr hsn HO2 HCm HRh HNv hT hGf
              go_wp2_with fail
              refine Calls.mono HNc.out ?_
              rintro e wz ⟨rfl, hbz⟩
              have HBy : Hid (Below w.heap.size w wz) := HBz.out.trans (hbz.mono HBz.out.size)
              clear hbz HNc
              go_wp2
              go_ret
              exact ⟨rfl, HBy.out⟩
    · have HTy := show Hid _ from types_bad (qc := qc) (vc := vc) (tc := tc) (uc := uc) (oc := oc) (H3.out.1.below HZ4.out.be) HP.out.1 HP.out.2.2.2.2 HP.out.2.1 HP.out.2.2.1 hf
      have HOe : Hid ((chkO P csz (fun i => ql.getD i 0) ql.length) = ⟨((fltN P.rows (ghL P.qs) P.rows.length).1 : Int), ((fltN P.rows (ghL P.qs) P.rows.length).2 : Int), [], [], []⟩) := (chkO_flt hf csz (fun i => ql.getD i 0) ql.length).1
      have hat := fltN_at P.rows.length hf
      have HHf : Hid ((fltN P.rows (ghL P.qs) P.rows.length).1 ≠ 0 ∧ (fltN P.rows (ghL P.qs) P.rows.length).2 < P.rows.length) := ⟨hf, hat⟩
      clear hf hat
      rw [HOe.out] at HT1
      dsimp only at HT1
      generalize (fltN P.rows (ghL P.qs) P.rows.length).1 = fe at *
      generalize (fltN P.rows (ghL P.qs) P.rows.length).2 = fa at *
      go_wp2_with fail
      generalize ((w3.alloc (.cells #[.string P.name, .slice ao P.rows.length ac, .slice qo P.qs.length qc, .slice vo P.vs.length vc, .slice tto P.ts.length tc, .slice uo P.us.length uc, .slice oo P.on.length oc, .int .i64 P.miss] 30)).alloc (.cells #[.int .i64 0, .int .i64 0] 33)) = w4 at *
      refine Calls.mono HTy.out ?_
      rintro e w5 ⟨rfl, hb5⟩
      obtain ⟨hZ6, h6k⟩ := (HZ4.out.below hb5).put (fe : Int) (fa : Int)
      clear f0 f1 k0 k1 k2 k3 k4 k5 k6 k7 HTy
      obtain ⟨f0, f1⟩ := cells2 (HZ4.out.below hb5).f
      have ff : ∀ j, w5.frozen? ⟨w3.heap.size + 1, j, none⟩ = false := fun j => by have := (HZ4.out.below hb5).f; simp only [World.frozen?, this]; rfl
      have HZ6 := show Hid _ from hZ6
      obtain ⟨k0, k1, k2, k3, k4, k5, k6, k7⟩ := pol8 hZ6.p
      obtain ⟨d0, d1⟩ := cells2 (HCc.out _ hZ6.be)
      have HC1 := show Hid _ from HT1.out _ hZ6.be
      clear hZ6 h6k hb5 HT1
      go_wp2_with fail
      generalize ((w5.setCell ⟨w3.heap.size + 1, 0, none⟩ (.int .i64 (fe : Int))).setCell ⟨w3.heap.size + 1, 1, none⟩ (.int .i64 (fa : Int))) = w6 at *
      refine Calls.mono HC1.out ?_
      rintro e w7 ⟨hb7, v1, t1, r1, c1, c2, c3, rfl, -, -, -, -⟩
      clear f0 f1 k0 k1 k2 k3 k4 k5 k6 k7 d0 d1 ff HC1
      have hb8 : Below w7.heap.size w7 ((w7.alloc (.cells #[.slice v1 0 c1, .slice t1 0 c2, .slice r1 0 c3] 40)).alloc (.cells #[.int .i64 (fe : Int), .int .i64 (fa : Int)] 33)) := ((Below.refl _ w7).alloc (Nat.le_refl _) _).alloc (by simp) _
      have HZ8 := show Hid _ from (HZ6.out.below hb7).below hb8
      have hg : ((w7.alloc (.cells #[.slice v1 0 c1, .slice t1 0 c2, .slice r1 0 c3] 40)).alloc (.cells #[.int .i64 (fe : Int), .int .i64 (fa : Int)] 33)).heap[w7.heap.size + 1]? = some (.cells #[.int .i64 (fe : Int), .int .i64 (fa : Int)] 33 (0, 0)) := alloc_at _ _ _ (by simp)
      obtain ⟨g0, g1⟩ := cells2 hg
      obtain ⟨f0, f1⟩ := cells2 HZ8.out.f
      obtain ⟨k0, k1, k2, k3, k4, k5, k6, k7⟩ := pol8 HZ8.out.p
      have HBe : Hid (Below w.heap.size w ((w7.alloc (.cells #[.slice v1 0 c1, .slice t1 0 c2, .slice r1 0 c3] 40)).alloc (.cells #[.int .i64 (fe : Int), .int .i64 (fa : Int)] 33))) := H3.out.2.2.2.trans (HZ8.out.be.mono H3.out.2.2.2.size)
      have hfe : ¬ fe = 0 := HHf.out.1
      have ha1 : (0 : Int) ≤ (fa : Int) := by omega
      have ha2 : (fa : Int) < (P.rows.length : Int) := by have := HHf.out.2; omega
      clear hb7 hb8 hg
      simp only [List.length_nil]
      go_wp2
      go_ret
      exact ⟨rfl, HBe.out⟩
end Go.Proofs.YtjoflihimpipcabGreat.Nm.Ty.Ag
namespace Go.Proofs.YtjoflihimpipcabGreat.typedAgrees
open Go.ChangeShapes Go.WideShapes Go.ChangeAt Go.RowKit
open Go.Proofs.YtjoflihimpipcabGreat.Sp Go.Proofs.YtjoflihimpipcabGreat.Lx Go.Proofs.YtjoflihimpipcabGreat.Gr Go.Proofs.YtjoflihimpipcabGreat.Nm
theorem contractF (H : Type) (enc : TypeId × Value → H) (W : World) (base : Nat) (args : Array Value) (ds gs : List (DataW H)) (before : List MemPlace)
    (hval : ∀ (j : Nat) t v, Tryz.f4.params[j]? = some t → args[j]? = some v → Value.okWide Tryz.prog W .any base t v)
    (hW : DataW.Whole enc Tryz.prog Tryz.f4.params.toList Rows.typedAgreesSpec.vars false W args.toList ds gs before)
    (hsz : (DataW.weightsEach Tryz.prog (Tryz.f4.params.toList ++ Rows.typedAgreesSpec.plain.varTypes Tryz.prog) (ds ++ gs)).all (· ≤ reachBytes) = true) :
    Calls Tryz.prog 4 args W fun e W' => ∃ v, e = .returned v ∧ Rows.typedAgreesSpec.post enc Tryz.prog Tryz.f4 false true false false W args v W' := by
  have hW' := hW
  obtain ⟨p, q, hA0, hV, rfl, hfz, hnd⟩ := hW
  have hA : DataW.TrodAll enc Tryz.prog W 0 (fun _ => true) true Tryz.f4.params.toList args.toList ds p := hA0
  rw [Tryz.params4] at hA hval hsz
  obtain ⟨v0, vs0, d0, ds0, p0, q0, hargs, rfl, rfl, h0, r0⟩ := trodAll_cons hA
  obtain ⟨v1, vs1, d1, ds1, p1, q1, rfl, rfl, rfl, h1, r1⟩ := trodAll_cons r0
  obtain ⟨rfl, rfl, rfl⟩ := trodAll_nil r1
  obtain rfl : args = #[v0, v1] := by cases args; simp_all
  obtain ⟨rfl, rfl⟩ := trodVars_none hV
  obtain ⟨a0, len0, cap0, rfl⟩ := okWide_slice Tryz.underlying22 (hval 0 22 v0 rfl rfl)
  have lt0 : ∀ x ∈ p0, x.block < W.heap.size := by obtain ⟨m, hm⟩ := h0; exact DataW.trod_lt m _ _ _ hm
  have lt1 : ∀ x ∈ p1, x.block < W.heap.size := by obtain ⟨m, hm⟩ := h1; exact DataW.trod_lt m _ _ _ hm
  obtain ⟨s0, rfl, cl0, ib0, kb0, dd0⟩ := open_rowsZ h0
  obtain ⟨csz, co, cc, ql, e0, e1, rfl, hcsz, hq, hqi, hcn, rfl, hd1⟩ := Ty.open_caps (hval 1 25 v1 rfl rfl) h1
  refine (Ty.Ag.agreesWalk a0 s0 cap0 csz co ql cc W ib0 (rows_reach hsz (j := 0) rfl rfl dd0).1 hq (Ty.caps_reach hsz (j := 1) rfl rfl hd1) hqi hcsz).mono fun e W2 ⟨he, bel⟩ => ?_
  subst he
  exact ⟨_, rfl, _, _, _, [], _, [], hW', trodAll_mk1 (shut_bool Tryz.underlying4 _), (trodAll_cons_mk (Below.trod laidOut (by kernel_rfl) (of_decide_eq_true (by kernel_rfl)) h0 bel lt0) (trodAll_cons_mk (Below.trod laidOut (by kernel_rfl) (of_decide_eq_true (by kernel_rfl)) h1 bel lt1) trodAll_mk0)), rfl, bel.frame _, fun h => by cases h⟩
theorem liftedF (os : Os) (started : os.Started) (H : Type) (enc : TypeId × Value → H) :
    ReturnsInHanded {} Tryz.checked os 4 .any (Rows.typedAgreesSpec.pre6 enc Tryz.prog Tryz.f4 Rows.typedAgreesRow.domain false) (Rows.typedAgreesSpec.post enc Tryz.prog Tryz.f4 false true false false) := by
  refine returnsInHanded_of_change_sized (C := Tryz.checked) own started (by kernel_rfl) Tryz.func4
    (ChangeSpec.witness6 (enc := enc) (C := Tryz.checked) false ⟨#[], #[.slice none 0 0, .agg #[.int .i64 0, .slice none 0 0]], []⟩ 8 (by kernel_rfl) (by kernel_rfl) (by kernel_rfl) (by kernel_rfl)) ?_
  intro W base args ds gs before hval hW _ hsz _
  exact contractF H enc W base args ds gs before hval hW hsz
theorem provedF : Rows.TypedAgreesSaid :=
  OpenClaim.holds_of_wide 4 Tryz.f4 rfl rfl rfl rfl rfl rfl rfl ⟨rfl, rfl, rfl, rfl, rfl⟩ rfl rfl rfl rfl rfl (by kernel_rfl) Tryz.func4 (by kernel_rfl)
    (of_decide_eq_true (by kernel_rfl)) (by unfold Func.isWrapper; first | (rw [if_pos (by decide +kernel)]; kernel_rfl) | (rw [if_neg (by decide +kernel)]; exact ⟨rfl, rfl⟩))
    (fun os started H enc _ => liftedF os started H enc)
end Go.Proofs.YtjoflihimpipcabGreat.typedAgrees
