import Derived.Test.YtnpdblcfhbamiaaGreatK45
set_option maxHeartbeats 51200000
set_option maxRecDepth 2000000
set_option linter.unusedSimpArgs false
namespace Go.Proofs.YtnpdblcfhbamiaaGreat.Nm.Ty
open Go.RowKit Go.Maps Go.Proofs.YtnpdblcfhbamiaaGreat.Sp Go.Proofs.YtnpdblcfhbamiaaGreat.Lx Go.Proofs.YtnpdblcfhbamiaaGreat.Gr Go.Proofs.YtnpdblcfhbamiaaGreat.Nm
theorem ownWalk8 (ro : Option Addr) (l : List Rz) (rcap : Nat) (csz : Int) (co : Option Addr) (ql : List Int) (cc : Nat) (ix : Int) (w : World) (h : IsRz w ro l) (hl : l.length ≤ 2932031007317) (hq : IsVals w co (iv ql)) (hql : ql.length ≤ 17592186043904) (hqi : ∀ n ∈ ql, in64 n) (hcsz : in64 csz) (hix : in64 ix) :
    Calls Tryz.prog 3 #[.slice ro l.length rcap, .agg #[.int .i64 csz, .slice co ql.length cc], .int .i64 ix] w fun e w' => e = .returned (.bool true) ∧ Below w.heap.size w w' := by
  have hb1 : Below w.heap.size w (w.alloc (.cells #[.int .i64 csz, .slice co ql.length cc] 25)) := (Below.refl _ w).alloc (Nat.le_refl _) _
  have HB1 := show Hid _ from hb1
  have HX1 := show Hid _ from heap_alloc_new w (.cells #[.int .i64 csz, .slice co ql.length cc] 25)
  have HKn := show Hid _ from known_any (w.alloc (.cells #[.int .i64 csz, .slice co ql.length cc] 25))
  have HR : Hid (IsRz w ro l ∧ l.length ≤ 2932031007317) := ⟨h, hl⟩
  have HQ : Hid (IsVals w co (iv ql) ∧ ql.length ≤ 17592186043904 ∧ (∀ n ∈ ql, in64 n) ∧ in64 csz) := ⟨hq, hql, hqi, hcsz⟩
  have HIx : Hid (in64 ix) := hix
  clear h hl hq hql hqi hcsz hix hb1
  go_enter Tryz.func3, Tryz.ntmps3
  go_wp2_with fail
  generalize (w.alloc (.cells #[.int .i64 csz, .slice co ql.length cc] 25)) = w1 at *
  refine Calls.mono HKn.out ?_
  rintro e w2 ⟨rfl, hb2⟩
  have HB2 : Hid (Below w.heap.size w w2) := HB1.out.trans (hb2.mono HB1.out.size)
  have HX2 : Hid (w2.heap[w.heap.size]? = some (.cells #[.int .i64 csz, .slice co ql.length cc] 25 (0, 0))) := (hb2.block _ (blk_lt HX1.out)).trans HX1.out
  have HRs := show Hid _ from resolve_any (cap := rcap) (HR.out.1.below HB2.out) HR.out.2
  clear hb2 HKn HB1 HX1
  go_wp2_with fail
  refine Calls.mono HRs.out ?_
  rintro e w3 hT
  clear HRs
  cases hres : res l with
  | error ci =>
    rw [hres] at hT
    obtain ⟨hb3, rfl⟩ := hT
    obtain ⟨c1, c2⟩ := ci
    have hp := res_pos hres
    dsimp only at hp ⊢
    have hc0 : ¬ c1 = 0 := by omega
    have HB3 : Hid (Below w.heap.size w ((w3.alloc (.cells #[.string ⟨#[]⟩, pz, pz, pz, pz, pz, pz, .int .i64 0] 30)).alloc (.cells #[.int .i64 (c1 : Int), .int .i64 (c2 : Int)] 33))) := (HB2.out.trans (hb3.mono HB2.out.size)).trans ((((Below.refl _ w3).alloc (Nat.le_refl _) _).alloc (by simp) _).mono (HB2.out.trans (hb3.mono HB2.out.size)).size)
    clear hb3 hp hres
    go_wp2_with fail
    go_ret
    exact ⟨rfl, HB3.out⟩
  | ok p =>
    rw [hres] at hT
    obtain ⟨hb3, v, rfl, hpl⟩ := hT
    obtain ⟨ao, qo, vo, tto, uo, oo, ac, qc, vc, tc, uc, oc, hv, hnil, hrd⟩ := told_rdO hpl
    have hsm := (res_sm HR.out.2 hres).1
    have hok : IsOk p.g := ⟨p, by show res (p.rows.map unn) = _; rw [res_back hres]; exact hres, rfl⟩
    have HP : Hid (p.g.Sm ∧ IsOk p.g ∧ Rdy p.g ∧ Rdc p.g ∧ (ao = none → ac = 0)) := ⟨hsm, hok, (rdy_of hsm hok).1, (rdy_of hsm hok).2, hnil⟩
    have HFw := show Hid _ from res_few hres
    have hB3 := HB2.out.trans (hb3.mono HB2.out.size)
    have H3 : Hid (RdG w3 p.g ao qo vo tto uo oo ∧ IsVals w3 co (iv ql) ∧ w3.heap[w.heap.size]? = some (.cells #[.int .i64 csz, .slice co ql.length cc] 25 (0, 0)) ∧ Below w.heap.size w w3) := ⟨hrd, HQ.out.1.below hB3, (hb3.block _ (blk_lt HX2.out)).trans HX2.out, hB3⟩
    subst hv
    clear hsm hok hnil hpl hres hrd hB3 hb3 HB2 HX2 HR
    generalize p.g = P at *
    have hb4 : Below w3.heap.size w3 ((w3.alloc (.cells #[.string P.name, .slice ao P.rows.length ac, .slice qo P.qs.length qc, .slice vo P.vs.length vc, .slice tto P.ts.length tc, .slice uo P.us.length uc, .slice oo P.on.length oc, .int .i64 P.miss] 30)).alloc (.cells #[.int .i64 0, .int .i64 0] 33)) := ((Below.refl _ w3).alloc (Nat.le_refl _) _).alloc (by simp) _
    have HZ4 : Hid (Zo w3 ((w3.alloc (.cells #[.string P.name, .slice ao P.rows.length ac, .slice qo P.qs.length qc, .slice vo P.vs.length vc, .slice tto P.ts.length tc, .slice uo P.us.length uc, .slice oo P.on.length oc, .int .i64 P.miss] 30)).alloc (.cells #[.int .i64 0, .int .i64 0] 33)) #[.string P.name, .slice ao P.rows.length ac, .slice qo P.qs.length qc, .slice vo P.vs.length vc, .slice tto P.ts.length tc, .slice uo P.us.length uc, .slice oo P.on.length oc, .int .i64 P.miss] 0 0) := ⟨by rw [alloc_old _ _ _ (by simp)]; exact alloc_at _ _ _ rfl, alloc_at _ _ _ (by simp), hb4⟩
    have HCc : Hid (∀ W : World, Below w3.heap.size w3 W → W.heap[w.heap.size]? = some (.cells #[.int .i64 csz, .slice co ql.length cc] 25 (0, 0))) := fun W hW => (hW.block _ (blk_lt H3.out.2.2.1)).trans H3.out.2.2.1
    obtain ⟨O, hO⟩ : ∃ O, O = chkO P csz (fun i => ql.getD i 0) ql.length := ⟨_, rfl⟩
    obtain ⟨il, fe, fa, hQ⟩ := tyQ_ex P
    have HLn : Hid (il.length ≤ P.rows.length ∧ O.vs.length ≤ P.rows.length ∧ O.ts.length ≤ P.rows.length ∧ O.rl.length ≤ P.rows.length ∧ P.rows.length ≤ 2932031007317) := by
      have h1 := chkO_len P csz (fun i => ql.getD i 0) ql.length
      rw [← hO] at h1
      exact ⟨tyQ_len hQ, h1.1, h1.2.1, h1.2.2, HP.out.1.1⟩
    have HCk : Hid (∀ W : World, Below w3.heap.size w3 W → Calls Tryz.prog 7 #[.agg #[.string P.name, .slice ao P.rows.length ac, .slice qo P.qs.length qc, .slice vo P.vs.length vc, .slice tto P.ts.length tc, .slice uo P.us.length uc, .slice oo P.on.length oc, .int .i64 P.miss], .agg #[.int .i64 csz, .slice co ql.length cc]] W fun e w' => Below W.heap.size W w' ∧ ∃ v1 v2 v3 b1 b2 b3, e = .returned (.tuple #[.agg #[v1, v2, v3], .agg #[.int .i64 O.e, .int .i64 O.a]]) ∧ (W.heap.size ≤ b1 ∧ W.heap.size ≤ b2 ∧ W.heap.size ≤ b3) ∧
      w'.ownsRow b1 47 3 v1 O.vs.length (vC O.vs) ∧ w'.ownsRow b2 3 1 v2 O.ts.length (iv O.ts) ∧ w'.ownsRow b3 3 1 v3 O.rl.length (iv O.rl) ∧
      (∀ k, v1.ownBlock = some k → v2.ownBlock ≠ some k) ∧ (∀ k, v1.ownBlock = some k → v3.ownBlock ≠ some k) ∧ ∀ k, v2.ownBlock = some k → v3.ownBlock ≠ some k) := fun W hW => by
      rw [hO]
      exact check_own (H3.out.1.below hW) HP.out.1 HP.out.2.2.2.2 HP.out.2.1 HP.out.2.2.1 HP.out.2.2.2.1 (by have h1 := IsVals.below H3.out.2.1 hW; rw [iv_fL] at h1; exact h1) HQ.out.2.1 HQ.out.2.2.2 (in_getD HQ.out.2.2.1) (by have := HLn.out; omega)
    have HTy : Hid (∀ W : World, Below w3.heap.size w3 W → Calls Tryz.prog 6 #[.agg #[.string P.name, .slice ao P.rows.length ac, .slice qo P.qs.length qc, .slice vo P.vs.length vc, .slice tto P.ts.length tc, .slice uo P.us.length uc, .slice oo P.on.length oc, .int .i64 P.miss]] W fun e w' => Below W.heap.size W w' ∧ ∃ v, e = .returned (.tuple #[v, .agg #[.int .i64 fe, .int .i64 fa]]) ∧ w'.ownsRow W.heap.size 3 1 v il.length (iv il)) := fun W hW => types_own (H3.out.1.below hW) HP.out.1 HP.out.2.2.2.2 (fun _ => HP.out.2.2.1) hQ (by have := HLn.out; omega)
    clear hO hQ
    obtain ⟨f0, f1⟩ := cells2 HZ4.out.f
    obtain ⟨k0, k1, k2, k3, k4, k5, k6, k7⟩ := pol8 HZ4.out.p
    dsimp only [pvG] at *
    clear hb4
    go_upto_region 6 with fail
    generalize ((w3.alloc (.cells #[.string P.name, .slice ao P.rows.length ac, .slice qo P.qs.length qc, .slice vo P.vs.length vc, .slice tto P.ts.length tc, .slice uo P.us.length uc, .slice oo P.on.length oc, .int .i64 P.miss] 30)).alloc (.cells #[.int .i64 0, .int .i64 0] 33)) = w4 at *
    have HT1 := show Hid _ from HTy.out w4 HZ4.out.be
    go_wp2_with fail
    refine Calls.mono HT1.out ?_
    rintro e w5 ⟨hb, v0, rfl, ho⟩
    obtain ⟨vo0, vc0, rfl⟩ := own_form ho
    have hz5 := HZ4.out.below hb
    have fz5 : ∀ j, w5.frozen? ⟨w3.heap.size + 1, j, none⟩ = false := fun j => by have := hz5.f; simp only [World.frozen?, this]; rfl
    obtain ⟨g0, g1⟩ := cells2 hz5.f
    have H5 : Hid (Zo w3 ((w5.setCell ⟨w3.heap.size + 1, 0, none⟩ (.int .i64 fe)).setCell ⟨w3.heap.size + 1, 1, none⟩ (.int .i64 fa)) #[.string P.name, .slice ao P.rows.length ac, .slice qo P.qs.length qc, .slice vo P.vs.length vc, .slice tto P.ts.length tc, .slice uo P.us.length uc, .slice oo P.on.length oc, .int .i64 P.miss] fe fa ∧ ((w5.setCell ⟨w3.heap.size + 1, 0, none⟩ (.int .i64 fe)).setCell ⟨w3.heap.size + 1, 1, none⟩ (.int .i64 fa)).ownsRow w4.heap.size 3 1 (.slice vo0 il.length vc0) il.length (iv il)) := by
      obtain ⟨q1, q2⟩ := hz5.put fe fa
      refine ⟨q1, own_kb ho fun k hk => q2 k ?_⟩
      have h1 := (World.ownsRow.lt ho k hk).1
      have h2 := blk_lt HZ4.out.f
      omega
    clear hb ho hz5 HT1 f0 f1 k0 k1 k2 k3 k4 k5 k6 k7
    go_upto_region 7 with fail
    generalize ((w5.setCell ⟨w3.heap.size + 1, 0, none⟩ (.int .i64 fe)).setCell ⟨w3.heap.size + 1, 1, none⟩ (.int .i64 fa)) = w6 at *
    clear fz5 g0 g1
    have HCk1 := show Hid _ from HCk.out w6 H5.out.1.be
    obtain ⟨k0, k1, k2, k3, k4, k5, k6, k7⟩ := pol8 H5.out.1.p
    obtain ⟨c0, c1⟩ := cells2 (HCc.out w6 H5.out.1.be)
    go_wp2_with fail
    refine Calls.mono HCk1.out ?_
    rintro e w7 ⟨hb, v1, v2, v3, b1, b2, b3, rfl, hbs, o1, o2, o3, a12, a13, a23⟩
    obtain ⟨t1, d1, rfl⟩ := own_form o1
    obtain ⟨t2, d2, rfl⟩ := own_form o2
    obtain ⟨t3, d3, rfl⟩ := own_form o3
    have hbA : Below w7.heap.size w7 ((w7.alloc (.cells #[.slice t1 O.vs.length d1, .slice t2 O.ts.length d2, .slice t3 O.rl.length d3] 40)).alloc (.cells #[.int .i64 O.e, .int .i64 O.a] 33)) := ((Below.refl _ w7).alloc (Nat.le_refl _) _).alloc (by simp) _
    have H8 : Hid (Zo w3 ((w7.alloc (.cells #[.slice t1 O.vs.length d1, .slice t2 O.ts.length d2, .slice t3 O.rl.length d3] 40)).alloc (.cells #[.int .i64 O.e, .int .i64 O.a] 33)) #[.string P.name, .slice ao P.rows.length ac, .slice qo P.qs.length qc, .slice vo P.vs.length vc, .slice tto P.ts.length tc, .slice uo P.us.length uc, .slice oo P.on.length oc, .int .i64 P.miss] fe fa ∧ ((w7.alloc (.cells #[.slice t1 O.vs.length d1, .slice t2 O.ts.length d2, .slice t3 O.rl.length d3] 40)).alloc (.cells #[.int .i64 O.e, .int .i64 O.a] 33)).ownsRow w4.heap.size 3 1 (.slice vo0 il.length vc0) il.length (iv il) ∧ ((w7.alloc (.cells #[.slice t1 O.vs.length d1, .slice t2 O.ts.length d2, .slice t3 O.rl.length d3] 40)).alloc (.cells #[.int .i64 O.e, .int .i64 O.a] 33)).heap[w7.heap.size]? = some (.cells #[.slice t1 O.vs.length d1, .slice t2 O.ts.length d2, .slice t3 O.rl.length d3] 40 (0, 0)) ∧ ((w7.alloc (.cells #[.slice t1 O.vs.length d1, .slice t2 O.ts.length d2, .slice t3 O.rl.length d3] 40)).alloc (.cells #[.int .i64 O.e, .int .i64 O.a] 33)).heap[w7.heap.size + 1]? = some (.cells #[.int .i64 O.e, .int .i64 O.a] 33 (0, 0)) ∧ ((w7.alloc (.cells #[.slice t1 O.vs.length d1, .slice t2 O.ts.length d2, .slice t3 O.rl.length d3] 40)).alloc (.cells #[.int .i64 O.e, .int .i64 O.a] 33)).ownsRow b1 47 3 (.slice t1 O.vs.length d1) O.vs.length (vC O.vs) ∧ ((w7.alloc (.cells #[.slice t1 O.vs.length d1, .slice t2 O.ts.length d2, .slice t3 O.rl.length d3] 40)).alloc (.cells #[.int .i64 O.e, .int .i64 O.a] 33)).ownsRow b2 3 1 (.slice t2 O.ts.length d2) O.ts.length (iv O.ts) ∧ ((w7.alloc (.cells #[.slice t1 O.vs.length d1, .slice t2 O.ts.length d2, .slice t3 O.rl.length d3] 40)).alloc (.cells #[.int .i64 O.e, .int .i64 O.a] 33)).ownsRow b3 3 1 (.slice t3 O.rl.length d3) O.rl.length (iv O.rl)) :=
      ⟨(H5.out.1.below hb).below hbA, own_below (own_below H5.out.2 hb) hbA, by rw [alloc_old _ _ _ (by simp)]; exact alloc_at _ _ _ rfl, alloc_at _ _ _ (by simp), own_below o1 hbA, own_below o2 hbA, own_below o3 hbA⟩
    clear hb hbs o1 o2 o3 a12 a13 a23 hbA HCk1 k0 k1 k2 k3 k4 k5 k6 k7 c0 c1 H5
    go_upto_region 8 with fail
    generalize ((w7.alloc (.cells #[.slice t1 O.vs.length d1, .slice t2 O.ts.length d2, .slice t3 O.rl.length d3] 40)).alloc (.cells #[.int .i64 O.e, .int .i64 O.a] 33)) = w8 at *
    generalize w7.heap.size = tb at *
    generalize w4.heap.size = n4 at *
    have hbA : Below w8.heap.size w8 (w8.alloc (.cells #[] 3)) := (Below.refl _ _).alloc (Nat.le_refl _) _
    have HE : Hid ((w8.alloc (.cells #[] 3)).ownsRow w8.heap.size 3 1 (.slice (some ⟨w8.heap.size, 0, none⟩) 0 0) 0 [] ∧ (w8.alloc (.cells #[] 3)).ownsRow n4 3 1 (.slice vo0 il.length vc0) il.length (iv il) ∧ w8.heap.size ≤ (w8.alloc (.cells #[] 3)).heap.size) := ⟨World.ownsRow_made w8 #[] 0 (Nat.le_refl _) (Nat.zero_le _) (by simp), own_below H8.out.2.1 hbA, hbA.size⟩
    have HbA := show Hid _ from hbA
    clear hbA
    go_wp2_with (at_builtin; refine wpl_ap1 _ rfl _ _ 23 rfl Tryz.underlying23 infoI rfl (by decide) rfl HE.out.1 HE.out.2.2 rfl HE.out.2.1 (iv_one il) (by have := HLn.out; unfold maxLen; omega) (by have := HLn.out; omega) ?_)
    intro v' w9 hv1 hv2 hv3
    obtain ⟨ko, kc, rfl⟩ := own_form hv1
    have H9 : Hid (Below w8.heap.size w8 w9 ∧ w9.ownsRow w8.heap.size 3 1 (.slice ko il.length kc) il.length (iv il)) := by
      refine ⟨HbA.out.trans ⟨hv2.os, hv2.tape, hv2.output, hv2.size, fun k hk => hv2.block k (by have := HbA.out.size; omega) (fun e => ?_)⟩, by simpa using hv1⟩
      have e2 : k = w8.heap.size := Option.some.inj e
      omega
    clear hv1 hv2 hv3 HE HbA
    go_upto_region 9 with fail
    have HX : Hid (∀ X, Below w9.heap.size w9 X → (fun w' : World => w'.cell? ⟨tb, 0, none⟩ = some (.slice t1 O.vs.length d1) ∧ w'.cell? ⟨tb, 1, none⟩ = some (.slice t2 O.ts.length d2) ∧ w'.cell? ⟨tb, 2, none⟩ = some (.slice t3 O.rl.length d3)) X) := fun X hX => cells3 ((hX.block _ (by have := blk_lt H8.out.2.2.1; have := H9.out.1.size; omega)).trans ((H9.out.1.block _ (blk_lt H8.out.2.2.1)).trans H8.out.2.2.1))
    refine wp_region_held (S := fun w' : World => w'.cell? ⟨tb, 0, none⟩ = some (.slice t1 O.vs.length d1) ∧ w'.cell? ⟨tb, 1, none⟩ = some (.slice t2 O.ts.length d2) ∧ w'.cell? ⟨tb, 2, none⟩ = some (.slice t3 O.rl.length d3)) (by kernel_rfl) ?_
    change wpAnyH _ _ _ _ _ _ _ _ w9.drew
    have HD : Hid (Below w9.heap.size w9 w9.drew) := (Below.refl _ _).drew
    have hS := HX.out _ HD.out
    have HOw : Hid (∀ X, Below w9.heap.size w9 X → X.ownsRow b1 47 3 (.slice t1 O.vs.length d1) O.vs.length (vC O.vs) ∧ X.ownsRow b2 3 1 (.slice t2 O.ts.length d2) O.ts.length (iv O.ts) ∧ X.ownsRow b3 3 1 (.slice t3 O.rl.length d3) O.rl.length (iv O.rl)) := fun X hX => ⟨own_below (own_below H8.out.2.2.2.2.1 H9.out.1) hX, own_below (own_below H8.out.2.2.2.2.2.1 H9.out.1) hX, own_below (own_below H8.out.2.2.2.2.2.2 H9.out.1) hX⟩
    generalize hwd : w9.drew = wd at *
    have HWd : Hid (wd.heap.size = w9.heap.size) := by rw [← hwd]; rfl
    clear hwd
    refine wpAnyH_take (i := 1) (v := ?v1) rfl (by kernel_rfl) (by kernel_rfl) (by kernel_rfl) (fun _ _ _ h => h) (Or.inl ⟨by rfl, ?y1⟩) hS ?r1
    case y1 =>
      intro w hSw
      obtain ⟨g0, g1, g2⟩ := hSw
      first
        | (go_simp; done)
        | (go_simp; with_reducible rfl)
    refine wpAnyH_take (i := 2) (v := ?v2) rfl (by kernel_rfl) (by kernel_rfl) (by kernel_rfl) (fun _ _ _ h => h) (Or.inl ⟨by rfl, ?y2⟩) hS ?r2
    case y2 =>
      intro w hSw
      obtain ⟨g0, g1, g2⟩ := hSw
      first
        | (go_simp; done)
        | (go_simp; with_reducible rfl)
    refine wpAnyH_take (i := 5) (v := ?v5) rfl (by kernel_rfl) (by kernel_rfl) (by kernel_rfl) (fun _ _ _ h => h) (Or.inl ⟨by rfl, ?y5⟩) hS ?r5
    case y5 =>
      intro w hSw
      obtain ⟨g0, g1, g2⟩ := hSw
      first
        | (go_simp; done)
        | (go_simp; with_reducible rfl)
    refine wpAnyH_take (i := 6) (v := ?v6) rfl (by kernel_rfl) (by kernel_rfl) (by kernel_rfl) (fun _ _ _ h => h) (Or.inl ⟨by rfl, ?y6⟩) hS ?r6
    case y6 =>
      intro w hSw
      obtain ⟨g0, g1, g2⟩ := hSw
      first
        | (go_simp; done)
        | (go_simp; with_reducible rfl)
    refine wpAnyH_take (i := 9) (v := ?v9) rfl (by kernel_rfl) (by kernel_rfl) (by kernel_rfl) (fun _ _ _ h => h) (Or.inl ⟨by rfl, ?y9⟩) hS ?r9
    case y9 =>
      intro w hSw
      obtain ⟨g0, g1, g2⟩ := hSw
      first
        | (go_simp; done)
        | (go_simp; with_reducible rfl)
    refine wpAnyH_take (i := 10) (v := ?v10) rfl (by kernel_rfl) (by kernel_rfl) (by kernel_rfl) (fun _ _ _ h => h) (Or.inl ⟨by rfl, ?y10⟩) hS ?r10
    case y10 =>
      intro w hSw
      obtain ⟨g0, g1, g2⟩ := hSw
      first
        | (go_simp; done)
        | (go_simp; with_reducible rfl)
    go_simp
    obtain ⟨pb, hpb⟩ : ∃ pb, pb + 1 = w9.heap.size := ⟨w9.heap.size - 1, by have := blk_lt H8.out.2.2.1; have := H9.out.1.size; omega⟩
    have HPb := show Hid _ from hpb
    clear hpb
    obtain ⟨T, hT⟩ : ∃ T : Nat → TypeId, T = (fun | 0 => 47 | 1 => 3 | _ => 3 : Nat → TypeId) := ⟨_, rfl⟩
    obtain ⟨sz, hsz⟩ : ∃ sz : Nat → Nat, sz = (fun | 0 => 3 | 1 => 1 | _ => 1 : Nat → Nat) := ⟨_, rfl⟩
    obtain ⟨ln, hln⟩ : ∃ ln : Nat → Nat, ln = (fun | 0 => O.vs.length | 1 => O.ts.length | _ => O.rl.length : Nat → Nat) := ⟨_, rfl⟩
    obtain ⟨xs, hxs⟩ : ∃ xs : Nat → List Value, xs = (fun | 0 => vC O.vs | 1 => iv O.ts | _ => iv O.rl : Nat → List Value) := ⟨_, rfl⟩
    obtain ⟨Fa, hFa⟩ : ∃ Fa : (Nat → Bool) → (Nat → Bool) → (Nat → Value) → (Nat → Value) → Value → Value → (Nat → Option Ent) → Prop, Fa = fun b c s u dv ev E => (∀ j, j < 3 → (b j = true → c j = false → ∃ g, E j = some ⟨g, T j, sz j, s j, 0, []⟩ ∧ (s j).ownBlock = some g) ∧ (c j = true → b j = true ∧ ∃ g, E j = some ⟨g, T j, sz j, u j, ln j, xs j⟩)) ∧ (b 3 = true → ∃ g, dv = .pointer (some ⟨g, 0, none⟩) ∧ E 3 = some ⟨g, 40, 3, .slice (some ⟨g, 0, none⟩) 1 1, 1, [pz, pz, pz]⟩) ∧ (c 3 = true → c 0 = true ∧ c 1 = true ∧ c 2 = true ∧ ev = .agg #[u 0, u 1, u 2]) := ⟨_, rfl⟩
    refine held_from (b := fun _ => false) (c := fun _ => false) (n := 8) lT8 cn8 (fun a0 b c a w => ∃ s u dv ev E, a = ((((((((a0.put (some 51) (s 0)).put (some 54) (u 0)).put (some 55) (s 1)).put (some 58) (u 1)).put (some 59) (s 2)).put (some 62) (u 2)).put (some 13) dv).put (some 63) ev) ∧ Below w9.heap.size w9 w ∧ Ap w pb E ∧ Fa b c s u dv ev E) 1 (by kernel_rfl) (by kernel_rfl) (by kernel_rfl) ?hstart ?hend ?hne ?hstep
    case hstart =>
      refine ⟨fun _ => undef, fun _ => undef, undef, undef, fun _ => none, by kernel_rfl, HD.out, ⟨fun _ _ e => absurd e (by simp), fun _ _ _ _ _ e => absurd e (by simp)⟩, ?_⟩
      rw [hFa]
      exact ⟨fun j hj => ⟨fun e => absurd (show false = true from e) (by decide), fun e => absurd (show false = true from e) (by decide)⟩, fun e => absurd (show false = true from e) (by decide), fun e => absurd (show false = true from e) (by decide)⟩
    case hne =>
      intro b c hc
      cases b0 : b 0 with
      | false =>
        rw [show lT8 b c = #[false, true, true, c 0, b 1, true, true, c 1, b 2, true, true, c 2, c 3, b 3, false] by unfold lT8; rw [b0]]
        exact ready_ne 0 (of_decide_eq_true (by kernel_rfl)) (by kernel_rfl)
      | true => ?_
      cases b1 : b 1 with
      | false =>
        rw [show lT8 b c = #[b 0, true, true, c 0, false, true, true, c 1, b 2, true, true, c 2, c 3, b 3, false] by unfold lT8; rw [b1]]
        exact ready_ne 4 (of_decide_eq_true (by kernel_rfl)) (by kernel_rfl)
      | true => ?_
      cases b2 : b 2 with
      | false =>
        rw [show lT8 b c = #[b 0, true, true, c 0, b 1, true, true, c 1, false, true, true, c 2, c 3, b 3, false] by unfold lT8; rw [b2]]
        exact ready_ne 8 (of_decide_eq_true (by kernel_rfl)) (by kernel_rfl)
      | true => ?_
      cases b3 : b 3 with
      | false =>
        rw [show lT8 b c = #[b 0, true, true, c 0, b 1, true, true, c 1, b 2, true, true, c 2, c 3, false, false] by unfold lT8; rw [b3]]
        exact ready_ne 13 (of_decide_eq_true (by kernel_rfl)) (by kernel_rfl)
      | true => ?_
      cases c0 : c 0 with
      | false =>
        rw [show lT8 b c = #[true, true, true, false, b 1, true, true, c 1, b 2, true, true, c 2, c 3, b 3, false] by unfold lT8; rw [c0, b0]]
        exact ready_ne 3 (of_decide_eq_true (by kernel_rfl)) (by kernel_rfl)
      | true => ?_
      cases c1 : c 1 with
      | false =>
        rw [show lT8 b c = #[b 0, true, true, true, true, true, true, false, b 2, true, true, c 2, c 3, b 3, false] by unfold lT8; rw [c1, b1, c0]]
        exact ready_ne 7 (of_decide_eq_true (by kernel_rfl)) (by kernel_rfl)
      | true => ?_
      cases c2 : c 2 with
      | false =>
        rw [show lT8 b c = #[b 0, true, true, c 0, b 1, true, true, true, true, true, true, false, c 3, b 3, false] by unfold lT8; rw [c2, b2, c1]]
        exact ready_ne 11 (of_decide_eq_true (by kernel_rfl)) (by kernel_rfl)
      | true => ?_
      cases c3 : c 3 with
      | false =>
        rw [show lT8 b c = #[b 0, true, true, true, b 1, true, true, true, b 2, true, true, true, false, b 3, false] by unfold lT8; rw [c3, c0, c1, c2]]
        exact ready_ne 12 (of_decide_eq_true (by kernel_rfl)) (by kernel_rfl)
      | true => ?_
      exact absurd (by unfold cn8; rw [b0, b1, b2, b3, c0, c1, c2, c3]; rfl) hc
    case hstep =>
      clear hS
      intro b c a w i hc hIl hr
      obtain ⟨s, u, dv, ev, E, rfl, hb, hE, hF⟩ := hIl
      rw [hFa] at hF ⊢
      obtain ⟨hrf, hro⟩ := ready_on hr
      have hpw : pb < w.heap.size := by have := hb.size; have := HPb.out; omega
      have hb2 : ∀ (cs : Array Value) T, Below w9.heap.size w9 (w.alloc (.cells cs T)) := fun cs T => hb.trans ((Below.refl _ w).alloc hb.size _)
      have hbl : ∀ (g : Nat) (v : Value) (w' : World), pb < g → v.ownBlock = some g → w.grownBy w' v.ownBlock → Below w9.heap.size w9 w' := fun g v w' hg1 hob hg => ⟨hg.os.trans hb.os, hg.tape.trans hb.tape, hg.output.trans hb.output, Nat.le_trans hb.size hg.size, fun k hk => (hg.block k (by have := hb.size; omega) (fun e => by
          have e2 : k = g := Option.some.inj (e.trans hob)
          have := HPb.out
          omega)).trans (hb.block k hk)⟩
      clear hr
      have hi15 : i < 15 := by
        rcases Nat.lt_or_ge i 15 with h | h
        · exact h
        · have e : (lT8 b c).getD i true = true := by
            rw [Array.getD_eq_getD_getElem?, Array.getElem?_eq_none (by exact h)]
            rfl
          rw [e] at hrf
          cases hrf
      have hi : i = 0 ∨ i = 4 ∨ i = 8 ∨ i = 3 ∨ i = 7 ∨ i = 11 ∨ i = 13 ∨ i = 12 ∨ i = 14 ∨ i = 1 ∨ i = 2 ∨ i = 5 ∨ i = 6 ∨ i = 9 ∨ i = 10 := by omega
      clear hi15
      rcases hi with rfl | rfl | rfl | rfl | rfl | rfl | rfl | rfl | rfl | hi
      · refine ⟨up b 0 true, c, rfl, cn8_b (by omega) hrf, wpOp_step rfl fun K' hK => ?_⟩
        obtain ⟨i0, hi0, -⟩ := info_parts infoV
        refine step_bs0 w rfl 38 rfl Tryz.underlying38 hi0 ?_
        refine hK _ _ ⟨HX.out _ (hb2 _ _), up s 0 (.slice (some ⟨w.heap.size, 0, none⟩) 0 0), u, dv, ev, _, by kernel_rfl, hb2 _ _, hE.build hpw 0 47 3, fun q hq => ?_, fun e => ?_, fun e => ?_⟩
        · by_cases hqj : q = 0
          · subst hqj
            rw [up_same, up_same, up_same]
            subst hT hsz
            exact ⟨fun _ _ => ⟨_, rfl, rfl⟩, fun e => absurd ((hF.1 0 hq).2 e).1 (by rw [show b 0 = false from hrf]; decide)⟩
          · rw [up_ne hqj, up_ne hqj, up_ne hqj]
            exact hF.1 q hq
        · rw [up_ne (by omega)] at e ⊢
          exact hF.2.1 e
        · exact hF.2.2 e
      · refine ⟨up b 1 true, c, rfl, cn8_b (by omega) hrf, wpOp_step rfl fun K' hK => ?_⟩
        obtain ⟨i0, hi0, -⟩ := info_parts infoI
        refine step_bs0 w rfl 23 rfl Tryz.underlying23 hi0 ?_
        refine hK _ _ ⟨HX.out _ (hb2 _ _), up s 1 (.slice (some ⟨w.heap.size, 0, none⟩) 0 0), u, dv, ev, _, by kernel_rfl, hb2 _ _, hE.build hpw 1 3 1, fun q hq => ?_, fun e => ?_, fun e => ?_⟩
        · by_cases hqj : q = 1
          · subst hqj
            rw [up_same, up_same, up_same]
            subst hT hsz
            exact ⟨fun _ _ => ⟨_, rfl, rfl⟩, fun e => absurd ((hF.1 1 hq).2 e).1 (by rw [show b 1 = false from hrf]; decide)⟩
          · rw [up_ne hqj, up_ne hqj, up_ne hqj]
            exact hF.1 q hq
        · rw [up_ne (by omega)] at e ⊢
          exact hF.2.1 e
        · exact hF.2.2 e
      · refine ⟨up b 2 true, c, rfl, cn8_b (by omega) hrf, wpOp_step rfl fun K' hK => ?_⟩
        obtain ⟨i0, hi0, -⟩ := info_parts infoI
        refine step_bs0 w rfl 23 rfl Tryz.underlying23 hi0 ?_
        refine hK _ _ ⟨HX.out _ (hb2 _ _), up s 2 (.slice (some ⟨w.heap.size, 0, none⟩) 0 0), u, dv, ev, _, by kernel_rfl, hb2 _ _, hE.build hpw 2 3 1, fun q hq => ?_, fun e => ?_, fun e => ?_⟩
        · by_cases hqj : q = 2
          · subst hqj
            rw [up_same, up_same, up_same]
            subst hT hsz
            exact ⟨fun _ _ => ⟨_, rfl, rfl⟩, fun e => absurd ((hF.1 2 hq).2 e).1 (by rw [show b 2 = false from hrf]; decide)⟩
          · rw [up_ne hqj, up_ne hqj, up_ne hqj]
            exact hF.1 q hq
        · rw [up_ne (by omega)] at e ⊢
          exact hF.2.1 e
        · exact hF.2.2 e
      · have hB : b 0 = true := hro ⟨0, .data⟩ (by simp) rfl
        obtain ⟨g, hEj, hob⟩ := (hF.1 0 (by omega)).1 hB hrf
        have hOw := hE.ow 0 _ hEj
        have hlt := World.ownsRow.lt hOw.2 g hob
        have hOw2 : w.ownsRow g 47 3 (s 0) 0 [] := by
          subst hT hsz
          exact hOw.2
        refine ⟨b, up c 0 true, rfl, cn8_c (by omega) hrf, wpOp_step rfl fun K' hK => ?_⟩
        refine step_ap1 w rfl (.tmp 51) (.tmp 53) 38 rfl Tryz.underlying38 infoV rfl (by decide) (v := s 0) (by kernel_rfl) hOw2 (by omega) (by kernel_rfl) (HOw.out w hb).1 (vC_oneO _) (by have := HLn.out; unfold maxLen; omega) (by have := HLn.out; omega) ?_
        intro v' w' ho hg hbk
        rw [Nat.zero_add, List.nil_append] at ho
        have hb3 := hbl g (s 0) w' hOw.1 hob hg
        refine hK _ _ ⟨HX.out _ hb3, s, up u 0 v', dv, ev, _, by kernel_rfl, hb3, hE.app hEj hg (v' := v') (n' := O.vs.length) (xs' := vC O.vs) (by subst hT hsz; exact ho) hbk, fun q hq => ?_, fun e => ?_, fun e => ?_⟩
        · by_cases hqj : q = 0
          · subst hqj
            rw [up_same, up_same, up_same]
            subst hT hsz hln hxs
            exact ⟨fun _ e => absurd e (by decide), fun _ => ⟨hB, _, rfl⟩⟩
          · rw [up_ne hqj, up_ne hqj, up_ne hqj]
            exact hF.1 q hq
        · rw [up_ne (by omega)]
          exact hF.2.1 e
        · rw [up_ne (by omega)] at e
          have h9 := hF.2.2 e
          exact absurd h9.1 (by rw [show c 0 = false from hrf]; decide)
      · have hB : b 1 = true := hro ⟨4, .data⟩ (by simp) rfl
        obtain ⟨g, hEj, hob⟩ := (hF.1 1 (by omega)).1 hB hrf
        have hOw := hE.ow 1 _ hEj
        have hlt := World.ownsRow.lt hOw.2 g hob
        have hOw2 : w.ownsRow g 3 1 (s 1) 0 [] := by
          subst hT hsz
          exact hOw.2
        refine ⟨b, up c 1 true, rfl, cn8_c (by omega) hrf, wpOp_step rfl fun K' hK => ?_⟩
        refine step_ap1 w rfl (.tmp 55) (.tmp 57) 23 rfl Tryz.underlying23 infoI rfl (by decide) (v := s 1) (by kernel_rfl) hOw2 (by omega) (by kernel_rfl) (HOw.out w hb).2.1 (iv_one _) (by have := HLn.out; unfold maxLen; omega) (by have := HLn.out; omega) ?_
        intro v' w' ho hg hbk
        rw [Nat.zero_add, List.nil_append] at ho
        have hb3 := hbl g (s 1) w' hOw.1 hob hg
        refine hK _ _ ⟨HX.out _ hb3, s, up u 1 v', dv, ev, _, by kernel_rfl, hb3, hE.app hEj hg (v' := v') (n' := O.ts.length) (xs' := iv O.ts) (by subst hT hsz; exact ho) hbk, fun q hq => ?_, fun e => ?_, fun e => ?_⟩
        · by_cases hqj : q = 1
          · subst hqj
            rw [up_same, up_same, up_same]
            subst hT hsz hln hxs
            exact ⟨fun _ e => absurd e (by decide), fun _ => ⟨hB, _, rfl⟩⟩
          · rw [up_ne hqj, up_ne hqj, up_ne hqj]
            exact hF.1 q hq
        · rw [up_ne (by omega)]
          exact hF.2.1 e
        · rw [up_ne (by omega)] at e
          have h9 := hF.2.2 e
          exact absurd h9.2.1 (by rw [show c 1 = false from hrf]; decide)
      · have hB : b 2 = true := hro ⟨8, .data⟩ (by simp) rfl
        obtain ⟨g, hEj, hob⟩ := (hF.1 2 (by omega)).1 hB hrf
        have hOw := hE.ow 2 _ hEj
        have hlt := World.ownsRow.lt hOw.2 g hob
        have hOw2 : w.ownsRow g 3 1 (s 2) 0 [] := by
          subst hT hsz
          exact hOw.2
        refine ⟨b, up c 2 true, rfl, cn8_c (by omega) hrf, wpOp_step rfl fun K' hK => ?_⟩
        refine step_ap1 w rfl (.tmp 59) (.tmp 61) 23 rfl Tryz.underlying23 infoI rfl (by decide) (v := s 2) (by kernel_rfl) hOw2 (by omega) (by kernel_rfl) (HOw.out w hb).2.2 (iv_one _) (by have := HLn.out; unfold maxLen; omega) (by have := HLn.out; omega) ?_
        intro v' w' ho hg hbk
        rw [Nat.zero_add, List.nil_append] at ho
        have hb3 := hbl g (s 2) w' hOw.1 hob hg
        refine hK _ _ ⟨HX.out _ hb3, s, up u 2 v', dv, ev, _, by kernel_rfl, hb3, hE.app hEj hg (v' := v') (n' := O.rl.length) (xs' := iv O.rl) (by subst hT hsz; exact ho) hbk, fun q hq => ?_, fun e => ?_, fun e => ?_⟩
        · by_cases hqj : q = 2
          · subst hqj
            rw [up_same, up_same, up_same]
            subst hT hsz hln hxs
            exact ⟨fun _ e => absurd e (by decide), fun _ => ⟨hB, _, rfl⟩⟩
          · rw [up_ne hqj, up_ne hqj, up_ne hqj]
            exact hF.1 q hq
        · rw [up_ne (by omega)]
          exact hF.2.1 e
        · rw [up_ne (by omega)] at e
          have h9 := hF.2.2 e
          exact absurd h9.2.2.1 (by rw [show c 2 = false from hrf]; decide)
      · refine ⟨up b 3 true, c, rfl, cn8_b (by omega) hrf, wpOp_step rfl fun K' hK => ?_⟩
        go_simp
        refine hK _ _ ⟨HX.out _ (hb2 _ _), s, u, .pointer (some ⟨w.heap.size, 0, none⟩), ev, _, by kernel_rfl, hb2 _ _, hE.add ((Below.refl _ w).alloc (Nat.le_refl _) _) hpw (Nat.le_refl _) (own_box w #[pz, pz, pz] 40 3 rfl) 3, fun q hq => ?_, fun _ => ⟨_, rfl, up_same _ _ _⟩, hF.2.2⟩
        rw [up_ne (by omega), up_ne (by omega)]
        exact hF.1 q hq
      · have q0 : c 0 = true := hro ⟨3, .data⟩ (by simp) rfl
        have q1 : c 1 = true := hro ⟨7, .data⟩ (by simp) rfl
        have q2 : c 2 = true := hro ⟨11, .data⟩ (by simp) rfl
        refine ⟨b, up c 3 true, rfl, cn8_c (by omega) hrf, wpOp_step rfl fun K' hK => ?_⟩
        obtain ⟨-, e0, h0⟩ := (hF.1 0 (by omega)).2 q0
        obtain ⟨-, e1, h1⟩ := (hF.1 1 (by omega)).2 q1
        obtain ⟨-, e2, h2⟩ := (hF.1 2 (by omega)).2 q2
        obtain ⟨x0, y0, z0⟩ := own_form (hE.ow 0 _ h0).2
        obtain ⟨x1, y1, z1⟩ := own_form (hE.ow 1 _ h1).2
        obtain ⟨x2, y2, z2⟩ := own_form (hE.ow 2 _ h2).2
        dsimp only at z0 z1 z2
        refine step_build w rfl 40 _ rfl #[u 0, u 1, u 2] ((congrArg (Tryz.prog.built 40) (by kernel_rfl)).trans (show Tryz.prog.built 40 [(0, u 0), (1, u 1), (2, u 2)] = some #[u 0, u 1, u 2] from by rw [z0, z1, z2]; kernel_rfl)) ?_
        refine hK _ _ ⟨HX.out _ hb, s, u, dv, .agg #[u 0, u 1, u 2], E, by kernel_rfl, hb, hE, fun q hq => ?_, hF.2.1, fun _ => ?_⟩
        · rw [up_ne (by omega)]
          exact hF.1 q hq
        · rw [up_ne (by omega), up_ne (by omega), up_ne (by omega)]
          exact ⟨q0, q1, q2, rfl⟩
      · have q3 : c 3 = true := hro ⟨12, .data⟩ (by simp) rfl
        have q4 : b 3 = true := hro ⟨13, .data⟩ (by simp) rfl
        obtain ⟨q0, q1, q2, -⟩ := hF.2.2 q3
        refine absurd ?_ hc
        unfold cn8
        rw [q0, q1, q2, q3, q4, ((hF.1 0 (by omega)).2 q0).1, ((hF.1 1 (by omega)).2 q1).1, ((hF.1 2 (by omega)).2 q2).1]
        rfl
      · rcases hi with rfl | rfl | rfl | rfl | rfl | rfl
        all_goals exact absurd (show true = false from hrf) (by decide)
    case hend =>
      clear hS
      intro b c a w hc hIf
      obtain ⟨s, u, dv, ev, E, rfl, hb, hE, hF⟩ := hIf
      rw [hFa] at hF
      obtain ⟨⟨k0, k1, k2, k3⟩, c0, c1, c2, c3⟩ := cn8_0 hc
      rw [show lT8 b c = #[true, true, true, true, true, true, true, true, true, true, true, true, true, true, false] by unfold lT8; rw [k0, k1, k2, k3, c0, c1, c2, c3]]
      obtain ⟨-, r0, e0⟩ := (hF.1 0 (by omega)).2 c0
      obtain ⟨-, r1, e1⟩ := (hF.1 1 (by omega)).2 c1
      obtain ⟨-, r2, e2⟩ := (hF.1 2 (by omega)).2 c2
      obtain ⟨gb, hdv, e3⟩ := hF.2.1 k3
      obtain ⟨-, -, -, hev⟩ := hF.2.2 c3
      subst hT hsz hln hxs hdv hev
      have o0 := hE.ow 0 _ e0
      have o1 := hE.ow 1 _ e1
      have o2 := hE.ow 2 _ e2
      have o3 := hE.ow 3 _ e3
      obtain ⟨x0, y0, z0⟩ := own_form o0.2
      obtain ⟨x1, y1, z1⟩ := own_form o1.2
      obtain ⟨x2, y2, z2⟩ := own_form o2.2
      have hbx := box_heap o3.2
      have hgp := (World.ownsRow.lt o3.2 gb rfl).1
      have hgp2 := o3.1
      have a0 := hE.ap 3 0 _ _ (by omega) e3 e0 gb rfl
      have a1 := hE.ap 3 1 _ _ (by omega) e3 e1 gb rfl
      have a2 := hE.ap 3 2 _ _ (by omega) e3 e2 gb rfl
      clear hF hE e0 e1 e2 e3 k0 k1 k2 k3 c0 c1 c2 c3 hc hFa
      dsimp only at z0 z1 z2 o0 o1 o2 a0 a1 a2 hbx hgp hgp2
      generalize u 0 = U0 at *
      generalize u 1 = U1 at *
      generalize u 2 = U2 at *
      generalize s 0 = S0 at *
      generalize s 1 = S1 at *
      generalize s 2 = S2 at *
      subst z0 z1 z2
      have hS := HX.out w hb
      have hgb : w9.heap.size ≤ gb := by have := HPb.out; omega
      have hsr : ∀ cs : Array Value, (w.setRow gb cs).heap.size = w.heap.size := fun cs => by simp [World.setRow]
      have hbs : Below w9.heap.size w9 (w.setRow gb #[.slice x0 O.vs.length y0, .slice x1 O.ts.length y1, .slice x2 O.rl.length y2]) := ⟨hb.os, hb.tape, hb.output, by rw [hsr]; exact hb.size, fun k hk => (setRow_other w gb k _ (by omega)).trans (hb.block k hk)⟩
      have H10 : Hid (Below w9.heap.size w9 (w.setRow gb #[.slice x0 O.vs.length y0, .slice x1 O.ts.length y1, .slice x2 O.rl.length y2]) ∧ (w.setRow gb #[.slice x0 O.vs.length y0, .slice x1 O.ts.length y1, .slice x2 O.rl.length y2]).heap[gb]? = some (.cells #[.slice x0 O.vs.length y0, .slice x1 O.ts.length y1, .slice x2 O.rl.length y2] 40 (0, 0)) ∧ IsVals (w.setRow gb #[.slice x0 O.vs.length y0, .slice x1 O.ts.length y1, .slice x2 O.rl.length y2]) x0 (vC O.vs) ∧ IsVals (w.setRow gb #[.slice x0 O.vs.length y0, .slice x1 O.ts.length y1, .slice x2 O.rl.length y2]) x1 (iv O.ts) ∧ IsVals (w.setRow gb #[.slice x0 O.vs.length y0, .slice x1 O.ts.length y1, .slice x2 O.rl.length y2]) x2 (iv O.rl)) := by
        refine ⟨hbs, setRow_heap _ _ _ _ _ _ hbx, vals_of (own_kb o0.2 fun k hk => setRow_other w gb k _ (fun e => a0 (by rw [← e]; exact hk))), vals_of (own_kb o1.2 fun k hk => setRow_other w gb k _ (fun e => a1 (by rw [← e]; exact hk))), vals_of (own_kb o2.2 fun k hk => setRow_other w gb k _ (fun e => a2 (by rw [← e]; exact hk)))⟩
      have HBx := show Hid _ from hbx
      clear hbs hsr o0 o1 o2 o3 a0 a1 a2 hgp hgp2 hbx hb
      go_simp
      refine wpAnyH_ready (rs := [14]) (by kernel_rfl) (by simp) ?_
      refine AllReadyH.cons rfl (fun K hK => ?_) AllReadyH.nil
      refine step_store rfl 40 (.tmp 13) (.tmp 63) rfl gb #[.slice x0 O.vs.length y0, .slice x1 O.ts.length y1, .slice x2 O.rl.length y2] (by kernel_rfl) (by kernel_rfl) 40 _ HBx.out (by kernel_rfl) rfl (by kernel_rfl) ?_
      refine hK.out _ _ (HX.out _ H10.out.1) (fun hS => ?_)
      clear hK K hS HBx HX HD HOw HWd
      refine wpAnyH_done (by kernel_rfl) ?_ _
      go_simp
      generalize (w.setRow gb #[.slice x0 O.vs.length y0, .slice x1 O.ts.length y1, .slice x2 O.rl.length y2]) = w10 at *
      have HC : Hid (Zo w3 w10 #[.string P.name, .slice ao P.rows.length ac, .slice qo P.qs.length qc, .slice vo P.vs.length vc, .slice tto P.ts.length tc, .slice uo P.us.length uc, .slice oo P.on.length oc, .int .i64 P.miss] fe fa ∧ w10.heap[tb]? = some (.cells #[.slice t1 O.vs.length d1, .slice t2 O.ts.length d2, .slice t3 O.rl.length d3] 40 (0, 0)) ∧ w10.heap[tb + 1]? = some (.cells #[.int .i64 O.e, .int .i64 O.a] 33 (0, 0)) ∧ w10.heap[gb]? = some (.cells #[.slice x0 O.vs.length y0, .slice x1 O.ts.length y1, .slice x2 O.rl.length y2] 40 (0, 0))) :=
        ⟨(H8.out.1.below H9.out.1).below H10.out.1, (H10.out.1.block _ (by have := blk_lt H8.out.2.2.1; have := H9.out.1.size; omega)).trans ((H9.out.1.block _ (blk_lt H8.out.2.2.1)).trans H8.out.2.2.1), (H10.out.1.block _ (by have := blk_lt H8.out.2.2.2.1; have := H9.out.1.size; omega)).trans ((H9.out.1.block _ (blk_lt H8.out.2.2.2.1)).trans H8.out.2.2.2.1), H10.out.2.1⟩
      have HV : Hid (IsVals w10 vo0 (iv il) ∧ IsVals w10 ko (iv il) ∧ IsVals w10 t1 (vC O.vs) ∧ IsVals w10 t2 (iv O.ts) ∧ IsVals w10 t3 (iv O.rl) ∧ IsVals w10 x0 (vC O.vs) ∧ IsVals w10 x1 (iv O.ts) ∧ IsVals w10 x2 (iv O.rl)) :=
        ⟨vals_of (own_below (own_below H8.out.2.1 H9.out.1) H10.out.1), vals_of (own_below H9.out.2 H10.out.1), vals_of (own_below (own_below H8.out.2.2.2.2.1 H9.out.1) H10.out.1), vals_of (own_below (own_below H8.out.2.2.2.2.2.1 H9.out.1) H10.out.1), vals_of (own_below (own_below H8.out.2.2.2.2.2.2 H9.out.1) H10.out.1), H10.out.2.2.1, H10.out.2.2.2.1, H10.out.2.2.2.2⟩
      clear H8 H9 H10 HPb hgb
      go_wp2_with fail
      go_loopg [14] 2 (fun gq s14 wr => ∃ k : Nat, k ≤ 2 ∧ gq = 2 - k ∧ s14 = .int .i64 (k : Int) ∧ Below w10.heap.size w10 wr)
      case atStart => exact ⟨0, by omega, rfl, rfl, Below.refl _ _⟩
      case round =>
        rename_i J0 K0 hJ0 hH0
        obtain ⟨k, hk, hgk, rfl, hB⟩ := hrel
        have HG : Hid (gk = 2 - k ∧ k ≤ 2) := ⟨hgk, hk⟩
        have HB := show Hid _ from hB
        clear hgk hB
        by_cases hk2 : k < 2
        case pos =>
          have hk1 : (k : Int) < 2 := by omega
          have HK2 : Hid (k < 2) := hk2
          clear hk2
          have HT1 := show Hid _ from HTy.out wr (HC.out.1.be.trans (HB.out.mono HC.out.1.be.size))
          obtain ⟨k0, k1, k2, k3, k4, k5, k6, k7⟩ := pol8 (HC.out.1.below HB.out).p
          go_upto_region 13 with fail
          go_wp2_with fail
          refine Calls.mono HT1.out ?_
          rintro e wa ⟨hb, v4, rfl, ho⟩
          obtain ⟨lo, lc, rfl⟩ := own_form ho
          clear k0 k1 k2 k3 k4 k5 k6 k7 HT1
          obtain ⟨pb, hpb⟩ : ∃ pb, pb + 1 = wr.heap.size := ⟨wr.heap.size - 1, by have := blk_lt HC.out.2.1; have := HB.out.size; omega⟩
          have HPb := show Hid _ from hpb
          clear hpb
          have hbA : Below wa.heap.size wa (wa.alloc (.cells #[.int .i64 fe, .int .i64 fa] 33)) := (Below.refl _ _).alloc (Nat.le_refl _) _
          have HB1 : Hid (Below wr.heap.size wr (wa.alloc (.cells #[.int .i64 fe, .int .i64 fa] 33)) ∧ (wa.alloc (.cells #[.int .i64 fe, .int .i64 fa] 33)).heap[wa.heap.size]? = some (.cells #[.int .i64 fe, .int .i64 fa] 33 (0, 0)) ∧ ∃ E, Ap (wa.alloc (.cells #[.int .i64 fe, .int .i64 fa] 33)) pb E ∧ E 0 = some ⟨wr.heap.size, 3, 1, .slice lo il.length lc, il.length, iv il⟩) := by
            have hA0 : Ap wr pb (fun _ => none) := ⟨fun _ _ e => absurd e (by simp), fun _ _ _ _ _ e => absurd e (by simp)⟩
            exact ⟨hb.trans (hbA.mono hb.size), heap_alloc_new _ _, _, (hA0.add hb (by have := HPb.out; omega) (Nat.le_refl _) ho 0).below hbA, up_same _ _ _⟩
          clear hb ho hbA
          go_upto_region 14 with fail
          generalize (wa.alloc (.cells #[.int .i64 fe, .int .i64 fa] 33)) = wb at *
          generalize wa.heap.size = B16 at *
          have HBw : Hid (Below w10.heap.size w10 wb) := HB.out.trans (HB1.out.1.mono HB.out.size)
          have HCk1 := show Hid _ from HCk.out wb (HC.out.1.be.trans (HBw.out.mono HC.out.1.be.size))
          obtain ⟨k0, k1, k2, k3, k4, k5, k6, k7⟩ := pol8 (HC.out.1.below HBw.out).p
          obtain ⟨c0, c1⟩ := cells2 (HCc.out wb (HC.out.1.be.trans (HBw.out.mono HC.out.1.be.size)))
          go_wp2_with fail
          refine Calls.mono HCk1.out ?_
          rintro e wc ⟨hb, v1, v2, v3, b1, b2, b3, rfl, hbs, o1, o2, o3, a12, a13, a23⟩
          obtain ⟨u1, e1, rfl⟩ := own_form o1
          obtain ⟨u2, e2, rfl⟩ := own_form o2
          obtain ⟨u3, e3, rfl⟩ := own_form o3
          have HB2 : Hid (Below wr.heap.size wr ((wc.alloc (.cells #[.slice u1 O.vs.length e1, .slice u2 O.ts.length e2, .slice u3 O.rl.length e3] 40)).alloc (.cells #[.int .i64 O.e, .int .i64 O.a] 33)) ∧ ((wc.alloc (.cells #[.slice u1 O.vs.length e1, .slice u2 O.ts.length e2, .slice u3 O.rl.length e3] 40)).alloc (.cells #[.int .i64 O.e, .int .i64 O.a] 33)).heap[B16]? = some (.cells #[.int .i64 fe, .int .i64 fa] 33 (0, 0)) ∧ ((wc.alloc (.cells #[.slice u1 O.vs.length e1, .slice u2 O.ts.length e2, .slice u3 O.rl.length e3] 40)).alloc (.cells #[.int .i64 O.e, .int .i64 O.a] 33)).heap[wc.heap.size + 1]? = some (.cells #[.int .i64 O.e, .int .i64 O.a] 33 (0, 0)) ∧ ∃ E, Ap ((wc.alloc (.cells #[.slice u1 O.vs.length e1, .slice u2 O.ts.length e2, .slice u3 O.rl.length e3] 40)).alloc (.cells #[.int .i64 O.e, .int .i64 O.a] 33)) pb E ∧ E 0 = some ⟨wr.heap.size, 3, 1, .slice lo il.length lc, il.length, iv il⟩ ∧ E 10 = some ⟨b1, 47, 3, .slice u1 O.vs.length e1, O.vs.length, vC O.vs⟩ ∧ E 11 = some ⟨b2, 3, 1, .slice u2 O.ts.length e2, O.ts.length, iv O.ts⟩ ∧ E 12 = some ⟨b3, 3, 1, .slice u3 O.rl.length e3, O.rl.length, iv O.rl⟩ ∧ E 20 = some ⟨wc.heap.size, 40, 3, .slice (some ⟨wc.heap.size, 0, none⟩) 1 1, 1, [.slice u1 O.vs.length e1, .slice u2 O.ts.length e2, .slice u3 O.rl.length e3]⟩) := by
            obtain ⟨q1, q2, E, q3, q4⟩ := HB1.out
            have hpw : pb < wb.heap.size := by have := HPb.out; have := q1.size; omega
            have hpc : pb < wc.heap.size := by have := hb.size; omega
            have q5 := q3.three (j := 10) hb hpw hbs o1 o2 o3 a12 a13 a23
            have hb1 : Below wc.heap.size wc (wc.alloc (.cells #[.slice u1 O.vs.length e1, .slice u2 O.ts.length e2, .slice u3 O.rl.length e3] 40)) := (Below.refl _ _).alloc (Nat.le_refl _) _
            have hb2 : Below (wc.alloc (.cells #[.slice u1 O.vs.length e1, .slice u2 O.ts.length e2, .slice u3 O.rl.length e3] 40)).heap.size (wc.alloc (.cells #[.slice u1 O.vs.length e1, .slice u2 O.ts.length e2, .slice u3 O.rl.length e3] 40)) ((wc.alloc (.cells #[.slice u1 O.vs.length e1, .slice u2 O.ts.length e2, .slice u3 O.rl.length e3] 40)).alloc (.cells #[.int .i64 O.e, .int .i64 O.a] 33)) := (Below.refl _ _).alloc (Nat.le_refl _) _
            have q6 := (q5.add hb1 hpc (Nat.le_refl _) (own_box wc #[.slice u1 O.vs.length e1, .slice u2 O.ts.length e2, .slice u3 O.rl.length e3] 40 3 rfl) 20).below hb2
            have hbb : Below wb.heap.size wb ((wc.alloc (.cells #[.slice u1 O.vs.length e1, .slice u2 O.ts.length e2, .slice u3 O.rl.length e3] 40)).alloc (.cells #[.int .i64 O.e, .int .i64 O.a] 33)) := (hb.trans (hb1.mono hb.size)).trans (hb2.mono (Nat.le_trans hb.size hb1.size))
            refine ⟨q1.trans (hbb.mono q1.size), (hbb.block _ (blk_lt q2)).trans q2, alloc_at _ _ _ (by simp), _, q6, ?_, ?_, ?_, ?_, up_same _ _ _⟩
            · rw [up_ne (by omega), up_ne (by omega), up_ne (by omega), up_ne (by omega)]; exact q4
            · rw [up_ne (by omega), up_ne (by omega), up_ne (by omega), up_same]
            · rw [up_ne (by omega), up_ne (by omega), up_same]
            · rw [up_ne (by omega), up_same]
          clear hb hbs o1 o2 o3 a12 a13 a23 HCk1 k0 k1 k2 k3 k4 k5 k6 k7 c0 c1 HB1 HBw
          go_upto_region 15 with fail
          generalize ((wc.alloc (.cells #[.slice u1 O.vs.length e1, .slice u2 O.ts.length e2, .slice u3 O.rl.length e3] 40)).alloc (.cells #[.int .i64 O.e, .int .i64 O.a] 33)) = wd at *
          generalize wc.heap.size = B17 at *
          obtain ⟨E, hE⟩ := HB2.out.2.2.2
          have HE := show Hid _ from hE
          clear hE
          have HBd : Hid (Below w10.heap.size w10 wd) := HB.out.trans (HB2.out.1.mono HB.out.size)
          obtain ⟨f0, f1⟩ := cells2 HB2.out.2.1
          obtain ⟨g0, g1⟩ := cells2 HB2.out.2.2.1
          obtain ⟨h0, h1⟩ := cells2 (HC.out.1.below HBd.out).f
          obtain ⟨m0, m1⟩ := cells2 ((HBd.out.block _ (blk_lt HC.out.2.2.1)).trans HC.out.2.2.1)
          have HS1 := show Hid _ from same17 (ca := lc) (cb := kc) (vals_of (HE.out.1.ow _ _ HE.out.2.1).2) (HV.out.2.1.below HBd.out) (by have := HLn.out; omega)
          go_wp2_with fail
          refine Calls.mono HS1.out ?_
          rintro e we ⟨⟨bb, rfl, hbi⟩, hb⟩
          obtain rfl : bb = true := hbi.2 (by first | rfl | trivial)
          have HBe : Hid (Below w10.heap.size w10 we ∧ Below wr.heap.size wr we ∧ Ap we pb E) := ⟨HBd.out.trans (hb.mono HBd.out.size), HB2.out.1.trans (hb.mono HB2.out.1.size), HE.out.1.below hb⟩
          clear hb hbi HS1 f0 f1 g0 g1 h0 h1 m0 m1 HBd HB2
          have hu := HBe.out.2.2
          obtain ⟨c0, c1, c2⟩ := cells3 (box_heap (hu.ow _ _ HE.out.2.2.2.2.2).2)
          obtain ⟨d0, d1', d2'⟩ := cells3 ((HBe.out.1.block _ (blk_lt HC.out.2.2.2)).trans HC.out.2.2.2)
          have HS2 := show Hid _ from sameTyped_any (vc1 := e1) (tc1 := e2) (rc1 := e3) (vc2 := y0) (tc2 := y1) (rc2 := y2) (vals_of (hu.ow _ _ HE.out.2.2.1).2) (HV.out.2.2.2.2.2.1.below HBe.out.1) (vals_of (hu.ow _ _ HE.out.2.2.2.1).2) (HV.out.2.2.2.2.2.2.1.below HBe.out.1) (vals_of (hu.ow _ _ HE.out.2.2.2.2.1).2) (HV.out.2.2.2.2.2.2.2.below HBe.out.1) (by have := HLn.out; omega) (by have := HLn.out; omega) (by have := HLn.out; omega)
          clear hu
          go_wp2_with fail
          refine Calls.mono HS2.out ?_
          rintro e wf ⟨rfl, hb⟩
          have HBf : Hid (Below wr.heap.size wr wf ∧ Ap wf pb E) := ⟨HBe.out.2.1.trans (hb.mono HBe.out.2.1.size), HBe.out.2.2.below hb⟩
          clear hb HS2 c0 c1 c2 d0 d1' d2' HBe
          go_upto_region 17 with fail
          have hpf : pb < wf.heap.size := by have := HPb.out; have := HBf.out.1.size; omega
          have HS3 := show Hid _ from spoil_ap HBf.out.2 HE.out.2.1 hpf (by have := HLn.out; omega)
          go_wp2_with fail
          refine Calls.mono HS3.out ?_
          rintro e wg ⟨rfl, hb, hA⟩
          have HGg : Hid (Below wr.heap.size wr wg ∧ Ap wg pb (fun i => if i = 0 then none else E i)) := ⟨HBf.out.1.trans (by rw [← HPb.out]; exact hb), hA⟩
          clear hb hA HS3 HBf hpf
          have hpf : pb < wg.heap.size := by have := HPb.out; have := HGg.out.1.size; omega
          have HS4 := show Hid _ from spoil_ap (j := 11) HGg.out.2 ((if_neg (by omega)).trans HE.out.2.2.2.1) hpf (by have := HLn.out; omega)
          obtain ⟨c0, c1, c2⟩ := cells3 (box_heap (HGg.out.2.ow 20 _ ((if_neg (by omega)).trans HE.out.2.2.2.2.2)).2)
          go_upto_region 18 with fail
          go_wp2_with fail
          refine Calls.mono HS4.out ?_
          rintro e wh ⟨rfl, hb, hA⟩
          have HHh : Hid (Below wr.heap.size wr wh ∧ Ap wh pb (fun i => if i = 11 then none else if i = 0 then none else E i)) := ⟨HGg.out.1.trans (by rw [← HPb.out]; exact hb), hA⟩
          clear hb hA HS4 HGg hpf c0 c1 c2
          have hpf : pb < wh.heap.size := by have := HPb.out; have := HHh.out.1.size; omega
          have HS5 := show Hid _ from spoil_ap (j := 12) HHh.out.2 ((if_neg (by omega)).trans ((if_neg (by omega)).trans HE.out.2.2.2.2.1)) hpf (by have := HLn.out; omega)
          obtain ⟨c0, c1, c2⟩ := cells3 (box_heap (HHh.out.2.ow 20 _ ((if_neg (by omega)).trans ((if_neg (by omega)).trans HE.out.2.2.2.2.2))).2)
          go_upto_region 19 with fail
          go_wp2_with fail
          refine Calls.mono HS5.out ?_
          rintro e wi ⟨rfl, hb, hA⟩
          have HI : Hid (∃ E', Below wr.heap.size wr wi ∧ Ap wi pb E' ∧ E' 10 = some ⟨b1, 47, 3, .slice u1 O.vs.length e1, O.vs.length, vC O.vs⟩ ∧ E' 20 = some ⟨B17, 40, 3, .slice (some ⟨B17, 0, none⟩) 1 1, 1, [.slice u1 O.vs.length e1, .slice u2 O.ts.length e2, .slice u3 O.rl.length e3]⟩) := ⟨_, HHh.out.1.trans (by rw [← HPb.out]; exact hb), hA, (if_neg (by omega)).trans ((if_neg (by omega)).trans ((if_neg (by omega)).trans HE.out.2.2.1)), (if_neg (by omega)).trans ((if_neg (by omega)).trans ((if_neg (by omega)).trans HE.out.2.2.2.2.2))⟩
          clear hb hA HS5 HHh hpf c0 c1 c2 HE
          have hln : (O.vs.length : Int) ≤ 2932031007317 := by have := HLn.out; omega
          go_upto_region 20 with fail
          go_wp2_with fail
          generalize wr = wA at *
          go_loopg [19] O.vs.length (fun gq s19 wq => ∃ (q : Nat) (l' : List (Int × Int × Int)) (E' : Nat → Option Ent), q ≤ O.vs.length ∧ gq = O.vs.length - q ∧ s19 = .int .i64 (q : Int) ∧ l'.length = O.vs.length ∧ Below wA.heap.size wA wq ∧ Ap wq pb E' ∧ E' 10 = some ⟨b1, 47, 3, .slice u1 O.vs.length e1, O.vs.length, vC l'⟩ ∧ E' 20 = some ⟨B17, 40, 3, .slice (some ⟨B17, 0, none⟩) 1 1, 1, [.slice u1 O.vs.length e1, .slice u2 O.ts.length e2, .slice u3 O.rl.length e3]⟩)
          case atStart =>
            obtain ⟨E', q1, q2, q3, q4⟩ := HI.out
            exact ⟨0, O.vs, E', by omega, rfl, rfl, rfl, q1, q2, q3, q4⟩
          case round =>
            rename_i J1 K1 hJ1 hH1
            obtain ⟨q, l', E', hq, hgq, rfl, hl', q1, q2, q3, q4⟩ := hrel
            clear HI
            have HGq : Hid (gk = O.vs.length - q ∧ q ≤ O.vs.length) := ⟨hgq, hq⟩
            have HQ1 : Hid (l'.length = O.vs.length ∧ Below wA.heap.size wA wr ∧ Ap wr pb E' ∧ E' 10 = some ⟨b1, 47, 3, .slice u1 O.vs.length e1, O.vs.length, vC l'⟩ ∧ E' 20 = some ⟨B17, 40, 3, .slice (some ⟨B17, 0, none⟩) 1 1, 1, [.slice u1 O.vs.length e1, .slice u2 O.ts.length e2, .slice u3 O.rl.length e3]⟩) := ⟨hl', q1, q2, q3, q4⟩
            obtain ⟨c0, c1, c2⟩ := cells3 (box_heap (q2.ow 20 _ q4).2)
            clear hgq hl' q1
            by_cases hqn : q < O.vs.length
            case pos =>
              have hq1 : (q : Int) < (O.vs.length : Int) := by omega
              have HQn : Hid (q < O.vs.length) := hqn
              have hOw := (q2.ow 10 _ q3).2
              obtain ⟨g, hg⟩ := own_atO hOw (by show 0 < O.vs.length; omega)
              subst hg
              have hOl := hOw.1
              have hat : ∀ j, j < 3 → ∃ y, wr.cell? ⟨g, q * 3 + j, none⟩ = some y := fun j hj => by
                have hj2 : q * 3 + j < O.vs.length * 3 := by omega
                rw [hOw.cellAt (q * 3 + j) hj2]
                exact ⟨_, List.getElem?_eq_getElem (by rw [hOl]; exact hj2)⟩
              have hf := hOw.frozenAt
              obtain ⟨z0, d0⟩ := hat 0 (by omega)
              obtain ⟨z1, d1'⟩ := hat 1 (by omega)
              obtain ⟨z2, d2'⟩ := hat 2 (by omega)
              rw [Nat.add_zero] at d0
              have hgp := q2.blk q3 rfl
              have HN : Hid (Below wA.heap.size wA (((wr.setCell ⟨g, q * 3, none⟩ (.int .i64 77)).setCell ⟨g, q * 3 + 1, none⟩ (.int .i64 0)).setCell ⟨g, q * 3 + 2, none⟩ (.int .i64 0)) ∧ ∃ E2, Ap (((wr.setCell ⟨g, q * 3, none⟩ (.int .i64 77)).setCell ⟨g, q * 3 + 1, none⟩ (.int .i64 0)).setCell ⟨g, q * 3 + 2, none⟩ (.int .i64 0)) pb E2 ∧ E2 10 = some ⟨b1, 47, 3, .slice (some ⟨g, 0, none⟩) O.vs.length e1, O.vs.length, vC (l'.set q (77, 0, 0))⟩ ∧ E2 20 = E' 20) := by
                refine ⟨?_, _, q2.set3 (k := q) (77, 0, 0) q3, up_same _ _ _, up_ne (by omega)⟩
                have h8 := HPb.out
                exact ((HQ1.out.2.1.setCell (p := ⟨g, q * 3, none⟩) (by show wA.heap.size ≤ g; omega) _).setCell (p := ⟨g, q * 3 + 1, none⟩) (by show wA.heap.size ≤ g; omega) _).setCell (p := ⟨g, q * 3 + 2, none⟩) (by show wA.heap.size ≤ g; omega) _
              clear hat hOw hOl hgp hqn q2 q3 q4
              go_wp2_with fail
              obtain ⟨E2, r1, r2, r3⟩ := HN.out.2
              go_roundg (O.vs.length - (q + 1))
              case measure => have := HGq.out; have := HQn.out; omega
              case rel => exact ⟨q + 1, l'.set q (77, 0, 0), E2, HQn.out, rfl, by go_num, by rw [List.length_set]; exact HQ1.out.1, HN.out.1, r1, r2, r3.trans HQ1.out.2.2.2.2⟩
            case neg =>
              have hq1 : ¬ (q : Int) < (O.vs.length : Int) := by omega
              clear hqn HGq hq q2 q3 q4
              go_wp2_with fail
              clear hq1 hH1 hJ1
              go_roundg (2 - (k + 1))
              case measure => have := HG.out; have := HK2.out; omega
              case rel => exact ⟨k + 1, HK2.out, rfl, by go_num, HB.out.trans (HQ1.out.2.1.mono HB.out.size)⟩
        case neg =>
          have hk1 : ¬ (k : Int) < 2 := by omega
          clear hk2 HG hk
          go_upto_region 24 with fail
          clear hk1 hH0 hJ0
          have HS1 := show Hid _ from same17 (ca := vc0) (cb := kc) (HV.out.1.below HB.out) (HV.out.2.1.below HB.out) (by have := HLn.out; omega)
          have hpos : (0 : Int) < (P.rows.length : Int) := by have := HP.out.2.2.1.n; omega
          have hp0 : ¬ P.rows.length = 0 := by have := HP.out.2.2.1.n; omega
          have hp1 : ¬ (P.rows.length : Int) = 0 := by omega
          have hp2 : decide ((P.rows.length : Int) = 0) = false := decide_eq_false hp1
          have hp3 : ((P.rows.length : Int) == 0) = false := by simpa using hp1
          go_wp2_with fail
          refine Calls.mono HS1.out ?_
          rintro e wB ⟨⟨bb, rfl, hbi⟩, hb⟩
          obtain rfl : bb = true := hbi.2 (by first | rfl | trivial)
          have HB2 : Hid (Below w10.heap.size w10 wB) := HB.out.trans (hb.mono HB.out.size)
          clear hb hbi HS1
          obtain ⟨c0, c1, c2⟩ := cells3 ((HB2.out.block _ (blk_lt HC.out.2.1)).trans HC.out.2.1)
          obtain ⟨d0, d1', d2'⟩ := cells3 ((HB2.out.block _ (blk_lt HC.out.2.2.2)).trans HC.out.2.2.2)
          have HS2 := show Hid _ from sameTyped_any (vc1 := d1) (tc1 := d2) (rc1 := d3) (vc2 := y0) (tc2 := y1) (rc2 := y2) (HV.out.2.2.1.below HB2.out) (HV.out.2.2.2.2.2.1.below HB2.out) (HV.out.2.2.2.1.below HB2.out) (HV.out.2.2.2.2.2.2.1.below HB2.out) (HV.out.2.2.2.2.1.below HB2.out) (HV.out.2.2.2.2.2.2.2.below HB2.out) (by have := HLn.out; omega) (by have := HLn.out; omega) (by have := HLn.out; omega)
          go_wp2_with fail
          refine Calls.mono HS2.out ?_
          rintro e wC ⟨rfl, hb⟩
          have HBC : Hid (Below w10.heap.size w10 wC) := HB2.out.trans (hb.mono HB2.out.size)
          clear hb HS2 c0 c1 c2 d0 d1' d2' HB HB2
          obtain ⟨k0, k1, k2, k3, k4, k5, k6, k7⟩ := pol8 (HC.out.1.below HBC.out).p
          go_upto_region 26 with fail
          clear hpos hp0 hp1 hp2 hp3
          have HLd := show Hid _ from lend8 (ac := ac) (qc := qc) (vc := vc) (tc := tc) (uc := uc) (oc := oc) (RdG.below H3.out.1 (HC.out.1.be.trans (HBC.out.mono HC.out.1.be.size))) HP.out.1.r HP.out.1.q (by have := HFw.out; omega) (by have := HFw.out; omega) HP.out.1.u HP.out.1.o
          dsimp only [pvG] at HLd
          go_wp2_with fail
          refine Calls.mono HLd.out ?_
          rintro e wD ⟨g, gq, gv, gt, gu, go, rfl, hL, hb⟩
          have HBD : Hid (Below w10.heap.size w10 wD ∧ Lb8 wD wC.heap.size P g gq gv gt gu go) := ⟨HBC.out.trans (hb.mono HBC.out.size), lb_of hL⟩
          clear hb hL HLd k0 k1 k2 k3 k4 k5 k6 k7
          have hbE : Below wD.heap.size wD (wD.alloc (.cells #[.string P.name, .slice (some ⟨g, 0, none⟩) P.rows.length (P.rows.length + 9), .slice (some ⟨gq, 0, none⟩) P.qs.length (P.qs.length + 3), .slice (some ⟨gv, 0, none⟩) P.vs.length (P.vs.length + 3), .slice (some ⟨gt, 0, none⟩) P.ts.length (P.ts.length + 3), .slice (some ⟨gu, 0, none⟩) P.us.length (P.us.length + 5), .slice (some ⟨go, 0, none⟩) P.on.length (P.on.length + 5), .int .i64 P.miss] 30)) := (Below.refl _ _).alloc (Nat.le_refl _) _
          have HE : Hid (Below w10.heap.size w10 (wD.alloc (.cells #[.string P.name, .slice (some ⟨g, 0, none⟩) P.rows.length (P.rows.length + 9), .slice (some ⟨gq, 0, none⟩) P.qs.length (P.qs.length + 3), .slice (some ⟨gv, 0, none⟩) P.vs.length (P.vs.length + 3), .slice (some ⟨gt, 0, none⟩) P.ts.length (P.ts.length + 3), .slice (some ⟨gu, 0, none⟩) P.us.length (P.us.length + 5), .slice (some ⟨go, 0, none⟩) P.on.length (P.on.length + 5), .int .i64 P.miss] 30)) ∧ Lb8 (wD.alloc (.cells #[.string P.name, .slice (some ⟨g, 0, none⟩) P.rows.length (P.rows.length + 9), .slice (some ⟨gq, 0, none⟩) P.qs.length (P.qs.length + 3), .slice (some ⟨gv, 0, none⟩) P.vs.length (P.vs.length + 3), .slice (some ⟨gt, 0, none⟩) P.ts.length (P.ts.length + 3), .slice (some ⟨gu, 0, none⟩) P.us.length (P.us.length + 5), .slice (some ⟨go, 0, none⟩) P.on.length (P.on.length + 5), .int .i64 P.miss] 30)) wC.heap.size P g gq gv gt gu go ∧ (wD.alloc (.cells #[.string P.name, .slice (some ⟨g, 0, none⟩) P.rows.length (P.rows.length + 9), .slice (some ⟨gq, 0, none⟩) P.qs.length (P.qs.length + 3), .slice (some ⟨gv, 0, none⟩) P.vs.length (P.vs.length + 3), .slice (some ⟨gt, 0, none⟩) P.ts.length (P.ts.length + 3), .slice (some ⟨gu, 0, none⟩) P.us.length (P.us.length + 5), .slice (some ⟨go, 0, none⟩) P.on.length (P.on.length + 5), .int .i64 P.miss] 30)).heap[wD.heap.size]? = some (.cells #[.string P.name, .slice (some ⟨g, 0, none⟩) P.rows.length (P.rows.length + 9), .slice (some ⟨gq, 0, none⟩) P.qs.length (P.qs.length + 3), .slice (some ⟨gv, 0, none⟩) P.vs.length (P.vs.length + 3), .slice (some ⟨gt, 0, none⟩) P.ts.length (P.ts.length + 3), .slice (some ⟨gu, 0, none⟩) P.us.length (P.us.length + 5), .slice (some ⟨go, 0, none⟩) P.on.length (P.on.length + 5), .int .i64 P.miss] 30 (0, 0))) := ⟨HBD.out.1.trans (hbE.mono HBD.out.1.size), HBD.out.2.below hbE, heap_alloc_new _ _⟩
          have HG : Hid (g ≠ wD.heap.size ∧ w10.heap.size ≤ g ∧ w10.heap.size ≤ wD.heap.size) := ⟨by have := HBD.out.2.r.lt; omega, by have := HBD.out.2.n; have := HBC.out.size; omega, HBD.out.1.size⟩
          clear hbE HBD
          dsimp only [lent8]
          go_wp2_with fail
          generalize (wD.alloc (.cells #[.string P.name, .slice (some ⟨g, 0, none⟩) P.rows.length (P.rows.length + 9), .slice (some ⟨gq, 0, none⟩) P.qs.length (P.qs.length + 3), .slice (some ⟨gv, 0, none⟩) P.vs.length (P.vs.length + 3), .slice (some ⟨gt, 0, none⟩) P.ts.length (P.ts.length + 3), .slice (some ⟨gu, 0, none⟩) P.us.length (P.us.length + 5), .slice (some ⟨go, 0, none⟩) P.on.length (P.on.length + 5), .int .i64 P.miss] 30)) = wE at *
          generalize wD.heap.size = B20 at *
          go_loopg [21] 2 (fun gq' s21 wr => ∃ (k : Nat) (rk : List Rz), k ≤ 2 ∧ gq' = 2 - k ∧ s21 = .int .i64 (k : Int) ∧ rk.length = P.rows.length ∧ Below w10.heap.size w10 wr ∧ Lb8 wr wC.heap.size { P with rows := rk } g gq gv gt gu go ∧ wr.heap[B20]? = some (.cells #[.string P.name, .slice (some ⟨g, 0, none⟩) P.rows.length (P.rows.length + 9), .slice (some ⟨gq, 0, none⟩) P.qs.length (P.qs.length + 3), .slice (some ⟨gv, 0, none⟩) P.vs.length (P.vs.length + 3), .slice (some ⟨gt, 0, none⟩) P.ts.length (P.ts.length + 3), .slice (some ⟨gu, 0, none⟩) P.us.length (P.us.length + 5), .slice (some ⟨go, 0, none⟩) P.on.length (P.on.length + 5), .int .i64 P.miss] 30 (0, 0)))
          case atStart => exact ⟨0, P.rows, by omega, rfl, rfl, rfl, HE.out.1, HE.out.2.1, HE.out.2.2⟩
          case round =>
            rename_i J0 K0 hJ0 hH0
            obtain ⟨k, rk, hk, hgk, rfl, hrl, hB, hL, hx⟩ := hrel
            clear HE
            have HK : Hid (gk = 2 - k ∧ k ≤ 2) := ⟨hgk, hk⟩
            have HB : Hid (Below w10.heap.size w10 wr ∧ Lb8 wr wC.heap.size { P with rows := rk } g gq gv gt gu go ∧ rk.length = P.rows.length) := ⟨hB, hL, hrl⟩
            have HX := show Hid _ from hx
            clear hgk hB hL hrl hx
            by_cases hk2 : k < 2
            case pos =>
              have hk1 : (k : Int) < 2 := by omega
              have HK2 : Hid (k < 2) := hk2
              clear hk2
              have HSm : Hid (({ P with rows := rk } : Pg).Sm) := Pg.Sm.rows HP.out.1 HB.out.2.2
              obtain ⟨im, ge, ga, hQ⟩ := tyQ_ex { P with rows := rk }
              have hIm : im.length ≤ P.rows.length := by have h1 := tyQ_len hQ; have h2 := HB.out.2.2; dsimp only at h1; omega
              have HIm := show Hid _ from hIm
              clear hIm
              have HQm := show Hid _ from hQ
              have HT2 := show Hid _ from types_own (ac := P.rows.length + 9) (qc := P.qs.length + 3) (vc := P.vs.length + 3) (tc := P.ts.length + 3) (uc := P.us.length + 5) (oc := P.on.length + 5) HB.out.2.1.rd HSm.out nofun (fun h => (rdy_of HSm.out h).1) hQ (by have := HB.out.2.2; have := HLn.out; dsimp only; omega)
              dsimp only [pvG] at HT2
              rw [HB.out.2.2] at HT2
              clear hQ
              obtain ⟨k0, k1, k2, k3, k4, k5, k6, k7⟩ := pol8 HX.out
              go_upto_region 30 with fail
              go_wp2_with fail
              refine Calls.mono HT2.out ?_
              rintro e wa ⟨hb, v4, rfl, ho⟩
              obtain ⟨lo, lc, rfl⟩ := own_form ho
              have hbA : Below wa.heap.size wa (wa.alloc (.cells #[.int .i64 ge, .int .i64 ga] 33)) := (Below.refl _ _).alloc (Nat.le_refl _) _
              have HB1 : Hid (Below wr.heap.size wr (wa.alloc (.cells #[.int .i64 ge, .int .i64 ga] 33)) ∧ (wa.alloc (.cells #[.int .i64 ge, .int .i64 ga] 33)).heap[wa.heap.size]? = some (.cells #[.int .i64 ge, .int .i64 ga] 33 (0, 0)) ∧ IsVals (wa.alloc (.cells #[.int .i64 ge, .int .i64 ga] 33)) lo (iv im)) := ⟨hb.trans (hbA.mono hb.size), heap_alloc_new _ _, vals_of (own_below ho hbA)⟩
              clear hb ho hbA HT2 k0 k1 k2 k3 k4 k5 k6 k7
              go_upto_region 31 with fail
              generalize (wa.alloc (.cells #[.int .i64 ge, .int .i64 ga] 33)) = wb at *
              generalize wa.heap.size = B23 at *
              have HLd := show Hid _ from lend8 (p := { P with rows := rk }) (ac := P.rows.length + 9) (qc := P.qs.length + 3) (vc := P.vs.length + 3) (tc := P.ts.length + 3) (uc := P.us.length + 5) (oc := P.on.length + 5) (HB.out.2.1.below HB1.out.1).rd HSm.out.r HSm.out.q (by have := HFw.out; dsimp only; omega) (by have := HFw.out; dsimp only; omega) HSm.out.u HSm.out.o
              dsimp only [pvG, lent8] at HLd
              rw [HB.out.2.2] at HLd
              obtain ⟨k0, k1, k2, k3, k4, k5, k6, k7⟩ := pol8 ((HB1.out.1.block _ (blk_lt HX.out)).trans HX.out)
              go_wp2_with fail
              refine Calls.mono HLd.out ?_
              rintro e wc ⟨g2, gq2, gv2, gt2, gu2, go2, rfl, hL, hb⟩
              have HB2 : Hid (Below wr.heap.size wr wc ∧ wc.heap[B23]? = some (.cells #[.int .i64 ge, .int .i64 ga] 33 (0, 0)) ∧ IsVals wc lo (iv im)) := ⟨HB1.out.1.trans (hb.mono HB1.out.1.size), (hb.block _ (blk_lt HB1.out.2.1)).trans HB1.out.2.1, HB1.out.2.2.below hb⟩
              have HT3 := show Hid _ from types_own (ac := P.rows.length + 9) (qc := P.qs.length + 3) (vc := P.vs.length + 3) (tc := P.ts.length + 3) (uc := P.us.length + 5) (oc := P.on.length + 5) (lb_of hL).rd HSm.out nofun (fun h => (rdy_of HSm.out h).1) HQm.out (by have := HB.out.2.2; have := HLn.out; dsimp only; omega)
              dsimp only [pvG] at HT3
              rw [HB.out.2.2] at HT3
              clear hL hb HLd HB1 k0 k1 k2 k3 k4 k5 k6 k7
              go_wp2_with fail
              refine Calls.mono HT3.out ?_
              rintro e wd ⟨hb, v5, rfl, ho⟩
              obtain ⟨mo, mc, rfl⟩ := own_form ho
              have hbA : Below wd.heap.size wd (wd.alloc (.cells #[.int .i64 ge, .int .i64 ga] 33)) := (Below.refl _ _).alloc (Nat.le_refl _) _
              have hbB : Below wc.heap.size wc (wd.alloc (.cells #[.int .i64 ge, .int .i64 ga] 33)) := hb.trans (hbA.mono hb.size)
              have HB3 : Hid (Below wr.heap.size wr (wd.alloc (.cells #[.int .i64 ge, .int .i64 ga] 33)) ∧ (wd.alloc (.cells #[.int .i64 ge, .int .i64 ga] 33)).heap[B23]? = some (.cells #[.int .i64 ge, .int .i64 ga] 33 (0, 0)) ∧ IsVals (wd.alloc (.cells #[.int .i64 ge, .int .i64 ga] 33)) lo (iv im) ∧ (wd.alloc (.cells #[.int .i64 ge, .int .i64 ga] 33)).heap[wd.heap.size]? = some (.cells #[.int .i64 ge, .int .i64 ga] 33 (0, 0)) ∧ IsVals (wd.alloc (.cells #[.int .i64 ge, .int .i64 ga] 33)) mo (iv im)) := ⟨HB2.out.1.trans (hbB.mono HB2.out.1.size), (hbB.block _ (blk_lt HB2.out.2.1)).trans HB2.out.2.1, HB2.out.2.2.below hbB, heap_alloc_new _ _, vals_of (own_below ho hbA)⟩
              clear hb ho hbA hbB HT3 HB2
              go_upto_region 32 with fail
              generalize (wd.alloc (.cells #[.int .i64 ge, .int .i64 ga] 33)) = we at *
              generalize wd.heap.size = B25 at *
              obtain ⟨f0, f1⟩ := cells2 HB3.out.2.1
              obtain ⟨g0, g1⟩ := cells2 HB3.out.2.2.2.1
              have HS1 := show Hid _ from same17 (ca := lc) (cb := mc) HB3.out.2.2.1 HB3.out.2.2.2.2 (by have := HIm.out; have := HLn.out; omega)
              go_wp2_with fail
              refine Calls.mono HS1.out ?_
              rintro e wf ⟨⟨bb, rfl, hbi⟩, hb⟩
              obtain rfl : bb = true := hbi.2 (by first | rfl | trivial)
              have HB4 : Hid (Below wr.heap.size wr wf) := HB3.out.1.trans (hb.mono HB3.out.1.size)
              clear hb hbi HS1 HB3 f0 f1 g0 g1
              obtain ⟨k0, k1, k2, k3, k4, k5, k6, k7⟩ := pol8 ((HB4.out.block _ (blk_lt HX.out)).trans HX.out)
              have HRd := show Hid _ from round8 ix P.rows.length HP.out.2.2.1.n HP.out.1.r wf
              go_upto_region 34 with fail
              go_wp2_with fail
              refine Calls.mono HRd.out ?_
              rintro e wg ⟨⟨i, hi, rfl⟩, rfl⟩
              clear HRd
              obtain ⟨r, hr⟩ : ∃ r, rk[i]? = some r := ⟨_, List.getElem?_eq_getElem (by have := HB.out.2.2; omega)⟩
              have HLg := show Hid _ from HB.out.2.1.below HB4.out
              have HXg : Hid (wg.heap[B20]? = some (.cells #[.string P.name, .slice (some ⟨g, 0, none⟩) P.rows.length (P.rows.length + 9), .slice (some ⟨gq, 0, none⟩) P.qs.length (P.qs.length + 3), .slice (some ⟨gv, 0, none⟩) P.vs.length (P.vs.length + 3), .slice (some ⟨gt, 0, none⟩) P.ts.length (P.ts.length + 3), .slice (some ⟨gu, 0, none⟩) P.us.length (P.us.length + 5), .slice (some ⟨go, 0, none⟩) P.on.length (P.on.length + 5), .int .i64 P.miss] 30 (0, 0))) := (HB4.out.block _ (blk_lt HX.out)).trans HX.out
              have hne : ∀ (u : World) (j : Nat) (v : Value), (u.setCell ⟨g, j, none⟩ v).heap[B20]? = u.heap[B20]? := fun u j v => Below.heap_setCell u _ v _ (fun e => HG.out.1 e.symm)
              have HW : Hid (Below w10.heap.size w10 ((wg.setCell ⟨g, i * 5, none⟩ (.int .i64 29)).setCell ⟨g, i * 5 + 3, none⟩ (.int .i64 0)) ∧ Lb8 ((wg.setCell ⟨g, i * 5, none⟩ (.int .i64 29)).setCell ⟨g, i * 5 + 3, none⟩ (.int .i64 0)) wC.heap.size { P with rows := rk.set i { r with kind := 29, n := 0 } } g gq gv gt gu go ∧ ((wg.setCell ⟨g, i * 5, none⟩ (.int .i64 29)).setCell ⟨g, i * 5 + 3, none⟩ (.int .i64 0)).heap[B20]? = some (.cells #[.string P.name, .slice (some ⟨g, 0, none⟩) P.rows.length (P.rows.length + 9), .slice (some ⟨gq, 0, none⟩) P.qs.length (P.qs.length + 3), .slice (some ⟨gv, 0, none⟩) P.vs.length (P.vs.length + 3), .slice (some ⟨gt, 0, none⟩) P.ts.length (P.ts.length + 3), .slice (some ⟨gu, 0, none⟩) P.us.length (P.us.length + 5), .slice (some ⟨go, 0, none⟩) P.on.length (P.on.length + 5), .int .i64 P.miss] 30 (0, 0))) :=
                ⟨((HB.out.1.trans (HB4.out.mono HB.out.1.size)).setCell (p := ⟨g, i * 5, none⟩) HG.out.2.1 _).setCell (p := ⟨g, i * 5 + 3, none⟩) HG.out.2.1 _, HLg.out.row hr 29 0, (hne _ _ _).trans ((hne _ _ _).trans HXg.out)⟩
              have HW1 : Hid ((wg.setCell ⟨g, i * 5, none⟩ (.int .i64 29)).heap[B20]? = some (.cells #[.string P.name, .slice (some ⟨g, 0, none⟩) P.rows.length (P.rows.length + 9), .slice (some ⟨gq, 0, none⟩) P.qs.length (P.qs.length + 3), .slice (some ⟨gv, 0, none⟩) P.vs.length (P.vs.length + 3), .slice (some ⟨gt, 0, none⟩) P.ts.length (P.ts.length + 3), .slice (some ⟨gu, 0, none⟩) P.us.length (P.us.length + 5), .slice (some ⟨go, 0, none⟩) P.on.length (P.on.length + 5), .int .i64 P.miss] 30 (0, 0)) ∧ (wg.setCell ⟨g, i * 5, none⟩ (.int .i64 29)).cell? ⟨g, i * 5 + 3, none⟩ = some (.int .i64 r.n) ∧ ∀ j, (wg.setCell ⟨g, i * 5, none⟩ (.int .i64 29)).frozen? ⟨g, j, none⟩ = false) := ⟨(hne _ _ _).trans HXg.out, HLg.out.r.c3 hr _⟩
              have c0 := HLg.out.r.at0 hr
              have hf := HLg.out.r.frozen
              have hi1 : (i : Int) < (P.rows.length : Int) := by omega
              have HLen : Hid (rk.length = P.rows.length ∧ i < P.rows.length) := ⟨HB.out.2.2, hi⟩
              clear hne hr HLg HXg HX HB hi
              go_upto_region 36 with fail
              generalize (wg.setCell ⟨g, i * 5, none⟩ (.int .i64 29)) = wh at *
              clear k0 k1 k2 k3 k4 k5 k6 k7 c0 hf
              obtain ⟨k0, k1, k2, k3, k4, k5, k6, k7⟩ := pol8 HW1.out.1
              obtain ⟨c3, hf⟩ := HW1.out.2
              go_wp2_with fail
              go_roundg (2 - (k + 1))
              case measure => have := HK.out; have := HK2.out; omega
              case rel => exact ⟨k + 1, _, HK2.out, rfl, by go_num, by rw [List.length_set]; exact HLen.out.1, HW.out.1, HW.out.2.1, HW.out.2.2⟩
            case neg =>
              have hk1 : ¬ (k : Int) < 2 := by omega
              clear hk2 HK hk
              go_wp2_with fail
              go_ret
              exact ⟨rfl, H3.out.2.2.2.trans ((HC.out.1.be.trans (HB.out.1.mono HC.out.1.be.size)).mono H3.out.2.2.2.size)⟩
end Go.Proofs.YtnpdblcfhbamiaaGreat.Nm.Ty
namespace Go.Proofs.YtnpdblcfhbamiaaGreat.typedOwn
open Go.ChangeShapes Go.WideShapes Go.ChangeAt Go.RowKit
open Go.Proofs.YtnpdblcfhbamiaaGreat.Sp Go.Proofs.YtnpdblcfhbamiaaGreat.Lx Go.Proofs.YtnpdblcfhbamiaaGreat.Gr Go.Proofs.YtnpdblcfhbamiaaGreat.Nm
theorem contractF (H : Type) (enc : TypeId × Value → H) (W : World) (base : Nat) (args : Array Value) (ds gs : List (DataW H)) (before : List MemPlace)
    (hval : ∀ (j : Nat) t v, Tryz.f3.params[j]? = some t → args[j]? = some v → Value.okWide Tryz.prog W .any base t v)
    (hW : DataW.Whole enc Tryz.prog Tryz.f3.params.toList Rows.typedOwnSpec.vars false W args.toList ds gs before)
    (hsz : (DataW.weightsEach Tryz.prog (Tryz.f3.params.toList ++ Rows.typedOwnSpec.plain.varTypes Tryz.prog) (ds ++ gs)).all (· ≤ reachBytes) = true) :
    Calls Tryz.prog 3 args W fun e W' => ∃ v, e = .returned v ∧ Rows.typedOwnSpec.post enc Tryz.prog Tryz.f3 false true false false W args v W' := by
  have hW' := hW
  obtain ⟨p, q, hA0, hV, rfl, hfz, hnd⟩ := hW
  have hA : DataW.TrodAll enc Tryz.prog W 0 (fun _ => true) true Tryz.f3.params.toList args.toList ds p := hA0
  rw [Tryz.params3] at hA hval hsz
  obtain ⟨v0, vs0, d0, ds0, p0, q0, hargs, rfl, rfl, h0, r0⟩ := trodAll_cons hA
  obtain ⟨v1, vs1, d1, ds1, p1, q1, rfl, rfl, rfl, h1, r1⟩ := trodAll_cons r0
  obtain ⟨v2, vs2, d2, ds2, p2, q2, rfl, rfl, rfl, h2, r2⟩ := trodAll_cons r1
  obtain ⟨rfl, rfl, rfl⟩ := trodAll_nil r2
  obtain rfl : args = #[v0, v1, v2] := by cases args; simp_all
  obtain ⟨rfl, rfl⟩ := trodVars_none hV
  have lt0 : ∀ x ∈ p0, x.block < W.heap.size := by obtain ⟨m, hm⟩ := h0; exact DataW.trod_lt m _ _ _ hm
  have lt1 : ∀ x ∈ p1, x.block < W.heap.size := by obtain ⟨m, hm⟩ := h1; exact DataW.trod_lt m _ _ _ hm
  obtain ⟨ro0, len0, cap0, rfl⟩ := okWide_slice Tryz.underlying22 (hval 0 22 v0 rfl rfl)
  obtain ⟨s0, rfl, cl0, ib0, kb0, dr0⟩ := open_rowsZ h0
  obtain ⟨csz, co, cc, ql, c0, c1, rfl, hcsz, hq, hqi, hcn, rfl, hd1⟩ := Ty.open_caps (hval 1 25 v1 rfl rfl) h1
  obtain ⟨a2, rfl, rfl, rfl, w2⟩ := open_int Tryz.underlying3 (hval 2 3 v2 rfl rfl) h2
  refine (Ty.ownWalk8 ro0 s0 cap0 csz co ql cc a2 W ib0 (rows_reach hsz (j := 0) rfl rfl dr0).1 hq (Ty.caps_reach hsz (j := 1) rfl rfl hd1) hqi hcsz (Ty.wf_in w2)).mono fun e W2 ⟨he, bel⟩ => ?_
  subst he
  exact ⟨_, rfl, _, _, _, [], _, [], hW', trodAll_mk1 (shut_bool Tryz.underlying4 _), (trodAll_cons_mk (Below.trod laidOut (by kernel_rfl) (of_decide_eq_true (by kernel_rfl)) h0 bel lt0) (trodAll_cons_mk (Below.trod laidOut (by kernel_rfl) (of_decide_eq_true (by kernel_rfl)) h1 bel lt1) (trodAll_cons_mk (shut_int Tryz.underlying3 w2) trodAll_mk0))), rfl, bel.frame _, fun h => by cases h⟩
theorem liftedF (os : Os) (started : os.Started) (H : Type) (enc : TypeId × Value → H) :
    ReturnsInHanded {} Tryz.checked os 3 .any (Rows.typedOwnSpec.pre6 enc Tryz.prog Tryz.f3 Rows.typedOwnRow.domain false) (Rows.typedOwnSpec.post enc Tryz.prog Tryz.f3 false true false false) := by
  refine returnsInHanded_of_change_sized (C := Tryz.checked) own started (by kernel_rfl) Tryz.func3
    (ChangeSpec.witness6 (enc := enc) (C := Tryz.checked) false ⟨#[], #[.slice none 0 0, .agg #[.int .i64 0, .slice none 0 0], .int .i64 0], []⟩ 8 (by kernel_rfl) (by kernel_rfl) (by kernel_rfl) (by kernel_rfl)) ?_
  intro W base args ds gs before hval hW _ hsz _
  exact contractF H enc W base args ds gs before hval hW hsz
theorem provedF : Rows.TypedOwnSaid :=
  OpenClaim.holds_of_wide 3 Tryz.f3 rfl rfl rfl rfl rfl rfl rfl ⟨rfl, rfl, rfl, rfl, rfl⟩ rfl rfl rfl rfl rfl (by kernel_rfl) Tryz.func3 (by kernel_rfl)
    (of_decide_eq_true (by kernel_rfl)) (by unfold Func.isWrapper; first | (rw [if_pos (by decide +kernel)]; kernel_rfl) | (rw [if_neg (by decide +kernel)]; exact ⟨rfl, rfl⟩))
    (fun os started H enc _ => liftedF os started H enc)
end Go.Proofs.YtnpdblcfhbamiaaGreat.typedOwn
