import Derived.Test.YtcicifcnffacpaaDoorJK
import Derived.Test.YtcicifcnffacpaaDoorCeRsm
import Derived.BigQuiet
import Derived.Test.YtcicifcnffacpaaDoorCards
import Derived.Test.YtcicifcnffacpaaDoorCeTie
import Derived.OpenShut
import Derived.Below
import Derived.Carry
import Derived.Lib.SmallJoins
set_option linter.unusedSimpArgs false
namespace Go.Proofs.YtcicifcnffacpaaDoor.Cd
open Go.RowKit Go.Proofs.YtcicifcnffacpaaDoor.Nm Go.Proofs.YtcicifcnffacpaaDoor.Vf

theorem bel_step {w W W' : World} (h : Below w.heap.size w W) (h2 : Below W.heap.size W W') : Below w.heap.size w W' := h.trans (h2.mono h.size)
theorem tab_on {w W : World} {nm : String} {k : IntKind} {zs : List Int} (h : Lib.TabBelow Tryd.prog w.heap.size w nm k zs) (hb : Below w.heap.size w W) : Lib.TabBelow Tryd.prog W.heap.size W nm k zs := fun w' hw => h w' (bel_step hb hw)
theorem str_eq {a b : List Nat} (ha : Low a) (hb : Low b) : ((txt a).toList == (txt b).toList) = decide (a = b) := by
  by_cases h : a = b
  · subst h
    simp
  · rw [decide_eq_false h, ByteArray.toList_eq, ByteArray.toList_eq]
    refine beq_eq_false_iff_ne.2 fun e => h ?_
    exact txt_inj ha hb (ByteArray.ext (Array.toList_inj.1 e))
theorem both_same {p q : Pg} (hp : chk p = 0) (hq : chk q = 0) : decide (byP p = byP q) = samB p q := by
  by_cases h : p = q
  · subst h
    rw [(samB_iff p p).2 rfl]
    simp
  · rw [samB_no h]
    exact decide_eq_false fun e => h (byP_inj hp hq e)
theorem own_drew {w : World} {base : Nat} {e : TypeId} {size : Nat} {v : Value} {n : Nat} {xs : List Value} (k : Nat) (h : w.ownsRow base e size v n xs) : (w.drewN k).ownsRow base e size v n xs := own_below h (Nm.below_drewN w k)
theorem cap_own {w : World} {base : Nat} {e : TypeId} {size : Nat} {b : Option Addr} {n c : Nat} {xs : List Value} (h : w.ownsRow base e size (.slice b n c) n xs) (hn : 0 < n) : n ≤ c := by
  rcases h.2 with ⟨_, e2⟩ | ⟨g, cap, cur, e1, _, _, e4, _⟩
  · omega
  · cases e1
    exact e4
set_option maxHeartbeats 25600000 in
set_option maxRecDepth 100000 in
/-- CodeUnlike -/
theorem unlikeWalk (W : World) (hT : Lib.TabBelow Tryd.prog W.heap.size W "internal/strconv.uint64pow10" .u64 Lib.pow10Tab) (hA : Lib.TabBelow Tryd.prog W.heap.size W "strings.asciiSpace" .u8 Lib.asciiSpaceTab) (v : PV) (p : Pg) (hP : IsPg W v p) (u : PV) (q : Pg) (hQ : IsPg W u q) :
    Calls Tryd.prog 8 #[.agg (pvC v p), .agg (pvC u q)] W fun e W' => e = .returned (.bool true) ∧ Below W.heap.size W W' := by
  obtain ⟨qo, qc, vo, vc, tto, tc, oo, oc, co, cc⟩ := v
  obtain ⟨qo', qc', vo', vc', tto', tc', oo', oc', co', cc'⟩ := u
  have HK : Hid (∀ w, Below W.heap.size W w → Calls Tryd.prog 9 #[] w fun e w' => e = .returned (.bool true) ∧ Below w.heap.size w w') := fun w hb => known_any w (tab_on hT hb) (tab_on hA hb)
  have HE1 : Hid (∀ w, Below W.heap.size W w → Calls Tryd.prog 12 #[.agg #[.slice qo p.gh.length qc, .slice vo p.vs.length vc, .slice tto p.ts.length tc, .slice oo p.on.length oc, .int .i64 p.miss, .slice co p.cd.length cc]] w fun e w' => ∃ u, e = .returned (.tuple #[u, .int .i64 (chk p : Int)]) ∧ w'.ownsRow w.heap.size 5 1 u (encB p).length (u8L (encB p)) ∧ Below w.heap.size w w') := fun w hb => enc_any ⟨qo, qc, vo, vc, tto, tc, oo, oc, co, cc⟩ p w (hP.below hb)
  have HE2 : Hid (∀ w, Below W.heap.size W w → Calls Tryd.prog 12 #[.agg #[.slice qo' q.gh.length qc', .slice vo' q.vs.length vc', .slice tto' q.ts.length tc', .slice oo' q.on.length oc', .int .i64 q.miss, .slice co' q.cd.length cc']] w fun e w' => ∃ u, e = .returned (.tuple #[u, .int .i64 (chk q : Int)]) ∧ w'.ownsRow w.heap.size 5 1 u (encB q).length (u8L (encB q)) ∧ Below w.heap.size w w') := fun w hb => enc_any ⟨qo', qc', vo', vc', tto', tc', oo', oc', co', cc'⟩ q w (hQ.below hb)
  have HS : Hid (∀ w, Below W.heap.size W w → Calls Tryd.prog 23 #[.agg #[.slice qo p.gh.length qc, .slice vo p.vs.length vc, .slice tto p.ts.length tc, .slice oo p.on.length oc, .int .i64 p.miss, .slice co p.cd.length cc], .agg #[.slice qo' q.gh.length qc', .slice vo' q.vs.length vc', .slice tto' q.ts.length tc', .slice oo' q.on.length oc', .int .i64 q.miss, .slice co' q.cd.length cc']] w fun e w' => e = .returned (.bool (samB p q)) ∧ Below w.heap.size w w') := fun w hb => same_any ⟨qo, qc, vo, vc, tto, tc, oo, oc, co, cc⟩ ⟨qo', qc', vo', vc', tto', tc', oo', oc', co', cc'⟩ p q w (hP.below hb) (hQ.below hb)
  clear hT hA hP hQ
  have HB0 := show Hid _ from two_prg W #[.slice qo p.gh.length qc, .slice vo p.vs.length vc, .slice tto p.ts.length tc, .slice oo p.on.length oc, .int .i64 p.miss, .slice co p.cd.length cc] #[.slice qo' q.gh.length qc', .slice vo' q.vs.length vc', .slice tto' q.ts.length tc', .slice oo' q.on.length oc', .int .i64 q.miss, .slice co' q.cd.length cc']
  go_enter Tryd.func8, Tryd.ntmps8
  go_upto_region 1 with fail
  generalize ((W.alloc (.cells #[.slice qo p.gh.length qc, .slice vo p.vs.length vc, .slice tto p.ts.length tc, .slice oo p.on.length oc, .int .i64 p.miss, .slice co p.cd.length cc] 27)).alloc (.cells #[.slice qo' q.gh.length qc', .slice vo' q.vs.length vc', .slice tto' q.ts.length tc', .slice oo' q.on.length oc', .int .i64 q.miss, .slice co' q.cd.length cc'] 27)) = W0 at *
  go_wp2_with fail
  refine (HK.out _ HB0.out.1).mono ?_
  rintro e w1 ⟨rfl, hb⟩
  have HB : Hid (Below W.heap.size W w1 ∧ w1.heap[W.heap.size]? = some (.cells #[.slice qo p.gh.length qc, .slice vo p.vs.length vc, .slice tto p.ts.length tc, .slice oo p.on.length oc, .int .i64 p.miss, .slice co p.cd.length cc] 27 (0, 0)) ∧ w1.heap[W.heap.size + 1]? = some (.cells #[.slice qo' q.gh.length qc', .slice vo' q.vs.length vc', .slice tto' q.ts.length tc', .slice oo' q.on.length oc', .int .i64 q.miss, .slice co' q.cd.length cc'] 27 (0, 0))) := ⟨bel_step HB0.out.1 hb, (hb.block _ (blk_lt HB0.out.2.1)).trans HB0.out.2.1, (hb.block _ (blk_lt HB0.out.2.2)).trans HB0.out.2.2⟩
  clear hb HB0 HK
  obtain ⟨c0, c1, c2, c3, c4, c5⟩ := cells6 HB.out.2.1
  obtain ⟨d0, d1, d2, d3, d4, d5⟩ := cells6 HB.out.2.2
  by_cases hb1 : 524288 < p.cd.length
  case pos =>
    have hb2 : (524288 : Int) < (p.cd.length : Int) := by omega
    go_wp2_with fail
    go_ret
    exact ⟨rfl, HB.out.1⟩
  have hb1' : decide (524288 < p.cd.length) = false := decide_eq_false hb1
  have hb2 : decide ((524288 : Int) < (p.cd.length : Int)) = false := decide_eq_false (by omega)
  clear hb1
  by_cases hb3 : 524288 < q.cd.length
  case pos =>
    have hb4 : (524288 : Int) < (q.cd.length : Int) := by omega
    go_wp2_with fail
    go_ret
    exact ⟨rfl, HB.out.1⟩
  have hb3' : decide (524288 < q.cd.length) = false := decide_eq_false hb3
  have hb4 : decide ((524288 : Int) < (q.cd.length : Int)) = false := decide_eq_false (by omega)
  clear hb3
  go_wp2_with fail
  clear hb1' hb2 hb3' hb4
  refine (HE1.out _ HB.out.1).mono ?_
  rintro e w2 ⟨u1, rfl, ho1, hb⟩
  obtain ⟨ub1, uc1, rfl⟩ := own_form ho1
  have HB2 : Hid (Below W.heap.size W w2 ∧ w2.heap[W.heap.size]? = some (.cells #[.slice qo p.gh.length qc, .slice vo p.vs.length vc, .slice tto p.ts.length tc, .slice oo p.on.length oc, .int .i64 p.miss, .slice co p.cd.length cc] 27 (0, 0)) ∧ w2.heap[W.heap.size + 1]? = some (.cells #[.slice qo' q.gh.length qc', .slice vo' q.vs.length vc', .slice tto' q.ts.length tc', .slice oo' q.on.length oc', .int .i64 q.miss, .slice co' q.cd.length cc'] 27 (0, 0)) ∧ w2.ownsRow w1.heap.size 5 1 (.slice ub1 (encB p).length uc1) (encB p).length (u8L (encB p))) := ⟨bel_step HB.out.1 hb, (hb.block _ (blk_lt HB.out.2.1)).trans HB.out.2.1, (hb.block _ (blk_lt HB.out.2.2)).trans HB.out.2.2, ho1⟩
  clear hb HE1 ho1 HB c0 c1 c2 c3 c4 c5 d0 d1 d2 d3 d4 d5
  obtain ⟨c0, c1, c2, c3, c4, c5⟩ := cells6 HB2.out.2.1
  obtain ⟨d0, d1, d2, d3, d4, d5⟩ := cells6 HB2.out.2.2.1
  go_wp2_with fail
  refine (HE2.out _ HB2.out.1).mono ?_
  rintro e w3 ⟨u2, rfl, ho2, hb⟩
  obtain ⟨ub2, uc2, rfl⟩ := own_form ho2
  have HB3 : Hid (Below W.heap.size W w3 ∧ w3.heap[W.heap.size]? = some (.cells #[.slice qo p.gh.length qc, .slice vo p.vs.length vc, .slice tto p.ts.length tc, .slice oo p.on.length oc, .int .i64 p.miss, .slice co p.cd.length cc] 27 (0, 0)) ∧ w3.heap[W.heap.size + 1]? = some (.cells #[.slice qo' q.gh.length qc', .slice vo' q.vs.length vc', .slice tto' q.ts.length tc', .slice oo' q.on.length oc', .int .i64 q.miss, .slice co' q.cd.length cc'] 27 (0, 0)) ∧ w3.ownsRow w1.heap.size 5 1 (.slice ub1 (encB p).length uc1) (encB p).length (u8L (encB p)) ∧ w3.ownsRow w2.heap.size 5 1 (.slice ub2 (encB q).length uc2) (encB q).length (u8L (encB q))) := ⟨bel_step HB2.out.1 hb, (hb.block _ (blk_lt HB2.out.2.1)).trans HB2.out.2.1, (hb.block _ (blk_lt HB2.out.2.2.1)).trans HB2.out.2.2.1, own_below HB2.out.2.2.2 hb, ho2⟩
  clear hb HE2 ho2 HB2 c0 c1 c2 c3 c4 c5 d0 d1 d2 d3 d4 d5
  by_cases h1 : chk p = 0
  case neg =>
    have e1 : ((chk p : Int) != 0) = true := by rw [bne_iff_ne]; omega
    generalize chk p = ck1 at *
    generalize chk q = ck2 at *
    clear h1
    go_wp2_with fail
    go_ret
    exact ⟨rfl, HB3.out.1⟩
  by_cases h2 : chk q = 0
  case neg =>
    have e2 : ((chk q : Int) != 0) = true := by rw [bne_iff_ne]; omega
    rw [h1]
    generalize chk q = ck2 at *
    clear h1 h2
    go_wp2_with fail
    go_ret
    exact ⟨rfl, HB3.out.1⟩
  rw [h1, h2]
  have hp1 : encB p = byP p := if_pos h1
  have hq1 : encB q = byP q := if_pos h2
  have HSm : Hid (decide (byP p = byP q) = samB p q) := both_same h1 h2
  have HFr : Hid ((byP p).length < (byP q).length → (byP q).take (byP p).length ≠ byP p) := fun hk => byP_front h1 h2 hk
  rw [hp1, hq1]
  rw [hp1, hq1] at HB3
  clear h1 h2 hp1 hq1
  have HLw : Hid (Low (byP p) ∧ Low (byP q)) := ⟨low_byP p, low_byP q⟩
  generalize byP p = x at *
  generalize byP q = y at *
  have hc1 : ∀ k, (convert 32 9 (.slice ub1 x.length uc1)).run Tryd.prog (w3.drewN k) = .ok (.string (txt x)) (w3.drewN k) := fun k => conv_own (own_drew k HB3.out.2.2.2.1) HLw.out.1
  have hc2 : ∀ k, (convert 32 9 (.slice ub2 y.length uc2)).run Tryd.prog (w3.drewN k) = .ok (.string (txt y)) (w3.drewN k) := fun k => conv_own (own_drew k HB3.out.2.2.2.2) HLw.out.2
  have hc3 : x.length < y.length → ∀ k, (convert 32 9 (.slice ub2 x.length uc2)).run Tryd.prog (w3.drewN k) = .ok (.string (txt (y.take x.length))) (w3.drewN k) := fun hl k => by
    have hr := rd_take (own_rdV (own_drew k HB3.out.2.2.2.2)) x.length
    have hr2 : Vf.Rd (w3.drewN k) ub2 (u8L (y.take x.length)) := by
      have e : u8L (y.take x.length) = (u8L y).take x.length := by simp [u8L, List.map_take]
      rw [e]
      exact hr
    have := conv_rd (c := uc2) hr2 (low_take HLw.out.2 _)
    rwa [List.length_take, Nat.min_eq_left (by omega)] at this
  have hd1 : (convert 32 9 (.slice ub1 x.length uc1)).run Tryd.prog w3 = .ok (.string (txt x)) w3 := conv_own HB3.out.2.2.2.1 HLw.out.1
  have hd2 : (convert 32 9 (.slice ub2 y.length uc2)).run Tryd.prog w3 = .ok (.string (txt y)) w3 := conv_own HB3.out.2.2.2.2 HLw.out.2
  obtain ⟨r, hr⟩ : ∃ r, ((txt x).toList == (txt y).toList) = r := ⟨_, rfl⟩
  have HR : Hid (r = samB p q) := by rw [← hr, str_eq HLw.out.1 HLw.out.2]; exact HSm.out
  go_upto_region 10 with fail
  clear hd1 hd2 hr
  by_cases hl : x.length < y.length
  case neg =>
    have hl2 : decide (x.length < y.length) = false := decide_eq_false hl
    have hl3 : decide ((x.length : Int) < (y.length : Int)) = false := decide_eq_false (by omega)
    clear hl hc1 hc2 hc3
    go_quiet (fail)
    clear hl2 hl3
    have HB4 : Hid (Below W.heap.size W (w3.drewN nq) ∧ (w3.drewN nq).heap[W.heap.size]? = some (.cells #[.slice qo p.gh.length qc, .slice vo p.vs.length vc, .slice tto p.ts.length tc, .slice oo p.on.length oc, .int .i64 p.miss, .slice co p.cd.length cc] 27 (0, 0)) ∧ (w3.drewN nq).heap[W.heap.size + 1]? = some (.cells #[.slice qo' q.gh.length qc', .slice vo' q.vs.length vc', .slice tto' q.ts.length tc', .slice oo' q.on.length oc', .int .i64 q.miss, .slice co' q.cd.length cc'] 27 (0, 0))) := ⟨bel_step HB3.out.1 (Nm.below_drewN _ _), HB3.out.2.1, HB3.out.2.2.1⟩
    generalize w3.drewN nq = w4 at *
    obtain ⟨c0, c1, c2, c3, c4, c5⟩ := cells6 HB4.out.2.1
    obtain ⟨d0, d1, d2, d3, d4, d5⟩ := cells6 HB4.out.2.2
    go_wp2_with fail
    refine (HS.out _ HB4.out.1).mono ?_
    rintro e w5 ⟨rfl, hb⟩
    have HB5 : Hid (Below W.heap.size W w5) := bel_step HB4.out.1 hb
    rw [← HR.out]
    clear hb HB4 c0 c1 c2 c3 c4 c5 d0 d1 d2 d3 d4 d5
    go_wp2_with fail
    go_ret
    exact ⟨rfl, HB5.out⟩
  case pos =>
    have hl3 : (x.length : Int) < (y.length : Int) := by omega
    have hl4 : (x.length : Int) ≤ (uc2 : Int) := by
      have := cap_own HB3.out.2.2.2.2 (by omega)
      omega
    have hc4 := hc3 hl
    have hf : ((txt (y.take x.length)).toList == (txt x).toList) = false := by
      rw [str_eq (low_take HLw.out.2 _) HLw.out.1]
      exact decide_eq_false (HFr.out hl)
    clear hc2 hc3
    go_quiet (fail)
    clear hl3 hl4 hf hc4 hl
    have HB4 : Hid (Below W.heap.size W (w3.drewN nq) ∧ (w3.drewN nq).heap[W.heap.size]? = some (.cells #[.slice qo p.gh.length qc, .slice vo p.vs.length vc, .slice tto p.ts.length tc, .slice oo p.on.length oc, .int .i64 p.miss, .slice co p.cd.length cc] 27 (0, 0)) ∧ (w3.drewN nq).heap[W.heap.size + 1]? = some (.cells #[.slice qo' q.gh.length qc', .slice vo' q.vs.length vc', .slice tto' q.ts.length tc', .slice oo' q.on.length oc', .int .i64 q.miss, .slice co' q.cd.length cc'] 27 (0, 0))) := ⟨bel_step HB3.out.1 (Nm.below_drewN _ _), HB3.out.2.1, HB3.out.2.2.1⟩
    generalize w3.drewN nq = w4 at *
    obtain ⟨c0, c1, c2, c3, c4, c5⟩ := cells6 HB4.out.2.1
    obtain ⟨d0, d1, d2, d3, d4, d5⟩ := cells6 HB4.out.2.2
    go_wp2_with fail
    refine (HS.out _ HB4.out.1).mono ?_
    rintro e w5 ⟨rfl, hb⟩
    have HB5 : Hid (Below W.heap.size W w5) := bel_step HB4.out.1 hb
    rw [← HR.out]
    clear hb HB4 c0 c1 c2 c3 c4 c5 d0 d1 d2 d3 d4 d5
    go_wp2_with fail
    go_ret
    exact ⟨rfl, HB5.out⟩
end Go.Proofs.YtcicifcnffacpaaDoor.Cd

set_option linter.unusedSimpArgs false
namespace Go.Proofs.YtcicifcnffacpaaDoor.Cd
open Go.RowKit Go.Proofs.YtcicifcnffacpaaDoor.Nm Go.Proofs.YtcicifcnffacpaaDoor.Vf

theorem dec_lens {s : List Nat} {p : Pg} {er i : Nat} (hd : decR s = (p, er, i)) (hb : byts s) (hs : s.length ≤ 1000000000) : p.gh.length ≤ 1000000000 ∧ p.vs.length ≤ 1000000000 ∧ p.ts.length ≤ 1000000000 ∧ p.on.length ≤ 1000000000 ∧ p.cd.length ≤ 1000000000 := by
  have h0 : ∀ q : Pg, q = pg0 → q.gh.length ≤ 1000000000 ∧ q.vs.length ≤ 1000000000 ∧ q.ts.length ≤ 1000000000 ∧ q.on.length ≤ 1000000000 ∧ q.cd.length ≤ 1000000000 := fun q h => by subst h; decide
  unfold decR at hd
  cases hw : whoR s with
  | die a b =>
    rw [hw] at hd
    exact h0 p (Prod.mk.inj hd).1.symm
  | ok q j t =>
    rw [hw] at hd
    dsimp only at hd
    by_cases hc : chk q = 0
    · rw [if_pos hc] at hd
      rw [← (Prod.mk.inj hd).1]
      exact who_len hb hs hw
    · rw [if_neg hc] at hd
      exact h0 p (Prod.mk.inj hd).1.symm
theorem isPg_0 (W : World) : IsPg W pv0 pg0 := by
  refine ⟨?_, ?_, ?_, ?_, ?_, by decide, by decide, by decide, by decide, by decide⟩
  all_goals
    intro k x hx
    simp [pg0, Vf.bC, Vf.vC, Vf.iC, Vf.cC] at hx
set_option maxHeartbeats 25600000 in
set_option maxRecDepth 100000 in
/-- CodeOther -/
theorem otherWalk (W : World) (hT : Lib.TabBelow Tryd.prog W.heap.size W "internal/strconv.uint64pow10" .u64 Lib.pow10Tab) (hA : Lib.TabBelow Tryd.prog W.heap.size W "strings.asciiSpace" .u8 Lib.asciiSpaceTab) (b : Option Addr) (bc : Nat) (s : List Nat) (hr : Vf.Rd W b (s.map fun x : Nat => Value.int .u8 (x : Int))) (hlow : ∀ n ∈ s, n < 256) (hlen : s.length ≤ 140737488351232) :
    Calls Tryd.prog 7 #[.slice b s.length bc] W fun e W' => e = .returned (.bool true) ∧ Below W.heap.size W W' := by
  have HK : Hid (Calls Tryd.prog 9 #[] W fun e w' => e = .returned (.bool true) ∧ Below W.heap.size W w') := known_any W hT hA
  have HR : Hid (Vf.Rd W b (u8L s) ∧ byts s) := ⟨hr, hlow⟩
  have HLen : Hid (s.length ≤ 140737488351232) := hlen
  clear hT hA hr hlow hlen
  go_enter Tryd.func7, Tryd.ntmps7
  go_wp2_with fail
  refine HK.out.mono ?_
  rintro e w1 ⟨rfl, hb⟩
  have HB1 : Hid (Below W.heap.size W w1) := hb
  clear hb HK
  by_cases hb1 : 524288 < s.length
  case pos =>
    have hb2 : (524288 : Int) < (s.length : Int) := by omega
    go_wp2_with fail
    go_ret
    exact ⟨rfl, HB1.out⟩
  have hb1' : decide (524288 < s.length) = false := decide_eq_false hb1
  have hb2 : decide ((524288 : Int) < (s.length : Int)) = false := decide_eq_false (by omega)
  obtain ⟨p, er, i, hd⟩ : ∃ p er i, decR s = (p, er, i) := ⟨_, _, _, rfl⟩
  have hlns := dec_lens hd HR.out.2 (by omega)
  have HCd : Hid (Calls Tryd.prog 19 #[.slice b s.length bc] w1 fun e w' => ∃ u : PV, e = .returned (.tuple #[.agg #[.slice u.qo p.gh.length u.qc, .slice u.vo p.vs.length u.vc, .slice u.to p.ts.length u.tc, .slice u.oo p.on.length u.oc, .int .i64 p.miss, .slice u.co p.cd.length u.cc], .agg #[.int .i64 (er : Int), .int .i64 (i : Int)]]) ∧ IsPg w' u p ∧ Below w1.heap.size w1 w') := dec_use hd hlns (rd_of (HR.out.1.below HB1.out)) (by omega) HR.out.2
  have HD : Hid ((er ≠ 0 → p = pg0 ∧ i ≤ s.length) ∧ (er = 0 → chk p = 0 ∧ byP p = s)) := by
    refine ⟨fun h => dec_bad hd h, fun h => ?_⟩
    subst h
    obtain ⟨q1, q2, -⟩ := dec_inv HR.out.2 hd
    exact ⟨q1, q2⟩
  have HSm : Hid (s.length ≤ 524288) := by
    exact Nat.le_of_not_lt hb1
  clear hd hlns hb1
  go_wp2_with fail
  clear hb1' hb2
  refine HCd.out.mono ?_
  rintro e w2 ⟨u, rfl, hp, hb⟩
  have H2 : Hid (Below W.heap.size W ((w2.alloc (.cells #[.slice u.qo p.gh.length u.qc, .slice u.vo p.vs.length u.vc, .slice u.to p.ts.length u.tc, .slice u.oo p.on.length u.oc, .int .i64 p.miss, .slice u.co p.cd.length u.cc] 27)).alloc (.cells #[.int .i64 (er : Int), .int .i64 (i : Int)] 46)) ∧ Wv w2.heap.size ((w2.alloc (.cells #[.slice u.qo p.gh.length u.qc, .slice u.vo p.vs.length u.vc, .slice u.to p.ts.length u.tc, .slice u.oo p.on.length u.oc, .int .i64 p.miss, .slice u.co p.cd.length u.cc] 27)).alloc (.cells #[.int .i64 (er : Int), .int .i64 (i : Int)] 46)) #[.slice u.qo p.gh.length u.qc, .slice u.vo p.vs.length u.vc, .slice u.to p.ts.length u.tc, .slice u.oo p.on.length u.oc, .int .i64 p.miss, .slice u.co p.cd.length u.cc] #[.int .i64 (er : Int), .int .i64 (i : Int)] ∧ IsPg ((w2.alloc (.cells #[.slice u.qo p.gh.length u.qc, .slice u.vo p.vs.length u.vc, .slice u.to p.ts.length u.tc, .slice u.oo p.on.length u.oc, .int .i64 p.miss, .slice u.co p.cd.length u.cc] 27)).alloc (.cells #[.int .i64 (er : Int), .int .i64 (i : Int)] 46)) u p) := by
    obtain ⟨hw, hb3⟩ := two_new w2 #[.slice u.qo p.gh.length u.qc, .slice u.vo p.vs.length u.vc, .slice u.to p.ts.length u.tc, .slice u.oo p.on.length u.oc, .int .i64 p.miss, .slice u.co p.cd.length u.cc] #[.int .i64 (er : Int), .int .i64 (i : Int)]
    exact ⟨bel_step HB1.out (bel_step hb hb3), hw, hp.below hb3⟩
  clear hp hb HCd
  go_upto_region 6 with fail
  generalize ((w2.alloc (.cells #[.slice u.qo p.gh.length u.qc, .slice u.vo p.vs.length u.vc, .slice u.to p.ts.length u.tc, .slice u.oo p.on.length u.oc, .int .i64 p.miss, .slice u.co p.cd.length u.cc] 27)).alloc (.cells #[.int .i64 (er : Int), .int .i64 (i : Int)] 46)) = w3 at *
  generalize w2.heap.size = g at *
  obtain ⟨f0, f1⟩ := cells2 H2.out.2.1.f
  obtain ⟨c0, c1, c2, c3, c4, c5⟩ := cells6 H2.out.2.1.p
  by_cases he : er = 0
  case neg =>
    have he2 : ((er : Int) != 0) = true := by rw [bne_iff_ne]; omega
    obtain ⟨rfl, hi⟩ := HD.out.1 he
    have hi2 : (i : Int) ≤ (s.length : Int) := by omega
    have hi3 : (0 : Int) ≤ (i : Int) := by omega
    have HS : Hid (Calls Tryd.prog 21 #[.agg #[.slice u.qo 0 u.qc, .slice u.vo 0 u.vc, .slice u.to 0 u.tc, .slice u.oo 0 u.oc, .int .i64 0, .slice u.co 0 u.cc], .agg #[.slice none 0 0, .slice none 0 0, .slice none 0 0, .slice none 0 0, .int .i64 0, .slice none 0 0]] w3 fun e w' => e = .returned (.bool true) ∧ Below w3.heap.size w3 w') := by
      have := rsame_any u pv0 pg0 pg0 w3 H2.out.2.2 (isPg_0 w3)
      rw [(samB_iff pg0 pg0).2 rfl] at this
      exact this
    have HB3 : Hid (w3.heap[g + 1]? = some (.cells #[.int .i64 (er : Int), .int .i64 (i : Int)] 46 (0, 0))) := H2.out.2.1.f
    have HB4 : Hid (Below W.heap.size W w3) := H2.out.1
    change w3.cell? ⟨g, 0, none⟩ = some (.slice u.qo 0 u.qc) at c0
    change w3.cell? ⟨g, 1, none⟩ = some (.slice u.vo 0 u.vc) at c1
    change w3.cell? ⟨g, 2, none⟩ = some (.slice u.to 0 u.tc) at c2
    change w3.cell? ⟨g, 3, none⟩ = some (.slice u.oo 0 u.oc) at c3
    change w3.cell? ⟨g, 4, none⟩ = some (.int .i64 0) at c4
    change w3.cell? ⟨g, 5, none⟩ = some (.slice u.co 0 u.cc) at c5
    clear he hi H2 HD
    go_wp2_with fail
    refine HS.out.mono ?_
    rintro e w4 ⟨rfl, hb⟩
    have HB5 : Hid (Below W.heap.size W w4) := bel_step HB4.out hb
    clear f0 f1 c0 c1 c2 c3 c4 c5
    obtain ⟨f0, f1⟩ := cells2 ((hb.block _ (blk_lt HB3.out)).trans HB3.out)
    clear hb HS
    go_wp2_with fail
    go_ret
    exact ⟨rfl, HB5.out⟩
  case pos =>
    subst he
    obtain ⟨hc, hs⟩ := HD.out.2 rfl
    have HE : Hid (Calls Tryd.prog 12 #[.agg #[.slice u.qo p.gh.length u.qc, .slice u.vo p.vs.length u.vc, .slice u.to p.ts.length u.tc, .slice u.oo p.on.length u.oc, .int .i64 p.miss, .slice u.co p.cd.length u.cc]] w3 fun e w' => ∃ v, e = .returned (.tuple #[v, .int .i64 0]) ∧ w'.ownsRow w3.heap.size 5 1 v s.length (u8L s) ∧ Below w3.heap.size w3 w') := by
      have := enc_any u p w3 H2.out.2.2
      have e9 : encB p = s := (if_pos hc).trans hs
      rw [hc, e9] at this
      exact this
    clear hc hs HD
    go_wp2_with fail
    refine HE.out.mono ?_
    rintro e w4 ⟨v, rfl, ho, hb⟩
    obtain ⟨vb, vc, rfl⟩ := own_form ho
    have HB5 : Hid (Below W.heap.size W w4) := bel_step H2.out.1 hb
    have hc1 : (convert 32 9 (.slice vb s.length vc)).run Tryd.prog w4 = .ok (.string (txt s)) w4 := conv_own ho HR.out.2
    have hc2 : (convert 32 9 (.slice b s.length bc)).run Tryd.prog w4 = .ok (.string (txt s)) w4 := conv_rd (HR.out.1.below HB5.out) HR.out.2
    clear ho hb HE f0 f1 c0 c1 c2 c3 c4 c5
    go_wp2_with fail
    go_ret
    exact ⟨rfl, HB5.out⟩
end Go.Proofs.YtcicifcnffacpaaDoor.Cd

set_option linter.unusedSimpArgs false
namespace Go.Proofs.YtcicifcnffacpaaDoor.Cd
open Go.RowKit Go.Proofs.YtcicifcnffacpaaDoor.Nm Go.Proofs.YtcicifcnffacpaaDoor.Vf

theorem bel_grown {W w w' : World} {row : Option Nat} (h : Below W.heap.size W w) (hg : w.grownBy w' row) (hr : ∀ k, row = some k → W.heap.size ≤ k) : Below W.heap.size W w' :=
  ⟨hg.os.trans h.os, hg.tape.trans h.tape, hg.output.trans h.output, Nat.le_trans h.size hg.size, fun k hk => (hg.block k (Nat.lt_of_lt_of_le hk h.size) (fun e => by have := hr k e.symm; omega)).trans (h.block k hk)⟩
theorem u8_one {l : List Nat} : ∀ u ∈ u8L l, u.oneCell' = true := fun u hu => by
  obtain ⟨x, -, rfl⟩ := List.mem_map.1 hu
  rfl
theorem u8_len (l : List Nat) : (u8L l).length = l.length := by simp [u8L]
theorem u8_take (l : List Nat) (k : Nat) : u8L (l.take k) = (u8L l).take k := by simp [u8L, List.map_take]
theorem own_some {w : World} {base : Nat} {e : TypeId} {size : Nat} {b : Option Addr} {n c : Nat} {xs : List Value} (h : w.ownsRow base e size (.slice b n c) n xs) (hn : 0 < n) : ∃ g, b = some ⟨g, 0, none⟩ ∧ base ≤ g ∧ g < w.heap.size := by
  rcases h.2 with ⟨_, e2⟩ | ⟨g, cap, cur, e1, e3, e4, _⟩
  · omega
  · cases e1
    exact ⟨g, rfl, e3, blk_lt e4⟩
theorem own_nef {w : World} {base : Nat} {size n c bk k : Nat} {xs : List Value} {F : Array Value} (h : w.ownsRow base 5 size (.slice (some ⟨bk, 0, none⟩) n c) n xs) (hf : w.heap[k]? = some (.cells F 46 (0, 0))) : bk ≠ k := fun e => by
  subst e
  rcases h.2 with ⟨e1, _⟩ | ⟨g, cap, cur, e1, _, e4, _⟩
  · cases e1
  · cases e1
    rw [hf] at e4
    have e5 := Option.some.inj e4
    injection e5 with _ e6 _
    exact absurd e6 (by decide)
theorem byP_pos (p : Pg) : 0 < (byP p).length := by
  rw [byP_eq]
  simp only [List.length_append, List.length_singleton]
  omega
set_option maxHeartbeats 51200000 in
set_option maxRecDepth 100000 in
/-- CodeBack -/
theorem backWalk (W : World) (hT : Lib.TabBelow Tryd.prog W.heap.size W "internal/strconv.uint64pow10" .u64 Lib.pow10Tab) (hA : Lib.TabBelow Tryd.prog W.heap.size W "strings.asciiSpace" .u8 Lib.asciiSpaceTab) (v : PV) (p : Pg) (hP : IsPg W v p) (cut : Int) (hcut : -9223372036854775808 ≤ cut) (_ : cut ≤ 9223372036854775807) (b : Option Addr) (bc : Nat) (s : List Nat) (hr : Vf.Rd W b (s.map fun x : Nat => Value.int .u8 (x : Int))) (hlow : ∀ n ∈ s, n < 256) (hlen : s.length ≤ 140737488351232) :
    Calls Tryd.prog 6 #[.agg (pvC v p), .int .i64 cut, .slice b s.length bc] W fun e W' => e = .returned (.bool true) ∧ Below W.heap.size W W' := by
  obtain ⟨qo, qc, vo, vc, tto, tc, oo, oc, co, cc⟩ := v
  have HK : Hid (∀ w, Below W.heap.size W w → Calls Tryd.prog 9 #[] w fun e w' => e = .returned (.bool true) ∧ Below w.heap.size w w') := fun w hb => known_any w (tab_on hT hb) (tab_on hA hb)
  have HE1 : Hid (∀ w, Below W.heap.size W w → Calls Tryd.prog 12 #[.agg #[.slice qo p.gh.length qc, .slice vo p.vs.length vc, .slice tto p.ts.length tc, .slice oo p.on.length oc, .int .i64 p.miss, .slice co p.cd.length cc]] w fun e w' => ∃ u, e = .returned (.tuple #[u, .int .i64 (chk p : Int)]) ∧ w'.ownsRow w.heap.size 5 1 u (encB p).length (u8L (encB p)) ∧ Below w.heap.size w w') := fun w hb => enc_any ⟨qo, qc, vo, vc, tto, tc, oo, oc, co, cc⟩ p w (hP.below hb)
  have HC1 : Hid (∀ w, Below W.heap.size W w → Calls Tryd.prog 11 #[.agg #[.slice qo p.gh.length qc, .slice vo p.vs.length vc, .slice tto p.ts.length tc, .slice oo p.on.length oc, .int .i64 p.miss, .slice co p.cd.length cc]] w fun e w' => e = .returned (.int .i64 (chk p : Int)) ∧ Below w.heap.size w w') := fun w hb => chk_any ⟨qo, qc, vo, vc, tto, tc, oo, oc, co, cc⟩ p w (hP.below hb)
  have HS1 : Hid (∀ w u, Below W.heap.size W w → IsPg w u p → Calls Tryd.prog 21 #[.agg #[.slice qo p.gh.length qc, .slice vo p.vs.length vc, .slice tto p.ts.length tc, .slice oo p.on.length oc, .int .i64 p.miss, .slice co p.cd.length cc], .agg #[.slice u.qo p.gh.length u.qc, .slice u.vo p.vs.length u.vc, .slice u.to p.ts.length u.tc, .slice u.oo p.on.length u.oc, .int .i64 p.miss, .slice u.co p.cd.length u.cc]] w fun e w' => e = .returned (.bool true) ∧ Below w.heap.size w w') := fun w u hb hu => by
    have := rsame_any ⟨qo, qc, vo, vc, tto, tc, oo, oc, co, cc⟩ u p p w (hP.below hb) hu
    rw [(samB_iff p p).2 rfl] at this
    exact this
  have HR : Hid (Vf.Rd W b (u8L s) ∧ byts s) := ⟨hr, hlow⟩
  have HLen : Hid (s.length ≤ 140737488351232 ∧ -9223372036854775808 ≤ cut) := ⟨hlen, hcut⟩
  have HB0 : Hid (Below W.heap.size W (W.alloc (.cells #[.slice qo p.gh.length qc, .slice vo p.vs.length vc, .slice tto p.ts.length tc, .slice oo p.on.length oc, .int .i64 p.miss, .slice co p.cd.length cc] 27)) ∧ (W.alloc (.cells #[.slice qo p.gh.length qc, .slice vo p.vs.length vc, .slice tto p.ts.length tc, .slice oo p.on.length oc, .int .i64 p.miss, .slice co p.cd.length cc] 27)).heap[W.heap.size]? = some (.cells #[.slice qo p.gh.length qc, .slice vo p.vs.length vc, .slice tto p.ts.length tc, .slice oo p.on.length oc, .int .i64 p.miss, .slice co p.cd.length cc] 27 (0, 0))) := ⟨(Below.refl _ W).alloc (Nat.le_refl _) _, heap_alloc_new _ _⟩
  clear hT hA hP hr hlow hlen hcut
  obtain ⟨j0, hj, hj0, hj1, hj2⟩ := info_parts infoB
  have HJ : Hid (Tryd.prog.info? 5 = some j0 ∧ j0.zero = some (.int .u8 0) ∧ j0.size = 1 ∧ j0.bytes = 1) := ⟨hj, hj0, hj1, hj2⟩
  clear hj hj0 hj1 hj2
  go_enter Tryd.func6, Tryd.ntmps6
  go_upto_region 1 with fail
  generalize (W.alloc (.cells #[.slice qo p.gh.length qc, .slice vo p.vs.length vc, .slice tto p.ts.length tc, .slice oo p.on.length oc, .int .i64 p.miss, .slice co p.cd.length cc] 27)) = w0 at *
  go_wp2_with fail
  refine (HK.out _ HB0.out.1).mono ?_
  rintro e w1 ⟨rfl, hb⟩
  have HB1 : Hid (Below W.heap.size W w1 ∧ w1.heap[W.heap.size]? = some (.cells #[.slice qo p.gh.length qc, .slice vo p.vs.length vc, .slice tto p.ts.length tc, .slice oo p.on.length oc, .int .i64 p.miss, .slice co p.cd.length cc] 27 (0, 0))) := ⟨bel_step HB0.out.1 hb, (hb.block _ (blk_lt HB0.out.2)).trans HB0.out.2⟩
  clear hb HB0 HK
  obtain ⟨c0, c1, c2, c3, c4, c5⟩ := cells6 HB1.out.2
  by_cases hb1 : 524288 < p.cd.length
  case pos =>
    have hb2 : (524288 : Int) < (p.cd.length : Int) := by omega
    go_wp2_with fail
    go_ret
    exact ⟨rfl, HB1.out.1⟩
  have hb1' : decide (524288 < p.cd.length) = false := decide_eq_false hb1
  have hb2 : decide ((524288 : Int) < (p.cd.length : Int)) = false := decide_eq_false (by omega)
  clear hb1
  by_cases hb3 : 524288 < s.length
  case pos =>
    have hb4 : (524288 : Int) < (s.length : Int) := by omega
    go_wp2_with fail
    go_ret
    exact ⟨rfl, HB1.out.1⟩
  have hb3' : decide (524288 < s.length) = false := decide_eq_false hb3
  have hb4 : decide ((524288 : Int) < (s.length : Int)) = false := decide_eq_false (by omega)
  have HSm : Hid (s.length ≤ 524288) := by
    exact Nat.le_of_not_lt hb3
  clear hb3
  go_wp2_with fail
  clear hb1' hb2 hb3' hb4
  refine (HE1.out _ HB1.out.1).mono ?_
  rintro e w2 ⟨u1, rfl, ho, hb⟩
  obtain ⟨ub, uc, rfl⟩ := own_form ho
  have HB2 : Hid (Below W.heap.size W w2 ∧ w2.heap[W.heap.size]? = some (.cells #[.slice qo p.gh.length qc, .slice vo p.vs.length vc, .slice tto p.ts.length tc, .slice oo p.on.length oc, .int .i64 p.miss, .slice co p.cd.length cc] 27 (0, 0)) ∧ w2.ownsRow w1.heap.size 5 1 (.slice ub (encB p).length uc) (encB p).length (u8L (encB p)) ∧ W.heap.size ≤ w1.heap.size) := ⟨bel_step HB1.out.1 hb, (hb.block _ (blk_lt HB1.out.2)).trans HB1.out.2, ho, HB1.out.1.size⟩
  clear hb HE1 ho HB1 c0 c1 c2 c3 c4 c5
  obtain ⟨c0, c1, c2, c3, c4, c5⟩ := cells6 HB2.out.2.1
  by_cases h1 : chk p = 0
  case neg =>
    have e1 : ((chk p : Int) != 0) = true := by rw [bne_iff_ne]; omega
    have e2 : encB p = [] := if_neg h1
    rw [e2]
    have HC2 : Hid (Calls Tryd.prog 11 #[.agg #[.slice qo p.gh.length qc, .slice vo p.vs.length vc, .slice tto p.ts.length tc, .slice oo p.on.length oc, .int .i64 p.miss, .slice co p.cd.length cc]] w2 fun e w' => e = .returned (.int .i64 (chk p : Int)) ∧ Below w2.heap.size w2 w') := HC1.out w2 HB2.out.1
    generalize chk p = ck1 at *
    clear h1 e2 HC1 HS1
    go_wp2_with fail
    refine HC2.out.mono ?_
    rintro e w3 ⟨rfl, hb⟩
    have HB3 : Hid (Below W.heap.size W w3) := bel_step HB2.out.1 hb
    clear hb HC2 c0 c1 c2 c3 c4 c5
    go_wp2_with fail
    go_ret
    exact ⟨rfl, HB3.out⟩
  have hp1 : encB p = byP p := if_pos h1
  have HD1 : Hid (decR (byP p) = (p, 0, 0) ∧ (∀ k, k < (byP p).length → decR ((byP p).take k) = (pg0, 81, k)) ∧ (∀ r, r ≠ [] → decR (byP p ++ r) = (pg0, 84, (byP p).length)) ∧ byts (byP p) ∧ (byP p).length ≤ 100000000 ∧ 0 < (byP p).length) := ⟨dec_byP h1, fun k hk => dec_cut h1 hk, fun r hr => dec_more h1 hr, low_byP p, byP_len h1, byP_pos p⟩
  rw [hp1] at HB2 ⊢
  rw [h1] at HC1 ⊢
  clear h1 hp1
  generalize byP p = x at *
  have HC3 : Hid (Calls Tryd.prog 19 #[.slice ub x.length uc] w2 fun e w' => ∃ u : PV, e = .returned (.tuple #[.agg #[.slice u.qo p.gh.length u.qc, .slice u.vo p.vs.length u.vc, .slice u.to p.ts.length u.tc, .slice u.oo p.on.length u.oc, .int .i64 p.miss, .slice u.co p.cd.length u.cc], .agg #[.int .i64 0, .int .i64 0]]) ∧ IsPg w' u p ∧ Below w2.heap.size w2 w') :=
    dec_use HD1.out.1 (dec_lens HD1.out.1 HD1.out.2.2.2.1 (by have := HD1.out.2.2.2.2.1; omega)) (rd_of (own_rdV HB2.out.2.2.1)) (by have := HD1.out.2.2.2.2.1; omega) HD1.out.2.2.2.1
  go_wp2_with fail
  refine HC3.out.mono ?_
  rintro e w4 ⟨u, rfl, hp, hb⟩
  have H4 : Hid (Below W.heap.size W ((w4.alloc (.cells #[.slice u.qo p.gh.length u.qc, .slice u.vo p.vs.length u.vc, .slice u.to p.ts.length u.tc, .slice u.oo p.on.length u.oc, .int .i64 p.miss, .slice u.co p.cd.length u.cc] 27)).alloc (.cells #[.int .i64 0, .int .i64 0] 46)) ∧ ((w4.alloc (.cells #[.slice u.qo p.gh.length u.qc, .slice u.vo p.vs.length u.vc, .slice u.to p.ts.length u.tc, .slice u.oo p.on.length u.oc, .int .i64 p.miss, .slice u.co p.cd.length u.cc] 27)).alloc (.cells #[.int .i64 0, .int .i64 0] 46)).heap[W.heap.size]? = some (.cells #[.slice qo p.gh.length qc, .slice vo p.vs.length vc, .slice tto p.ts.length tc, .slice oo p.on.length oc, .int .i64 p.miss, .slice co p.cd.length cc] 27 (0, 0)) ∧ ((w4.alloc (.cells #[.slice u.qo p.gh.length u.qc, .slice u.vo p.vs.length u.vc, .slice u.to p.ts.length u.tc, .slice u.oo p.on.length u.oc, .int .i64 p.miss, .slice u.co p.cd.length u.cc] 27)).alloc (.cells #[.int .i64 0, .int .i64 0] 46)).ownsRow w1.heap.size 5 1 (.slice ub x.length uc) x.length (u8L x) ∧ Wv w4.heap.size ((w4.alloc (.cells #[.slice u.qo p.gh.length u.qc, .slice u.vo p.vs.length u.vc, .slice u.to p.ts.length u.tc, .slice u.oo p.on.length u.oc, .int .i64 p.miss, .slice u.co p.cd.length u.cc] 27)).alloc (.cells #[.int .i64 0, .int .i64 0] 46)) #[.slice u.qo p.gh.length u.qc, .slice u.vo p.vs.length u.vc, .slice u.to p.ts.length u.tc, .slice u.oo p.on.length u.oc, .int .i64 p.miss, .slice u.co p.cd.length u.cc] #[.int .i64 0, .int .i64 0] ∧ IsPg ((w4.alloc (.cells #[.slice u.qo p.gh.length u.qc, .slice u.vo p.vs.length u.vc, .slice u.to p.ts.length u.tc, .slice u.oo p.on.length u.oc, .int .i64 p.miss, .slice u.co p.cd.length u.cc] 27)).alloc (.cells #[.int .i64 0, .int .i64 0] 46)) u p ∧ W.heap.size ≤ w4.heap.size ∧ W.heap.size ≤ w1.heap.size) := by
    obtain ⟨hw, hb3⟩ := two_new w4 #[.slice u.qo p.gh.length u.qc, .slice u.vo p.vs.length u.vc, .slice u.to p.ts.length u.tc, .slice u.oo p.on.length u.oc, .int .i64 p.miss, .slice u.co p.cd.length u.cc] #[.int .i64 0, .int .i64 0]
    obtain ⟨q1, q2, q3, q4⟩ := HB2.out
    have hb4 := bel_step hb hb3
    exact ⟨bel_step q1 hb4, (hb4.block _ (blk_lt q2)).trans q2, own_below q3 hb4, hw, hp.below hb3, Nat.le_trans q1.size hb.size, q4⟩
  clear hp hb HC3 HB2 c0 c1 c2 c3 c4 c5
  go_upto_region 9 with fail
  generalize ((w4.alloc (.cells #[.slice u.qo p.gh.length u.qc, .slice u.vo p.vs.length u.vc, .slice u.to p.ts.length u.tc, .slice u.oo p.on.length u.oc, .int .i64 p.miss, .slice u.co p.cd.length u.cc] 27)).alloc (.cells #[.int .i64 0, .int .i64 0] 46)) = w5 at *
  generalize w4.heap.size = g at *
  generalize w1.heap.size = n1 at *
  obtain ⟨c0, c1, c2, c3, c4, c5⟩ := cells6 H4.out.2.1
  obtain ⟨d0, d1, d2, d3, d4, d5⟩ := cells6 H4.out.2.2.2.1.p
  obtain ⟨f0, f1⟩ := cells2 H4.out.2.2.2.1.f
  go_wp2_with fail
  refine (HC1.out _ H4.out.1).mono ?_
  rintro e w6 ⟨rfl, hb⟩
  have H6 : Hid (Below W.heap.size W w6 ∧ w6.heap[W.heap.size]? = some (.cells #[.slice qo p.gh.length qc, .slice vo p.vs.length vc, .slice tto p.ts.length tc, .slice oo p.on.length oc, .int .i64 p.miss, .slice co p.cd.length cc] 27 (0, 0)) ∧ w6.ownsRow n1 5 1 (.slice ub x.length uc) x.length (u8L x) ∧ Wv g w6 #[.slice u.qo p.gh.length u.qc, .slice u.vo p.vs.length u.vc, .slice u.to p.ts.length u.tc, .slice u.oo p.on.length u.oc, .int .i64 p.miss, .slice u.co p.cd.length u.cc] #[.int .i64 0, .int .i64 0] ∧ IsPg w6 u p ∧ W.heap.size ≤ g ∧ W.heap.size ≤ n1) := by
    obtain ⟨q1, q2, q3, q4, q5, q6, q7⟩ := H4.out
    exact ⟨bel_step q1 hb, (hb.block _ (blk_lt q2)).trans q2, own_below q3 hb, q4.keep hb, q5.below hb, q6, q7⟩
  clear hb H4 HC1 c0 c1 c2 c3 c4 c5 d0 d1 d2 d3 d4 d5 f0 f1
  have HS2 : Hid (Calls Tryd.prog 21 #[.agg #[.slice qo p.gh.length qc, .slice vo p.vs.length vc, .slice tto p.ts.length tc, .slice oo p.on.length oc, .int .i64 p.miss, .slice co p.cd.length cc], .agg #[.slice u.qo p.gh.length u.qc, .slice u.vo p.vs.length u.vc, .slice u.to p.ts.length u.tc, .slice u.oo p.on.length u.oc, .int .i64 p.miss, .slice u.co p.cd.length u.cc]] w6 fun e w' => e = .returned (.bool true) ∧ Below w6.heap.size w6 w') := HS1.out w6 u H6.out.1 H6.out.2.2.2.2.1
  clear HS1
  obtain ⟨c0, c1, c2, c3, c4, c5⟩ := cells6 H6.out.2.1
  obtain ⟨d0, d1, d2, d3, d4, d5⟩ := cells6 H6.out.2.2.2.1.p
  obtain ⟨f0, f1⟩ := cells2 H6.out.2.2.2.1.f
  go_wp2_with fail
  refine HS2.out.mono ?_
  rintro e w7 ⟨rfl, hb⟩
  have H7 : Hid (Below W.heap.size W w7 ∧ w7.ownsRow n1 5 1 (.slice ub x.length uc) x.length (u8L x) ∧ Wv g w7 #[.slice u.qo p.gh.length u.qc, .slice u.vo p.vs.length u.vc, .slice u.to p.ts.length u.tc, .slice u.oo p.on.length u.oc, .int .i64 p.miss, .slice u.co p.cd.length u.cc] #[.int .i64 0, .int .i64 0] ∧ W.heap.size ≤ g ∧ W.heap.size ≤ n1) := by
    obtain ⟨q1, q2, q3, q4, q5, q6, q7⟩ := H6.out
    exact ⟨bel_step q1 hb, own_below q3 hb, q4.keep hb, q6, q7⟩
  clear hb H6 HS2 c0 c1 c2 c3 c4 c5 d0 d1 d2 d3 d4 d5 f0 f1
  by_cases hc0 : 0 ≤ cut
  case neg =>
    have HXP : Hid (Below W.heap.size W w7 ∧ w7.ownsRow n1 5 1 (.slice ub x.length uc) x.length (u8L x) ∧ Wv g w7 #[.slice u.qo p.gh.length u.qc, .slice u.vo p.vs.length u.vc, .slice u.to p.ts.length u.tc, .slice u.oo p.on.length u.oc, .int .i64 p.miss, .slice u.co p.cd.length u.cc] #[.int .i64 0, .int .i64 0] ∧ W.heap.size ≤ g ∧ W.heap.size ≤ n1) := H7.out
    clear H7
    have hr1 : decide (0 ≤ cut) = false := decide_eq_false hc0
    clear hc0
    go_upto_region 16 with fail
    clear hr1
    by_cases hs0 : s = []
    case pos =>
      subst hs0
      go_wp2_with fail
      go_ret
      exact ⟨rfl, HXP.out.1⟩
    case neg =>
      have hpos : 0 < s.length := List.length_pos_iff.2 hs0
      have hpos2 : (0 : Int) < (s.length : Int) := by omega
      obtain ⟨bk, hbk, hbk1, hbk2⟩ := own_some HXP.out.2.1 HD1.out.2.2.2.2.2
      subst hbk
      have HMP2 : Hid (x.length ≤ 100000000 ∧ n1 ≤ bk ∧ bk < w7.heap.size) := ⟨HD1.out.2.2.2.2.1, hbk1, hbk2⟩
      have HMP : Hid (x.length ≤ 100000000) := HMP2.out.1
      have HCelP : Hid (∀ j u, (u8L x)[j]? = some u → (w7.alloc (.cells #[] 5)).cell? ((⟨bk, 0, none⟩ : Addr).add j) = some u) := fun j u hj => (own_below HXP.out.2.1 ((Below.refl _ w7).alloc (Nat.le_refl _) _)).cells (g := bk) rfl j u hj
      obtain ⟨k0, hk0⟩ : ∃ k0, (u8L s)[0]? = some k0 := ⟨_, List.getElem?_eq_getElem (by rw [u8_len]; exact hpos)⟩
      obtain ⟨tb, tof, htb, -, -⟩ := HR.out.1 0 k0 hk0
      subst htb
      clear hk0 hbk1 hbk2
      have HNe : Hid (s ≠ []) := hs0
      clear hs0 hpos
      go_wp2_with (at_builtin; refine wpList_append_own _ rfl _ _ 32 rfl w7.heap.size 5 j0 (.int .u8 0) 1 1 Tryd.underlying32 HJ.out.1 HJ.out.2.1 HJ.out.2.2.1 HJ.out.2.2.2 rfl (by decide) _ 0 [] rfl (World.ownsRow_made w7 #[] 0 (Nat.le_refl _) (Nat.zero_le _) rfl) ⟨bk, 0, none⟩ x.length uc (u8L x) rfl ?laP ?lbP ?lcP ?ldP ?leP ?lfP ?_)
      case laP => rw [u8_len, Nat.mul_one]
      case lbP => exact HCelP.out
      case lcP => exact u8_one
      case ldP => have := HMP.out; unfold maxLen; omega
      case leP => have := HMP.out; omega
      case lfP => simp
      intro Pv waP Po Pg Pn
      have HAP : Hid (Below W.heap.size W waP ∧ Wv g waP #[.slice u.qo p.gh.length u.qc, .slice u.vo p.vs.length u.vc, .slice u.to p.ts.length u.tc, .slice u.oo p.on.length u.oc, .int .i64 p.miss, .slice u.co p.cd.length u.cc] #[.int .i64 0, .int .i64 0] ∧ waP.ownsRow w7.heap.size 5 1 Pv x.length (u8L x) ∧ W.heap.size ≤ g ∧ w7.heap.size ≤ waP.heap.size ∧ W.heap.size ≤ w7.heap.size ∧ Wv g w7 #[.slice u.qo p.gh.length u.qc, .slice u.vo p.vs.length u.vc, .slice u.to p.ts.length u.tc, .slice u.oo p.on.length u.oc, .int .i64 p.miss, .slice u.co p.cd.length u.cc] #[.int .i64 0, .int .i64 0]) := by
        obtain ⟨q1, q2, q3, q4, q5⟩ := HXP.out
        have hbA : Below w7.heap.size w7 waP := bel_grown ((Below.refl _ w7).alloc (Nat.le_refl _) _) Pg (fun k e => by cases e; exact Nat.le_refl _)
        refine ⟨bel_step q1 hbA, q3.keep hbA, ?_, q4, hbA.size, q1.size, q3⟩
        simpa using Po
      clear Po Pg Pn HCelP
      obtain ⟨Pb, Pc, Pe⟩ := own_form HAP.out.2.2.1
      subst Pe
      have HTP : Hid (∀ j u, (u8L s)[j]? = some u → waP.cell? ((⟨tb, tof, none⟩ : Addr).add j) = some u) := fun j u hj => by
        obtain ⟨g', f', e', _, hc⟩ := HR.out.1.below HAP.out.1 j u hj
        cases e'
        rw [Lib.addr_add]
        exact hc
      go_wp2_with (at_builtin; refine wpList_append_own _ rfl _ _ 32 rfl w7.heap.size 5 j0 (.int .u8 0) 1 1 Tryd.underlying32 HJ.out.1 HJ.out.2.1 HJ.out.2.2.1 HJ.out.2.2.2 rfl (by decide) _ x.length (u8L x) rfl HAP.out.2.2.1 ⟨tb, tof, none⟩ s.length bc (u8L s) rfl ?maP ?mbP ?mcP ?mdP ?meP ?mfP ?_)
      case maP => rw [u8_len, Nat.mul_one]
      case mbP => exact HTP.out
      case mcP => exact u8_one
      case mdP => have := HMP.out; have := HSm.out; unfold maxLen; omega
      case meP => have := HMP.out; have := HSm.out; omega
      case mfP => exact HAP.out.2.2.2.2.1
      intro Pv2 wbP Po Pg Pn
      have HBP : Hid (Below W.heap.size W wbP ∧ Wv g wbP #[.slice u.qo p.gh.length u.qc, .slice u.vo p.vs.length u.vc, .slice u.to p.ts.length u.tc, .slice u.oo p.on.length u.oc, .int .i64 p.miss, .slice u.co p.cd.length u.cc] #[.int .i64 0, .int .i64 0] ∧ wbP.ownsRow w7.heap.size 5 1 Pv2 (x.length + s.length) (u8L (x ++ s)) ∧ W.heap.size ≤ g) := by
        obtain ⟨q1, q2, q3, q4, q5, q6, q7⟩ := HAP.out
        have hg1 : g + 1 < w7.heap.size := blk_lt q7.f
        have hlow : ∀ k, k < w7.heap.size → wbP.heap[k]? = waP.heap[k]? := fun k hk => Pg.block k (by omega) (fun e => by have := (World.ownsRow.lt q3 k e.symm).1; omega)
        refine ⟨⟨Pg.os.trans q1.os, Pg.tape.trans q1.tape, Pg.output.trans q1.output, Nat.le_trans q1.size Pg.size, fun k hk => (hlow k (by omega)).trans (q1.block k hk)⟩, ⟨(hlow _ (by omega)).trans q2.p, (hlow _ hg1).trans q2.f⟩, ?_, q4⟩
        have e9 : u8L (x ++ s) = u8L x ++ u8L s := by simp [u8L]
        rw [e9]
        exact Po
      clear Po Pg Pn HTP HAP
      obtain ⟨Pb2, Pc2, Pe⟩ := own_form HBP.out.2.2.1
      subst Pe
      have HCP : Hid (Calls Tryd.prog 19 #[.slice Pb2 (x.length + s.length) Pc2] wbP fun e w' => ∃ u : PV, e = .returned (.tuple #[.agg #[.slice u.qo 0 u.qc, .slice u.vo 0 u.vc, .slice u.to 0 u.tc, .slice u.oo 0 u.oc, .int .i64 0, .slice u.co 0 u.cc], .agg #[.int .i64 84, .int .i64 (x.length : Int)]]) ∧ IsPg w' u pg0 ∧ Below wbP.heap.size wbP w') := by
        have hb9 : byts (x ++ s) := fun n hn => by
          rcases List.mem_append.1 hn with h | h
          · exact HD1.out.2.2.2.1 n h
          · exact HR.out.2 n h
        have hl9 : (x ++ s).length ≤ 1000000000 := by
          rw [List.length_append]
          have := HMP.out
          have := HSm.out
          omega
        have hd := HD1.out.2.2.1 s HNe.out
        have h9 := HBP.out.2.2.1
        rw [← List.length_append] at h9 ⊢
        exact dec_use hd (dec_lens hd hb9 hl9) (rd_of (own_rdV h9)) hl9 hb9
      go_wp2_with fail
      refine HCP.out.mono ?_
      rintro e wcP ⟨u9, rfl, -, hb⟩
      have HDP : Hid (Below W.heap.size W wcP ∧ Wv g wcP #[.slice u.qo p.gh.length u.qc, .slice u.vo p.vs.length u.vc, .slice u.to p.ts.length u.tc, .slice u.oo p.on.length u.oc, .int .i64 p.miss, .slice u.co p.cd.length u.cc] #[.int .i64 0, .int .i64 0] ∧ W.heap.size ≤ g) := ⟨bel_step HBP.out.1 hb, HBP.out.2.1.keep hb, HBP.out.2.2.2⟩
      clear hb HCP HBP
      obtain ⟨f0, f1⟩ := cells2 HDP.out.2.1.f
      have z0 := HDP.out.2.1.zf 0
      have z1 := HDP.out.2.1.zf 1
      have HEP : Hid (Below W.heap.size W ((wcP.setCell ⟨g + 1, 0, none⟩ (.int .i64 84)).setCell ⟨g + 1, 1, none⟩ (.int .i64 (x.length : Int))) ∧ Wv g ((wcP.setCell ⟨g + 1, 0, none⟩ (.int .i64 84)).setCell ⟨g + 1, 1, none⟩ (.int .i64 (x.length : Int))) #[.slice u.qo p.gh.length u.qc, .slice u.vo p.vs.length u.vc, .slice u.to p.ts.length u.tc, .slice u.oo p.on.length u.oc, .int .i64 p.miss, .slice u.co p.cd.length u.cc] #[.int .i64 84, .int .i64 (x.length : Int)]) := by
        obtain ⟨q1, q2, q3⟩ := HDP.out
        have hg : W.heap.size ≤ g + 1 := by omega
        exact ⟨(q1.setCell (p := ⟨g + 1, 0, none⟩) hg _).setCell (p := ⟨g + 1, 1, none⟩) hg _, (q2.setF 0 _).setF 1 _⟩
      go_upto_region 19 with fail
      clear f0 f1 z0 z1 HDP
      generalize ((wcP.setCell ⟨g + 1, 0, none⟩ (.int .i64 84)).setCell ⟨g + 1, 1, none⟩ (.int .i64 (x.length : Int))) = wdP at *
      obtain ⟨f0, f1⟩ := cells2 HEP.out.2.f
      go_wp2_with fail
      go_ret
      exact ⟨rfl, HEP.out.1⟩
  by_cases hc1 : cut < (x.length : Int)
  case neg =>
    have HXQ : Hid (Below W.heap.size W w7 ∧ w7.ownsRow n1 5 1 (.slice ub x.length uc) x.length (u8L x) ∧ Wv g w7 #[.slice u.qo p.gh.length u.qc, .slice u.vo p.vs.length u.vc, .slice u.to p.ts.length u.tc, .slice u.oo p.on.length u.oc, .int .i64 p.miss, .slice u.co p.cd.length u.cc] #[.int .i64 0, .int .i64 0] ∧ W.heap.size ≤ g ∧ W.heap.size ≤ n1) := H7.out
    clear H7
    have hr1 : decide (cut < (x.length : Int)) = false := decide_eq_false hc1
    clear hc1
    go_upto_region 16 with fail
    clear hr1
    by_cases hs0 : s = []
    case pos =>
      subst hs0
      go_wp2_with fail
      go_ret
      exact ⟨rfl, HXQ.out.1⟩
    case neg =>
      have hpos : 0 < s.length := List.length_pos_iff.2 hs0
      have hpos2 : (0 : Int) < (s.length : Int) := by omega
      obtain ⟨bk, hbk, hbk1, hbk2⟩ := own_some HXQ.out.2.1 HD1.out.2.2.2.2.2
      subst hbk
      have HMQ2 : Hid (x.length ≤ 100000000 ∧ n1 ≤ bk ∧ bk < w7.heap.size) := ⟨HD1.out.2.2.2.2.1, hbk1, hbk2⟩
      have HMQ : Hid (x.length ≤ 100000000) := HMQ2.out.1
      have HCelQ : Hid (∀ j u, (u8L x)[j]? = some u → (w7.alloc (.cells #[] 5)).cell? ((⟨bk, 0, none⟩ : Addr).add j) = some u) := fun j u hj => (own_below HXQ.out.2.1 ((Below.refl _ w7).alloc (Nat.le_refl _) _)).cells (g := bk) rfl j u hj
      obtain ⟨k0, hk0⟩ : ∃ k0, (u8L s)[0]? = some k0 := ⟨_, List.getElem?_eq_getElem (by rw [u8_len]; exact hpos)⟩
      obtain ⟨tb, tof, htb, -, -⟩ := HR.out.1 0 k0 hk0
      subst htb
      clear hk0 hbk1 hbk2
      have HNe : Hid (s ≠ []) := hs0
      clear hs0 hpos
      go_wp2_with (at_builtin; refine wpList_append_own _ rfl _ _ 32 rfl w7.heap.size 5 j0 (.int .u8 0) 1 1 Tryd.underlying32 HJ.out.1 HJ.out.2.1 HJ.out.2.2.1 HJ.out.2.2.2 rfl (by decide) _ 0 [] rfl (World.ownsRow_made w7 #[] 0 (Nat.le_refl _) (Nat.zero_le _) rfl) ⟨bk, 0, none⟩ x.length uc (u8L x) rfl ?laQ ?lbQ ?lcQ ?ldQ ?leQ ?lfQ ?_)
      case laQ => rw [u8_len, Nat.mul_one]
      case lbQ => exact HCelQ.out
      case lcQ => exact u8_one
      case ldQ => have := HMQ.out; unfold maxLen; omega
      case leQ => have := HMQ.out; omega
      case lfQ => simp
      intro Qv waQ Qo Qg Qn
      have HAQ : Hid (Below W.heap.size W waQ ∧ Wv g waQ #[.slice u.qo p.gh.length u.qc, .slice u.vo p.vs.length u.vc, .slice u.to p.ts.length u.tc, .slice u.oo p.on.length u.oc, .int .i64 p.miss, .slice u.co p.cd.length u.cc] #[.int .i64 0, .int .i64 0] ∧ waQ.ownsRow w7.heap.size 5 1 Qv x.length (u8L x) ∧ W.heap.size ≤ g ∧ w7.heap.size ≤ waQ.heap.size ∧ W.heap.size ≤ w7.heap.size ∧ Wv g w7 #[.slice u.qo p.gh.length u.qc, .slice u.vo p.vs.length u.vc, .slice u.to p.ts.length u.tc, .slice u.oo p.on.length u.oc, .int .i64 p.miss, .slice u.co p.cd.length u.cc] #[.int .i64 0, .int .i64 0]) := by
        obtain ⟨q1, q2, q3, q4, q5⟩ := HXQ.out
        have hbA : Below w7.heap.size w7 waQ := bel_grown ((Below.refl _ w7).alloc (Nat.le_refl _) _) Qg (fun k e => by cases e; exact Nat.le_refl _)
        refine ⟨bel_step q1 hbA, q3.keep hbA, ?_, q4, hbA.size, q1.size, q3⟩
        simpa using Qo
      clear Qo Qg Qn HCelQ
      obtain ⟨Qb, Qc, Qe⟩ := own_form HAQ.out.2.2.1
      subst Qe
      have HTQ : Hid (∀ j u, (u8L s)[j]? = some u → waQ.cell? ((⟨tb, tof, none⟩ : Addr).add j) = some u) := fun j u hj => by
        obtain ⟨g', f', e', _, hc⟩ := HR.out.1.below HAQ.out.1 j u hj
        cases e'
        rw [Lib.addr_add]
        exact hc
      go_wp2_with (at_builtin; refine wpList_append_own _ rfl _ _ 32 rfl w7.heap.size 5 j0 (.int .u8 0) 1 1 Tryd.underlying32 HJ.out.1 HJ.out.2.1 HJ.out.2.2.1 HJ.out.2.2.2 rfl (by decide) _ x.length (u8L x) rfl HAQ.out.2.2.1 ⟨tb, tof, none⟩ s.length bc (u8L s) rfl ?maQ ?mbQ ?mcQ ?mdQ ?meQ ?mfQ ?_)
      case maQ => rw [u8_len, Nat.mul_one]
      case mbQ => exact HTQ.out
      case mcQ => exact u8_one
      case mdQ => have := HMQ.out; have := HSm.out; unfold maxLen; omega
      case meQ => have := HMQ.out; have := HSm.out; omega
      case mfQ => exact HAQ.out.2.2.2.2.1
      intro Qv2 wbQ Qo Qg Qn
      have HBQ : Hid (Below W.heap.size W wbQ ∧ Wv g wbQ #[.slice u.qo p.gh.length u.qc, .slice u.vo p.vs.length u.vc, .slice u.to p.ts.length u.tc, .slice u.oo p.on.length u.oc, .int .i64 p.miss, .slice u.co p.cd.length u.cc] #[.int .i64 0, .int .i64 0] ∧ wbQ.ownsRow w7.heap.size 5 1 Qv2 (x.length + s.length) (u8L (x ++ s)) ∧ W.heap.size ≤ g) := by
        obtain ⟨q1, q2, q3, q4, q5, q6, q7⟩ := HAQ.out
        have hg1 : g + 1 < w7.heap.size := blk_lt q7.f
        have hlow : ∀ k, k < w7.heap.size → wbQ.heap[k]? = waQ.heap[k]? := fun k hk => Qg.block k (by omega) (fun e => by have := (World.ownsRow.lt q3 k e.symm).1; omega)
        refine ⟨⟨Qg.os.trans q1.os, Qg.tape.trans q1.tape, Qg.output.trans q1.output, Nat.le_trans q1.size Qg.size, fun k hk => (hlow k (by omega)).trans (q1.block k hk)⟩, ⟨(hlow _ (by omega)).trans q2.p, (hlow _ hg1).trans q2.f⟩, ?_, q4⟩
        have e9 : u8L (x ++ s) = u8L x ++ u8L s := by simp [u8L]
        rw [e9]
        exact Qo
      clear Qo Qg Qn HTQ HAQ
      obtain ⟨Qb2, Qc2, Qe⟩ := own_form HBQ.out.2.2.1
      subst Qe
      have HCQ : Hid (Calls Tryd.prog 19 #[.slice Qb2 (x.length + s.length) Qc2] wbQ fun e w' => ∃ u : PV, e = .returned (.tuple #[.agg #[.slice u.qo 0 u.qc, .slice u.vo 0 u.vc, .slice u.to 0 u.tc, .slice u.oo 0 u.oc, .int .i64 0, .slice u.co 0 u.cc], .agg #[.int .i64 84, .int .i64 (x.length : Int)]]) ∧ IsPg w' u pg0 ∧ Below wbQ.heap.size wbQ w') := by
        have hb9 : byts (x ++ s) := fun n hn => by
          rcases List.mem_append.1 hn with h | h
          · exact HD1.out.2.2.2.1 n h
          · exact HR.out.2 n h
        have hl9 : (x ++ s).length ≤ 1000000000 := by
          rw [List.length_append]
          have := HMQ.out
          have := HSm.out
          omega
        have hd := HD1.out.2.2.1 s HNe.out
        have h9 := HBQ.out.2.2.1
        rw [← List.length_append] at h9 ⊢
        exact dec_use hd (dec_lens hd hb9 hl9) (rd_of (own_rdV h9)) hl9 hb9
      go_wp2_with fail
      refine HCQ.out.mono ?_
      rintro e wcQ ⟨u9, rfl, -, hb⟩
      have HDQ : Hid (Below W.heap.size W wcQ ∧ Wv g wcQ #[.slice u.qo p.gh.length u.qc, .slice u.vo p.vs.length u.vc, .slice u.to p.ts.length u.tc, .slice u.oo p.on.length u.oc, .int .i64 p.miss, .slice u.co p.cd.length u.cc] #[.int .i64 0, .int .i64 0] ∧ W.heap.size ≤ g) := ⟨bel_step HBQ.out.1 hb, HBQ.out.2.1.keep hb, HBQ.out.2.2.2⟩
      clear hb HCQ HBQ
      obtain ⟨f0, f1⟩ := cells2 HDQ.out.2.1.f
      have z0 := HDQ.out.2.1.zf 0
      have z1 := HDQ.out.2.1.zf 1
      have HEQ : Hid (Below W.heap.size W ((wcQ.setCell ⟨g + 1, 0, none⟩ (.int .i64 84)).setCell ⟨g + 1, 1, none⟩ (.int .i64 (x.length : Int))) ∧ Wv g ((wcQ.setCell ⟨g + 1, 0, none⟩ (.int .i64 84)).setCell ⟨g + 1, 1, none⟩ (.int .i64 (x.length : Int))) #[.slice u.qo p.gh.length u.qc, .slice u.vo p.vs.length u.vc, .slice u.to p.ts.length u.tc, .slice u.oo p.on.length u.oc, .int .i64 p.miss, .slice u.co p.cd.length u.cc] #[.int .i64 84, .int .i64 (x.length : Int)]) := by
        obtain ⟨q1, q2, q3⟩ := HDQ.out
        have hg : W.heap.size ≤ g + 1 := by omega
        exact ⟨(q1.setCell (p := ⟨g + 1, 0, none⟩) hg _).setCell (p := ⟨g + 1, 1, none⟩) hg _, (q2.setF 0 _).setF 1 _⟩
      go_upto_region 19 with fail
      clear f0 f1 z0 z1 HDQ
      generalize ((wcQ.setCell ⟨g + 1, 0, none⟩ (.int .i64 84)).setCell ⟨g + 1, 1, none⟩ (.int .i64 (x.length : Int))) = wdQ at *
      obtain ⟨f0, f1⟩ := cells2 HEQ.out.2.f
      go_wp2_with fail
      go_ret
      exact ⟨rfl, HEQ.out.1⟩
  case pos =>
    obtain ⟨n, rfl⟩ := Int.eq_ofNat_of_zero_le hc0
    have hn : n < x.length := by omega
    have hcap : (n : Int) ≤ (uc : Int) := by
      have := cap_own H7.out.2.1 HD1.out.2.2.2.2.2
      omega
    have hnn : decide (n < x.length) = true := decide_eq_true hn
    obtain ⟨bk, hbk, hbk1, hbk2⟩ := own_some H7.out.2.1 HD1.out.2.2.2.2.2
    subst hbk
    have HMA : Hid (n ≤ 100000000) := by have := HD1.out.2.2.2.2.1; exact (by omega : n ≤ 100000000)
    have HCelA : Hid (∀ j u, (u8L (x.take n))[j]? = some u → (w7.alloc (.cells #[] 5)).cell? ((⟨bk, 0, none⟩ : Addr).add j) = some u) := fun j u hj => (own_below H7.out.2.1 ((Below.refl _ w7).alloc (Nat.le_refl _) _)).cells (g := bk) rfl j u (by
      rw [u8_take, List.getElem?_take] at hj
      split at hj
      · exact hj
      · cases hj)
    have HN : Hid (n < x.length ∧ n1 ≤ bk ∧ bk < w7.heap.size) := ⟨hn, hbk1, hbk2⟩
    clear hn hbk1 hbk2
    go_wp2_with (at_builtin; refine wpList_append_own _ rfl _ _ 32 rfl w7.heap.size 5 j0 (.int .u8 0) 1 1 Tryd.underlying32 HJ.out.1 HJ.out.2.1 HJ.out.2.2.1 HJ.out.2.2.2 rfl (by decide) _ 0 [] rfl (World.ownsRow_made w7 #[] 0 (Nat.le_refl _) (Nat.zero_le _) rfl) ⟨bk, 0, none⟩ n uc (u8L (x.take n)) rfl ?laA ?lbA ?lcA ?ldA ?leA ?lfA ?_)
    case laA => rw [u8_len, Nat.mul_one, List.length_take, Nat.min_eq_left (Nat.le_of_lt HN.out.1)]
    case lbA => exact HCelA.out
    case lcA => exact u8_one
    case ldA => have := HMA.out; unfold maxLen; omega
    case leA => have := HMA.out; omega
    case lfA => simp
    intro Av wa Ao Ag An
    have H8 : Hid (Below W.heap.size W wa ∧ wa.ownsRow n1 5 1 (.slice (some ⟨bk, 0, none⟩) x.length uc) x.length (u8L x) ∧ Wv g wa #[.slice u.qo p.gh.length u.qc, .slice u.vo p.vs.length u.vc, .slice u.to p.ts.length u.tc, .slice u.oo p.on.length u.oc, .int .i64 p.miss, .slice u.co p.cd.length u.cc] #[.int .i64 0, .int .i64 0] ∧ W.heap.size ≤ g ∧ W.heap.size ≤ n1 ∧ wa.ownsRow w7.heap.size 5 1 Av n (u8L (x.take n))) := by
      obtain ⟨q1, q2, q3, q4, q5⟩ := H7.out
      have hbA : Below w7.heap.size w7 wa := bel_grown ((Below.refl _ w7).alloc (Nat.le_refl _) _) Ag (fun k e => by cases e; exact Nat.le_refl _)
      refine ⟨bel_step q1 hbA, own_below q2 hbA, q3.keep hbA, q4, q5, ?_⟩
      simpa using Ao
    clear Ao Ag An HCelA H7 HMA hc0 hc1 hcap
    obtain ⟨Ab, Ac, Ae⟩ := own_form H8.out.2.2.2.2.2
    subst Ae
    have HC8 : Hid (Calls Tryd.prog 19 #[.slice Ab n Ac] wa fun e w' => ∃ u : PV, e = .returned (.tuple #[.agg #[.slice u.qo 0 u.qc, .slice u.vo 0 u.vc, .slice u.to 0 u.tc, .slice u.oo 0 u.oc, .int .i64 0, .slice u.co 0 u.cc], .agg #[.int .i64 81, .int .i64 (n : Int)]]) ∧ IsPg w' u pg0 ∧ Below wa.heap.size wa w') := by
      have hb9 : byts (x.take n) := low_take HD1.out.2.2.2.1 n
      have hln : (x.take n).length = n := by rw [List.length_take, Nat.min_eq_left (Nat.le_of_lt HN.out.1)]
      have hl9 : (x.take n).length ≤ 1000000000 := by
        have := HD1.out.2.2.2.2.1
        have := HN.out.1
        omega
      have hd := HD1.out.2.1 n HN.out.1
      have h9 := own_rdV H8.out.2.2.2.2.2
      have key := dec_use (bc := Ac) hd (dec_lens hd hb9 hl9) (rd_of h9) hl9 hb9
      rw [hln] at key
      exact key
    go_wp2_with fail
    refine HC8.out.mono ?_
    rintro e w9 ⟨u8, rfl, -, hb⟩
    have H9 : Hid (Below W.heap.size W w9 ∧ w9.ownsRow n1 5 1 (.slice (some ⟨bk, 0, none⟩) x.length uc) x.length (u8L x) ∧ Wv g w9 #[.slice u.qo p.gh.length u.qc, .slice u.vo p.vs.length u.vc, .slice u.to p.ts.length u.tc, .slice u.oo p.on.length u.oc, .int .i64 p.miss, .slice u.co p.cd.length u.cc] #[.int .i64 0, .int .i64 0] ∧ W.heap.size ≤ g ∧ W.heap.size ≤ n1) := by
      obtain ⟨q1, q2, q3, q4, q5, -⟩ := H8.out
      exact ⟨bel_step q1 hb, own_below q2 hb, q3.keep hb, q4, q5⟩
    clear hb H8 HC8
    obtain ⟨f0, f1⟩ := cells2 H9.out.2.2.1.f
    have z0 := H9.out.2.2.1.zf 0
    have z1 := H9.out.2.2.1.zf 1
    have H10 : Hid (Below W.heap.size W ((w9.setCell ⟨g + 1, 0, none⟩ (.int .i64 81)).setCell ⟨g + 1, 1, none⟩ (.int .i64 (n : Int))) ∧ ((w9.setCell ⟨g + 1, 0, none⟩ (.int .i64 81)).setCell ⟨g + 1, 1, none⟩ (.int .i64 (n : Int))).ownsRow n1 5 1 (.slice (some ⟨bk, 0, none⟩) x.length uc) x.length (u8L x) ∧ Wv g ((w9.setCell ⟨g + 1, 0, none⟩ (.int .i64 81)).setCell ⟨g + 1, 1, none⟩ (.int .i64 (n : Int))) #[.slice u.qo p.gh.length u.qc, .slice u.vo p.vs.length u.vc, .slice u.to p.ts.length u.tc, .slice u.oo p.on.length u.oc, .int .i64 p.miss, .slice u.co p.cd.length u.cc] #[.int .i64 81, .int .i64 (n : Int)] ∧ W.heap.size ≤ g ∧ W.heap.size ≤ n1 ∧ True) := by
      obtain ⟨q1, q2, q3, q4, q5⟩ := H9.out
      have hg : W.heap.size ≤ g + 1 := by omega
      have hne : ∀ k, (Value.slice (some ⟨bk, 0, none⟩) x.length uc).ownBlock = some k → k ≠ g + 1 := fun k e => by
        cases e
        exact own_nef q2 q3.f
      have hk : ∀ (w' : World) (j : Nat) (v : Value), w'.ownsRow n1 5 1 (.slice (some ⟨bk, 0, none⟩) x.length uc) x.length (u8L x) → (w'.setCell ⟨g + 1, j, none⟩ v).ownsRow n1 5 1 (.slice (some ⟨bk, 0, none⟩) x.length uc) x.length (u8L x) := fun w' j v h => own_keepB h (fun k hk => Below.heap_setCell w' _ _ k (fun e => hne k hk e))
      exact ⟨(q1.setCell (p := ⟨g + 1, 0, none⟩) hg _).setCell (p := ⟨g + 1, 1, none⟩) hg _, hk _ _ _ (hk _ _ _ q2), (q3.setF 0 _).setF 1 _, q4, q5, trivial⟩
    go_upto_region 14 with fail
    clear f0 f1 z0 z1 H9
    generalize ((w9.setCell ⟨g + 1, 0, none⟩ (.int .i64 81)).setCell ⟨g + 1, 1, none⟩ (.int .i64 (n : Int))) = wz at *
    obtain ⟨f0, f1⟩ := cells2 H10.out.2.2.1.f
    have HXR : Hid (Below W.heap.size W wz ∧ wz.ownsRow n1 5 1 (.slice (some ⟨bk, 0, none⟩) x.length uc) x.length (u8L x) ∧ Wv g wz #[.slice u.qo p.gh.length u.qc, .slice u.vo p.vs.length u.vc, .slice u.to p.ts.length u.tc, .slice u.oo p.on.length u.oc, .int .i64 p.miss, .slice u.co p.cd.length u.cc] #[.int .i64 81, .int .i64 (n : Int)] ∧ W.heap.size ≤ g ∧ W.heap.size ≤ n1) := by
      obtain ⟨q1, q2, q3, q4, q5, -⟩ := H10.out
      exact ⟨q1, q2, q3, q4, q5⟩
    clear H10 HN
    go_upto_region 16 with fail
    clear f0 f1 hnn
    by_cases hs0 : s = []
    case pos =>
      subst hs0
      go_wp2_with fail
      go_ret
      exact ⟨rfl, HXR.out.1⟩
    case neg =>
      have hpos : 0 < s.length := List.length_pos_iff.2 hs0
      have hpos2 : (0 : Int) < (s.length : Int) := by omega
      obtain ⟨hbk1, hbk2⟩ := World.ownsRow.lt HXR.out.2.1 bk rfl
      have HMR2 : Hid (x.length ≤ 100000000 ∧ n1 ≤ bk ∧ bk < wz.heap.size) := ⟨HD1.out.2.2.2.2.1, hbk1, hbk2⟩
      have HMR : Hid (x.length ≤ 100000000) := HMR2.out.1
      have HCelR : Hid (∀ j u, (u8L x)[j]? = some u → (wz.alloc (.cells #[] 5)).cell? ((⟨bk, 0, none⟩ : Addr).add j) = some u) := fun j u hj => (own_below HXR.out.2.1 ((Below.refl _ wz).alloc (Nat.le_refl _) _)).cells (g := bk) rfl j u hj
      obtain ⟨k0, hk0⟩ : ∃ k0, (u8L s)[0]? = some k0 := ⟨_, List.getElem?_eq_getElem (by rw [u8_len]; exact hpos)⟩
      obtain ⟨tb, tof, htb, -, -⟩ := HR.out.1 0 k0 hk0
      subst htb
      clear hk0 hbk1 hbk2
      have HNe : Hid (s ≠ []) := hs0
      clear hs0 hpos
      go_wp2_with (at_builtin; refine wpList_append_own _ rfl _ _ 32 rfl wz.heap.size 5 j0 (.int .u8 0) 1 1 Tryd.underlying32 HJ.out.1 HJ.out.2.1 HJ.out.2.2.1 HJ.out.2.2.2 rfl (by decide) _ 0 [] rfl (World.ownsRow_made wz #[] 0 (Nat.le_refl _) (Nat.zero_le _) rfl) ⟨bk, 0, none⟩ x.length uc (u8L x) rfl ?laR ?lbR ?lcR ?ldR ?leR ?lfR ?_)
      case laR => rw [u8_len, Nat.mul_one]
      case lbR => exact HCelR.out
      case lcR => exact u8_one
      case ldR => have := HMR.out; unfold maxLen; omega
      case leR => have := HMR.out; omega
      case lfR => simp
      intro Rv waR Ro Rg Rn
      have HAR : Hid (Below W.heap.size W waR ∧ Wv g waR #[.slice u.qo p.gh.length u.qc, .slice u.vo p.vs.length u.vc, .slice u.to p.ts.length u.tc, .slice u.oo p.on.length u.oc, .int .i64 p.miss, .slice u.co p.cd.length u.cc] #[.int .i64 81, .int .i64 (n : Int)] ∧ waR.ownsRow wz.heap.size 5 1 Rv x.length (u8L x) ∧ W.heap.size ≤ g ∧ wz.heap.size ≤ waR.heap.size ∧ W.heap.size ≤ wz.heap.size ∧ Wv g wz #[.slice u.qo p.gh.length u.qc, .slice u.vo p.vs.length u.vc, .slice u.to p.ts.length u.tc, .slice u.oo p.on.length u.oc, .int .i64 p.miss, .slice u.co p.cd.length u.cc] #[.int .i64 81, .int .i64 (n : Int)]) := by
        obtain ⟨q1, q2, q3, q4, q5⟩ := HXR.out
        have hbA : Below wz.heap.size wz waR := bel_grown ((Below.refl _ wz).alloc (Nat.le_refl _) _) Rg (fun k e => by cases e; exact Nat.le_refl _)
        refine ⟨bel_step q1 hbA, q3.keep hbA, ?_, q4, hbA.size, q1.size, q3⟩
        simpa using Ro
      clear Ro Rg Rn HCelR
      obtain ⟨Rb, Rc, Re⟩ := own_form HAR.out.2.2.1
      subst Re
      have HTR : Hid (∀ j u, (u8L s)[j]? = some u → waR.cell? ((⟨tb, tof, none⟩ : Addr).add j) = some u) := fun j u hj => by
        obtain ⟨g', f', e', _, hc⟩ := HR.out.1.below HAR.out.1 j u hj
        cases e'
        rw [Lib.addr_add]
        exact hc
      go_wp2_with (at_builtin; refine wpList_append_own _ rfl _ _ 32 rfl wz.heap.size 5 j0 (.int .u8 0) 1 1 Tryd.underlying32 HJ.out.1 HJ.out.2.1 HJ.out.2.2.1 HJ.out.2.2.2 rfl (by decide) _ x.length (u8L x) rfl HAR.out.2.2.1 ⟨tb, tof, none⟩ s.length bc (u8L s) rfl ?maR ?mbR ?mcR ?mdR ?meR ?mfR ?_)
      case maR => rw [u8_len, Nat.mul_one]
      case mbR => exact HTR.out
      case mcR => exact u8_one
      case mdR => have := HMR.out; have := HSm.out; unfold maxLen; omega
      case meR => have := HMR.out; have := HSm.out; omega
      case mfR => exact HAR.out.2.2.2.2.1
      intro Rv2 wbR Ro Rg Rn
      have HBR : Hid (Below W.heap.size W wbR ∧ Wv g wbR #[.slice u.qo p.gh.length u.qc, .slice u.vo p.vs.length u.vc, .slice u.to p.ts.length u.tc, .slice u.oo p.on.length u.oc, .int .i64 p.miss, .slice u.co p.cd.length u.cc] #[.int .i64 81, .int .i64 (n : Int)] ∧ wbR.ownsRow wz.heap.size 5 1 Rv2 (x.length + s.length) (u8L (x ++ s)) ∧ W.heap.size ≤ g) := by
        obtain ⟨q1, q2, q3, q4, q5, q6, q7⟩ := HAR.out
        have hg1 : g + 1 < wz.heap.size := blk_lt q7.f
        have hlow : ∀ k, k < wz.heap.size → wbR.heap[k]? = waR.heap[k]? := fun k hk => Rg.block k (by omega) (fun e => by have := (World.ownsRow.lt q3 k e.symm).1; omega)
        refine ⟨⟨Rg.os.trans q1.os, Rg.tape.trans q1.tape, Rg.output.trans q1.output, Nat.le_trans q1.size Rg.size, fun k hk => (hlow k (by omega)).trans (q1.block k hk)⟩, ⟨(hlow _ (by omega)).trans q2.p, (hlow _ hg1).trans q2.f⟩, ?_, q4⟩
        have e9 : u8L (x ++ s) = u8L x ++ u8L s := by simp [u8L]
        rw [e9]
        exact Ro
      clear Ro Rg Rn HTR HAR
      obtain ⟨Rb2, Rc2, Re⟩ := own_form HBR.out.2.2.1
      subst Re
      have HCR : Hid (Calls Tryd.prog 19 #[.slice Rb2 (x.length + s.length) Rc2] wbR fun e w' => ∃ u : PV, e = .returned (.tuple #[.agg #[.slice u.qo 0 u.qc, .slice u.vo 0 u.vc, .slice u.to 0 u.tc, .slice u.oo 0 u.oc, .int .i64 0, .slice u.co 0 u.cc], .agg #[.int .i64 84, .int .i64 (x.length : Int)]]) ∧ IsPg w' u pg0 ∧ Below wbR.heap.size wbR w') := by
        have hb9 : byts (x ++ s) := fun n hn => by
          rcases List.mem_append.1 hn with h | h
          · exact HD1.out.2.2.2.1 n h
          · exact HR.out.2 n h
        have hl9 : (x ++ s).length ≤ 1000000000 := by
          rw [List.length_append]
          have := HMR.out
          have := HSm.out
          omega
        have hd := HD1.out.2.2.1 s HNe.out
        have h9 := HBR.out.2.2.1
        rw [← List.length_append] at h9 ⊢
        exact dec_use hd (dec_lens hd hb9 hl9) (rd_of (own_rdV h9)) hl9 hb9
      go_wp2_with fail
      refine HCR.out.mono ?_
      rintro e wcR ⟨u9, rfl, -, hb⟩
      have HDR : Hid (Below W.heap.size W wcR ∧ Wv g wcR #[.slice u.qo p.gh.length u.qc, .slice u.vo p.vs.length u.vc, .slice u.to p.ts.length u.tc, .slice u.oo p.on.length u.oc, .int .i64 p.miss, .slice u.co p.cd.length u.cc] #[.int .i64 81, .int .i64 (n : Int)] ∧ W.heap.size ≤ g) := ⟨bel_step HBR.out.1 hb, HBR.out.2.1.keep hb, HBR.out.2.2.2⟩
      clear hb HCR HBR
      obtain ⟨f0, f1⟩ := cells2 HDR.out.2.1.f
      have z0 := HDR.out.2.1.zf 0
      have z1 := HDR.out.2.1.zf 1
      have HER : Hid (Below W.heap.size W ((wcR.setCell ⟨g + 1, 0, none⟩ (.int .i64 84)).setCell ⟨g + 1, 1, none⟩ (.int .i64 (x.length : Int))) ∧ Wv g ((wcR.setCell ⟨g + 1, 0, none⟩ (.int .i64 84)).setCell ⟨g + 1, 1, none⟩ (.int .i64 (x.length : Int))) #[.slice u.qo p.gh.length u.qc, .slice u.vo p.vs.length u.vc, .slice u.to p.ts.length u.tc, .slice u.oo p.on.length u.oc, .int .i64 p.miss, .slice u.co p.cd.length u.cc] #[.int .i64 84, .int .i64 (x.length : Int)]) := by
        obtain ⟨q1, q2, q3⟩ := HDR.out
        have hg : W.heap.size ≤ g + 1 := by omega
        exact ⟨(q1.setCell (p := ⟨g + 1, 0, none⟩) hg _).setCell (p := ⟨g + 1, 1, none⟩) hg _, (q2.setF 0 _).setF 1 _⟩
      go_upto_region 19 with fail
      clear f0 f1 z0 z1 HDR
      generalize ((wcR.setCell ⟨g + 1, 0, none⟩ (.int .i64 84)).setCell ⟨g + 1, 1, none⟩ (.int .i64 (x.length : Int))) = wdR at *
      obtain ⟨f0, f1⟩ := cells2 HER.out.2.f
      go_wp2_with fail
      go_ret
      exact ⟨rfl, HER.out.1⟩
end Go.Proofs.YtcicifcnffacpaaDoor.Cd

namespace Go.Proofs.YtcicifcnffacpaaDoor.codeBack
open Go.ChangeShapes Go.WideShapes Go.ChangeAt Go.RowKit
open Go.Proofs.YtcicifcnffacpaaDoor.Nm Go.Proofs.YtcicifcnffacpaaDoor.Vf Go.Proofs.YtcicifcnffacpaaDoor.Cd

theorem own : ownKnob Tryd.prog.godebug = none := by kernel_rfl
theorem laidOut : laidOutB Tryd.prog = true := by kernel_rfl

set_option maxHeartbeats 3200000 in
set_option maxRecDepth 100000 in
theorem contract (H : Type) (enc : TypeId × Value → H) (W : World) (base : Nat) (args : Array Value) (ds gs : List (DataW H)) (before : List MemPlace)
    (hval : ∀ (j : Nat) t v, Tryd.f6.params[j]? = some t → args[j]? = some v → Value.okWide Tryd.prog W .any base t v)
    (hW : DataW.Whole enc Tryd.prog Tryd.f6.params.toList Rows.codeBackSpec.vars false W args.toList ds gs before)
    (hsz : (DataW.weightsEach Tryd.prog (Tryd.f6.params.toList ++ (OpenSpec.ofChange Rows.codeBackSpec).bare.plain.varTypes Tryd.prog) (ds ++ gs)).all (· ≤ reachBytes) = true) (hL : laidMetH Tryd.prog Rows.codeBackRow.laid W) :
    Calls Tryd.prog 6 args W fun e W' => ∃ v, e = .returned v ∧ Rows.codeBackSpec.post enc Tryd.prog Tryd.f6 false true false false W args v W' := by
  have hW' := hW
  obtain ⟨p, q, hA0, hV, rfl, hfz, hnd⟩ := hW
  have hA : DataW.TrodAll enc Tryd.prog W 0 (fun _ => true) true Tryd.f6.params.toList args.toList ds p := hA0
  rw [Tryd.params6] at hA hval hsz
  obtain ⟨v0, vs0, d0, ds0, p0, q0, hargs, rfl, rfl, h0, r0⟩ := trodAll_cons hA
  obtain ⟨v1, vs1, d1, ds1, p1, q1, rfl, rfl, rfl, h1, r1⟩ := trodAll_cons r0
  obtain ⟨v2, vs2, d2, ds2, p2, q2, rfl, rfl, rfl, h2, r2⟩ := trodAll_cons r1
  obtain ⟨rfl, rfl, rfl⟩ := trodAll_nil r2
  obtain rfl : args = #[v0, v1, v2] := by cases args; simp_all
  obtain ⟨rfl, rfl⟩ := trodVars_none hV
  have lt0 : ∀ x ∈ p0, x.block < W.heap.size := by obtain ⟨m, hm⟩ := h0; exact DataW.trod_lt m _ _ _ hm
  have lt2 : ∀ x ∈ p2, x.block < W.heap.size := by obtain ⟨m, hm⟩ := h2; exact DataW.trod_lt m _ _ _ hm
  obtain ⟨pv0, pg0, x0, x1, x2, x3, x4, x5, rfl, hr0, rfl, l0, l1, l2, l3, l5⟩ := open_progL (hval 0 27 v0 rfl rfl) h0
  have is0 := prog_is hsz (j := 0) rfl rfl hr0 l0 l1 l2 l3 l5
  obtain ⟨a1, rfl, rfl, rfl, w1⟩ := open_int Tryd.underlying3 (hval 1 3 v1 rfl rfl) h1
  have b1 := bounds_i64 w1
  obtain ⟨a2, len2, cap2, rfl⟩ := okWide_slice Tryd.underlying32 (hval 2 32 v2 rfl rfl)
  have sl2 := slice_len Tryd.underlying32 h2
  obtain ⟨l2, rfl, hr2, hlow2⟩ := open_bytesV h2
  have hlen2 := len_reach hsz (j := 2) rfl rfl Tryd.underlying32 sl2
  rw [bytesU8, Nat.mul_one] at hlen2
  refine (backWalk W (pow_of (show laidMetH Tryd.prog laidL W from hL)) (asc_of (show laidMetH Tryd.prog laidL W from hL)) pv0 pg0 is0.1 a1 b1.1 b1.2 a2 cap2 l2 hr2 hlow2 hlen2).mono fun e W2 ⟨he, bel⟩ => ?_
  subst he
  exact ⟨_, rfl, _, _, _, [], _, [], hW', trodAll_mk1 (shut_bool Tryd.underlying4 _), (trodAll_cons_mk (Below.trod laidOut (by kernel_rfl) (of_decide_eq_true (by kernel_rfl)) h0 bel lt0) (trodAll_cons_mk (shut_int Tryd.underlying3 w1) (trodAll_cons_mk (Below.trod laidOut (by kernel_rfl) (of_decide_eq_true (by kernel_rfl)) h2 bel lt2) trodAll_mk0))), rfl, bel.frame _, fun h => by cases h⟩

set_option maxRecDepth 100000 in
/-- A world for the witness: the settled one and two blocks more (the ranges of blanks, and their table), the tables holding what their initialisers lay. -/
theorem start (os : Os) : ∃ w0 : World, w0.os = os ∧ (w0.forCall (fun _ _ => 0) ⟨#[], #[.agg #[.slice none 0 0, .slice none 0 0, .slice none 0 0, .slice none 0 0, .int .i64 0, .slice none 0 0], .int .i64 0, Value.slice none 0 0], []⟩).variablesRefB Tryd.prog = true ∧
    ((w0.forCall (fun _ _ => 0) ⟨#[], #[.agg #[.slice none 0 0, .slice none 0 0, .slice none 0 0, .slice none 0 0, .int .i64 0, .slice none 0 0], .int .i64 0, Value.slice none 0 0], []⟩).heap.toList.drop Tryd.prog.globals.size).take ((begin Tryd.prog (fun _ _ => 0) default).world.heap.size - Tryd.prog.globals.size) = (begin Tryd.prog (fun _ _ => 0) default).world.heap.toList.drop Tryd.prog.globals.size ∧
    Input.okWideB Tryd.prog (w0.forCall (fun _ _ => 0) ⟨#[], #[.agg #[.slice none 0 0, .slice none 0 0, .slice none 0 0, .slice none 0 0, .int .i64 0, .slice none 0 0], .int .i64 0, Value.slice none 0 0], []⟩) 6 ⟨#[], #[.agg #[.slice none 0 0, .slice none 0 0, .slice none 0 0, .slice none 0 0, .int .i64 0, .slice none 0 0], .int .i64 0, Value.slice none 0 0], []⟩ = true ∧
    laidMet Tryd.prog Rows.codeBackRow.laid (w0.forCall (fun _ _ => 0) ⟨#[], #[.agg #[.slice none 0 0, .slice none 0 0, .slice none 0 0, .slice none 0 0, .int .i64 0, .slice none 0 0], .int .i64 0, Value.slice none 0 0], []⟩).memory ∧
    ∀ (H : Type) (enc : TypeId × Value → H),
      DataW.whole enc Tryd.prog (w0.forCall (fun _ _ => 0) ⟨#[], #[.agg #[.slice none 0 0, .slice none 0 0, .slice none 0 0, .slice none 0 0, .int .i64 0, .slice none 0 0], .int .i64 0, Value.slice none 0 0], []⟩).memory Tryd.f6.params.toList Rows.codeBackSpec.vars false #[Value.agg #[.slice none 0 0, .slice none 0 0, .slice none 0 0, .slice none 0 0, .int .i64 0, .slice none 0 0], .int .i64 0, Value.slice none 0 0].toList 8 = some ([.agg [.nil, .nil, .nil, .nil, .lit (.int .i64 0), .nil], .lit (.int .i64 0), .nil], [], []) ∧
      (OpenSpec.ofChange Rows.codeBackSpec).bare.sizedB enc Tryd.prog Tryd.f6 false (w0.forCall (fun _ _ => 0) ⟨#[], #[.agg #[.slice none 0 0, .slice none 0 0, .slice none 0 0, .slice none 0 0, .int .i64 0, .slice none 0 0], .int .i64 0, Value.slice none 0 0], []⟩).memory #[Value.agg #[.slice none 0 0, .slice none 0 0, .slice none 0 0, .slice none 0 0, .int .i64 0, .slice none 0 0], .int .i64 0, Value.slice none 0 0] 8 = true :=
  ⟨{ World.holding Tryd.prog os ⟨#[.cells (Lib.whiteT.map fun (z : Nat) => Value.int .u16 (z : Int)).toArray 148, .cells #[.slice (some ⟨(World.settled Tryd.prog os).heap.size, 0, none⟩) 7 7, .slice none 0 0, .int .i64 2] 145], #[], []⟩ with
      heap := (((((World.holding Tryd.prog os ⟨#[.cells (Lib.whiteT.map fun (z : Nat) => Value.int .u16 (z : Int)).toArray 148, .cells #[.slice (some ⟨(World.settled Tryd.prog os).heap.size, 0, none⟩) 7 7, .slice none 0 0, .int .i64 2] 145], #[], []⟩).heap.modify 0 (fun o => match o with
        | .cells _ t frozen => .cells (Lib.asciiSpaceTab.map fun z => Value.int .u8 z).toArray t frozen
        | o => o)).modify 2 (fun o => match o with
        | .cells _ t frozen => .cells (Lib.pow10Tab.map fun z => Value.int .u64 z).toArray t frozen
        | o => o)).modify 3 (fun o => match o with
        | .cells _ t frozen => .cells (([0, 1, 28, 2, 29, 14, 24, 3, 30, 22, 20, 15, 25, 17, 4, 8, 31, 27, 13, 23, 21, 19, 16, 7, 26, 12, 18, 6, 11, 5, 10, 9] : List Int).map fun z => Value.int .u8 z).toArray t frozen
        | o => o)).modify 4 (fun o => match o with
        | .cells _ t frozen => .cells (([0, 1, 56, 2, 57, 49, 28, 3, 61, 58, 42, 50, 38, 29, 17, 4, 62, 47, 59, 36, 45, 43, 51, 22, 53, 39, 33, 30, 24, 18, 12, 5, 63, 55, 48, 27, 60, 41, 37, 16, 46, 35, 44, 21, 52, 32, 23, 11, 54, 26, 40, 15, 34, 20, 31, 10, 25, 14, 19, 9, 13, 8, 7, 6] : List Int).map fun z => Value.int .u8 z).toArray t frozen
        | o => o)).modify 1 (fun o => match o with
        | .cells _ t frozen => .cells #[.pointer (some ⟨(World.settled Tryd.prog os).heap.size + 1, 0, none⟩)] t frozen
        | o => o) },
    rfl, by kernel_rfl, by kernel_rfl, by kernel_rfl, laidMet_of_run' 10 (by kernel_rfl) (by kernel_rfl), fun _ _ => ⟨by kernel_rfl, by kernel_rfl⟩⟩

set_option maxRecDepth 100000 in
theorem lifted (os : Os) (started : os.Started) (H : Type) (enc : TypeId × Value → H) (F : Stop.Interp) :
    ReturnsInHanded {} Tryd.checked os 6 .any ((OpenSpec.ofChange Rows.codeBackSpec).preRow enc Tryd.prog Tryd.f6 Rows.codeBackRow.domain false Rows.codeBackRow.laid) (((OpenSpec.ofChange Rows.codeBackSpec).at F).post enc Tryd.prog Tryd.f6 false true false false) := by
  obtain ⟨w0, hos, hv, hr, hok, hlaid, hread⟩ := start os
  obtain ⟨hx, hsz⟩ := hread H enc
  refine returnsInHanded_of_row (C := Tryd.checked) (s := OpenSpec.ofChange Rows.codeBackSpec) own started (by kernel_rfl) Tryd.func6
    (witness_row_atRef (enc := enc) (C := Tryd.checked) false w0 #[Value.agg #[.slice none 0 0, .slice none 0 0, .slice none 0 0, .slice none 0 0, .int .i64 0, .slice none 0 0], .int .i64 0, Value.slice none 0 0] hos hv hr hok
      (OpenSpec.preRow_of_cond 8 hx (by kernel_rfl) (fun k hk => by cases hk) hsz hlaid)) ?_
  intro W base args ds gs before hval hW _ _ hsz hL _ _
  exact contract H enc W base args ds gs before hval hW hsz hL

theorem said : Rows.CodeBackSaid :=
  OpenClaim.holds_of_cond 6 Tryd.f6 rfl rfl rfl rfl rfl rfl rfl ⟨rfl, rfl, rfl, rfl, rfl⟩ rfl rfl rfl rfl rfl (by kernel_rfl) Tryd.func6 (by kernel_rfl)
    (of_decide_eq_true (by kernel_rfl)) (by unfold Func.isWrapper; first | (rw [if_pos (by decide +kernel)]; kernel_rfl) | (rw [if_neg (by decide +kernel)]; exact ⟨rfl, rfl⟩))
    (fun os started H enc _ F => by rw [OpenClaim.pre_eq_preRow]; exact lifted os started H enc F)

theorem plain (f : FuncId) (fn : Func) (hf : Tryd.pinned.checked.prog.funcNamed "winnow/winnowlaw15.CodeBack" = some f) (hfn : Tryd.pinned.checked.prog.funcs[f]? = some fn) :
    true = Tryd.pinned.checked.prog.looks [] ∧ ∀ (j : Nat) t, fn.params[j]? = some t → Tryd.pinned.checked.prog.wantsStandIn t = false := by
  obtain rfl : f = 6 := Option.some.inj ((show Tryd.prog.funcNamed "winnow/winnowlaw15.CodeBack" = some 6 by kernel_rfl).symm.trans hf) |>.symm
  obtain rfl : fn = Tryd.f6 := (Option.some.inj (Tryd.func6.symm.trans hfn)).symm
  refine ⟨by kernel_rfl, fun j t ht => ?_⟩
  rw [Tryd.params6] at ht
  have hm : t = 27 ∨ t = 3 ∨ t = 32 := by simpa using Array.mem_of_getElem? ht
  rcases hm with rfl | rfl | rfl
  · exact (show Tryd.prog.wantsStandIn 27 = false by kernel_rfl)
  · exact (show Tryd.prog.wantsStandIn 3 = false by kernel_rfl)
  · exact (show Tryd.prog.wantsStandIn 32 = false by kernel_rfl)

theorem card : Rows.CodeBackCardSaid :=
  Claim7.holds_tied_plain_at .later [] _ _ _ _ said (fun _ h => by cases h) (by kernel_rfl) (fun _ h => by cases h) codeBack_row_tie rfl ⟨rfl, rfl⟩ (by kernel_rfl) rfl plain (by kernel_rfl)
end Go.Proofs.YtcicifcnffacpaaDoor.codeBack
