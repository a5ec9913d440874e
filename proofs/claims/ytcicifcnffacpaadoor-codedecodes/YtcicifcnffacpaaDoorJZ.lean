import Derived.Test.YtcicifcnffacpaaDoorJK
import Derived.Test.YtcicifcnffacpaaDoorCeRsm
import Derived.BigQuiet
import Derived.Laws.CopyOwn
import Derived.Laws.Externs
import Derived.Test.YtcicifcnffacpaaDoorCeRe
import Derived.Test.YtcicifcnffacpaaDoorCards
import Derived.Test.YtcicifcnffacpaaDoorCeTie
import Derived.OpenShut
import Derived.Below
import Derived.Carry
import Derived.Lib.SmallJoins
set_option linter.unusedSimpArgs false
namespace Go.Proofs.YtcicifcnffacpaaDoor.Cd
open Go.RowKit Go.Proofs.YtcicifcnffacpaaDoor.Nm Go.Proofs.YtcicifcnffacpaaDoor.Vf

theorem bel_step {w W W' : World} (h : Below w.heap.size w W) (h2 : Below W.heap.size W W') : Below w.heap.size w W' := h.trans (h2.mono h.size)
theorem tab_on {w W : World} {nm : String} {k : IntKind} {zs : List Int} (h : Lib.TabBelow Tryd.prog w.heap.size w nm k zs) (hb : Below w.heap.size w W) : Lib.TabBelow Tryd.prog W.heap.size W nm k zs := fun w' hw => h w' (bel_step hb hw)
theorem str_eq {a b : List Nat} (ha : Low a) (hb : Low b) : ((txt a).toList == (txt b).toList) = decide (a = b) := by
  by_cases h : a = b
  · subst h
    simp
  · rw [decide_eq_false h, ByteArray.toList_eq, ByteArray.toList_eq]
    refine beq_eq_false_iff_ne.2 fun e => h ?_
    exact txt_inj ha hb (ByteArray.ext (Array.toList_inj.1 e))
theorem both_same {p q : Pg} (hp : chk p = 0) (hq : chk q = 0) : decide (byP p = byP q) = samB p q := by
  by_cases h : p = q
  · subst h
    rw [(samB_iff p p).2 rfl]
    simp
  · rw [samB_no h]
    exact decide_eq_false fun e => h (byP_inj hp hq e)
theorem own_drew {w : World} {base : Nat} {e : TypeId} {size : Nat} {v : Value} {n : Nat} {xs : List Value} (k : Nat) (h : w.ownsRow base e size v n xs) : (w.drewN k).ownsRow base e size v n xs := own_below h (Nm.below_drewN w k)
theorem cap_own {w : World} {base : Nat} {e : TypeId} {size : Nat} {b : Option Addr} {n c : Nat} {xs : List Value} (h : w.ownsRow base e size (.slice b n c) n xs) (hn : 0 < n) : n ≤ c := by
  rcases h.2 with ⟨_, e2⟩ | ⟨g, cap, cur, e1, _, _, e4, _⟩
  · omega
  · cases e1
    exact e4
set_option maxHeartbeats 25600000 in
set_option maxRecDepth 100000 in
/-- CodeUnlike -/
theorem unlikeWalk (W : World) (hT : Lib.TabBelow Tryd.prog W.heap.size W "internal/strconv.uint64pow10" .u64 Lib.pow10Tab) (hA : Lib.TabBelow Tryd.prog W.heap.size W "strings.asciiSpace" .u8 Lib.asciiSpaceTab) (v : PV) (p : Pg) (hP : IsPg W v p) (u : PV) (q : Pg) (hQ : IsPg W u q) :
    Calls Tryd.prog 8 #[.agg (pvC v p), .agg (pvC u q)] W fun e W' => e = .returned (.bool true) ∧ Below W.heap.size W W' := by
  obtain ⟨qo, qc, vo, vc, tto, tc, oo, oc, co, cc⟩ := v
  obtain ⟨qo', qc', vo', vc', tto', tc', oo', oc', co', cc'⟩ := u
  have HK : Hid (∀ w, Below W.heap.size W w → Calls Tryd.prog 9 #[] w fun e w' => e = .returned (.bool true) ∧ Below w.heap.size w w') := fun w hb => known_any w (tab_on hT hb) (tab_on hA hb)
  have HE1 : Hid (∀ w, Below W.heap.size W w → Calls Tryd.prog 12 #[.agg #[.slice qo p.gh.length qc, .slice vo p.vs.length vc, .slice tto p.ts.length tc, .slice oo p.on.length oc, .int .i64 p.miss, .slice co p.cd.length cc]] w fun e w' => ∃ u, e = .returned (.tuple #[u, .int .i64 (chk p : Int)]) ∧ w'.ownsRow w.heap.size 5 1 u (encB p).length (u8L (encB p)) ∧ Below w.heap.size w w') := fun w hb => enc_any ⟨qo, qc, vo, vc, tto, tc, oo, oc, co, cc⟩ p w (hP.below hb)
  have HE2 : Hid (∀ w, Below W.heap.size W w → Calls Tryd.prog 12 #[.agg #[.slice qo' q.gh.length qc', .slice vo' q.vs.length vc', .slice tto' q.ts.length tc', .slice oo' q.on.length oc', .int .i64 q.miss, .slice co' q.cd.length cc']] w fun e w' => ∃ u, e = .returned (.tuple #[u, .int .i64 (chk q : Int)]) ∧ w'.ownsRow w.heap.size 5 1 u (encB q).length (u8L (encB q)) ∧ Below w.heap.size w w') := fun w hb => enc_any ⟨qo', qc', vo', vc', tto', tc', oo', oc', co', cc'⟩ q w (hQ.below hb)
  have HS : Hid (∀ w, Below W.heap.size W w → Calls Tryd.prog 23 #[.agg #[.slice qo p.gh.length qc, .slice vo p.vs.length vc, .slice tto p.ts.length tc, .slice oo p.on.length oc, .int .i64 p.miss, .slice co p.cd.length cc], .agg #[.slice qo' q.gh.length qc', .slice vo' q.vs.length vc', .slice tto' q.ts.length tc', .slice oo' q.on.length oc', .int .i64 q.miss, .slice co' q.cd.length cc']] w fun e w' => e = .returned (.bool (samB p q)) ∧ Below w.heap.size w w') := fun w hb => same_any ⟨qo, qc, vo, vc, tto, tc, oo, oc, co, cc⟩ ⟨qo', qc', vo', vc', tto', tc', oo', oc', co', cc'⟩ p q w (hP.below hb) (hQ.below hb)
  clear hT hA hP hQ
  have HB0 := show Hid _ from two_prg W #[.slice qo p.gh.length qc, .slice vo p.vs.length vc, .slice tto p.ts.length tc, .slice oo p.on.length oc, .int .i64 p.miss, .slice co p.cd.length cc] #[.slice qo' q.gh.length qc', .slice vo' q.vs.length vc', .slice tto' q.ts.length tc', .slice oo' q.on.length oc', .int .i64 q.miss, .slice co' q.cd.length cc']
  go_enter Tryd.func8, Tryd.ntmps8
  go_upto_region 1 with fail
  generalize ((W.alloc (.cells #[.slice qo p.gh.length qc, .slice vo p.vs.length vc, .slice tto p.ts.length tc, .slice oo p.on.length oc, .int .i64 p.miss, .slice co p.cd.length cc] 27)).alloc (.cells #[.slice qo' q.gh.length qc', .slice vo' q.vs.length vc', .slice tto' q.ts.length tc', .slice oo' q.on.length oc', .int .i64 q.miss, .slice co' q.cd.length cc'] 27)) = W0 at *
  go_wp2_with fail
  refine (HK.out _ HB0.out.1).mono ?_
  rintro e w1 ⟨rfl, hb⟩
  have HB : Hid (Below W.heap.size W w1 ∧ w1.heap[W.heap.size]? = some (.cells #[.slice qo p.gh.length qc, .slice vo p.vs.length vc, .slice tto p.ts.length tc, .slice oo p.on.length oc, .int .i64 p.miss, .slice co p.cd.length cc] 27 (0, 0)) ∧ w1.heap[W.heap.size + 1]? = some (.cells #[.slice qo' q.gh.length qc', .slice vo' q.vs.length vc', .slice tto' q.ts.length tc', .slice oo' q.on.length oc', .int .i64 q.miss, .slice co' q.cd.length cc'] 27 (0, 0))) := ⟨bel_step HB0.out.1 hb, (hb.block _ (blk_lt HB0.out.2.1)).trans HB0.out.2.1, (hb.block _ (blk_lt HB0.out.2.2)).trans HB0.out.2.2⟩
  clear hb HB0 HK
  obtain ⟨c0, c1, c2, c3, c4, c5⟩ := cells6 HB.out.2.1
  obtain ⟨d0, d1, d2, d3, d4, d5⟩ := cells6 HB.out.2.2
  by_cases hb1 : 524288 < p.cd.length
  case pos =>
    have hb2 : (524288 : Int) < (p.cd.length : Int) := by omega
    go_wp2_with fail
    go_ret
    exact ⟨rfl, HB.out.1⟩
  have hb1' : decide (524288 < p.cd.length) = false := decide_eq_false hb1
  have hb2 : decide ((524288 : Int) < (p.cd.length : Int)) = false := decide_eq_false (by omega)
  clear hb1
  by_cases hb3 : 524288 < q.cd.length
  case pos =>
    have hb4 : (524288 : Int) < (q.cd.length : Int) := by omega
    go_wp2_with fail
    go_ret
    exact ⟨rfl, HB.out.1⟩
  have hb3' : decide (524288 < q.cd.length) = false := decide_eq_false hb3
  have hb4 : decide ((524288 : Int) < (q.cd.length : Int)) = false := decide_eq_false (by omega)
  clear hb3
  go_wp2_with fail
  clear hb1' hb2 hb3' hb4
  refine (HE1.out _ HB.out.1).mono ?_
  rintro e w2 ⟨u1, rfl, ho1, hb⟩
  obtain ⟨ub1, uc1, rfl⟩ := own_form ho1
  have HB2 : Hid (Below W.heap.size W w2 ∧ w2.heap[W.heap.size]? = some (.cells #[.slice qo p.gh.length qc, .slice vo p.vs.length vc, .slice tto p.ts.length tc, .slice oo p.on.length oc, .int .i64 p.miss, .slice co p.cd.length cc] 27 (0, 0)) ∧ w2.heap[W.heap.size + 1]? = some (.cells #[.slice qo' q.gh.length qc', .slice vo' q.vs.length vc', .slice tto' q.ts.length tc', .slice oo' q.on.length oc', .int .i64 q.miss, .slice co' q.cd.length cc'] 27 (0, 0)) ∧ w2.ownsRow w1.heap.size 5 1 (.slice ub1 (encB p).length uc1) (encB p).length (u8L (encB p))) := ⟨bel_step HB.out.1 hb, (hb.block _ (blk_lt HB.out.2.1)).trans HB.out.2.1, (hb.block _ (blk_lt HB.out.2.2)).trans HB.out.2.2, ho1⟩
  clear hb HE1 ho1 HB c0 c1 c2 c3 c4 c5 d0 d1 d2 d3 d4 d5
  obtain ⟨c0, c1, c2, c3, c4, c5⟩ := cells6 HB2.out.2.1
  obtain ⟨d0, d1, d2, d3, d4, d5⟩ := cells6 HB2.out.2.2.1
  go_wp2_with fail
  refine (HE2.out _ HB2.out.1).mono ?_
  rintro e w3 ⟨u2, rfl, ho2, hb⟩
  obtain ⟨ub2, uc2, rfl⟩ := own_form ho2
  have HB3 : Hid (Below W.heap.size W w3 ∧ w3.heap[W.heap.size]? = some (.cells #[.slice qo p.gh.length qc, .slice vo p.vs.length vc, .slice tto p.ts.length tc, .slice oo p.on.length oc, .int .i64 p.miss, .slice co p.cd.length cc] 27 (0, 0)) ∧ w3.heap[W.heap.size + 1]? = some (.cells #[.slice qo' q.gh.length qc', .slice vo' q.vs.length vc', .slice tto' q.ts.length tc', .slice oo' q.on.length oc', .int .i64 q.miss, .slice co' q.cd.length cc'] 27 (0, 0)) ∧ w3.ownsRow w1.heap.size 5 1 (.slice ub1 (encB p).length uc1) (encB p).length (u8L (encB p)) ∧ w3.ownsRow w2.heap.size 5 1 (.slice ub2 (encB q).length uc2) (encB q).length (u8L (encB q))) := ⟨bel_step HB2.out.1 hb, (hb.block _ (blk_lt HB2.out.2.1)).trans HB2.out.2.1, (hb.block _ (blk_lt HB2.out.2.2.1)).trans HB2.out.2.2.1, own_below HB2.out.2.2.2 hb, ho2⟩
  clear hb HE2 ho2 HB2 c0 c1 c2 c3 c4 c5 d0 d1 d2 d3 d4 d5
  by_cases h1 : chk p = 0
  case neg =>
    have e1 : ((chk p : Int) != 0) = true := by rw [bne_iff_ne]; omega
    generalize chk p = ck1 at *
    generalize chk q = ck2 at *
    clear h1
    go_wp2_with fail
    go_ret
    exact ⟨rfl, HB3.out.1⟩
  by_cases h2 : chk q = 0
  case neg =>
    have e2 : ((chk q : Int) != 0) = true := by rw [bne_iff_ne]; omega
    rw [h1]
    generalize chk q = ck2 at *
    clear h1 h2
    go_wp2_with fail
    go_ret
    exact ⟨rfl, HB3.out.1⟩
  rw [h1, h2]
  have hp1 : encB p = byP p := if_pos h1
  have hq1 : encB q = byP q := if_pos h2
  have HSm : Hid (decide (byP p = byP q) = samB p q) := both_same h1 h2
  have HFr : Hid ((byP p).length < (byP q).length → (byP q).take (byP p).length ≠ byP p) := fun hk => byP_front h1 h2 hk
  rw [hp1, hq1]
  rw [hp1, hq1] at HB3
  clear h1 h2 hp1 hq1
  have HLw : Hid (Low (byP p) ∧ Low (byP q)) := ⟨low_byP p, low_byP q⟩
  generalize byP p = x at *
  generalize byP q = y at *
  have hc1 : ∀ k, (convert 32 9 (.slice ub1 x.length uc1)).run Tryd.prog (w3.drewN k) = .ok (.string (txt x)) (w3.drewN k) := fun k => conv_own (own_drew k HB3.out.2.2.2.1) HLw.out.1
  have hc2 : ∀ k, (convert 32 9 (.slice ub2 y.length uc2)).run Tryd.prog (w3.drewN k) = .ok (.string (txt y)) (w3.drewN k) := fun k => conv_own (own_drew k HB3.out.2.2.2.2) HLw.out.2
  have hc3 : x.length < y.length → ∀ k, (convert 32 9 (.slice ub2 x.length uc2)).run Tryd.prog (w3.drewN k) = .ok (.string (txt (y.take x.length))) (w3.drewN k) := fun hl k => by
    have hr := rd_take (own_rdV (own_drew k HB3.out.2.2.2.2)) x.length
    have hr2 : Vf.Rd (w3.drewN k) ub2 (u8L (y.take x.length)) := by
      have e : u8L (y.take x.length) = (u8L y).take x.length := by simp [u8L, List.map_take]
      rw [e]
      exact hr
    have := conv_rd (c := uc2) hr2 (low_take HLw.out.2 _)
    rwa [List.length_take, Nat.min_eq_left (by omega)] at this
  have hd1 : (convert 32 9 (.slice ub1 x.length uc1)).run Tryd.prog w3 = .ok (.string (txt x)) w3 := conv_own HB3.out.2.2.2.1 HLw.out.1
  have hd2 : (convert 32 9 (.slice ub2 y.length uc2)).run Tryd.prog w3 = .ok (.string (txt y)) w3 := conv_own HB3.out.2.2.2.2 HLw.out.2
  obtain ⟨r, hr⟩ : ∃ r, ((txt x).toList == (txt y).toList) = r := ⟨_, rfl⟩
  have HR : Hid (r = samB p q) := by rw [← hr, str_eq HLw.out.1 HLw.out.2]; exact HSm.out
  go_upto_region 10 with fail
  clear hd1 hd2 hr
  by_cases hl : x.length < y.length
  case neg =>
    have hl2 : decide (x.length < y.length) = false := decide_eq_false hl
    have hl3 : decide ((x.length : Int) < (y.length : Int)) = false := decide_eq_false (by omega)
    clear hl hc1 hc2 hc3
    go_quiet (fail)
    clear hl2 hl3
    have HB4 : Hid (Below W.heap.size W (w3.drewN nq) ∧ (w3.drewN nq).heap[W.heap.size]? = some (.cells #[.slice qo p.gh.length qc, .slice vo p.vs.length vc, .slice tto p.ts.length tc, .slice oo p.on.length oc, .int .i64 p.miss, .slice co p.cd.length cc] 27 (0, 0)) ∧ (w3.drewN nq).heap[W.heap.size + 1]? = some (.cells #[.slice qo' q.gh.length qc', .slice vo' q.vs.length vc', .slice tto' q.ts.length tc', .slice oo' q.on.length oc', .int .i64 q.miss, .slice co' q.cd.length cc'] 27 (0, 0))) := ⟨bel_step HB3.out.1 (Nm.below_drewN _ _), HB3.out.2.1, HB3.out.2.2.1⟩
    generalize w3.drewN nq = w4 at *
    obtain ⟨c0, c1, c2, c3, c4, c5⟩ := cells6 HB4.out.2.1
    obtain ⟨d0, d1, d2, d3, d4, d5⟩ := cells6 HB4.out.2.2
    go_wp2_with fail
    refine (HS.out _ HB4.out.1).mono ?_
    rintro e w5 ⟨rfl, hb⟩
    have HB5 : Hid (Below W.heap.size W w5) := bel_step HB4.out.1 hb
    rw [← HR.out]
    clear hb HB4 c0 c1 c2 c3 c4 c5 d0 d1 d2 d3 d4 d5
    go_wp2_with fail
    go_ret
    exact ⟨rfl, HB5.out⟩
  case pos =>
    have hl3 : (x.length : Int) < (y.length : Int) := by omega
    have hl4 : (x.length : Int) ≤ (uc2 : Int) := by
      have := cap_own HB3.out.2.2.2.2 (by omega)
      omega
    have hc4 := hc3 hl
    have hf : ((txt (y.take x.length)).toList == (txt x).toList) = false := by
      rw [str_eq (low_take HLw.out.2 _) HLw.out.1]
      exact decide_eq_false (HFr.out hl)
    clear hc2 hc3
    go_quiet (fail)
    clear hl3 hl4 hf hc4 hl
    have HB4 : Hid (Below W.heap.size W (w3.drewN nq) ∧ (w3.drewN nq).heap[W.heap.size]? = some (.cells #[.slice qo p.gh.length qc, .slice vo p.vs.length vc, .slice tto p.ts.length tc, .slice oo p.on.length oc, .int .i64 p.miss, .slice co p.cd.length cc] 27 (0, 0)) ∧ (w3.drewN nq).heap[W.heap.size + 1]? = some (.cells #[.slice qo' q.gh.length qc', .slice vo' q.vs.length vc', .slice tto' q.ts.length tc', .slice oo' q.on.length oc', .int .i64 q.miss, .slice co' q.cd.length cc'] 27 (0, 0))) := ⟨bel_step HB3.out.1 (Nm.below_drewN _ _), HB3.out.2.1, HB3.out.2.2.1⟩
    generalize w3.drewN nq = w4 at *
    obtain ⟨c0, c1, c2, c3, c4, c5⟩ := cells6 HB4.out.2.1
    obtain ⟨d0, d1, d2, d3, d4, d5⟩ := cells6 HB4.out.2.2
    go_wp2_with fail
    refine (HS.out _ HB4.out.1).mono ?_
    rintro e w5 ⟨rfl, hb⟩
    have HB5 : Hid (Below W.heap.size W w5) := bel_step HB4.out.1 hb
    rw [← HR.out]
    clear hb HB4 c0 c1 c2 c3 c4 c5 d0 d1 d2 d3 d4 d5
    go_wp2_with fail
    go_ret
    exact ⟨rfl, HB5.out⟩
end Go.Proofs.YtcicifcnffacpaaDoor.Cd

set_option linter.unusedSimpArgs false
namespace Go.Proofs.YtcicifcnffacpaaDoor.Cd
open Go.RowKit Go.Proofs.YtcicifcnffacpaaDoor.Nm Go.Proofs.YtcicifcnffacpaaDoor.Vf

theorem dec_lens {s : List Nat} {p : Pg} {er i : Nat} (hd : decR s = (p, er, i)) (hb : byts s) (hs : s.length ≤ 1000000000) : p.gh.length ≤ 1000000000 ∧ p.vs.length ≤ 1000000000 ∧ p.ts.length ≤ 1000000000 ∧ p.on.length ≤ 1000000000 ∧ p.cd.length ≤ 1000000000 := by
  have h0 : ∀ q : Pg, q = pg0 → q.gh.length ≤ 1000000000 ∧ q.vs.length ≤ 1000000000 ∧ q.ts.length ≤ 1000000000 ∧ q.on.length ≤ 1000000000 ∧ q.cd.length ≤ 1000000000 := fun q h => by subst h; decide
  unfold decR at hd
  cases hw : whoR s with
  | die a b =>
    rw [hw] at hd
    exact h0 p (Prod.mk.inj hd).1.symm
  | ok q j t =>
    rw [hw] at hd
    dsimp only at hd
    by_cases hc : chk q = 0
    · rw [if_pos hc] at hd
      rw [← (Prod.mk.inj hd).1]
      exact who_len hb hs hw
    · rw [if_neg hc] at hd
      exact h0 p (Prod.mk.inj hd).1.symm
theorem isPg_0 (W : World) : IsPg W pv0 pg0 := by
  refine ⟨?_, ?_, ?_, ?_, ?_, by decide, by decide, by decide, by decide, by decide⟩
  all_goals
    intro k x hx
    simp [pg0, Vf.bC, Vf.vC, Vf.iC, Vf.cC] at hx
set_option maxHeartbeats 25600000 in
set_option maxRecDepth 100000 in
/-- CodeOther -/
theorem otherWalk (W : World) (hT : Lib.TabBelow Tryd.prog W.heap.size W "internal/strconv.uint64pow10" .u64 Lib.pow10Tab) (hA : Lib.TabBelow Tryd.prog W.heap.size W "strings.asciiSpace" .u8 Lib.asciiSpaceTab) (b : Option Addr) (bc : Nat) (s : List Nat) (hr : Vf.Rd W b (s.map fun x : Nat => Value.int .u8 (x : Int))) (hlow : ∀ n ∈ s, n < 256) (hlen : s.length ≤ 140737488351232) :
    Calls Tryd.prog 7 #[.slice b s.length bc] W fun e W' => e = .returned (.bool true) ∧ Below W.heap.size W W' := by
  have HK : Hid (Calls Tryd.prog 9 #[] W fun e w' => e = .returned (.bool true) ∧ Below W.heap.size W w') := known_any W hT hA
  have HR : Hid (Vf.Rd W b (u8L s) ∧ byts s) := ⟨hr, hlow⟩
  have HLen : Hid (s.length ≤ 140737488351232) := hlen
  clear hT hA hr hlow hlen
  go_enter Tryd.func7, Tryd.ntmps7
  go_wp2_with fail
  refine HK.out.mono ?_
  rintro e w1 ⟨rfl, hb⟩
  have HB1 : Hid (Below W.heap.size W w1) := hb
  clear hb HK
  by_cases hb1 : 524288 < s.length
  case pos =>
    have hb2 : (524288 : Int) < (s.length : Int) := by omega
    go_wp2_with fail
    go_ret
    exact ⟨rfl, HB1.out⟩
  have hb1' : decide (524288 < s.length) = false := decide_eq_false hb1
  have hb2 : decide ((524288 : Int) < (s.length : Int)) = false := decide_eq_false (by omega)
  obtain ⟨p, er, i, hd⟩ : ∃ p er i, decR s = (p, er, i) := ⟨_, _, _, rfl⟩
  have hlns := dec_lens hd HR.out.2 (by omega)
  have HCd : Hid (Calls Tryd.prog 19 #[.slice b s.length bc] w1 fun e w' => ∃ u : PV, e = .returned (.tuple #[.agg #[.slice u.qo p.gh.length u.qc, .slice u.vo p.vs.length u.vc, .slice u.to p.ts.length u.tc, .slice u.oo p.on.length u.oc, .int .i64 p.miss, .slice u.co p.cd.length u.cc], .agg #[.int .i64 (er : Int), .int .i64 (i : Int)]]) ∧ IsPg w' u p ∧ Below w1.heap.size w1 w') := dec_use hd hlns (rd_of (HR.out.1.below HB1.out)) (by omega) HR.out.2
  have HD : Hid ((er ≠ 0 → p = pg0 ∧ i ≤ s.length) ∧ (er = 0 → chk p = 0 ∧ byP p = s)) := by
    refine ⟨fun h => dec_bad hd h, fun h => ?_⟩
    subst h
    obtain ⟨q1, q2, -⟩ := dec_inv HR.out.2 hd
    exact ⟨q1, q2⟩
  have HSm : Hid (s.length ≤ 524288) := by
    exact Nat.le_of_not_lt hb1
  clear hd hlns hb1
  go_wp2_with fail
  clear hb1' hb2
  refine HCd.out.mono ?_
  rintro e w2 ⟨u, rfl, hp, hb⟩
  have H2 : Hid (Below W.heap.size W ((w2.alloc (.cells #[.slice u.qo p.gh.length u.qc, .slice u.vo p.vs.length u.vc, .slice u.to p.ts.length u.tc, .slice u.oo p.on.length u.oc, .int .i64 p.miss, .slice u.co p.cd.length u.cc] 27)).alloc (.cells #[.int .i64 (er : Int), .int .i64 (i : Int)] 46)) ∧ Wv w2.heap.size ((w2.alloc (.cells #[.slice u.qo p.gh.length u.qc, .slice u.vo p.vs.length u.vc, .slice u.to p.ts.length u.tc, .slice u.oo p.on.length u.oc, .int .i64 p.miss, .slice u.co p.cd.length u.cc] 27)).alloc (.cells #[.int .i64 (er : Int), .int .i64 (i : Int)] 46)) #[.slice u.qo p.gh.length u.qc, .slice u.vo p.vs.length u.vc, .slice u.to p.ts.length u.tc, .slice u.oo p.on.length u.oc, .int .i64 p.miss, .slice u.co p.cd.length u.cc] #[.int .i64 (er : Int), .int .i64 (i : Int)] ∧ IsPg ((w2.alloc (.cells #[.slice u.qo p.gh.length u.qc, .slice u.vo p.vs.length u.vc, .slice u.to p.ts.length u.tc, .slice u.oo p.on.length u.oc, .int .i64 p.miss, .slice u.co p.cd.length u.cc] 27)).alloc (.cells #[.int .i64 (er : Int), .int .i64 (i : Int)] 46)) u p) := by
    obtain ⟨hw, hb3⟩ := two_new w2 #[.slice u.qo p.gh.length u.qc, .slice u.vo p.vs.length u.vc, .slice u.to p.ts.length u.tc, .slice u.oo p.on.length u.oc, .int .i64 p.miss, .slice u.co p.cd.length u.cc] #[.int .i64 (er : Int), .int .i64 (i : Int)]
    exact ⟨bel_step HB1.out (bel_step hb hb3), hw, hp.below hb3⟩
  clear hp hb HCd
  go_upto_region 6 with fail
  generalize ((w2.alloc (.cells #[.slice u.qo p.gh.length u.qc, .slice u.vo p.vs.length u.vc, .slice u.to p.ts.length u.tc, .slice u.oo p.on.length u.oc, .int .i64 p.miss, .slice u.co p.cd.length u.cc] 27)).alloc (.cells #[.int .i64 (er : Int), .int .i64 (i : Int)] 46)) = w3 at *
  generalize w2.heap.size = g at *
  obtain ⟨f0, f1⟩ := cells2 H2.out.2.1.f
  obtain ⟨c0, c1, c2, c3, c4, c5⟩ := cells6 H2.out.2.1.p
  by_cases he : er = 0
  case neg =>
    have he2 : ((er : Int) != 0) = true := by rw [bne_iff_ne]; omega
    obtain ⟨rfl, hi⟩ := HD.out.1 he
    have hi2 : (i : Int) ≤ (s.length : Int) := by omega
    have hi3 : (0 : Int) ≤ (i : Int) := by omega
    have HS : Hid (Calls Tryd.prog 21 #[.agg #[.slice u.qo 0 u.qc, .slice u.vo 0 u.vc, .slice u.to 0 u.tc, .slice u.oo 0 u.oc, .int .i64 0, .slice u.co 0 u.cc], .agg #[.slice none 0 0, .slice none 0 0, .slice none 0 0, .slice none 0 0, .int .i64 0, .slice none 0 0]] w3 fun e w' => e = .returned (.bool true) ∧ Below w3.heap.size w3 w') := by
      have := rsame_any u pv0 pg0 pg0 w3 H2.out.2.2 (isPg_0 w3)
      rw [(samB_iff pg0 pg0).2 rfl] at this
      exact this
    have HB3 : Hid (w3.heap[g + 1]? = some (.cells #[.int .i64 (er : Int), .int .i64 (i : Int)] 46 (0, 0))) := H2.out.2.1.f
    have HB4 : Hid (Below W.heap.size W w3) := H2.out.1
    change w3.cell? ⟨g, 0, none⟩ = some (.slice u.qo 0 u.qc) at c0
    change w3.cell? ⟨g, 1, none⟩ = some (.slice u.vo 0 u.vc) at c1
    change w3.cell? ⟨g, 2, none⟩ = some (.slice u.to 0 u.tc) at c2
    change w3.cell? ⟨g, 3, none⟩ = some (.slice u.oo 0 u.oc) at c3
    change w3.cell? ⟨g, 4, none⟩ = some (.int .i64 0) at c4
    change w3.cell? ⟨g, 5, none⟩ = some (.slice u.co 0 u.cc) at c5
    clear he hi H2 HD
    go_wp2_with fail
    refine HS.out.mono ?_
    rintro e w4 ⟨rfl, hb⟩
    have HB5 : Hid (Below W.heap.size W w4) := bel_step HB4.out hb
    clear f0 f1 c0 c1 c2 c3 c4 c5
    obtain ⟨f0, f1⟩ := cells2 ((hb.block _ (blk_lt HB3.out)).trans HB3.out)
    clear hb HS
    go_wp2_with fail
    go_ret
    exact ⟨rfl, HB5.out⟩
  case pos =>
    subst he
    obtain ⟨hc, hs⟩ := HD.out.2 rfl
    have HE : Hid (Calls Tryd.prog 12 #[.agg #[.slice u.qo p.gh.length u.qc, .slice u.vo p.vs.length u.vc, .slice u.to p.ts.length u.tc, .slice u.oo p.on.length u.oc, .int .i64 p.miss, .slice u.co p.cd.length u.cc]] w3 fun e w' => ∃ v, e = .returned (.tuple #[v, .int .i64 0]) ∧ w'.ownsRow w3.heap.size 5 1 v s.length (u8L s) ∧ Below w3.heap.size w3 w') := by
      have := enc_any u p w3 H2.out.2.2
      have e9 : encB p = s := (if_pos hc).trans hs
      rw [hc, e9] at this
      exact this
    clear hc hs HD
    go_wp2_with fail
    refine HE.out.mono ?_
    rintro e w4 ⟨v, rfl, ho, hb⟩
    obtain ⟨vb, vc, rfl⟩ := own_form ho
    have HB5 : Hid (Below W.heap.size W w4) := bel_step H2.out.1 hb
    have hc1 : (convert 32 9 (.slice vb s.length vc)).run Tryd.prog w4 = .ok (.string (txt s)) w4 := conv_own ho HR.out.2
    have hc2 : (convert 32 9 (.slice b s.length bc)).run Tryd.prog w4 = .ok (.string (txt s)) w4 := conv_rd (HR.out.1.below HB5.out) HR.out.2
    clear ho hb HE f0 f1 c0 c1 c2 c3 c4 c5
    go_wp2_with fail
    go_ret
    exact ⟨rfl, HB5.out⟩
end Go.Proofs.YtcicifcnffacpaaDoor.Cd

set_option linter.unusedSimpArgs false
namespace Go.Proofs.YtcicifcnffacpaaDoor.Cd
open Go.RowKit Go.Proofs.YtcicifcnffacpaaDoor.Nm Go.Proofs.YtcicifcnffacpaaDoor.Vf

/-- a row that is made -/
theorem mk_row {ts e : TypeId} {z : Value} {sz by_ : Nat} (hu : Tryd.prog.underlying ts = some (.slice e)) (hinfo : (Tryd.prog.info? e).map (fun i => (i.zero, i.size, i.bytes)) = some (some z, sz, by_)) (n : Nat) (hn : n ≤ 1000000) (hb : by_ ≤ 100) :
    ∀ u : World, (Instr.makeSlice ts (.int .i64 (n : Int)) (.int .i64 (n : Int))).run Tryd.prog u = .ok (.slice (some ⟨u.heap.size, 0, none⟩) n n) (u.alloc (.cells (madeCells z.cells (n * sz)) e)) := fun u => by
  obtain ⟨i0, hi, hz0, hz1, hz2⟩ := info_parts hinfo
  have hm : (by_ : Int) * (n : Int) ≤ 100 * 1000000 := Int.mul_le_mul (by omega) (by omega) (by omega) (by omega)
  have h := run_make (P := Tryd.prog) u ts e i0 z hu hi hz0 .i64 .i64 (n : Int) (n : Int) (by omega) (Int.le_refl _) (by rw [hz2]; omega) (by omega)
  rw [hz1] at h
  rw [h]
  simp only [Int.toNat_natCast]
/-- copy of elements of several cells, into a row that is known -/
theorem run_copy_rows {P : Program} (w : World) (dT sT ty elem : TypeId) (i : TypeInfo) (hq : P.info? elem = some i) (g o dLen dCap : Nat) (a : Addr) (sLen sCap k : Nat) (hk : Nat.min sLen dLen = k) (cur : List Value) (t : TypeId) (cs : List Value)
    (hu : P.underlying dT = some (.slice elem))
    (hg : w.heap[g]? = some (.cells cur.toArray t (0, 0))) (hn : cs.length = k * i.size)
    (hsrc : ∀ j v, cs[j]? = some v → w.cell? (a.add j) = some v) (hfit : o + cs.length ≤ cur.length) (h1 : ∀ v ∈ cs, v.oneCell' = true) :
    (Builtin.copy_ #[dT, sT] ty #[.slice (some ⟨g, o, none⟩) dLen dCap, .slice (some a) sLen sCap]).run P w = .ok (goInt k) (w.setRow g (splice cur o cs).toArray) := by
  have hl := run_loadCells_list (P := P) w a cs hsrc
  have hst := run_storeCells_at P g o t cs 0 cur.toArray w hg (by simpa using hfit) h1
  simp only [Nat.add_zero] at hst
  simp [Builtin.copy_, run_underlying hu, Builtin.lenOf, Builtin.firstCells, sizeOf, typeInfo, hq, hk, ← hn, hl, hst, splice]
theorem run_copy_zero {P : Program} (w : World) (dT sT ty elem : TypeId) (i : TypeInfo) (hq : P.info? elem = some i) (d a : Option Addr) (dLen dCap sLen sCap : Nat) (hu : P.underlying dT = some (.slice elem)) (hn : Nat.min sLen dLen = 0) :
    (Builtin.copy_ #[dT, sT] ty #[.slice d dLen dCap, .slice a sLen sCap]).run P w = .ok (goInt 0) w := by
  have hl : ∀ (x : Addr), (loadCells x 0).run P w = .ok #[] w := fun x => by simpa using run_loadCells_list (P := P) w x [] (by simp)
  cases d <;> cases a <;> simp [Builtin.copy_, run_underlying hu, Builtin.lenOf, Builtin.firstCells, sizeOf, typeInfo, hq, hn, storeCells, hl]
/-- cells in a block of their own -/
def Bk (W : World) (g : Nat) (e : TypeId) (xs : List Value) : Prop := W.heap[g]? = some (.cells xs.toArray e (0, 0))
theorem Bk.rd {W : World} {g : Nat} {e : TypeId} {xs ys : List Value} (h : Bk W g e (xs ++ ys)) : Vf.Rd W (some ⟨g, 0, none⟩) xs := fun j x hx => by
  refine ⟨g, 0, rfl, blk_lt h, ?_⟩
  have hj : j < xs.length := (List.getElem?_eq_some_iff.1 hx).1
  rw [Nat.zero_add]
  have h9 : W.heap[g]? = _ := h
  simp only [World.cell?, h9]
  rw [List.getElem?_toArray, List.getElem?_append_left hj, hx]
  rfl
theorem Bk.cell {W : World} {g : Nat} {e : TypeId} {xs : List Value} (h : Bk W g e xs) {j : Nat} {v : Value} (hj : xs[j]? = some v) : W.cell? ⟨g, j, none⟩ = some v := by
  have h9 : W.heap[g]? = _ := h
  simp only [World.cell?, h9]
  rw [List.getElem?_toArray, hj]
  rfl
theorem Bk.below {W W' : World} {g : Nat} {e : TypeId} {xs : List Value} (h : Bk W g e xs) (hb : Below W.heap.size W W') : Bk W' g e xs := (hb.block _ (blk_lt h)).trans h
theorem Bk.setIn {W : World} {g : Nat} {e : TypeId} {ys : List Value} (h : Bk W g e ys) (j : Nat) (v : Value) : Bk (W.setCell ⟨g, j, none⟩ v) g e (ys.set j v) := by
  show (W.setCell ⟨g, j, none⟩ v).heap[g]? = _
  rw [heap_setCell_same W g j _ _ v h]
  simp
theorem made_drop (z : Array Value) (sz n k : Nat) (hz : z.size = sz) : (madeCells z ((n + k) * sz)).toList.drop (n * sz) = (madeCells z (k * sz)).toList := by
  subst hz
  apply List.ext_getElem?
  intro j
  rw [List.getElem?_drop, Array.getElem?_toList, Array.getElem?_toList]
  simp only [madeCells, Array.getElem?_map, Array.getElem?_range]
  have hadd : (n + k) * z.size = n * z.size + k * z.size := Nat.add_mul _ _ _
  by_cases hj : j < k * z.size
  · rw [if_pos (by omega), if_pos hj]
    simp [Nat.add_comm]
  · rw [if_neg (by omega), if_neg hj]
/-- a list is copied into a row that was made: the room behind it is zero -/
theorem copiedM {ts e : TypeId} {z : Value} {sz by_ : Nat} (hu : Tryd.prog.underlying ts = some (.slice e)) (hinfo : (Tryd.prog.info? e).map (fun i => (i.zero, i.size, i.bytes)) = some (some z, sz, by_)) (hsz : 0 < sz) (hzc : z.cells.size = sz) (n k cap : Nat) (ao : Option Addr) (xs : List Value) (hx : xs.length = n * sz) (h1 : ∀ v ∈ xs, v.oneCell' = true) (w : World) (h : Vf.Rd w ao xs) :
    ∃ W2, (Builtin.copy_ #[ts, ts] 3 #[.slice (some ⟨w.heap.size, 0, none⟩) (n + k) (n + k), .slice ao n cap]).run Tryd.prog (w.alloc (.cells (madeCells z.cells ((n + k) * sz)) e)) = .ok (goInt n) W2 ∧ Bk W2 w.heap.size e (xs ++ (madeCells z.cells (k * sz)).toList) ∧ Below w.heap.size w W2 := by
  obtain ⟨i0, hi, hz0, hz1, hz2⟩ := info_parts hinfo
  have hB : Below w.heap.size w (w.alloc (.cells (madeCells z.cells ((n + k) * sz)) e)) := (Below.refl _ w).alloc (Nat.le_refl _) _
  have hM : (madeCells z.cells ((n + k) * sz)).toList.length = (n + k) * sz := by rw [Array.length_toList, size_madeCells]
  have hadd : (n + k) * sz = n * sz + k * sz := Nat.add_mul _ _ _
  by_cases h0 : n = 0
  · subst h0
    have hx0 : xs = [] := List.eq_nil_of_length_eq_zero (by rw [hx, Nat.zero_mul])
    subst hx0
    refine ⟨_, run_copy_zero _ ts ts 3 e i0 hi _ ao _ _ _ cap hu (by simp), ?_, hB⟩
    show (w.alloc _).heap[w.heap.size]? = _
    rw [heap_alloc_new, Nat.zero_add]
    simp
  · have hpos : 0 < xs.length := by rw [hx]; exact Nat.mul_pos (by omega) hsz
    obtain ⟨g, f, rfl, -, -⟩ := h 0 xs[0] (List.getElem?_eq_getElem hpos)
    have hsrc : ∀ j v, xs[j]? = some v → (w.alloc (.cells (madeCells z.cells ((n + k) * sz)) e)).cell? ((⟨g, f, none⟩ : Addr).add j) = some v := fun j v hv => by
      obtain ⟨g', f', e', hl, hc⟩ := h j v hv
      cases e'
      rw [Lib.addr_add]
      exact (hB.cell (p := ⟨g, f + j, none⟩) hl).trans hc
    have hnew : (w.alloc (.cells (madeCells z.cells ((n + k) * sz)) e)).heap[w.heap.size]? = some (.cells (madeCells z.cells ((n + k) * sz)).toList.toArray e (0, 0)) := by rw [heap_alloc_new]
    have hr := run_copy_rows (P := Tryd.prog) _ ts ts 3 e i0 hi w.heap.size 0 (n + k) (n + k) ⟨g, f, none⟩ n cap n (by simp) _ e xs hu hnew (by rw [hz1]; exact hx) hsrc (by rw [hM]; omega) h1
    refine ⟨_, hr, ?_, Cd.below_setRow hB (Nat.le_refl _)⟩
    show (World.setRow _ _ _).heap[w.heap.size]? = _
    rw [setRow_heap _ w.heap.size _ _ e (0, 0) hnew, ← made_drop z.cells sz n k hzc, ← hx]
    simp [splice]
/-- the room behind bytes that are lent: k marks -/
def mkB (k : Nat) : List Value := (List.range 5).map fun i => .int .u8 (if i < k then 201 else 0)
theorem mkB_set (k : Nat) (h : k < 5) : (mkB k).set k (.int .u8 201) = mkB (k + 1) := by
  match k, h with
  | 0, _ => rfl
  | 1, _ => rfl
  | 2, _ => rfl
  | 3, _ => rfl
  | 4, _ => rfl
theorem mkB_zero : (madeCells (Value.int .u8 0).cells (5 * 1)).toList = mkB 0 := by
  unfold mkB
  simp [madeCells, Value.cells]
  intro a _
  rw [Nat.mod_one]
  rfl
theorem mkB_len (k : Nat) : (mkB k).length = 5 := by unfold mkB; simp
theorem u8_len0 (l : List Nat) : (u8L l).length = l.length := by simp [u8L]
set_option maxHeartbeats 3200000 in
set_option maxRecDepth 100000 in
/-- bytes lent -/
theorem lendB_any (w : World) (ao : Option Addr) (l : List Nat) (cap : Nat) (h : Vf.Rd w ao (u8L l)) (hn : l.length ≤ 524288) :
    Calls Tryd.prog 18 #[.slice ao l.length cap] w fun e w' => e = .returned (.slice (some ⟨w.heap.size, 0, none⟩) l.length (l.length + 5)) ∧ Bk w' w.heap.size 5 (u8L l ++ mkB 5) ∧ Below w.heap.size w w' := by
  have hmk : ∀ u : World, (Instr.makeSlice 32 (.int .i64 ((l.length : Int) + 5)) (.int .i64 ((l.length : Int) + 5))).run Tryd.prog u = .ok (.slice (some ⟨u.heap.size, 0, none⟩) (l.length + 5) (l.length + 5)) (u.alloc (.cells (madeCells (Value.int .u8 0).cells ((l.length + 5) * 1)) 5)) := fun u => by
    have := mk_row Tryd.underlying32 infoB (l.length + 5) (by omega) (by omega) u
    rw [show ((l.length + 5 : Nat) : Int) = (l.length : Int) + 5 by omega] at this
    exact this
  obtain ⟨W2, hcp, hR, hB⟩ := copiedM Tryd.underlying32 infoB (by decide) rfl l.length 5 cap ao (u8L l) (by rw [u8_len0, Nat.mul_one]) (fun u hu => by
    obtain ⟨x, -, rfl⟩ := List.mem_map.1 hu
    rfl) w h
  have H0 : Hid (Bk W2 w.heap.size 5 (u8L l ++ mkB 0) ∧ Below w.heap.size w W2) := ⟨by rw [← mkB_zero]; exact hR, hB⟩
  have hln : (l.length : Int) ≤ 524288 := by omega
  have HIl : Hid ((u8L l).length = l.length) := u8_len0 l
  generalize madeCells (Value.int .u8 0).cells ((l.length + 5) * 1) = M at hmk hcp
  clear h hn hR hB
  go_enter Tryd.func18, Tryd.ntmps18
  go_wp2_with fail
  go_loopg [4] 5 (fun gq i wr => ∃ k : Nat, k ≤ 5 ∧ gq = 5 - k ∧ i = .int .i64 ((l.length : Int) + k) ∧ Bk wr w.heap.size 5 (u8L l ++ mkB k) ∧ Below w.heap.size w wr)
  case atStart => exact ⟨0, by omega, rfl, by go_num, H0.out.1, H0.out.2⟩
  case round =>
    obtain ⟨k, hk, hgk, rfl, hR, hB⟩ := hrel
    have HG : Hid (gk = 5 - k) := hgk
    have HR : Hid (Bk wr w.heap.size 5 (u8L l ++ mkB k) ∧ Below w.heap.size w wr) := ⟨hR, hB⟩
    have hk3 : (k : Int) ≤ 5 := by omega
    clear hgk hB
    by_cases hlt : k < 5
    · have hlt' : (l.length : Int) + (k : Int) < (l.length : Int) + 5 := by omega
      obtain ⟨v0, hv0⟩ : ∃ v, (u8L l ++ mkB k)[l.length + k]? = some v := ⟨_, List.getElem?_eq_getElem (by rw [List.length_append, HIl.out, mkB_len]; omega)⟩
      have c0 := hR.cell hv0
      have hf := fzb hR (l.length + k)
      have hcast : ((l.length + k : Nat) : Int) = (l.length : Int) + (k : Int) := by omega
      have HS : Hid (Bk (wr.setCell ⟨w.heap.size, l.length + k, none⟩ (.int .u8 201)) w.heap.size 5 (u8L l ++ mkB (k + 1))) := by
        have h9 := hR.setIn (l.length + k) (.int .u8 201)
        rw [List.set_append_right _ _ (by rw [HIl.out]; omega), HIl.out, show l.length + k - l.length = k by omega, mkB_set _ hlt] at h9
        exact h9
      have htn : ((l.length : Int) + (k : Int)).toNat = l.length + k := by omega
      clear hR hlt hv0
      rw [← hcast] at hlt' ⊢
      go_wp2_with fail
      go_roundg (5 - (k + 1))
      case measure => have h1 := HG.out; omega
      case rel => exact ⟨k + 1, by omega, rfl, by go_num, HS.out, HR.out.2.setCell (p := ⟨w.heap.size, l.length + k, none⟩) (Nat.le_refl _) _⟩
    · have hlt' : ¬ ((l.length : Int) + (k : Int) < (l.length : Int) + 5) := by omega
      obtain rfl : k = 5 := by omega
      clear hR hlt
      go_wp2_with fail
      go_ret
      exact ⟨rfl, HR.out⟩
set_option maxHeartbeats 3200000 in
set_option maxRecDepth 100000 in
/-- are they as they were lent? -/
theorem keptB_any (w : World) (g cap : Nat) (ao : Option Addr) (l : List Nat) (hg : Bk w g 5 (u8L l ++ mkB 5)) (h : Vf.Rd w ao (u8L l)) (hl : Low l) (hn : l.length ≤ 524288) :
    Calls Tryd.prog 22 #[.slice (some ⟨g, 0, none⟩) l.length (l.length + 5), .slice ao l.length cap] w fun e w' => e = .returned (.bool true) ∧ w = w' := by
  have HB : Hid (Bk w g 5 (u8L l ++ mkB 5)) := hg
  have hc1 : (convert 32 9 (.slice (some ⟨g, 0, none⟩) l.length (l.length + 5))).run Tryd.prog w = .ok (.string (txt l)) w := conv_rd hg.rd hl
  have hc2 : (convert 32 9 (.slice ao l.length cap)).run Tryd.prog w = .ok (.string (txt l)) w := conv_rd h hl
  have hln : (l.length : Int) ≤ 524288 := by omega
  clear hg h hl hn
  go_enter Tryd.func22, Tryd.ntmps22
  go_wp2_with fail
  go_loopg [6] 5 (fun gq i wr => ∃ k : Nat, k ≤ 5 ∧ gq = 5 - k ∧ i = .int .i64 ((l.length : Int) + k) ∧ w = wr)
  case atStart => exact ⟨0, by omega, rfl, by go_num, rfl⟩
  case round =>
    obtain ⟨k, hk, hgk, rfl, rfl⟩ := hrel
    have HG : Hid (gk = 5 - k ∧ k ≤ 5) := ⟨hgk, hk⟩
    have hk3 : (k : Int) ≤ 5 := by omega
    clear hgk hk
    by_cases hlt : k < 5
    · have hlt' : (l.length : Int) + (k : Int) < (l.length : Int) + 5 := by omega
      have HLt : Hid (k < 5) := hlt
      have c0 : w.cell? ⟨g, l.length + k, none⟩ = some (.int .u8 201) := HB.out.cell (by
        rw [List.getElem?_append_right (by rw [u8_len0]; omega), u8_len0, show l.length + k - l.length = k by omega]
        match k, hlt with
        | 0, _ => rfl
        | 1, _ => rfl
        | 2, _ => rfl
        | 3, _ => rfl
        | 4, _ => rfl)
      have hcast : ((l.length + k : Nat) : Int) = (l.length : Int) + (k : Int) := by omega
      have htn : ((l.length : Int) + (k : Int)).toNat = l.length + k := by omega
      clear hlt
      rw [← hcast] at hlt' ⊢
      go_wp2_with fail
      go_roundg (5 - (k + 1))
      case measure => have h1 := HG.out.1; have := HLt.out; omega
      case rel => exact ⟨k + 1, HLt.out, rfl, by go_num, rfl⟩
    · have hlt' : ¬ ((l.length : Int) + (k : Int) < (l.length : Int) + 5) := by omega
      clear hlt
      go_wp2_with fail
      go_ret
      exact ⟨rfl, rfl⟩
end Go.Proofs.YtcicifcnffacpaaDoor.Cd

set_option linter.unusedSimpArgs false
namespace Go.Proofs.YtcicifcnffacpaaDoor.Cd
open Go.RowKit Go.Proofs.YtcicifcnffacpaaDoor.Nm Go.Proofs.YtcicifcnffacpaaDoor.Vf

set_option maxHeartbeats 25600000 in
set_option maxRecDepth 100000 in
/-- CodeDecodes -/
theorem decodesWalk (W : World) (hT : Lib.TabBelow Tryd.prog W.heap.size W "internal/strconv.uint64pow10" .u64 Lib.pow10Tab) (hA : Lib.TabBelow Tryd.prog W.heap.size W "strings.asciiSpace" .u8 Lib.asciiSpaceTab) (b : Option Addr) (bc : Nat) (s : List Nat) (hr : Vf.Rd W b (s.map fun x : Nat => Value.int .u8 (x : Int))) (hlow : ∀ n ∈ s, n < 256) (hlen : s.length ≤ 140737488351232) :
    Calls Tryd.prog 4 #[.slice b s.length bc] W fun e W' => e = .returned (.bool true) ∧ Below W.heap.size W W' := by
  have HK : Hid (Calls Tryd.prog 9 #[] W fun e w' => e = .returned (.bool true) ∧ Below W.heap.size W w') := known_any W hT hA
  have HR : Hid (Vf.Rd W b (u8L s) ∧ byts s) := ⟨hr, hlow⟩
  have HLen : Hid (s.length ≤ 140737488351232) := hlen
  clear hT hA hr hlow hlen
  go_enter Tryd.func4, Tryd.ntmps4
  go_wp2_with fail
  refine HK.out.mono ?_
  rintro e w1 ⟨rfl, hb⟩
  have HB1 : Hid (Below W.heap.size W w1) := hb
  clear hb HK
  by_cases hb1 : 524288 < s.length
  case pos =>
    have hb2 : (524288 : Int) < (s.length : Int) := by omega
    go_wp2_with fail
    go_ret
    exact ⟨rfl, HB1.out⟩
  have hb1' : decide (524288 < s.length) = false := decide_eq_false hb1
  have hb2 : decide ((524288 : Int) < (s.length : Int)) = false := decide_eq_false (by omega)
  obtain ⟨p, er, i, hd⟩ : ∃ p er i, decR s = (p, er, i) := ⟨_, _, _, rfl⟩
  have hlns := dec_lens hd HR.out.2 (by omega)
  have HSm : Hid (s.length ≤ 524288 ∧ decR s = (p, er, i)) := ⟨Nat.le_of_not_lt hb1, hd⟩
  have HLn := show Hid _ from hlns
  have HC1 := show Hid _ from lendB_any w1 b s bc (HR.out.1.below HB1.out) (Nat.le_of_not_lt hb1)
  clear hd hlns hb1
  go_wp2_with fail
  clear hb1' hb2
  refine Calls.mono HC1.out ?_
  rintro e w2 ⟨rfl, hbk, hb⟩
  have HB2 : Hid (Below W.heap.size W w2 ∧ Bk w2 w1.heap.size 5 (u8L s ++ mkB 5)) := ⟨bel_step HB1.out hb, hbk⟩
  clear hbk hb HC1
  generalize w1.heap.size = g at *
  have HC2 := show Hid _ from dec_use (bc := s.length + 5) HSm.out.2 HLn.out (rd_of HB2.out.2.rd) (by have := HSm.out.1; omega) HR.out.2
  go_wp2_with fail
  refine Calls.mono HC2.out ?_
  rintro e w3 ⟨u, rfl, hp, hb⟩
  have H3 : Hid (Below W.heap.size W ((w3.alloc (.cells #[.slice u.qo p.gh.length u.qc, .slice u.vo p.vs.length u.vc, .slice u.to p.ts.length u.tc, .slice u.oo p.on.length u.oc, .int .i64 p.miss, .slice u.co p.cd.length u.cc] 27)).alloc (.cells #[.int .i64 (er : Int), .int .i64 (i : Int)] 46)) ∧ Bk ((w3.alloc (.cells #[.slice u.qo p.gh.length u.qc, .slice u.vo p.vs.length u.vc, .slice u.to p.ts.length u.tc, .slice u.oo p.on.length u.oc, .int .i64 p.miss, .slice u.co p.cd.length u.cc] 27)).alloc (.cells #[.int .i64 (er : Int), .int .i64 (i : Int)] 46)) g 5 (u8L s ++ mkB 5) ∧ Wv w3.heap.size ((w3.alloc (.cells #[.slice u.qo p.gh.length u.qc, .slice u.vo p.vs.length u.vc, .slice u.to p.ts.length u.tc, .slice u.oo p.on.length u.oc, .int .i64 p.miss, .slice u.co p.cd.length u.cc] 27)).alloc (.cells #[.int .i64 (er : Int), .int .i64 (i : Int)] 46)) #[.slice u.qo p.gh.length u.qc, .slice u.vo p.vs.length u.vc, .slice u.to p.ts.length u.tc, .slice u.oo p.on.length u.oc, .int .i64 p.miss, .slice u.co p.cd.length u.cc] #[.int .i64 (er : Int), .int .i64 (i : Int)] ∧ IsPg ((w3.alloc (.cells #[.slice u.qo p.gh.length u.qc, .slice u.vo p.vs.length u.vc, .slice u.to p.ts.length u.tc, .slice u.oo p.on.length u.oc, .int .i64 p.miss, .slice u.co p.cd.length u.cc] 27)).alloc (.cells #[.int .i64 (er : Int), .int .i64 (i : Int)] 46)) u p) := by
    obtain ⟨hw, hb3⟩ := two_new w3 #[.slice u.qo p.gh.length u.qc, .slice u.vo p.vs.length u.vc, .slice u.to p.ts.length u.tc, .slice u.oo p.on.length u.oc, .int .i64 p.miss, .slice u.co p.cd.length u.cc] #[.int .i64 (er : Int), .int .i64 (i : Int)]
    have hb4 := bel_step hb hb3
    exact ⟨bel_step HB2.out.1 hb4, HB2.out.2.below hb4, hw, hp.below hb3⟩
  clear hp hb HC2 HB2
  go_upto_region 7 with fail
  generalize ((w3.alloc (.cells #[.slice u.qo p.gh.length u.qc, .slice u.vo p.vs.length u.vc, .slice u.to p.ts.length u.tc, .slice u.oo p.on.length u.oc, .int .i64 p.miss, .slice u.co p.cd.length u.cc] 27)).alloc (.cells #[.int .i64 (er : Int), .int .i64 (i : Int)] 46)) = w4 at *
  generalize w3.heap.size = g1 at *
  have HC3 := show Hid _ from qdec_any (bc := bc) HSm.out.2 (rd_of (HR.out.1.below H3.out.1)) (by have := HSm.out.1; omega) HR.out.2
  go_wp2_with fail
  refine Calls.mono HC3.out ?_
  rintro e w5 ⟨v, rfl, hp, hb⟩
  have H5 : Hid (Below W.heap.size W ((w5.alloc (.cells #[.slice v.qo p.gh.length v.qc, .slice v.vo p.vs.length v.vc, .slice v.to p.ts.length v.tc, .slice v.oo p.on.length v.oc, .int .i64 p.miss, .slice v.co p.cd.length v.cc] 27)).alloc (.cells #[.int .i64 (er : Int), .int .i64 (i : Int)] 46)) ∧ Bk ((w5.alloc (.cells #[.slice v.qo p.gh.length v.qc, .slice v.vo p.vs.length v.vc, .slice v.to p.ts.length v.tc, .slice v.oo p.on.length v.oc, .int .i64 p.miss, .slice v.co p.cd.length v.cc] 27)).alloc (.cells #[.int .i64 (er : Int), .int .i64 (i : Int)] 46)) g 5 (u8L s ++ mkB 5) ∧ Wv g1 ((w5.alloc (.cells #[.slice v.qo p.gh.length v.qc, .slice v.vo p.vs.length v.vc, .slice v.to p.ts.length v.tc, .slice v.oo p.on.length v.oc, .int .i64 p.miss, .slice v.co p.cd.length v.cc] 27)).alloc (.cells #[.int .i64 (er : Int), .int .i64 (i : Int)] 46)) #[.slice u.qo p.gh.length u.qc, .slice u.vo p.vs.length u.vc, .slice u.to p.ts.length u.tc, .slice u.oo p.on.length u.oc, .int .i64 p.miss, .slice u.co p.cd.length u.cc] #[.int .i64 (er : Int), .int .i64 (i : Int)] ∧ IsPg ((w5.alloc (.cells #[.slice v.qo p.gh.length v.qc, .slice v.vo p.vs.length v.vc, .slice v.to p.ts.length v.tc, .slice v.oo p.on.length v.oc, .int .i64 p.miss, .slice v.co p.cd.length v.cc] 27)).alloc (.cells #[.int .i64 (er : Int), .int .i64 (i : Int)] 46)) u p ∧ Wv w5.heap.size ((w5.alloc (.cells #[.slice v.qo p.gh.length v.qc, .slice v.vo p.vs.length v.vc, .slice v.to p.ts.length v.tc, .slice v.oo p.on.length v.oc, .int .i64 p.miss, .slice v.co p.cd.length v.cc] 27)).alloc (.cells #[.int .i64 (er : Int), .int .i64 (i : Int)] 46)) #[.slice v.qo p.gh.length v.qc, .slice v.vo p.vs.length v.vc, .slice v.to p.ts.length v.tc, .slice v.oo p.on.length v.oc, .int .i64 p.miss, .slice v.co p.cd.length v.cc] #[.int .i64 (er : Int), .int .i64 (i : Int)] ∧ IsPg ((w5.alloc (.cells #[.slice v.qo p.gh.length v.qc, .slice v.vo p.vs.length v.vc, .slice v.to p.ts.length v.tc, .slice v.oo p.on.length v.oc, .int .i64 p.miss, .slice v.co p.cd.length v.cc] 27)).alloc (.cells #[.int .i64 (er : Int), .int .i64 (i : Int)] 46)) v p) := by
    obtain ⟨hw, hb3⟩ := two_new w5 #[.slice v.qo p.gh.length v.qc, .slice v.vo p.vs.length v.vc, .slice v.to p.ts.length v.tc, .slice v.oo p.on.length v.oc, .int .i64 p.miss, .slice v.co p.cd.length v.cc] #[.int .i64 (er : Int), .int .i64 (i : Int)]
    have hb4 := bel_step hb hb3
    obtain ⟨q1, q2, q3, q4⟩ := H3.out
    exact ⟨bel_step q1 hb4, q2.below hb4, q3.keep hb4, q4.below hb4, hw, hp.below hb3⟩
  clear hp hb HC3 H3
  go_upto_region 8 with fail
  generalize ((w5.alloc (.cells #[.slice v.qo p.gh.length v.qc, .slice v.vo p.vs.length v.vc, .slice v.to p.ts.length v.tc, .slice v.oo p.on.length v.oc, .int .i64 p.miss, .slice v.co p.cd.length v.cc] 27)).alloc (.cells #[.int .i64 (er : Int), .int .i64 (i : Int)] 46)) = w6 at *
  generalize w5.heap.size = g2 at *
  have HS := show Hid _ from rsame_any u v p p w6 H5.out.2.2.2.1 H5.out.2.2.2.2.2
  rw [(samB_iff p p).2 rfl] at HS
  obtain ⟨f0, f1⟩ := cells2 H5.out.2.2.1.f
  obtain ⟨h0, h1⟩ := cells2 H5.out.2.2.2.2.1.f
  obtain ⟨c0, c1, c2, c3, c4, c5⟩ := cells6 H5.out.2.2.1.p
  obtain ⟨d0, d1, d2, d3, d4, d5⟩ := cells6 H5.out.2.2.2.2.1.p
  go_wp2_with fail
  refine Calls.mono HS.out ?_
  rintro e w7 ⟨rfl, hb⟩
  have H7 : Hid (Below W.heap.size W w7 ∧ Bk w7 g 5 (u8L s ++ mkB 5)) := ⟨bel_step H5.out.1 hb, H5.out.2.1.below hb⟩
  have HKp := show Hid _ from keptB_any w7 g bc b s H7.out.2 (HR.out.1.below H7.out.1) HR.out.2 HSm.out.1
  clear hb HS H5 f0 f1 h0 h1 c0 c1 c2 c3 c4 c5 d0 d1 d2 d3 d4 d5
  go_wp2_with fail
  refine Calls.mono HKp.out ?_
  rintro e _ ⟨rfl, rfl⟩
  go_wp2_with fail
  go_ret
  exact ⟨rfl, H7.out.1⟩
end Go.Proofs.YtcicifcnffacpaaDoor.Cd

namespace Go.Proofs.YtcicifcnffacpaaDoor.codeDecodes
open Go.ChangeShapes Go.WideShapes Go.ChangeAt Go.RowKit
open Go.Proofs.YtcicifcnffacpaaDoor.Nm Go.Proofs.YtcicifcnffacpaaDoor.Vf Go.Proofs.YtcicifcnffacpaaDoor.Cd

theorem own : ownKnob Tryd.prog.godebug = none := by kernel_rfl
theorem laidOut : laidOutB Tryd.prog = true := by kernel_rfl

set_option maxHeartbeats 3200000 in
set_option maxRecDepth 100000 in
theorem contract (H : Type) (enc : TypeId × Value → H) (W : World) (base : Nat) (args : Array Value) (ds gs : List (DataW H)) (before : List MemPlace)
    (hval : ∀ (j : Nat) t v, Tryd.f4.params[j]? = some t → args[j]? = some v → Value.okWide Tryd.prog W .any base t v)
    (hW : DataW.Whole enc Tryd.prog Tryd.f4.params.toList Rows.codeDecodesSpec.vars false W args.toList ds gs before)
    (hsz : (DataW.weightsEach Tryd.prog (Tryd.f4.params.toList ++ (OpenSpec.ofChange Rows.codeDecodesSpec).bare.plain.varTypes Tryd.prog) (ds ++ gs)).all (· ≤ reachBytes) = true) (hL : laidMetH Tryd.prog Rows.codeDecodesRow.laid W) :
    Calls Tryd.prog 4 args W fun e W' => ∃ v, e = .returned v ∧ Rows.codeDecodesSpec.post enc Tryd.prog Tryd.f4 false true false false W args v W' := by
  have hW' := hW
  obtain ⟨p, q, hA0, hV, rfl, hfz, hnd⟩ := hW
  have hA : DataW.TrodAll enc Tryd.prog W 0 (fun _ => true) true Tryd.f4.params.toList args.toList ds p := hA0
  rw [Tryd.params4] at hA hval hsz
  obtain ⟨v0, vs0, d0, ds0, p0, q0, hargs, rfl, rfl, h0, r0⟩ := trodAll_cons hA
  obtain ⟨rfl, rfl, rfl⟩ := trodAll_nil r0
  obtain rfl : args = #[v0] := by cases args; simp_all
  obtain ⟨rfl, rfl⟩ := trodVars_none hV
  have lt0 : ∀ x ∈ p0, x.block < W.heap.size := by obtain ⟨m, hm⟩ := h0; exact DataW.trod_lt m _ _ _ hm
  obtain ⟨a0, len0, cap0, rfl⟩ := okWide_slice Tryd.underlying32 (hval 0 32 v0 rfl rfl)
  have sl0 := slice_len Tryd.underlying32 h0
  obtain ⟨l0, rfl, hr0, hlow0⟩ := open_bytesV h0
  have hlen0 := len_reach hsz (j := 0) rfl rfl Tryd.underlying32 sl0
  rw [bytesU8, Nat.mul_one] at hlen0
  refine (decodesWalk W (pow_of (show laidMetH Tryd.prog laidL W from hL)) (asc_of (show laidMetH Tryd.prog laidL W from hL)) a0 cap0 l0 hr0 hlow0 hlen0).mono fun e W2 ⟨he, bel⟩ => ?_
  subst he
  exact ⟨_, rfl, _, _, _, [], _, [], hW', trodAll_mk1 (shut_bool Tryd.underlying4 _), (trodAll_cons_mk (Below.trod laidOut (by kernel_rfl) (of_decide_eq_true (by kernel_rfl)) h0 bel lt0) trodAll_mk0), rfl, bel.frame _, fun h => by cases h⟩

set_option maxRecDepth 100000 in
/-- A world for the witness: the settled one and two blocks more (the ranges of blanks, and their table), the tables holding what their initialisers lay. -/
theorem start (os : Os) : ∃ w0 : World, w0.os = os ∧ (w0.forCall (fun _ _ => 0) ⟨#[], #[Value.slice none 0 0], []⟩).variablesRefB Tryd.prog = true ∧
    ((w0.forCall (fun _ _ => 0) ⟨#[], #[Value.slice none 0 0], []⟩).heap.toList.drop Tryd.prog.globals.size).take ((begin Tryd.prog (fun _ _ => 0) default).world.heap.size - Tryd.prog.globals.size) = (begin Tryd.prog (fun _ _ => 0) default).world.heap.toList.drop Tryd.prog.globals.size ∧
    Input.okWideB Tryd.prog (w0.forCall (fun _ _ => 0) ⟨#[], #[Value.slice none 0 0], []⟩) 4 ⟨#[], #[Value.slice none 0 0], []⟩ = true ∧
    laidMet Tryd.prog Rows.codeDecodesRow.laid (w0.forCall (fun _ _ => 0) ⟨#[], #[Value.slice none 0 0], []⟩).memory ∧
    ∀ (H : Type) (enc : TypeId × Value → H),
      DataW.whole enc Tryd.prog (w0.forCall (fun _ _ => 0) ⟨#[], #[Value.slice none 0 0], []⟩).memory Tryd.f4.params.toList Rows.codeDecodesSpec.vars false #[Value.slice none 0 0].toList 8 = some ([.nil], [], []) ∧
      (OpenSpec.ofChange Rows.codeDecodesSpec).bare.sizedB enc Tryd.prog Tryd.f4 false (w0.forCall (fun _ _ => 0) ⟨#[], #[Value.slice none 0 0], []⟩).memory #[Value.slice none 0 0] 8 = true :=
  ⟨{ World.holding Tryd.prog os ⟨#[.cells (Lib.whiteT.map fun (z : Nat) => Value.int .u16 (z : Int)).toArray 148, .cells #[.slice (some ⟨(World.settled Tryd.prog os).heap.size, 0, none⟩) 7 7, .slice none 0 0, .int .i64 2] 145], #[], []⟩ with
      heap := (((((World.holding Tryd.prog os ⟨#[.cells (Lib.whiteT.map fun (z : Nat) => Value.int .u16 (z : Int)).toArray 148, .cells #[.slice (some ⟨(World.settled Tryd.prog os).heap.size, 0, none⟩) 7 7, .slice none 0 0, .int .i64 2] 145], #[], []⟩).heap.modify 0 (fun o => match o with
        | .cells _ t frozen => .cells (Lib.asciiSpaceTab.map fun z => Value.int .u8 z).toArray t frozen
        | o => o)).modify 2 (fun o => match o with
        | .cells _ t frozen => .cells (Lib.pow10Tab.map fun z => Value.int .u64 z).toArray t frozen
        | o => o)).modify 3 (fun o => match o with
        | .cells _ t frozen => .cells (([0, 1, 28, 2, 29, 14, 24, 3, 30, 22, 20, 15, 25, 17, 4, 8, 31, 27, 13, 23, 21, 19, 16, 7, 26, 12, 18, 6, 11, 5, 10, 9] : List Int).map fun z => Value.int .u8 z).toArray t frozen
        | o => o)).modify 4 (fun o => match o with
        | .cells _ t frozen => .cells (([0, 1, 56, 2, 57, 49, 28, 3, 61, 58, 42, 50, 38, 29, 17, 4, 62, 47, 59, 36, 45, 43, 51, 22, 53, 39, 33, 30, 24, 18, 12, 5, 63, 55, 48, 27, 60, 41, 37, 16, 46, 35, 44, 21, 52, 32, 23, 11, 54, 26, 40, 15, 34, 20, 31, 10, 25, 14, 19, 9, 13, 8, 7, 6] : List Int).map fun z => Value.int .u8 z).toArray t frozen
        | o => o)).modify 1 (fun o => match o with
        | .cells _ t frozen => .cells #[.pointer (some ⟨(World.settled Tryd.prog os).heap.size + 1, 0, none⟩)] t frozen
        | o => o) },
    rfl, by kernel_rfl, by kernel_rfl, by kernel_rfl, laidMet_of_run' 10 (by kernel_rfl) (by kernel_rfl), fun _ _ => ⟨by kernel_rfl, by kernel_rfl⟩⟩

set_option maxRecDepth 100000 in
theorem lifted (os : Os) (started : os.Started) (H : Type) (enc : TypeId × Value → H) (F : Stop.Interp) :
    ReturnsInHanded {} Tryd.checked os 4 .any ((OpenSpec.ofChange Rows.codeDecodesSpec).preRow enc Tryd.prog Tryd.f4 Rows.codeDecodesRow.domain false Rows.codeDecodesRow.laid) (((OpenSpec.ofChange Rows.codeDecodesSpec).at F).post enc Tryd.prog Tryd.f4 false true false false) := by
  obtain ⟨w0, hos, hv, hr, hok, hlaid, hread⟩ := start os
  obtain ⟨hx, hsz⟩ := hread H enc
  refine returnsInHanded_of_row (C := Tryd.checked) (s := OpenSpec.ofChange Rows.codeDecodesSpec) own started (by kernel_rfl) Tryd.func4
    (witness_row_atRef (enc := enc) (C := Tryd.checked) false w0 #[Value.slice none 0 0] hos hv hr hok
      (OpenSpec.preRow_of_cond 8 hx (by kernel_rfl) (fun k hk => by cases hk) hsz hlaid)) ?_
  intro W base args ds gs before hval hW _ _ hsz hL _ _
  exact contract H enc W base args ds gs before hval hW hsz hL

theorem said : Rows.CodeDecodesSaid :=
  OpenClaim.holds_of_cond 4 Tryd.f4 rfl rfl rfl rfl rfl rfl rfl ⟨rfl, rfl, rfl, rfl, rfl⟩ rfl rfl rfl rfl rfl (by kernel_rfl) Tryd.func4 (by kernel_rfl)
    (of_decide_eq_true (by kernel_rfl)) (by unfold Func.isWrapper; first | (rw [if_pos (by decide +kernel)]; kernel_rfl) | (rw [if_neg (by decide +kernel)]; exact ⟨rfl, rfl⟩))
    (fun os started H enc _ F => by rw [OpenClaim.pre_eq_preRow]; exact lifted os started H enc F)

theorem plain (f : FuncId) (fn : Func) (hf : Tryd.pinned.checked.prog.funcNamed "winnow/winnowlaw15.CodeDecodes" = some f) (hfn : Tryd.pinned.checked.prog.funcs[f]? = some fn) :
    true = Tryd.pinned.checked.prog.looks [] ∧ ∀ (j : Nat) t, fn.params[j]? = some t → Tryd.pinned.checked.prog.wantsStandIn t = false := by
  obtain rfl : f = 4 := Option.some.inj ((show Tryd.prog.funcNamed "winnow/winnowlaw15.CodeDecodes" = some 4 by kernel_rfl).symm.trans hf) |>.symm
  obtain rfl : fn = Tryd.f4 := (Option.some.inj (Tryd.func4.symm.trans hfn)).symm
  refine ⟨by kernel_rfl, fun j t ht => ?_⟩
  rw [Tryd.params4] at ht
  obtain rfl : t = 32 := by simpa using Array.mem_of_getElem? ht
  exact (show Tryd.prog.wantsStandIn 32 = false by kernel_rfl)

theorem card : Rows.CodeDecodesCardSaid :=
  Claim7.holds_tied_plain_at .later [] _ _ _ _ said (fun _ h => by cases h) (by kernel_rfl) (fun _ h => by cases h) codeDecodes_row_tie rfl ⟨rfl, rfl⟩ (by kernel_rfl) rfl plain (by kernel_rfl)
end Go.Proofs.YtcicifcnffacpaaDoor.codeDecodes
