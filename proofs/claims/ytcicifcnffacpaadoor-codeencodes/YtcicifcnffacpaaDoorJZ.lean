import Derived.Test.YtcicifcnffacpaaDoorJK
import Derived.Test.YtcicifcnffacpaaDoorJS
import Derived.BigQuiet
import Derived.Test.YtcicifcnffacpaaDoorJN
import Derived.Test.YtcicifcnffacpaaDoorJP
import Derived.Test.YtcicifcnffacpaaDoorJQ
import Derived.Test.YtcicifcnffacpaaDoorJV
import Derived.Test.YtcicifcnffacpaaDoorJL
import Derived.Test.YtcicifcnffacpaaDoorCeEnc
import Derived.Test.YtcicifcnffacpaaDoorCards
import Derived.Test.YtcicifcnffacpaaDoorCeTie
import Derived.OpenShut
import Derived.Below
import Derived.Carry
import Derived.Lib.SmallJoins
set_option linter.unusedSimpArgs false
namespace Go.Proofs.YtcicifcnffacpaaDoor.Cd
open Go.RowKit Go.Proofs.YtcicifcnffacpaaDoor.Nm Go.Proofs.YtcicifcnffacpaaDoor.Vf

theorem bel_step {w W W' : World} (h : Below w.heap.size w W) (h2 : Below W.heap.size W W') : Below w.heap.size w W' := h.trans (h2.mono h.size)
theorem tab_on {w W : World} {nm : String} {k : IntKind} {zs : List Int} (h : Lib.TabBelow Tryd.prog w.heap.size w nm k zs) (hb : Below w.heap.size w W) : Lib.TabBelow Tryd.prog W.heap.size W nm k zs := fun w' hw => h w' (bel_step hb hw)
theorem str_eq {a b : List Nat} (ha : Low a) (hb : Low b) : ((txt a).toList == (txt b).toList) = decide (a = b) := by
  by_cases h : a = b
  · subst h
    simp
  · rw [decide_eq_false h, ByteArray.toList_eq, ByteArray.toList_eq]
    refine beq_eq_false_iff_ne.2 fun e => h ?_
    exact txt_inj ha hb (ByteArray.ext (Array.toList_inj.1 e))
theorem both_same {p q : Pg} (hp : chk p = 0) (hq : chk q = 0) : decide (byP p = byP q) = samB p q := by
  by_cases h : p = q
  · subst h
    rw [(samB_iff p p).2 rfl]
    simp
  · rw [samB_no h]
    exact decide_eq_false fun e => h (byP_inj hp hq e)
theorem own_drew {w : World} {base : Nat} {e : TypeId} {size : Nat} {v : Value} {n : Nat} {xs : List Value} (k : Nat) (h : w.ownsRow base e size v n xs) : (w.drewN k).ownsRow base e size v n xs := own_below h (Nm.below_drewN w k)
theorem cap_own {w : World} {base : Nat} {e : TypeId} {size : Nat} {b : Option Addr} {n c : Nat} {xs : List Value} (h : w.ownsRow base e size (.slice b n c) n xs) (hn : 0 < n) : n ≤ c := by
  rcases h.2 with ⟨_, e2⟩ | ⟨g, cap, cur, e1, _, _, e4, _⟩
  · omega
  · cases e1
    exact e4
set_option maxHeartbeats 25600000 in
set_option maxRecDepth 100000 in
/-- CodeUnlike -/
theorem unlikeWalk (W : World) (hT : Lib.TabBelow Tryd.prog W.heap.size W "internal/strconv.uint64pow10" .u64 Lib.pow10Tab) (hA : Lib.TabBelow Tryd.prog W.heap.size W "strings.asciiSpace" .u8 Lib.asciiSpaceTab) (v : PV) (p : Pg) (hP : IsPg W v p) (u : PV) (q : Pg) (hQ : IsPg W u q) :
    Calls Tryd.prog 8 #[.agg (pvC v p), .agg (pvC u q)] W fun e W' => e = .returned (.bool true) ∧ Below W.heap.size W W' := by
  obtain ⟨qo, qc, vo, vc, tto, tc, oo, oc, co, cc⟩ := v
  obtain ⟨qo', qc', vo', vc', tto', tc', oo', oc', co', cc'⟩ := u
  have HK : Hid (∀ w, Below W.heap.size W w → Calls Tryd.prog 9 #[] w fun e w' => e = .returned (.bool true) ∧ Below w.heap.size w w') := fun w hb => known_any w (tab_on hT hb) (tab_on hA hb)
  have HE1 : Hid (∀ w, Below W.heap.size W w → Calls Tryd.prog 12 #[.agg #[.slice qo p.gh.length qc, .slice vo p.vs.length vc, .slice tto p.ts.length tc, .slice oo p.on.length oc, .int .i64 p.miss, .slice co p.cd.length cc]] w fun e w' => ∃ u, e = .returned (.tuple #[u, .int .i64 (chk p : Int)]) ∧ w'.ownsRow w.heap.size 5 1 u (encB p).length (u8L (encB p)) ∧ Below w.heap.size w w') := fun w hb => enc_any ⟨qo, qc, vo, vc, tto, tc, oo, oc, co, cc⟩ p w (hP.below hb)
  have HE2 : Hid (∀ w, Below W.heap.size W w → Calls Tryd.prog 12 #[.agg #[.slice qo' q.gh.length qc', .slice vo' q.vs.length vc', .slice tto' q.ts.length tc', .slice oo' q.on.length oc', .int .i64 q.miss, .slice co' q.cd.length cc']] w fun e w' => ∃ u, e = .returned (.tuple #[u, .int .i64 (chk q : Int)]) ∧ w'.ownsRow w.heap.size 5 1 u (encB q).length (u8L (encB q)) ∧ Below w.heap.size w w') := fun w hb => enc_any ⟨qo', qc', vo', vc', tto', tc', oo', oc', co', cc'⟩ q w (hQ.below hb)
  have HS : Hid (∀ w, Below W.heap.size W w → Calls Tryd.prog 23 #[.agg #[.slice qo p.gh.length qc, .slice vo p.vs.length vc, .slice tto p.ts.length tc, .slice oo p.on.length oc, .int .i64 p.miss, .slice co p.cd.length cc], .agg #[.slice qo' q.gh.length qc', .slice vo' q.vs.length vc', .slice tto' q.ts.length tc', .slice oo' q.on.length oc', .int .i64 q.miss, .slice co' q.cd.length cc']] w fun e w' => e = .returned (.bool (samB p q)) ∧ Below w.heap.size w w') := fun w hb => same_any ⟨qo, qc, vo, vc, tto, tc, oo, oc, co, cc⟩ ⟨qo', qc', vo', vc', tto', tc', oo', oc', co', cc'⟩ p q w (hP.below hb) (hQ.below hb)
  clear hT hA hP hQ
  have HB0 := show Hid _ from two_prg W #[.slice qo p.gh.length qc, .slice vo p.vs.length vc, .slice tto p.ts.length tc, .slice oo p.on.length oc, .int .i64 p.miss, .slice co p.cd.length cc] #[.slice qo' q.gh.length qc', .slice vo' q.vs.length vc', .slice tto' q.ts.length tc', .slice oo' q.on.length oc', .int .i64 q.miss, .slice co' q.cd.length cc']
  go_enter Tryd.func8, Tryd.ntmps8
  go_upto_region 1 with fail
  generalize ((W.alloc (.cells #[.slice qo p.gh.length qc, .slice vo p.vs.length vc, .slice tto p.ts.length tc, .slice oo p.on.length oc, .int .i64 p.miss, .slice co p.cd.length cc] 27)).alloc (.cells #[.slice qo' q.gh.length qc', .slice vo' q.vs.length vc', .slice tto' q.ts.length tc', .slice oo' q.on.length oc', .int .i64 q.miss, .slice co' q.cd.length cc'] 27)) = W0 at *
  go_wp2_with fail
  refine (HK.out _ HB0.out.1).mono ?_
  rintro e w1 ⟨rfl, hb⟩
  have HB : Hid (Below W.heap.size W w1 ∧ w1.heap[W.heap.size]? = some (.cells #[.slice qo p.gh.length qc, .slice vo p.vs.length vc, .slice tto p.ts.length tc, .slice oo p.on.length oc, .int .i64 p.miss, .slice co p.cd.length cc] 27 (0, 0)) ∧ w1.heap[W.heap.size + 1]? = some (.cells #[.slice qo' q.gh.length qc', .slice vo' q.vs.length vc', .slice tto' q.ts.length tc', .slice oo' q.on.length oc', .int .i64 q.miss, .slice co' q.cd.length cc'] 27 (0, 0))) := ⟨bel_step HB0.out.1 hb, (hb.block _ (blk_lt HB0.out.2.1)).trans HB0.out.2.1, (hb.block _ (blk_lt HB0.out.2.2)).trans HB0.out.2.2⟩
  clear hb HB0 HK
  obtain ⟨c0, c1, c2, c3, c4, c5⟩ := cells6 HB.out.2.1
  obtain ⟨d0, d1, d2, d3, d4, d5⟩ := cells6 HB.out.2.2
  by_cases hb1 : 524288 < p.cd.length
  case pos =>
    have hb2 : (524288 : Int) < (p.cd.length : Int) := by omega
    go_wp2_with fail
    go_ret
    exact ⟨rfl, HB.out.1⟩
  have hb1' : decide (524288 < p.cd.length) = false := decide_eq_false hb1
  have hb2 : decide ((524288 : Int) < (p.cd.length : Int)) = false := decide_eq_false (by omega)
  clear hb1
  by_cases hb3 : 524288 < q.cd.length
  case pos =>
    have hb4 : (524288 : Int) < (q.cd.length : Int) := by omega
    go_wp2_with fail
    go_ret
    exact ⟨rfl, HB.out.1⟩
  have hb3' : decide (524288 < q.cd.length) = false := decide_eq_false hb3
  have hb4 : decide ((524288 : Int) < (q.cd.length : Int)) = false := decide_eq_false (by omega)
  clear hb3
  go_wp2_with fail
  clear hb1' hb2 hb3' hb4
  refine (HE1.out _ HB.out.1).mono ?_
  rintro e w2 ⟨u1, rfl, ho1, hb⟩
  obtain ⟨ub1, uc1, rfl⟩ := own_form ho1
  have HB2 : Hid (Below W.heap.size W w2 ∧ w2.heap[W.heap.size]? = some (.cells #[.slice qo p.gh.length qc, .slice vo p.vs.length vc, .slice tto p.ts.length tc, .slice oo p.on.length oc, .int .i64 p.miss, .slice co p.cd.length cc] 27 (0, 0)) ∧ w2.heap[W.heap.size + 1]? = some (.cells #[.slice qo' q.gh.length qc', .slice vo' q.vs.length vc', .slice tto' q.ts.length tc', .slice oo' q.on.length oc', .int .i64 q.miss, .slice co' q.cd.length cc'] 27 (0, 0)) ∧ w2.ownsRow w1.heap.size 5 1 (.slice ub1 (encB p).length uc1) (encB p).length (u8L (encB p))) := ⟨bel_step HB.out.1 hb, (hb.block _ (blk_lt HB.out.2.1)).trans HB.out.2.1, (hb.block _ (blk_lt HB.out.2.2)).trans HB.out.2.2, ho1⟩
  clear hb HE1 ho1 HB c0 c1 c2 c3 c4 c5 d0 d1 d2 d3 d4 d5
  obtain ⟨c0, c1, c2, c3, c4, c5⟩ := cells6 HB2.out.2.1
  obtain ⟨d0, d1, d2, d3, d4, d5⟩ := cells6 HB2.out.2.2.1
  go_wp2_with fail
  refine (HE2.out _ HB2.out.1).mono ?_
  rintro e w3 ⟨u2, rfl, ho2, hb⟩
  obtain ⟨ub2, uc2, rfl⟩ := own_form ho2
  have HB3 : Hid (Below W.heap.size W w3 ∧ w3.heap[W.heap.size]? = some (.cells #[.slice qo p.gh.length qc, .slice vo p.vs.length vc, .slice tto p.ts.length tc, .slice oo p.on.length oc, .int .i64 p.miss, .slice co p.cd.length cc] 27 (0, 0)) ∧ w3.heap[W.heap.size + 1]? = some (.cells #[.slice qo' q.gh.length qc', .slice vo' q.vs.length vc', .slice tto' q.ts.length tc', .slice oo' q.on.length oc', .int .i64 q.miss, .slice co' q.cd.length cc'] 27 (0, 0)) ∧ w3.ownsRow w1.heap.size 5 1 (.slice ub1 (encB p).length uc1) (encB p).length (u8L (encB p)) ∧ w3.ownsRow w2.heap.size 5 1 (.slice ub2 (encB q).length uc2) (encB q).length (u8L (encB q))) := ⟨bel_step HB2.out.1 hb, (hb.block _ (blk_lt HB2.out.2.1)).trans HB2.out.2.1, (hb.block _ (blk_lt HB2.out.2.2.1)).trans HB2.out.2.2.1, own_below HB2.out.2.2.2 hb, ho2⟩
  clear hb HE2 ho2 HB2 c0 c1 c2 c3 c4 c5 d0 d1 d2 d3 d4 d5
  by_cases h1 : chk p = 0
  case neg =>
    have e1 : ((chk p : Int) != 0) = true := by rw [bne_iff_ne]; omega
    generalize chk p = ck1 at *
    generalize chk q = ck2 at *
    clear h1
    go_wp2_with fail
    go_ret
    exact ⟨rfl, HB3.out.1⟩
  by_cases h2 : chk q = 0
  case neg =>
    have e2 : ((chk q : Int) != 0) = true := by rw [bne_iff_ne]; omega
    rw [h1]
    generalize chk q = ck2 at *
    clear h1 h2
    go_wp2_with fail
    go_ret
    exact ⟨rfl, HB3.out.1⟩
  rw [h1, h2]
  have hp1 : encB p = byP p := if_pos h1
  have hq1 : encB q = byP q := if_pos h2
  have HSm : Hid (decide (byP p = byP q) = samB p q) := both_same h1 h2
  have HFr : Hid ((byP p).length < (byP q).length → (byP q).take (byP p).length ≠ byP p) := fun hk => byP_front h1 h2 hk
  rw [hp1, hq1]
  rw [hp1, hq1] at HB3
  clear h1 h2 hp1 hq1
  have HLw : Hid (Low (byP p) ∧ Low (byP q)) := ⟨low_byP p, low_byP q⟩
  generalize byP p = x at *
  generalize byP q = y at *
  have hc1 : ∀ k, (convert 32 9 (.slice ub1 x.length uc1)).run Tryd.prog (w3.drewN k) = .ok (.string (txt x)) (w3.drewN k) := fun k => conv_own (own_drew k HB3.out.2.2.2.1) HLw.out.1
  have hc2 : ∀ k, (convert 32 9 (.slice ub2 y.length uc2)).run Tryd.prog (w3.drewN k) = .ok (.string (txt y)) (w3.drewN k) := fun k => conv_own (own_drew k HB3.out.2.2.2.2) HLw.out.2
  have hc3 : x.length < y.length → ∀ k, (convert 32 9 (.slice ub2 x.length uc2)).run Tryd.prog (w3.drewN k) = .ok (.string (txt (y.take x.length))) (w3.drewN k) := fun hl k => by
    have hr := rd_take (own_rdV (own_drew k HB3.out.2.2.2.2)) x.length
    have hr2 : Vf.Rd (w3.drewN k) ub2 (u8L (y.take x.length)) := by
      have e : u8L (y.take x.length) = (u8L y).take x.length := by simp [u8L, List.map_take]
      rw [e]
      exact hr
    have := conv_rd (c := uc2) hr2 (low_take HLw.out.2 _)
    rwa [List.length_take, Nat.min_eq_left (by omega)] at this
  have hd1 : (convert 32 9 (.slice ub1 x.length uc1)).run Tryd.prog w3 = .ok (.string (txt x)) w3 := conv_own HB3.out.2.2.2.1 HLw.out.1
  have hd2 : (convert 32 9 (.slice ub2 y.length uc2)).run Tryd.prog w3 = .ok (.string (txt y)) w3 := conv_own HB3.out.2.2.2.2 HLw.out.2
  obtain ⟨r, hr⟩ : ∃ r, ((txt x).toList == (txt y).toList) = r := ⟨_, rfl⟩
  have HR : Hid (r = samB p q) := by rw [← hr, str_eq HLw.out.1 HLw.out.2]; exact HSm.out
  go_upto_region 10 with fail
  clear hd1 hd2 hr
  by_cases hl : x.length < y.length
  case neg =>
    have hl2 : decide (x.length < y.length) = false := decide_eq_false hl
    have hl3 : decide ((x.length : Int) < (y.length : Int)) = false := decide_eq_false (by omega)
    clear hl hc1 hc2 hc3
    go_quiet (fail)
    clear hl2 hl3
    have HB4 : Hid (Below W.heap.size W (w3.drewN nq) ∧ (w3.drewN nq).heap[W.heap.size]? = some (.cells #[.slice qo p.gh.length qc, .slice vo p.vs.length vc, .slice tto p.ts.length tc, .slice oo p.on.length oc, .int .i64 p.miss, .slice co p.cd.length cc] 27 (0, 0)) ∧ (w3.drewN nq).heap[W.heap.size + 1]? = some (.cells #[.slice qo' q.gh.length qc', .slice vo' q.vs.length vc', .slice tto' q.ts.length tc', .slice oo' q.on.length oc', .int .i64 q.miss, .slice co' q.cd.length cc'] 27 (0, 0))) := ⟨bel_step HB3.out.1 (Nm.below_drewN _ _), HB3.out.2.1, HB3.out.2.2.1⟩
    generalize w3.drewN nq = w4 at *
    obtain ⟨c0, c1, c2, c3, c4, c5⟩ := cells6 HB4.out.2.1
    obtain ⟨d0, d1, d2, d3, d4, d5⟩ := cells6 HB4.out.2.2
    go_wp2_with fail
    refine (HS.out _ HB4.out.1).mono ?_
    rintro e w5 ⟨rfl, hb⟩
    have HB5 : Hid (Below W.heap.size W w5) := bel_step HB4.out.1 hb
    rw [← HR.out]
    clear hb HB4 c0 c1 c2 c3 c4 c5 d0 d1 d2 d3 d4 d5
    go_wp2_with fail
    go_ret
    exact ⟨rfl, HB5.out⟩
  case pos =>
    have hl3 : (x.length : Int) < (y.length : Int) := by omega
    have hl4 : (x.length : Int) ≤ (uc2 : Int) := by
      have := cap_own HB3.out.2.2.2.2 (by omega)
      omega
    have hc4 := hc3 hl
    have hf : ((txt (y.take x.length)).toList == (txt x).toList) = false := by
      rw [str_eq (low_take HLw.out.2 _) HLw.out.1]
      exact decide_eq_false (HFr.out hl)
    clear hc2 hc3
    go_quiet (fail)
    clear hl3 hl4 hf hc4 hl
    have HB4 : Hid (Below W.heap.size W (w3.drewN nq) ∧ (w3.drewN nq).heap[W.heap.size]? = some (.cells #[.slice qo p.gh.length qc, .slice vo p.vs.length vc, .slice tto p.ts.length tc, .slice oo p.on.length oc, .int .i64 p.miss, .slice co p.cd.length cc] 27 (0, 0)) ∧ (w3.drewN nq).heap[W.heap.size + 1]? = some (.cells #[.slice qo' q.gh.length qc', .slice vo' q.vs.length vc', .slice tto' q.ts.length tc', .slice oo' q.on.length oc', .int .i64 q.miss, .slice co' q.cd.length cc'] 27 (0, 0))) := ⟨bel_step HB3.out.1 (Nm.below_drewN _ _), HB3.out.2.1, HB3.out.2.2.1⟩
    generalize w3.drewN nq = w4 at *
    obtain ⟨c0, c1, c2, c3, c4, c5⟩ := cells6 HB4.out.2.1
    obtain ⟨d0, d1, d2, d3, d4, d5⟩ := cells6 HB4.out.2.2
    go_wp2_with fail
    refine (HS.out _ HB4.out.1).mono ?_
    rintro e w5 ⟨rfl, hb⟩
    have HB5 : Hid (Below W.heap.size W w5) := bel_step HB4.out.1 hb
    rw [← HR.out]
    clear hb HB4 c0 c1 c2 c3 c4 c5 d0 d1 d2 d3 d4 d5
    go_wp2_with fail
    go_ret
    exact ⟨rfl, HB5.out⟩
end Go.Proofs.YtcicifcnffacpaaDoor.Cd

set_option linter.unusedSimpArgs false
namespace Go.Proofs.YtcicifcnffacpaaDoor.Cd
open Go.RowKit Go.Proofs.YtcicifcnffacpaaDoor.Nm Go.Proofs.YtcicifcnffacpaaDoor.Vf

/-- in a program that Check takes an end is one of the two -/
theorem endOk_of {p : Pg} (h : chk p = 0) : EndOk p := by
  unfold chk at h
  by_cases hc : tabF p && plcF p
  case neg => rw [if_neg hc] at h; cases h
  rw [if_pos hc] at h
  have hfe : ∀ (l : List Ins), firstE (insF p) l = 0 → ∀ x ∈ l, insF p x = 0 := by
    intro l
    induction l with
    | nil => intro _ x hx; cases hx
    | cons y l ih =>
      intro hf x hx
      have hf2 : (if insF p y = 0 then firstE (insF p) l else insF p y) = 0 := hf
      by_cases hy : insF p y = 0
      · rw [if_pos hy] at hf2
        rcases List.mem_cons.1 hx with rfl | hx
        · exact hy
        · exact ih hf2 x hx
      · rw [if_neg hy] at hf2
        exact absurd hf2 hy
  intro x hx k hk h4
  have hi := hfe _ h x hx
  unfold insF at hi
  by_cases ho : (decide (0 ≤ x.op) && decide (x.op < 42)) = true
  case neg => rw [if_neg ho] at hi; cases hi
  rw [if_pos ho] at hi
  dsimp only at hi
  by_cases hin : (inK p (Vf.kd4 x.op.toNat).1 x.a && (inK p (Vf.kd4 x.op.toNat).2.1 x.b && (inK p (Vf.kd4 x.op.toNat).2.2.1 x.c && inK p (Vf.kd4 x.op.toNat).2.2.2 x.d))) = true
  case neg => rw [if_neg hin] at hi; cases hi
  simp only [Bool.and_eq_true] at hin
  obtain ⟨i0, i1, i2, i3⟩ := hin
  have key : ∀ n : Int, inK p 4 n = true → n = 0 ∨ n = 1 := fun n hn => by
    unfold inK loK hiK at hn
    simp at hn
    omega
  match k, hk with
  | 0, _ =>
    have e : (Vf.kd4 x.op.toNat).1 = 4 := h4
    rw [e] at i0
    exact key _ i0
  | 1, _ =>
    have e : (Vf.kd4 x.op.toNat).2.1 = 4 := h4
    rw [e] at i1
    exact key _ i1
  | 2, _ =>
    have e : (Vf.kd4 x.op.toNat).2.2.1 = 4 := h4
    rw [e] at i2
    exact key _ i2
  | 3, _ =>
    have e : (Vf.kd4 x.op.toNat).2.2.2 = 4 := h4
    rw [e] at i3
    exact key _ i3
set_option maxHeartbeats 25600000 in
set_option maxRecDepth 100000 in
/-- CodeEncodes -/
theorem encodesWalk (W : World) (hT : Lib.TabBelow Tryd.prog W.heap.size W "internal/strconv.uint64pow10" .u64 Lib.pow10Tab) (hA : Lib.TabBelow Tryd.prog W.heap.size W "strings.asciiSpace" .u8 Lib.asciiSpaceTab) (v : PV) (p : Pg) (hP : IsPg W v p) (hW : Wgh p) :
    Calls Tryd.prog 3 #[.agg (pvC v p)] W fun e W' => e = .returned (.bool true) ∧ Below W.heap.size W W' := by
  obtain ⟨qo, qc, vo, vc, tto, tc, oo, oc, co, cc⟩ := v
  have HK : Hid (∀ w, Below W.heap.size W w → Calls Tryd.prog 9 #[] w fun e w' => e = .returned (.bool true) ∧ Below w.heap.size w w') := fun w hb => known_any w (tab_on hT hb) (tab_on hA hb)
  have HTb : Hid (∀ w, Below W.heap.size W w → Lib.TabBelow Tryd.prog w.heap.size w "internal/strconv.uint64pow10" .u64 Lib.pow10Tab ∧ Lib.TabBelow Tryd.prog w.heap.size w "strings.asciiSpace" .u8 Lib.asciiSpaceTab) := fun w hb => ⟨tab_on hT hb, tab_on hA hb⟩
  have HPg : Hid (IsPg W ⟨qo, qc, vo, vc, tto, tc, oo, oc, co, cc⟩ p ∧ Wgh p) := ⟨hP, hW⟩
  clear hT hA hP hW
  show Calls _ _ #[.agg #[.slice qo p.gh.length qc, .slice vo p.vs.length vc, .slice tto p.ts.length tc, .slice oo p.on.length oc, .int .i64 p.miss, .slice co p.cd.length cc]] _ _
  have H0 : Hid (Below W.heap.size W (W.alloc (.cells #[.slice qo p.gh.length qc, .slice vo p.vs.length vc, .slice tto p.ts.length tc, .slice oo p.on.length oc, .int .i64 p.miss, .slice co p.cd.length cc] 27)) ∧ (W.alloc (.cells #[.slice qo p.gh.length qc, .slice vo p.vs.length vc, .slice tto p.ts.length tc, .slice oo p.on.length oc, .int .i64 p.miss, .slice co p.cd.length cc] 27)).heap[W.heap.size]? = some (.cells #[.slice qo p.gh.length qc, .slice vo p.vs.length vc, .slice tto p.ts.length tc, .slice oo p.on.length oc, .int .i64 p.miss, .slice co p.cd.length cc] 27 (0, 0))) := ⟨(Below.refl _ W).alloc (Nat.le_refl _) _, heap_alloc_new _ _⟩
  go_enter Tryd.func3, Tryd.ntmps3
  go_wp2_with fail
  generalize W.alloc (.cells #[.slice qo p.gh.length qc, .slice vo p.vs.length vc, .slice tto p.ts.length tc, .slice oo p.on.length oc, .int .i64 p.miss, .slice co p.cd.length cc] 27) = w0 at *
  refine (HK.out _ H0.out.1).mono ?_
  rintro e w1 ⟨rfl, hb⟩
  have H1 : Hid (Below W.heap.size W w1 ∧ w1.heap[W.heap.size]? = some (.cells #[.slice qo p.gh.length qc, .slice vo p.vs.length vc, .slice tto p.ts.length tc, .slice oo p.on.length oc, .int .i64 p.miss, .slice co p.cd.length cc] 27 (0, 0))) := ⟨bel_step H0.out.1 hb, (hb.block _ (blk_lt H0.out.2)).trans H0.out.2⟩
  clear hb HK H0
  obtain ⟨c0, c1, c2, c3, c4, c5⟩ := cells6 H1.out.2
  by_cases hb1 : 524288 < p.cd.length
  case pos =>
    have hb2 : (524288 : Int) < (p.cd.length : Int) := by omega
    go_wp2_with fail
    go_ret
    exact ⟨rfl, H1.out.1⟩
  have hb1' : decide (524288 < p.cd.length) = false := decide_eq_false hb1
  have hb2 : decide ((524288 : Int) < (p.cd.length : Int)) = false := decide_eq_false (by omega)
  have HL := show Hid _ from lendP_any ⟨qo, qc, vo, vc, tto, tc, oo, oc, co, cc⟩ p w1 (HPg.out.1.below H1.out.1) HPg.out.2 (Nat.le_of_not_lt hb1)
  have HN : Hid (p.cd.length ≤ 524288) := Nat.le_of_not_lt hb1
  clear hb1
  go_wp2_with fail
  clear hb1' hb2 c0 c1 c2 c3 c4 c5
  refine Calls.mono HL.out ?_
  rintro e w2 ⟨⟨qo2, qc2, vo2, vc2, to2, tc2, oo2, oc2, co2, cc2⟩, g, rfl, hco, hcc, hu, hg, hb⟩
  dsimp only at hco hcc
  subst hco
  subst hcc
  have hb3 : Below w2.heap.size w2 (w2.alloc (.cells #[.slice qo2 p.gh.length qc2, .slice vo2 p.vs.length vc2, .slice to2 p.ts.length tc2, .slice oo2 p.on.length oc2, .int .i64 p.miss, .slice (some ⟨g, 0, none⟩) p.cd.length (p.cd.length + 3)] 27)) := (Below.refl _ _).alloc (Nat.le_refl _) _
  have H3 : Hid (Below W.heap.size W (w2.alloc (.cells #[.slice qo2 p.gh.length qc2, .slice vo2 p.vs.length vc2, .slice to2 p.ts.length tc2, .slice oo2 p.on.length oc2, .int .i64 p.miss, .slice (some ⟨g, 0, none⟩) p.cd.length (p.cd.length + 3)] 27)) ∧ (w2.alloc (.cells #[.slice qo2 p.gh.length qc2, .slice vo2 p.vs.length vc2, .slice to2 p.ts.length tc2, .slice oo2 p.on.length oc2, .int .i64 p.miss, .slice (some ⟨g, 0, none⟩) p.cd.length (p.cd.length + 3)] 27)).heap[W.heap.size]? = some (.cells #[.slice qo p.gh.length qc, .slice vo p.vs.length vc, .slice tto p.ts.length tc, .slice oo p.on.length oc, .int .i64 p.miss, .slice co p.cd.length cc] 27 (0, 0)) ∧ (w2.alloc (.cells #[.slice qo2 p.gh.length qc2, .slice vo2 p.vs.length vc2, .slice to2 p.ts.length tc2, .slice oo2 p.on.length oc2, .int .i64 p.miss, .slice (some ⟨g, 0, none⟩) p.cd.length (p.cd.length + 3)] 27)).heap[w2.heap.size]? = some (.cells #[.slice qo2 p.gh.length qc2, .slice vo2 p.vs.length vc2, .slice to2 p.ts.length tc2, .slice oo2 p.on.length oc2, .int .i64 p.miss, .slice (some ⟨g, 0, none⟩) p.cd.length (p.cd.length + 3)] 27 (0, 0)) ∧ IsPg (w2.alloc (.cells #[.slice qo2 p.gh.length qc2, .slice vo2 p.vs.length vc2, .slice to2 p.ts.length tc2, .slice oo2 p.on.length oc2, .int .i64 p.miss, .slice (some ⟨g, 0, none⟩) p.cd.length (p.cd.length + 3)] 27)) ⟨qo2, qc2, vo2, vc2, to2, tc2, oo2, oc2, some ⟨g, 0, none⟩, p.cd.length + 3⟩ p ∧ Bk (w2.alloc (.cells #[.slice qo2 p.gh.length qc2, .slice vo2 p.vs.length vc2, .slice to2 p.ts.length tc2, .slice oo2 p.on.length oc2, .int .i64 p.miss, .slice (some ⟨g, 0, none⟩) p.cd.length (p.cd.length + 3)] 27)) g 53 (Vf.cC p.cd ++ mkN 3)) :=
    ⟨bel_step (bel_step H1.out.1 hb) hb3, (hb3.block _ (blk_lt ((hb.block _ (blk_lt H1.out.2)).trans H1.out.2))).trans ((hb.block _ (blk_lt H1.out.2)).trans H1.out.2), heap_alloc_new _ _, hu.below hb3, hg.below hb3⟩
  clear hb hb3 hu hg HL H1
  go_upto_region 6 with fail
  generalize (w2.alloc (.cells #[.slice qo2 p.gh.length qc2, .slice vo2 p.vs.length vc2, .slice to2 p.ts.length tc2, .slice oo2 p.on.length oc2, .int .i64 p.miss, .slice (some ⟨g, 0, none⟩) p.cd.length (p.cd.length + 3)] 27)) = w3 at *
  generalize w2.heap.size = qb at *
  have HB3 : Hid (Below w3.heap.size w3 w3) := Below.refl _ _
  have HC := show Hid _ from chk_any ⟨qo2, qc2, vo2, vc2, to2, tc2, oo2, oc2, some ⟨g, 0, none⟩, p.cd.length + 3⟩ p w3 H3.out.2.2.2.1
  have hbp := (HB3.out.block _ (blk_lt H3.out.2.1)).trans H3.out.2.1
  have hbq := (HB3.out.block _ (blk_lt H3.out.2.2.1)).trans H3.out.2.2.1
  obtain ⟨c0, c1, c2, c3, c4, c5⟩ := cells6 hbp
  obtain ⟨d0, d1, d2, d3, d4, d5⟩ := cells6 hbq
  clear hbp hbq
  go_wp2_with fail
  refine Calls.mono HC.out ?_
  rintro e w4 ⟨rfl, hb⟩
  have HB4 : Hid (Below w3.heap.size w3 w4) := hb
  clear hb HC HB3
  clear c0 c1 c2 c3 c4 c5 d0 d1 d2 d3 d4 d5
  have hbp := (HB4.out.block _ (blk_lt H3.out.2.1)).trans H3.out.2.1
  have hbq := (HB4.out.block _ (blk_lt H3.out.2.2.1)).trans H3.out.2.2.1
  obtain ⟨c0, c1, c2, c3, c4, c5⟩ := cells6 hbp
  obtain ⟨d0, d1, d2, d3, d4, d5⟩ := cells6 hbq
  clear hbp hbq
  have HE := show Hid _ from enc_any ⟨qo2, qc2, vo2, vc2, to2, tc2, oo2, oc2, some ⟨g, 0, none⟩, p.cd.length + 3⟩ p w4 (H3.out.2.2.2.1.below HB4.out)
  go_wp2_with fail
  refine Calls.mono HE.out ?_
  rintro e w5 ⟨u1, rfl, ho1, hb⟩
  obtain ⟨ub1, uc1, rfl⟩ := own_form ho1
  have HB5 : Hid (Below w3.heap.size w3 w5) := bel_step HB4.out hb
  have HO1 : Hid (w5.ownsRow w4.heap.size 5 1 (.slice ub1 (encB p).length uc1) (encB p).length (u8L (encB p))) := ho1
  clear hb HE ho1 HB4
  clear c0 c1 c2 c3 c4 c5 d0 d1 d2 d3 d4 d5
  have hbp := (HB5.out.block _ (blk_lt H3.out.2.1)).trans H3.out.2.1
  have hbq := (HB5.out.block _ (blk_lt H3.out.2.2.1)).trans H3.out.2.2.1
  obtain ⟨c0, c1, c2, c3, c4, c5⟩ := cells6 hbp
  obtain ⟨d0, d1, d2, d3, d4, d5⟩ := cells6 hbq
  clear hbp hbq
  have hT5 := HTb.out w5 (bel_step H3.out.1 HB5.out)
  have HLs := show Hid _ from list_any ⟨qo2, qc2, vo2, vc2, to2, tc2, oo2, oc2, some ⟨g, 0, none⟩, p.cd.length + 3⟩ p w5 (H3.out.2.2.2.1.below HB5.out) hT5.1 hT5.2
  clear hT5
  go_wp2_with fail
  refine Calls.mono HLs.out ?_
  rintro e w6 ⟨rfl, hb⟩
  have HB6 : Hid (Below w3.heap.size w3 w6 ∧ Below w5.heap.size w5 w6) := ⟨bel_step HB5.out hb, hb⟩
  clear hb HLs
  clear c0 c1 c2 c3 c4 c5 d0 d1 d2 d3 d4 d5
  have hbp := (HB6.out.1.block _ (blk_lt H3.out.2.1)).trans H3.out.2.1
  have hbq := (HB6.out.1.block _ (blk_lt H3.out.2.2.1)).trans H3.out.2.2.1
  obtain ⟨c0, c1, c2, c3, c4, c5⟩ := cells6 hbp
  obtain ⟨d0, d1, d2, d3, d4, d5⟩ := cells6 hbq
  clear hbp hbq
  have HRe := show Hid _ from renc_any ⟨qo, qc, vo, vc, tto, tc, oo, oc, co, cc⟩ p w6 (HPg.out.1.below (bel_step H3.out.1 HB6.out.1))
  go_wp2_with fail
  refine Calls.mono HRe.out ?_
  rintro e w7 ⟨ub2, uc2, rfl, ho2, hb⟩
  have HB7 : Hid (Below w3.heap.size w3 w7 ∧ Below w5.heap.size w5 w7) := ⟨bel_step HB6.out.1 hb, bel_step HB6.out.2 hb⟩
  have HO2 : Hid (w7.ownsRow w6.heap.size 5 1 (.slice ub2 (encB p).length uc2) (encB p).length (u8L (encB p))) := ho2
  clear hb HRe ho2
  clear c0 c1 c2 c3 c4 c5 d0 d1 d2 d3 d4 d5
  have hbp := (HB7.out.1.block _ (blk_lt H3.out.2.1)).trans H3.out.2.1
  have hbq := (HB7.out.1.block _ (blk_lt H3.out.2.2.1)).trans H3.out.2.2.1
  obtain ⟨c0, c1, c2, c3, c4, c5⟩ := cells6 hbp
  obtain ⟨d0, d1, d2, d3, d4, d5⟩ := cells6 hbq
  clear hbp hbq
  have HRl := show Hid _ from rlist_any ⟨qo, qc, vo, vc, tto, tc, oo, oc, co, cc⟩ p w7 (HPg.out.1.below (bel_step H3.out.1 HB7.out.1)) (fun h => endOk_of h)
  go_wp2_with fail
  refine Calls.mono HRl.out ?_
  rintro e w8 ⟨rfl, hb⟩
  have HB8 : Hid (Below w3.heap.size w3 w8 ∧ Below w5.heap.size w5 w8 ∧ Below w7.heap.size w7 w8) := ⟨bel_step HB7.out.1 hb, bel_step HB7.out.2 hb, hb⟩
  clear hb HRl
  clear c0 c1 c2 c3 c4 c5 d0 d1 d2 d3 d4 d5
  have hbp := (HB8.out.1.block _ (blk_lt H3.out.2.1)).trans H3.out.2.1
  have hbq := (HB8.out.1.block _ (blk_lt H3.out.2.2.1)).trans H3.out.2.2.1
  obtain ⟨c0, c1, c2, c3, c4, c5⟩ := cells6 hbp
  obtain ⟨d0, d1, d2, d3, d4, d5⟩ := cells6 hbq
  clear hbp hbq
  have HRc := show Hid _ from rchk_any ⟨qo, qc, vo, vc, tto, tc, oo, oc, co, cc⟩ p w8 (HPg.out.1.below (bel_step H3.out.1 HB8.out.1))
  go_wp2_with fail
  refine Calls.mono HRc.out ?_
  rintro e w9 ⟨rfl, hb⟩
  have HB9 : Hid (Below w3.heap.size w3 w9 ∧ Below w5.heap.size w5 w9 ∧ Below w7.heap.size w7 w9) := ⟨bel_step HB8.out.1 hb, bel_step HB8.out.2.1 hb, bel_step HB8.out.2.2 hb⟩
  clear hb HRc
  clear c0 c1 c2 c3 c4 c5 d0 d1 d2 d3 d4 d5
  have hbp := (HB9.out.1.block _ (blk_lt H3.out.2.1)).trans H3.out.2.1
  have hbq := (HB9.out.1.block _ (blk_lt H3.out.2.2.1)).trans H3.out.2.2.1
  obtain ⟨c0, c1, c2, c3, c4, c5⟩ := cells6 hbp
  obtain ⟨d0, d1, d2, d3, d4, d5⟩ := cells6 hbq
  clear hbp hbq
  have hc1 : (convert 32 9 (.slice ub1 (encB p).length uc1)).run Tryd.prog w9 = .ok (.string (txt (encB p))) w9 := conv_own (own_below HO1.out HB9.out.2.1) (low_encB p)
  have hc2 : (convert 32 9 (.slice ub2 (encB p).length uc2)).run Tryd.prog w9 = .ok (.string (txt (encB p))) w9 := conv_own (own_below HO2.out HB9.out.2.2) (low_encB p)
  have HKp := show Hid _ from keptP_any ⟨qo2, qc2, vo2, vc2, to2, tc2, oo2, oc2, some ⟨g, 0, none⟩, p.cd.length + 3⟩ ⟨qo, qc, vo, vc, tto, tc, oo, oc, co, cc⟩ p w9 g (H3.out.2.2.2.1.below HB9.out.1) (HPg.out.1.below (bel_step H3.out.1 HB9.out.1)) rfl rfl (H3.out.2.2.2.2.below HB9.out.1) HN.out
  generalize txt (encB p) = tx at *
  generalize txt (lstB p) = ty at *
  generalize chk p = ck at *
  generalize (encB p).length = en at *
  go_wp2_with fail
  refine Calls.mono HKp.out ?_
  rintro e wz ⟨rfl, hb⟩
  go_wp2_with fail
  go_ret
  exact ⟨rfl, bel_step (bel_step H3.out.1 HB9.out.1) hb⟩
end Go.Proofs.YtcicifcnffacpaaDoor.Cd

namespace Go.Proofs.YtcicifcnffacpaaDoor.codeEncodes
open Go.ChangeShapes Go.WideShapes Go.ChangeAt Go.RowKit
open Go.Proofs.YtcicifcnffacpaaDoor.Nm Go.Proofs.YtcicifcnffacpaaDoor.Vf Go.Proofs.YtcicifcnffacpaaDoor.Cd

theorem own : ownKnob Tryd.prog.godebug = none := by kernel_rfl
theorem laidOut : laidOutB Tryd.prog = true := by kernel_rfl

set_option maxHeartbeats 3200000 in
set_option maxRecDepth 100000 in
theorem contract (H : Type) (enc : TypeId × Value → H) (W : World) (base : Nat) (args : Array Value) (ds gs : List (DataW H)) (before : List MemPlace)
    (hval : ∀ (j : Nat) t v, Tryd.f3.params[j]? = some t → args[j]? = some v → Value.okWide Tryd.prog W .any base t v)
    (hW : DataW.Whole enc Tryd.prog Tryd.f3.params.toList Rows.codeEncodesSpec.vars false W args.toList ds gs before)
    (hsz : (DataW.weightsEach Tryd.prog (Tryd.f3.params.toList ++ (OpenSpec.ofChange Rows.codeEncodesSpec).bare.plain.varTypes Tryd.prog) (ds ++ gs)).all (· ≤ reachBytes) = true) (hL : laidMetH Tryd.prog Rows.codeEncodesRow.laid W) :
    Calls Tryd.prog 3 args W fun e W' => ∃ v, e = .returned v ∧ Rows.codeEncodesSpec.post enc Tryd.prog Tryd.f3 false true false false W args v W' := by
  have hW' := hW
  obtain ⟨p, q, hA0, hV, rfl, hfz, hnd⟩ := hW
  have hA : DataW.TrodAll enc Tryd.prog W 0 (fun _ => true) true Tryd.f3.params.toList args.toList ds p := hA0
  rw [Tryd.params3] at hA hval hsz
  obtain ⟨v0, vs0, d0, ds0, p0, q0, hargs, rfl, rfl, h0, r0⟩ := trodAll_cons hA
  obtain ⟨rfl, rfl, rfl⟩ := trodAll_nil r0
  obtain rfl : args = #[v0] := by cases args; simp_all
  obtain ⟨rfl, rfl⟩ := trodVars_none hV
  have lt0 : ∀ x ∈ p0, x.block < W.heap.size := by obtain ⟨m, hm⟩ := h0; exact DataW.trod_lt m _ _ _ hm
  obtain ⟨pv0, pg0, x0, x1, x2, x3, x4, x5, rfl, hr0, rfl, l0, l1, l2, l3, l5⟩ := open_progL (hval 0 27 v0 rfl rfl) h0
  have is0 := prog_is hsz (j := 0) rfl rfl hr0 l0 l1 l2 l3 l5
  refine (encodesWalk W (pow_of (show laidMetH Tryd.prog laidL W from hL)) (asc_of (show laidMetH Tryd.prog laidL W from hL)) pv0 pg0 is0.1 is0.2).mono fun e W2 ⟨he, bel⟩ => ?_
  subst he
  exact ⟨_, rfl, _, _, _, [], _, [], hW', trodAll_mk1 (shut_bool Tryd.underlying4 _), (trodAll_cons_mk (Below.trod laidOut (by kernel_rfl) (of_decide_eq_true (by kernel_rfl)) h0 bel lt0) trodAll_mk0), rfl, bel.frame _, fun h => by cases h⟩

set_option maxRecDepth 100000 in
/-- A world for the witness: the settled one and two blocks more (the ranges of blanks, and their table), the tables holding what their initialisers lay. -/
theorem start (os : Os) : ∃ w0 : World, w0.os = os ∧ (w0.forCall (fun _ _ => 0) ⟨#[], #[.agg #[.slice none 0 0, .slice none 0 0, .slice none 0 0, .slice none 0 0, .int .i64 0, .slice none 0 0]], []⟩).variablesRefB Tryd.prog = true ∧
    ((w0.forCall (fun _ _ => 0) ⟨#[], #[.agg #[.slice none 0 0, .slice none 0 0, .slice none 0 0, .slice none 0 0, .int .i64 0, .slice none 0 0]], []⟩).heap.toList.drop Tryd.prog.globals.size).take ((begin Tryd.prog (fun _ _ => 0) default).world.heap.size - Tryd.prog.globals.size) = (begin Tryd.prog (fun _ _ => 0) default).world.heap.toList.drop Tryd.prog.globals.size ∧
    Input.okWideB Tryd.prog (w0.forCall (fun _ _ => 0) ⟨#[], #[.agg #[.slice none 0 0, .slice none 0 0, .slice none 0 0, .slice none 0 0, .int .i64 0, .slice none 0 0]], []⟩) 3 ⟨#[], #[.agg #[.slice none 0 0, .slice none 0 0, .slice none 0 0, .slice none 0 0, .int .i64 0, .slice none 0 0]], []⟩ = true ∧
    laidMet Tryd.prog Rows.codeEncodesRow.laid (w0.forCall (fun _ _ => 0) ⟨#[], #[.agg #[.slice none 0 0, .slice none 0 0, .slice none 0 0, .slice none 0 0, .int .i64 0, .slice none 0 0]], []⟩).memory ∧
    ∀ (H : Type) (enc : TypeId × Value → H),
      DataW.whole enc Tryd.prog (w0.forCall (fun _ _ => 0) ⟨#[], #[.agg #[.slice none 0 0, .slice none 0 0, .slice none 0 0, .slice none 0 0, .int .i64 0, .slice none 0 0]], []⟩).memory Tryd.f3.params.toList Rows.codeEncodesSpec.vars false #[Value.agg #[.slice none 0 0, .slice none 0 0, .slice none 0 0, .slice none 0 0, .int .i64 0, .slice none 0 0]].toList 8 = some ([.agg [.nil, .nil, .nil, .nil, .lit (.int .i64 0), .nil]], [], []) ∧
      (OpenSpec.ofChange Rows.codeEncodesSpec).bare.sizedB enc Tryd.prog Tryd.f3 false (w0.forCall (fun _ _ => 0) ⟨#[], #[.agg #[.slice none 0 0, .slice none 0 0, .slice none 0 0, .slice none 0 0, .int .i64 0, .slice none 0 0]], []⟩).memory #[Value.agg #[.slice none 0 0, .slice none 0 0, .slice none 0 0, .slice none 0 0, .int .i64 0, .slice none 0 0]] 8 = true :=
  ⟨{ World.holding Tryd.prog os ⟨#[.cells (Lib.whiteT.map fun (z : Nat) => Value.int .u16 (z : Int)).toArray 148, .cells #[.slice (some ⟨(World.settled Tryd.prog os).heap.size, 0, none⟩) 7 7, .slice none 0 0, .int .i64 2] 145], #[], []⟩ with
      heap := (((((World.holding Tryd.prog os ⟨#[.cells (Lib.whiteT.map fun (z : Nat) => Value.int .u16 (z : Int)).toArray 148, .cells #[.slice (some ⟨(World.settled Tryd.prog os).heap.size, 0, none⟩) 7 7, .slice none 0 0, .int .i64 2] 145], #[], []⟩).heap.modify 0 (fun o => match o with
        | .cells _ t frozen => .cells (Lib.asciiSpaceTab.map fun z => Value.int .u8 z).toArray t frozen
        | o => o)).modify 2 (fun o => match o with
        | .cells _ t frozen => .cells (Lib.pow10Tab.map fun z => Value.int .u64 z).toArray t frozen
        | o => o)).modify 3 (fun o => match o with
        | .cells _ t frozen => .cells (([0, 1, 28, 2, 29, 14, 24, 3, 30, 22, 20, 15, 25, 17, 4, 8, 31, 27, 13, 23, 21, 19, 16, 7, 26, 12, 18, 6, 11, 5, 10, 9] : List Int).map fun z => Value.int .u8 z).toArray t frozen
        | o => o)).modify 4 (fun o => match o with
        | .cells _ t frozen => .cells (([0, 1, 56, 2, 57, 49, 28, 3, 61, 58, 42, 50, 38, 29, 17, 4, 62, 47, 59, 36, 45, 43, 51, 22, 53, 39, 33, 30, 24, 18, 12, 5, 63, 55, 48, 27, 60, 41, 37, 16, 46, 35, 44, 21, 52, 32, 23, 11, 54, 26, 40, 15, 34, 20, 31, 10, 25, 14, 19, 9, 13, 8, 7, 6] : List Int).map fun z => Value.int .u8 z).toArray t frozen
        | o => o)).modify 1 (fun o => match o with
        | .cells _ t frozen => .cells #[.pointer (some ⟨(World.settled Tryd.prog os).heap.size + 1, 0, none⟩)] t frozen
        | o => o) },
    rfl, by kernel_rfl, by kernel_rfl, by kernel_rfl, laidMet_of_run' 10 (by kernel_rfl) (by kernel_rfl), fun _ _ => ⟨by kernel_rfl, by kernel_rfl⟩⟩

set_option maxRecDepth 100000 in
theorem lifted (os : Os) (started : os.Started) (H : Type) (enc : TypeId × Value → H) (F : Stop.Interp) :
    ReturnsInHanded {} Tryd.checked os 3 .any ((OpenSpec.ofChange Rows.codeEncodesSpec).preRow enc Tryd.prog Tryd.f3 Rows.codeEncodesRow.domain false Rows.codeEncodesRow.laid) (((OpenSpec.ofChange Rows.codeEncodesSpec).at F).post enc Tryd.prog Tryd.f3 false true false false) := by
  obtain ⟨w0, hos, hv, hr, hok, hlaid, hread⟩ := start os
  obtain ⟨hx, hsz⟩ := hread H enc
  refine returnsInHanded_of_row (C := Tryd.checked) (s := OpenSpec.ofChange Rows.codeEncodesSpec) own started (by kernel_rfl) Tryd.func3
    (witness_row_atRef (enc := enc) (C := Tryd.checked) false w0 #[Value.agg #[.slice none 0 0, .slice none 0 0, .slice none 0 0, .slice none 0 0, .int .i64 0, .slice none 0 0]] hos hv hr hok
      (OpenSpec.preRow_of_cond 8 hx (by kernel_rfl) (fun k hk => by cases hk) hsz hlaid)) ?_
  intro W base args ds gs before hval hW _ _ hsz hL _ _
  exact contract H enc W base args ds gs before hval hW hsz hL

theorem said : Rows.CodeEncodesSaid :=
  OpenClaim.holds_of_cond 3 Tryd.f3 rfl rfl rfl rfl rfl rfl rfl ⟨rfl, rfl, rfl, rfl, rfl⟩ rfl rfl rfl rfl rfl (by kernel_rfl) Tryd.func3 (by kernel_rfl)
    (of_decide_eq_true (by kernel_rfl)) (by unfold Func.isWrapper; first | (rw [if_pos (by decide +kernel)]; kernel_rfl) | (rw [if_neg (by decide +kernel)]; exact ⟨rfl, rfl⟩))
    (fun os started H enc _ F => by rw [OpenClaim.pre_eq_preRow]; exact lifted os started H enc F)

theorem plain (f : FuncId) (fn : Func) (hf : Tryd.pinned.checked.prog.funcNamed "winnow/winnowlaw15.CodeEncodes" = some f) (hfn : Tryd.pinned.checked.prog.funcs[f]? = some fn) :
    true = Tryd.pinned.checked.prog.looks [] ∧ ∀ (j : Nat) t, fn.params[j]? = some t → Tryd.pinned.checked.prog.wantsStandIn t = false := by
  obtain rfl : f = 3 := Option.some.inj ((show Tryd.prog.funcNamed "winnow/winnowlaw15.CodeEncodes" = some 3 by kernel_rfl).symm.trans hf) |>.symm
  obtain rfl : fn = Tryd.f3 := (Option.some.inj (Tryd.func3.symm.trans hfn)).symm
  refine ⟨by kernel_rfl, fun j t ht => ?_⟩
  rw [Tryd.params3] at ht
  obtain rfl : t = 27 := by simpa using Array.mem_of_getElem? ht
  exact (show Tryd.prog.wantsStandIn 27 = false by kernel_rfl)

theorem card : Rows.CodeEncodesCardSaid :=
  Claim7.holds_tied_plain_at .later [] _ _ _ _ said (fun _ h => by cases h) (by kernel_rfl) (fun _ h => by cases h) codeEncodes_row_tie rfl ⟨rfl, rfl⟩ (by kernel_rfl) rfl plain (by kernel_rfl)
end Go.Proofs.YtcicifcnffacpaaDoor.codeEncodes
