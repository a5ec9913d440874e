import Derived.Test.YtcicifcnffacpaaDoorJK
import Derived.Test.YtcicifcnffacpaaDoorCeRsm
import Derived.BigQuiet
import Derived.Test.YtcicifcnffacpaaDoorShelf15
import Derived.Test.YtcicifcnffacpaaDoorCeDec
import Derived.Test.YtcicifcnffacpaaDoorVfTk
import Derived.Test.YtcicifcnffacpaaDoorCards
import Derived.Test.YtcicifcnffacpaaDoorCeTie
import Derived.OpenShut
import Derived.Below
import Derived.Carry
import Derived.Lib.SmallJoins
set_option linter.unusedSimpArgs false
namespace Go.Proofs.YtcicifcnffacpaaDoor.Cd
open Go.RowKit Go.Proofs.YtcicifcnffacpaaDoor.Nm Go.Proofs.YtcicifcnffacpaaDoor.Vf

theorem bel_step {w W W' : World} (h : Below w.heap.size w W) (h2 : Below W.heap.size W W') : Below w.heap.size w W' := h.trans (h2.mono h.size)
theorem tab_on {w W : World} {nm : String} {k : IntKind} {zs : List Int} (h : Lib.TabBelow Tryd.prog w.heap.size w nm k zs) (hb : Below w.heap.size w W) : Lib.TabBelow Tryd.prog W.heap.size W nm k zs := fun w' hw => h w' (bel_step hb hw)
theorem str_eq {a b : List Nat} (ha : Low a) (hb : Low b) : ((txt a).toList == (txt b).toList) = decide (a = b) := by
  by_cases h : a = b
  · subst h
    simp
  · rw [decide_eq_false h, ByteArray.toList_eq, ByteArray.toList_eq]
    refine beq_eq_false_iff_ne.2 fun e => h ?_
    exact txt_inj ha hb (ByteArray.ext (Array.toList_inj.1 e))
theorem both_same {p q : Pg} (hp : chk p = 0) (hq : chk q = 0) : decide (byP p = byP q) = samB p q := by
  by_cases h : p = q
  · subst h
    rw [(samB_iff p p).2 rfl]
    simp
  · rw [samB_no h]
    exact decide_eq_false fun e => h (byP_inj hp hq e)
theorem own_drew {w : World} {base : Nat} {e : TypeId} {size : Nat} {v : Value} {n : Nat} {xs : List Value} (k : Nat) (h : w.ownsRow base e size v n xs) : (w.drewN k).ownsRow base e size v n xs := own_below h (Nm.below_drewN w k)
theorem cap_own {w : World} {base : Nat} {e : TypeId} {size : Nat} {b : Option Addr} {n c : Nat} {xs : List Value} (h : w.ownsRow base e size (.slice b n c) n xs) (hn : 0 < n) : n ≤ c := by
  rcases h.2 with ⟨_, e2⟩ | ⟨g, cap, cur, e1, _, _, e4, _⟩
  · omega
  · cases e1
    exact e4
set_option maxHeartbeats 25600000 in
set_option maxRecDepth 100000 in
/-- CodeUnlike -/
theorem unlikeWalk (W : World) (hT : Lib.TabBelow Tryd.prog W.heap.size W "internal/strconv.uint64pow10" .u64 Lib.pow10Tab) (hA : Lib.TabBelow Tryd.prog W.heap.size W "strings.asciiSpace" .u8 Lib.asciiSpaceTab) (v : PV) (p : Pg) (hP : IsPg W v p) (u : PV) (q : Pg) (hQ : IsPg W u q) :
    Calls Tryd.prog 8 #[.agg (pvC v p), .agg (pvC u q)] W fun e W' => e = .returned (.bool true) ∧ Below W.heap.size W W' := by
  obtain ⟨qo, qc, vo, vc, tto, tc, oo, oc, co, cc⟩ := v
  obtain ⟨qo', qc', vo', vc', tto', tc', oo', oc', co', cc'⟩ := u
  have HK : Hid (∀ w, Below W.heap.size W w → Calls Tryd.prog 9 #[] w fun e w' => e = .returned (.bool true) ∧ Below w.heap.size w w') := fun w hb => known_any w (tab_on hT hb) (tab_on hA hb)
  have HE1 : Hid (∀ w, Below W.heap.size W w → Calls Tryd.prog 12 #[.agg #[.slice qo p.gh.length qc, .slice vo p.vs.length vc, .slice tto p.ts.length tc, .slice oo p.on.length oc, .int .i64 p.miss, .slice co p.cd.length cc]] w fun e w' => ∃ u, e = .returned (.tuple #[u, .int .i64 (chk p : Int)]) ∧ w'.ownsRow w.heap.size 5 1 u (encB p).length (u8L (encB p)) ∧ Below w.heap.size w w') := fun w hb => enc_any ⟨qo, qc, vo, vc, tto, tc, oo, oc, co, cc⟩ p w (hP.below hb)
  have HE2 : Hid (∀ w, Below W.heap.size W w → Calls Tryd.prog 12 #[.agg #[.slice qo' q.gh.length qc', .slice vo' q.vs.length vc', .slice tto' q.ts.length tc', .slice oo' q.on.length oc', .int .i64 q.miss, .slice co' q.cd.length cc']] w fun e w' => ∃ u, e = .returned (.tuple #[u, .int .i64 (chk q : Int)]) ∧ w'.ownsRow w.heap.size 5 1 u (encB q).length (u8L (encB q)) ∧ Below w.heap.size w w') := fun w hb => enc_any ⟨qo', qc', vo', vc', tto', tc', oo', oc', co', cc'⟩ q w (hQ.below hb)
  have HS : Hid (∀ w, Below W.heap.size W w → Calls Tryd.prog 23 #[.agg #[.slice qo p.gh.length qc, .slice vo p.vs.length vc, .slice tto p.ts.length tc, .slice oo p.on.length oc, .int .i64 p.miss, .slice co p.cd.length cc], .agg #[.slice qo' q.gh.length qc', .slice vo' q.vs.length vc', .slice tto' q.ts.length tc', .slice oo' q.on.length oc', .int .i64 q.miss, .slice co' q.cd.length cc']] w fun e w' => e = .returned (.bool (samB p q)) ∧ Below w.heap.size w w') := fun w hb => same_any ⟨qo, qc, vo, vc, tto, tc, oo, oc, co, cc⟩ ⟨qo', qc', vo', vc', tto', tc', oo', oc', co', cc'⟩ p q w (hP.below hb) (hQ.below hb)
  clear hT hA hP hQ
  have HB0 := show Hid _ from two_prg W #[.slice qo p.gh.length qc, .slice vo p.vs.length vc, .slice tto p.ts.length tc, .slice oo p.on.length oc, .int .i64 p.miss, .slice co p.cd.length cc] #[.slice qo' q.gh.length qc', .slice vo' q.vs.length vc', .slice tto' q.ts.length tc', .slice oo' q.on.length oc', .int .i64 q.miss, .slice co' q.cd.length cc']
  go_enter Tryd.func8, Tryd.ntmps8
  go_upto_region 1 with fail
  generalize ((W.alloc (.cells #[.slice qo p.gh.length qc, .slice vo p.vs.length vc, .slice tto p.ts.length tc, .slice oo p.on.length oc, .int .i64 p.miss, .slice co p.cd.length cc] 27)).alloc (.cells #[.slice qo' q.gh.length qc', .slice vo' q.vs.length vc', .slice tto' q.ts.length tc', .slice oo' q.on.length oc', .int .i64 q.miss, .slice co' q.cd.length cc'] 27)) = W0 at *
  go_wp2_with fail
  refine (HK.out _ HB0.out.1).mono ?_
  rintro e w1 ⟨rfl, hb⟩
  have HB : Hid (Below W.heap.size W w1 ∧ w1.heap[W.heap.size]? = some (.cells #[.slice qo p.gh.length qc, .slice vo p.vs.length vc, .slice tto p.ts.length tc, .slice oo p.on.length oc, .int .i64 p.miss, .slice co p.cd.length cc] 27 (0, 0)) ∧ w1.heap[W.heap.size + 1]? = some (.cells #[.slice qo' q.gh.length qc', .slice vo' q.vs.length vc', .slice tto' q.ts.length tc', .slice oo' q.on.length oc', .int .i64 q.miss, .slice co' q.cd.length cc'] 27 (0, 0))) := ⟨bel_step HB0.out.1 hb, (hb.block _ (blk_lt HB0.out.2.1)).trans HB0.out.2.1, (hb.block _ (blk_lt HB0.out.2.2)).trans HB0.out.2.2⟩
  clear hb HB0 HK
  obtain ⟨c0, c1, c2, c3, c4, c5⟩ := cells6 HB.out.2.1
  obtain ⟨d0, d1, d2, d3, d4, d5⟩ := cells6 HB.out.2.2
  by_cases hb1 : 524288 < p.cd.length
  case pos =>
    have hb2 : (524288 : Int) < (p.cd.length : Int) := by omega
    go_wp2_with fail
    go_ret
    exact ⟨rfl, HB.out.1⟩
  have hb1' : decide (524288 < p.cd.length) = false := decide_eq_false hb1
  have hb2 : decide ((524288 : Int) < (p.cd.length : Int)) = false := decide_eq_false (by omega)
  clear hb1
  by_cases hb3 : 524288 < q.cd.length
  case pos =>
    have hb4 : (524288 : Int) < (q.cd.length : Int) := by omega
    go_wp2_with fail
    go_ret
    exact ⟨rfl, HB.out.1⟩
  have hb3' : decide (524288 < q.cd.length) = false := decide_eq_false hb3
  have hb4 : decide ((524288 : Int) < (q.cd.length : Int)) = false := decide_eq_false (by omega)
  clear hb3
  go_wp2_with fail
  clear hb1' hb2 hb3' hb4
  refine (HE1.out _ HB.out.1).mono ?_
  rintro e w2 ⟨u1, rfl, ho1, hb⟩
  obtain ⟨ub1, uc1, rfl⟩ := own_form ho1
  have HB2 : Hid (Below W.heap.size W w2 ∧ w2.heap[W.heap.size]? = some (.cells #[.slice qo p.gh.length qc, .slice vo p.vs.length vc, .slice tto p.ts.length tc, .slice oo p.on.length oc, .int .i64 p.miss, .slice co p.cd.length cc] 27 (0, 0)) ∧ w2.heap[W.heap.size + 1]? = some (.cells #[.slice qo' q.gh.length qc', .slice vo' q.vs.length vc', .slice tto' q.ts.length tc', .slice oo' q.on.length oc', .int .i64 q.miss, .slice co' q.cd.length cc'] 27 (0, 0)) ∧ w2.ownsRow w1.heap.size 5 1 (.slice ub1 (encB p).length uc1) (encB p).length (u8L (encB p))) := ⟨bel_step HB.out.1 hb, (hb.block _ (blk_lt HB.out.2.1)).trans HB.out.2.1, (hb.block _ (blk_lt HB.out.2.2)).trans HB.out.2.2, ho1⟩
  clear hb HE1 ho1 HB c0 c1 c2 c3 c4 c5 d0 d1 d2 d3 d4 d5
  obtain ⟨c0, c1, c2, c3, c4, c5⟩ := cells6 HB2.out.2.1
  obtain ⟨d0, d1, d2, d3, d4, d5⟩ := cells6 HB2.out.2.2.1
  go_wp2_with fail
  refine (HE2.out _ HB2.out.1).mono ?_
  rintro e w3 ⟨u2, rfl, ho2, hb⟩
  obtain ⟨ub2, uc2, rfl⟩ := own_form ho2
  have HB3 : Hid (Below W.heap.size W w3 ∧ w3.heap[W.heap.size]? = some (.cells #[.slice qo p.gh.length qc, .slice vo p.vs.length vc, .slice tto p.ts.length tc, .slice oo p.on.length oc, .int .i64 p.miss, .slice co p.cd.length cc] 27 (0, 0)) ∧ w3.heap[W.heap.size + 1]? = some (.cells #[.slice qo' q.gh.length qc', .slice vo' q.vs.length vc', .slice tto' q.ts.length tc', .slice oo' q.on.length oc', .int .i64 q.miss, .slice co' q.cd.length cc'] 27 (0, 0)) ∧ w3.ownsRow w1.heap.size 5 1 (.slice ub1 (encB p).length uc1) (encB p).length (u8L (encB p)) ∧ w3.ownsRow w2.heap.size 5 1 (.slice ub2 (encB q).length uc2) (encB q).length (u8L (encB q))) := ⟨bel_step HB2.out.1 hb, (hb.block _ (blk_lt HB2.out.2.1)).trans HB2.out.2.1, (hb.block _ (blk_lt HB2.out.2.2.1)).trans HB2.out.2.2.1, own_below HB2.out.2.2.2 hb, ho2⟩
  clear hb HE2 ho2 HB2 c0 c1 c2 c3 c4 c5 d0 d1 d2 d3 d4 d5
  by_cases h1 : chk p = 0
  case neg =>
    have e1 : ((chk p : Int) != 0) = true := by rw [bne_iff_ne]; omega
    generalize chk p = ck1 at *
    generalize chk q = ck2 at *
    clear h1
    go_wp2_with fail
    go_ret
    exact ⟨rfl, HB3.out.1⟩
  by_cases h2 : chk q = 0
  case neg =>
    have e2 : ((chk q : Int) != 0) = true := by rw [bne_iff_ne]; omega
    rw [h1]
    generalize chk q = ck2 at *
    clear h1 h2
    go_wp2_with fail
    go_ret
    exact ⟨rfl, HB3.out.1⟩
  rw [h1, h2]
  have hp1 : encB p = byP p := if_pos h1
  have hq1 : encB q = byP q := if_pos h2
  have HSm : Hid (decide (byP p = byP q) = samB p q) := both_same h1 h2
  have HFr : Hid ((byP p).length < (byP q).length → (byP q).take (byP p).length ≠ byP p) := fun hk => byP_front h1 h2 hk
  rw [hp1, hq1]
  rw [hp1, hq1] at HB3
  clear h1 h2 hp1 hq1
  have HLw : Hid (Low (byP p) ∧ Low (byP q)) := ⟨low_byP p, low_byP q⟩
  generalize byP p = x at *
  generalize byP q = y at *
  have hc1 : ∀ k, (convert 32 9 (.slice ub1 x.length uc1)).run Tryd.prog (w3.drewN k) = .ok (.string (txt x)) (w3.drewN k) := fun k => conv_own (own_drew k HB3.out.2.2.2.1) HLw.out.1
  have hc2 : ∀ k, (convert 32 9 (.slice ub2 y.length uc2)).run Tryd.prog (w3.drewN k) = .ok (.string (txt y)) (w3.drewN k) := fun k => conv_own (own_drew k HB3.out.2.2.2.2) HLw.out.2
  have hc3 : x.length < y.length → ∀ k, (convert 32 9 (.slice ub2 x.length uc2)).run Tryd.prog (w3.drewN k) = .ok (.string (txt (y.take x.length))) (w3.drewN k) := fun hl k => by
    have hr := rd_take (own_rdV (own_drew k HB3.out.2.2.2.2)) x.length
    have hr2 : Vf.Rd (w3.drewN k) ub2 (u8L (y.take x.length)) := by
      have e : u8L (y.take x.length) = (u8L y).take x.length := by simp [u8L, List.map_take]
      rw [e]
      exact hr
    have := conv_rd (c := uc2) hr2 (low_take HLw.out.2 _)
    rwa [List.length_take, Nat.min_eq_left (by omega)] at this
  have hd1 : (convert 32 9 (.slice ub1 x.length uc1)).run Tryd.prog w3 = .ok (.string (txt x)) w3 := conv_own HB3.out.2.2.2.1 HLw.out.1
  have hd2 : (convert 32 9 (.slice ub2 y.length uc2)).run Tryd.prog w3 = .ok (.string (txt y)) w3 := conv_own HB3.out.2.2.2.2 HLw.out.2
  obtain ⟨r, hr⟩ : ∃ r, ((txt x).toList == (txt y).toList) = r := ⟨_, rfl⟩
  have HR : Hid (r = samB p q) := by rw [← hr, str_eq HLw.out.1 HLw.out.2]; exact HSm.out
  go_upto_region 10 with fail
  clear hd1 hd2 hr
  by_cases hl : x.length < y.length
  case neg =>
    have hl2 : decide (x.length < y.length) = false := decide_eq_false hl
    have hl3 : decide ((x.length : Int) < (y.length : Int)) = false := decide_eq_false (by omega)
    clear hl hc1 hc2 hc3
    go_quiet (fail)
    clear hl2 hl3
    have HB4 : Hid (Below W.heap.size W (w3.drewN nq) ∧ (w3.drewN nq).heap[W.heap.size]? = some (.cells #[.slice qo p.gh.length qc, .slice vo p.vs.length vc, .slice tto p.ts.length tc, .slice oo p.on.length oc, .int .i64 p.miss, .slice co p.cd.length cc] 27 (0, 0)) ∧ (w3.drewN nq).heap[W.heap.size + 1]? = some (.cells #[.slice qo' q.gh.length qc', .slice vo' q.vs.length vc', .slice tto' q.ts.length tc', .slice oo' q.on.length oc', .int .i64 q.miss, .slice co' q.cd.length cc'] 27 (0, 0))) := ⟨bel_step HB3.out.1 (Nm.below_drewN _ _), HB3.out.2.1, HB3.out.2.2.1⟩
    generalize w3.drewN nq = w4 at *
    obtain ⟨c0, c1, c2, c3, c4, c5⟩ := cells6 HB4.out.2.1
    obtain ⟨d0, d1, d2, d3, d4, d5⟩ := cells6 HB4.out.2.2
    go_wp2_with fail
    refine (HS.out _ HB4.out.1).mono ?_
    rintro e w5 ⟨rfl, hb⟩
    have HB5 : Hid (Below W.heap.size W w5) := bel_step HB4.out.1 hb
    rw [← HR.out]
    clear hb HB4 c0 c1 c2 c3 c4 c5 d0 d1 d2 d3 d4 d5
    go_wp2_with fail
    go_ret
    exact ⟨rfl, HB5.out⟩
  case pos =>
    have hl3 : (x.length : Int) < (y.length : Int) := by omega
    have hl4 : (x.length : Int) ≤ (uc2 : Int) := by
      have := cap_own HB3.out.2.2.2.2 (by omega)
      omega
    have hc4 := hc3 hl
    have hf : ((txt (y.take x.length)).toList == (txt x).toList) = false := by
      rw [str_eq (low_take HLw.out.2 _) HLw.out.1]
      exact decide_eq_false (HFr.out hl)
    clear hc2 hc3
    go_quiet (fail)
    clear hl3 hl4 hf hc4 hl
    have HB4 : Hid (Below W.heap.size W (w3.drewN nq) ∧ (w3.drewN nq).heap[W.heap.size]? = some (.cells #[.slice qo p.gh.length qc, .slice vo p.vs.length vc, .slice tto p.ts.length tc, .slice oo p.on.length oc, .int .i64 p.miss, .slice co p.cd.length cc] 27 (0, 0)) ∧ (w3.drewN nq).heap[W.heap.size + 1]? = some (.cells #[.slice qo' q.gh.length qc', .slice vo' q.vs.length vc', .slice tto' q.ts.length tc', .slice oo' q.on.length oc', .int .i64 q.miss, .slice co' q.cd.length cc'] 27 (0, 0))) := ⟨bel_step HB3.out.1 (Nm.below_drewN _ _), HB3.out.2.1, HB3.out.2.2.1⟩
    generalize w3.drewN nq = w4 at *
    obtain ⟨c0, c1, c2, c3, c4, c5⟩ := cells6 HB4.out.2.1
    obtain ⟨d0, d1, d2, d3, d4, d5⟩ := cells6 HB4.out.2.2
    go_wp2_with fail
    refine (HS.out _ HB4.out.1).mono ?_
    rintro e w5 ⟨rfl, hb⟩
    have HB5 : Hid (Below W.heap.size W w5) := bel_step HB4.out.1 hb
    rw [← HR.out]
    clear hb HB4 c0 c1 c2 c3 c4 c5 d0 d1 d2 d3 d4 d5
    go_wp2_with fail
    go_ret
    exact ⟨rfl, HB5.out⟩
end Go.Proofs.YtcicifcnffacpaaDoor.Cd

set_option linter.unusedSimpArgs false
namespace Go.Proofs.YtcicifcnffacpaaDoor.Cd
open Go.RowKit Go.Lib Go.Shelf Go.Proofs.YtcicifcnffacpaaDoor.Nm Go.Proofs.YtcicifcnffacpaaDoor.Vf

set_option maxHeartbeats 2000000 in
set_option maxRecDepth 100000 in
/-- Clone of a slice that is empty and not nil -/
theorem clone_zero {P : Program} {ρ : Ren} (L : SlLaysE0.n41 P ρ) (i0 : TypeInfo) (z : Value) (size bytes : Nat) (hi : P.info? (ρ.t 23) = some i0) (hz0 : i0.zero = some z) (hz1 : i0.size = size) (hz2 : i0.bytes = bytes) (hzs : z.cells.size = size) (hsz : 0 < size)
    (z23 : ∀ w, (Go.sizeOf (ρ.t 23)).run P w = .ok size w) (ad : Addr) (c : Nat) (w : World) :
    Calls P (ρ.f 41) #[.slice (some ad) 0 c] w fun e w' => ∃ v', e = .returned v' ∧ w'.ownsRow w.heap.size (ρ.t 23) size v' 0 [] ∧ Below w.heap.size w w' := by
  have mixed := L.mixed; have t4 := L.t4; have a4 := L.a4; have z4 := L.z4; have v4 := L.v4; have t22 := L.t22; have a22 := L.a22; have z22 := L.z22; have v22 := L.v22
  have q22 : ∀ (w : World) (a : Option Addr) (n c n' c' : Nat), (binOp .eql (ρ.t 22) (.slice a n c) (.slice none n' c')).run P w = .ok (.bool a.isNone) w := fun w a n c n' c' => Lib.run_eql_slice_nil w _ _ a n c n' c' L.t22
  have u22 : ∀ w, Sem.run P (underlying (ρ.t 22)) w = .ok (TypeDesc.slice (ρ.t 23)) w := run_underlying t22
  obtain ⟨_, _, FG⟩ := L.f41
  go_enter FG, SlBodyN.n41_ntmps ρ
  go_wp2_with (at_builtin; refine wpList_append_own _ rfl _ _ (ρ.t 22) rfl w.heap.size (ρ.t 23) i0 z size bytes t22 hi hz0 hz1 hz2 hzs hsz _ _ _ rfl (World.ownsRow_made w #[] 0 (Nat.le_refl _) (Nat.zero_le _) (by simp)) ad 0 c [] rfl ?qc1 ?qc2 ?qc3 ?qc4 ?qc5 ?qc6 ?_)
  case qc1 => simp
  case qc2 => exact fun j u hj => by simp at hj
  case qc3 => exact fun u hu => by cases hu
  case qc4 => exact Nat.zero_le _
  case qc5 => simp
  case qc6 => simp
  intro v' w1 hown hgrow hnil
  go_wp2
  go_ret
  exact ⟨v', rfl, by simpa using hown, ((Below.refl _ w).alloc (Nat.le_refl _) _).grown hgrow (by simp) (by intro k hk; simp [Value.ownBlock] at hk; omega)⟩
/-- Clone of whatever can be read -/
theorem clone_rd {P : Program} {ρ : Ren} (L : SlLaysE0.n41 P ρ) (i0 : TypeInfo) (z : Value) (size bytes : Nat) (hi : P.info? (ρ.t 23) = some i0) (hz0 : i0.zero = some z) (hz1 : i0.size = size) (hz2 : i0.bytes = bytes) (hzs : z.cells.size = size) (hsz : 0 < size)
    (z23 : ∀ w, (Go.sizeOf (ρ.t 23)).run P w = .ok size w) (ao : Option Addr) (n c : Nat) (news : List Value) (w : World) (hl : news.length = n * size) (hn : n ≤ maxLen) (hbig : n * bytes ≤ 140737488355328) (hr : Vf.Rd w ao news) (h1 : ∀ u ∈ news, u.oneCell' = true) :
    Calls P (ρ.f 41) #[.slice ao n c] w fun e w' => ∃ v', e = .returned v' ∧ w'.ownsRow w.heap.size (ρ.t 23) size v' n news ∧ Below w.heap.size w w' := by
  cases hnw : news with
  | nil =>
    subst hnw
    have hn0 : n = 0 := by
      rcases Nat.eq_zero_or_pos n with h | h
      · exact h
      · have := Nat.mul_pos h hsz
        simp at hl
        omega
    subst hn0
    cases ao with
    | none =>
      refine (AnyE.slices_Clone_nil L 0 c w).mono ?_
      rintro e w' ⟨rfl, rfl⟩
      exact ⟨_, rfl, World.ownsRow_nil _ _ _ _, Below.refl _ _⟩
    | some ad => exact clone_zero L i0 z size bytes hi hz0 hz1 hz2 hzs hsz z23 ad c w
  | cons x xs =>
    obtain ⟨g, f, rfl, -, -⟩ := hr 0 x (by rw [hnw]; rfl)
    rw [← hnw]
    refine (AnyE.slices_Clone L i0 z size bytes hi hz0 hz1 hz2 hzs hsz z23 g f n c news w hl hn hbig (fun j u hj => ?_) h1).mono ?_
    · obtain ⟨g', f', e, -, hc⟩ := hr j u hj
      cases e
      exact hc
    · rintro e w' ⟨v', h1, h2, -, h3⟩
      exact ⟨v', h1, h2, h3⟩
def renBo : Go.Shelf.Ren := ⟨fun | 41 => 55 | n => n, fun | 22 => 22 | 23 => 4 | 4 => 4 | n => n, fun | n => n⟩
theorem layBo : Go.Proofs.SlLaysE0.n41 Tryd.prog renBo where
  mixed := by kernel_rfl
  f41 := ⟨Tryd.f55.name, by decide, Tryd.func55.trans (congrArg some (by kernel_rfl))⟩
  t4 := Tryd.underlying4
  a4 := Tryd.isAgg4
  z4 := Tryd.sizeOf4
  v4 := Tryd.zeroValue4
  t22 := Tryd.underlying22
  a22 := Tryd.isAgg22
  z22 := Tryd.sizeOf22
  v22 := Tryd.zeroValue22
theorem infBo : (Tryd.prog.info? 4).map (fun i => (i.zero, i.size, i.bytes)) = some (some (.bool false), 1, 1) := by kernel_rfl
theorem cloneBo (ao : Option Addr) (n c : Nat) (news : List Value) (w : World) (hl : news.length = n * 1) (hbig : n * 1 ≤ 140737488355328) (hr : Vf.Rd w ao news) (h1 : ∀ u ∈ news, u.oneCell' = true) :
    Calls Tryd.prog 55 #[.slice ao n c] w fun e w' => ∃ v', e = .returned v' ∧ w'.ownsRow w.heap.size 4 1 v' n news ∧ Below w.heap.size w w' := by
  obtain ⟨j0, hj, hj0, hj1, hj2⟩ := info_parts infBo
  exact clone_rd layBo j0 _ 1 1 hj hj0 hj1 hj2 rfl (by decide) Tryd.sizeOf4 ao n c news w hl (by unfold maxLen; omega) hbig hr h1
def renVa : Go.Shelf.Ren := ⟨fun | 41 => 56 | n => n, fun | 22 => 23 | 23 => 77 | 4 => 4 | n => n, fun | n => n⟩
theorem layVa : Go.Proofs.SlLaysE0.n41 Tryd.prog renVa where
  mixed := by kernel_rfl
  f41 := ⟨Tryd.f56.name, by decide, Tryd.func56.trans (congrArg some (by kernel_rfl))⟩
  t4 := Tryd.underlying4
  a4 := Tryd.isAgg4
  z4 := Tryd.sizeOf4
  v4 := Tryd.zeroValue4
  t22 := Tryd.underlying23
  a22 := Tryd.isAgg23
  z22 := Tryd.sizeOf23
  v22 := Tryd.zeroValue23
theorem infVa : (Tryd.prog.info? 77).map (fun i => (i.zero, i.size, i.bytes)) = some (some (.agg #[.int .i64 0, .int .i64 0, .int .i64 0]), 3, 24) := by kernel_rfl
theorem cloneVa (ao : Option Addr) (n c : Nat) (news : List Value) (w : World) (hl : news.length = n * 3) (hbig : n * 24 ≤ 140737488355328) (hr : Vf.Rd w ao news) (h1 : ∀ u ∈ news, u.oneCell' = true) :
    Calls Tryd.prog 56 #[.slice ao n c] w fun e w' => ∃ v', e = .returned v' ∧ w'.ownsRow w.heap.size 77 3 v' n news ∧ Below w.heap.size w w' := by
  obtain ⟨j0, hj, hj0, hj1, hj2⟩ := info_parts infVa
  exact clone_rd layVa j0 _ 3 24 hj hj0 hj1 hj2 rfl (by decide) Tryd.sizeOf77 ao n c news w hl (by unfold maxLen; omega) hbig hr h1
def renIt : Go.Shelf.Ren := ⟨fun | 41 => 57 | n => n, fun | 22 => 24 | 23 => 3 | 4 => 4 | n => n, fun | n => n⟩
theorem layIt : Go.Proofs.SlLaysE0.n41 Tryd.prog renIt where
  mixed := by kernel_rfl
  f41 := ⟨Tryd.f57.name, by decide, Tryd.func57.trans (congrArg some (by kernel_rfl))⟩
  t4 := Tryd.underlying4
  a4 := Tryd.isAgg4
  z4 := Tryd.sizeOf4
  v4 := Tryd.zeroValue4
  t22 := Tryd.underlying24
  a22 := Tryd.isAgg24
  z22 := Tryd.sizeOf24
  v22 := Tryd.zeroValue24
theorem infIt : (Tryd.prog.info? 3).map (fun i => (i.zero, i.size, i.bytes)) = some (some (.int .i64 0), 1, 8) := by kernel_rfl
theorem cloneIt (ao : Option Addr) (n c : Nat) (news : List Value) (w : World) (hl : news.length = n * 1) (hbig : n * 8 ≤ 140737488355328) (hr : Vf.Rd w ao news) (h1 : ∀ u ∈ news, u.oneCell' = true) :
    Calls Tryd.prog 57 #[.slice ao n c] w fun e w' => ∃ v', e = .returned v' ∧ w'.ownsRow w.heap.size 3 1 v' n news ∧ Below w.heap.size w w' := by
  obtain ⟨j0, hj, hj0, hj1, hj2⟩ := info_parts infIt
  exact clone_rd layIt j0 _ 1 8 hj hj0 hj1 hj2 rfl (by decide) Tryd.sizeOf3 ao n c news w hl (by unfold maxLen; omega) hbig hr h1
def renIn : Go.Shelf.Ren := ⟨fun | 41 => 58 | n => n, fun | 22 => 25 | 23 => 53 | 4 => 4 | n => n, fun | n => n⟩
theorem layIn : Go.Proofs.SlLaysE0.n41 Tryd.prog renIn where
  mixed := by kernel_rfl
  f41 := ⟨Tryd.f58.name, by decide, Tryd.func58.trans (congrArg some (by kernel_rfl))⟩
  t4 := Tryd.underlying4
  a4 := Tryd.isAgg4
  z4 := Tryd.sizeOf4
  v4 := Tryd.zeroValue4
  t22 := Tryd.underlying25
  a22 := Tryd.isAgg25
  z22 := Tryd.sizeOf25
  v22 := Tryd.zeroValue25
theorem infIn : (Tryd.prog.info? 53).map (fun i => (i.zero, i.size, i.bytes)) = some (some (.agg #[.int .i64 0, .int .i64 0, .int .i64 0, .int .i64 0, .int .i64 0]), 5, 40) := by kernel_rfl
theorem cloneIn (ao : Option Addr) (n c : Nat) (news : List Value) (w : World) (hl : news.length = n * 5) (hbig : n * 40 ≤ 140737488355328) (hr : Vf.Rd w ao news) (h1 : ∀ u ∈ news, u.oneCell' = true) :
    Calls Tryd.prog 58 #[.slice ao n c] w fun e w' => ∃ v', e = .returned v' ∧ w'.ownsRow w.heap.size 53 5 v' n news ∧ Below w.heap.size w w' := by
  obtain ⟨j0, hj, hj0, hj1, hj2⟩ := info_parts infIn
  exact clone_rd layIn j0 _ 5 40 hj hj0 hj1 hj2 rfl (by decide) Tryd.sizeOf53 ao n c news w hl (by unfold maxLen; omega) hbig hr h1
end Go.Proofs.YtcicifcnffacpaaDoor.Cd

set_option linter.unusedSimpArgs false
namespace Go.Proofs.YtcicifcnffacpaaDoor.Cd
open Go.RowKit Go.Proofs.YtcicifcnffacpaaDoor.Nm Go.Proofs.YtcicifcnffacpaaDoor.Vf

theorem one_bC (l : List Bool) : ∀ u ∈ bC l, u.oneCell' = true := fun u hu => by
  obtain ⟨x, -, rfl⟩ := List.mem_map.1 hu
  rfl
theorem one_iC (l : List Int) : ∀ u ∈ iC l, u.oneCell' = true := fun u hu => by
  obtain ⟨x, -, rfl⟩ := List.mem_map.1 hu
  rfl
theorem one_vC (l : List (Int × Int × Int)) : ∀ u ∈ vC l, u.oneCell' = true := fun u hu => by
  obtain ⟨x, -, hx⟩ := List.mem_flatMap.1 hu
  simp only [List.mem_cons, List.not_mem_nil, or_false] at hx
  rcases hx with rfl | rfl | rfl <;> rfl
theorem one_cC (l : List Ins) : ∀ u ∈ Vf.cC l, u.oneCell' = true := fun u hu => by
  obtain ⟨x, -, hx⟩ := List.mem_flatMap.1 hu
  simp only [List.mem_cons, List.not_mem_nil, or_false] at hx
  rcases hx with rfl | rfl | rfl | rfl | rfl <;> rfl
theorem len_bC (l : List Bool) : (bC l).length = l.length * 1 := by simp [bC]
theorem len_iC (l : List Int) : (iC l).length = l.length * 1 := by simp [iC]
theorem len_vC (l : List (Int × Int × Int)) : (vC l).length = l.length * 3 := by
  unfold vC
  induction l with
  | nil => rfl
  | cons x l ih =>
    rw [List.flatMap_cons, List.length_append, ih]
    simp only [List.length_cons, List.length_nil]
    omega
theorem len_cC (l : List Ins) : (Vf.cC l).length = l.length * 5 := by
  unfold Vf.cC
  induction l with
  | nil => rfl
  | cons x l ih =>
    rw [List.flatMap_cons, List.length_append, ih]
    simp only [List.length_cons, List.length_nil]
    omega
/-- a list more -/
theorem Ows.next {w w' : World} {pb : Nat} {L : List Ent} {T : TypeId} {sz n : Nat} {v : Value} {xs : List Value} (h : Ows w pb L) (hb : Below w.heap.size w w') (ho : w'.ownsRow w.heap.size T sz v n xs) (hp : pb < w.heap.size) : Ows w' pb (L ++ [⟨w.heap.size, T, sz, v, n, xs⟩]) := by
  have h1 : Ows w' pb L := h.keep fun k _ h2 => hb.block k h2
  refine ⟨fun x hx => ?_, ?_⟩
  · rcases List.mem_append.1 hx with hx | hx
    · exact h1.ow x hx
    · obtain rfl : x = ⟨w.heap.size, T, sz, v, n, xs⟩ := by simpa using hx
      exact ⟨hp, ho⟩
  · rw [List.pairwise_append]
    refine ⟨h.ap, by simp, fun x hx y hy k e e2 => ?_⟩
    obtain rfl : y = ⟨w.heap.size, T, sz, v, n, xs⟩ := by simpa using hy
    have q1 := (World.ownsRow.lt (h.ow x hx).2 k e).2
    have q2 := (World.ownsRow.lt ho k e2).1
    omega
theorem ows_nil (w : World) (pb : Nat) : Ows w pb [] := ⟨fun x hx => absurd hx (by simp), List.Pairwise.nil⟩
/-- a row of another type in its own block turns, and no list does -/
theorem Ows.keepR {w : World} {pb g : Nat} {L : List Ent} {old cs : Array Value} (h : Ows w pb L) (hg : w.heap[g]? = some (.cells old 27 (0, 0))) (hT : ∀ x ∈ L, x.T ≠ 27 := by simp [en1, en2, en3, en5]) : Ows (w.setRow g cs) pb L := by
  refine ⟨fun x hx => ⟨(h.ow x hx).1, own_keepB (h.ow x hx).2 fun k hk => setRow_other w g k cs fun e => ?_⟩, h.ap⟩
  subst e
  rcases (h.ow x hx).2.2 with ⟨e1, _⟩ | ⟨g', cap, cur, e1, _, e4, _⟩
  · rw [e1] at hk
    cases hk
  · rw [e1] at hk
    cases hk
    rw [hg] at e4
    have e5 := Option.some.inj e4
    injection e5 with _ e6 _
    exact hT x hx e6.symm
theorem step_store {P : Program} {w : World} {ops : Array Oper} {o : Oper} {a : Act} {K : Act → World → Prop} {Q : Exit → Act → World → Prop} {E : Prop} (hgd : o.guard = none) (ty : TypeId) (x y : Operand) (ho : o.op = .store ty x y)
    (g : Nat) (cells : Array Value) (hx : a.eval x = .pointer (some ⟨g, 0, none⟩)) (hy : a.eval y = .agg cells)
    (t : TypeId) (old : Array Value) (hg : w.heap[g]? = some (.cells old t (0, 0))) (hi : (P.info? ty).map (·.size) = some cells.size)
    (hold : old.size = cells.size) (h1 : cells.all (·.oneCell') = true)
    (h : K (a.put o.dst undef) (w.setRow g cells)) : if Region.wanted o (yielded ops a.tmps) = true then Oper.wp P o a w K Q else E := by
  have hw : Region.wanted o (yielded ops a.tmps) = true := by simp [Region.wanted, hgd]
  rw [if_pos hw]
  exact wp_store_row ty x y ho g cells hx hy t old hg hi hold h1 h
theorem stA {P : Program} {md : Region.Mode} {ops : Array Oper} {Q : Exit → Act → World → Prop} {S : World → Prop} (i : Nat) {oi : Oper} {fuel : Nat} {listed : Array Bool} {a : Act} {w : World} (hr : Region.ready md ops listed = [i]) (hi : ops[i]? = some oi)
    (hgd : oi.guard = none) (ty : TypeId) (x y : Operand) (ho : oi.op = .store ty x y)
    (g : Nat) (cells : Array Value) (hx : a.eval x = .pointer (some ⟨g, 0, none⟩)) (hy : a.eval y = .agg cells)
    (t : TypeId) (old : Array Value) (hg : w.heap[g]? = some (.cells old t (0, 0))) (hif : (P.info? ty).map (·.size) = some cells.size)
    (hold : old.size = cells.size) (h1 : cells.all (·.oneCell') = true) (hS : S (w.setRow g cells))
    (h : S (w.setRow g cells) → wpAnyH P md ops Q S fuel (listed.setIfInBounds i true) (a.put oi.dst undef) (w.setRow g cells)) : wpAnyH P md ops Q S (fuel + 1) listed a w :=
  wpAnyH_ready hr (by simp) (AllReadyH.cons hi (fun K hK => step_store hgd ty x y ho g cells hx hy t old hg hif hold h1 (hK.out _ _ hS h)) AllReadyH.nil)
/-- what a program's lists weigh -/
def Wgh (p : Pg) : Prop := p.gh.length ≤ 140737488351232 ∧ p.vs.length * 24 ≤ 140737488351232 ∧ p.ts.length * 8 ≤ 140737488351232 ∧ p.on.length * 8 ≤ 140737488351232 ∧ p.cd.length * 40 ≤ 140737488351232
set_option maxHeartbeats 12800000 in
set_option maxRecDepth 100000 in
/-- Twin -/
theorem twin_any (v : PV) (p : Pg) (W : World) (hP : IsPg W v p) (hW : Wgh p) : Calls Tryd.prog 24 #[.agg (pvC v p)] W fun e W' => ∃ u : PV, e = .returned (.agg (pvC u p)) ∧ Own5 W' W.heap.size p (.slice u.qo p.gh.length u.qc) (.slice u.vo p.vs.length u.vc) (.slice u.to p.ts.length u.tc) (.slice u.oo p.on.length u.oc) (.slice u.co p.cd.length u.cc) ∧ Below W.heap.size W W' := by
  obtain ⟨qo, qc, vo, vc, tto, tc, oo, oc, co, cc⟩ := v
  have HPg : Hid (IsPg W ⟨qo, qc, vo, vc, tto, tc, oo, oc, co, cc⟩ p ∧ Wgh p) := ⟨hP, hW⟩
  clear hP hW
  show Calls _ _ #[.agg #[.slice qo p.gh.length qc, .slice vo p.vs.length vc, .slice tto p.ts.length tc, .slice oo p.on.length oc, .int .i64 p.miss, .slice co p.cd.length cc]] _ _
  have H0 := show Hid _ from two_prg W #[.slice qo p.gh.length qc, .slice vo p.vs.length vc, .slice tto p.ts.length tc, .slice oo p.on.length oc, .int .i64 p.miss, .slice co p.cd.length cc] #[.slice none 0 0, .slice none 0 0, .slice none 0 0, .slice none 0 0, .int .i64 0, .slice none 0 0]
  go_enter Tryd.func24, Tryd.ntmps24
  go_upto_region 1 with fail
  generalize ((W.alloc (.cells #[.slice qo p.gh.length qc, .slice vo p.vs.length vc, .slice tto p.ts.length tc, .slice oo p.on.length oc, .int .i64 p.miss, .slice co p.cd.length cc] 27)).alloc (.cells #[.slice none 0 0, .slice none 0 0, .slice none 0 0, .slice none 0 0, .int .i64 0, .slice none 0 0] 27)) = w0 at *
  have HX : Hid (∀ X, Below W.heap.size W X → X.heap[W.heap.size]? = some (.cells #[.slice qo p.gh.length qc, .slice vo p.vs.length vc, .slice tto p.ts.length tc, .slice oo p.on.length oc, .int .i64 p.miss, .slice co p.cd.length cc] 27 (0, 0)) → (fun w' : World => w'.cell? ⟨W.heap.size, 0, none⟩ = some (.slice qo p.gh.length qc) ∧ w'.cell? ⟨W.heap.size, 1, none⟩ = some (.slice vo p.vs.length vc) ∧ w'.cell? ⟨W.heap.size, 2, none⟩ = some (.slice tto p.ts.length tc) ∧ w'.cell? ⟨W.heap.size, 3, none⟩ = some (.slice oo p.on.length oc) ∧ w'.cell? ⟨W.heap.size, 4, none⟩ = some (.int .i64 p.miss) ∧ w'.cell? ⟨W.heap.size, 5, none⟩ = some (.slice co p.cd.length cc)) X) := fun X hX hb => cells6 hb
  refine wp_region_held (S := fun w' : World => w'.cell? ⟨W.heap.size, 0, none⟩ = some (.slice qo p.gh.length qc) ∧ w'.cell? ⟨W.heap.size, 1, none⟩ = some (.slice vo p.vs.length vc) ∧ w'.cell? ⟨W.heap.size, 2, none⟩ = some (.slice tto p.ts.length tc) ∧ w'.cell? ⟨W.heap.size, 3, none⟩ = some (.slice oo p.on.length oc) ∧ w'.cell? ⟨W.heap.size, 4, none⟩ = some (.int .i64 p.miss) ∧ w'.cell? ⟨W.heap.size, 5, none⟩ = some (.slice co p.cd.length cc)) (by kernel_rfl) ?_
  change wpAnyH _ _ _ _ _ _ _ _ w0.drew
  have H1 : Hid (Below W.heap.size W w0.drew ∧ w0.drew.heap[W.heap.size]? = some (.cells #[.slice qo p.gh.length qc, .slice vo p.vs.length vc, .slice tto p.ts.length tc, .slice oo p.on.length oc, .int .i64 p.miss, .slice co p.cd.length cc] 27 (0, 0)) ∧ w0.drew.heap[W.heap.size + 1]? = some (.cells #[.slice none 0 0, .slice none 0 0, .slice none 0 0, .slice none 0 0, .int .i64 0, .slice none 0 0] 27 (0, 0)) ∧ Ows w0.drew W.heap.size []) := ⟨H0.out.1.drew, H0.out.2.1, H0.out.2.2, ows_nil _ _⟩
  have hS := HX.out w0.drew H1.out.1 H1.out.2.1
  clear H0
  generalize w0.drew = w1 at *
  refine tqA 0 rfl hS ?_
  refine tqA 1 rfl hS ?_
  refine tqA 3 rfl hS ?_
  refine tqA 4 rfl hS ?_
  refine tqA 6 rfl hS ?_
  refine tqA 7 rfl hS ?_
  refine tqA 9 rfl hS ?_
  refine tqA 10 rfl hS ?_
  refine tqA 12 rfl hS ?_
  refine tqA 13 rfl hS ?_
  refine tqA 14 rfl hS ?_
  refine tqA 15 rfl hS ?_
  refine wpAnyH_ready (rs := [2]) (by kernel_rfl) (by simp) ?_
  refine AllReadyH.cons rfl (fun K hK => ?_) AllReadyH.nil
  go_simp
  have HC0 : Hid (Calls Tryd.prog 55 #[.slice qo p.gh.length qc] w1 fun e w' => ∃ v', e = .returned v' ∧ w'.ownsRow w1.heap.size 4 1 v' p.gh.length (bC p.gh) ∧ Below w1.heap.size w1 w') := cloneBo _ _ _ _ _ (len_bC _) (by have := HPg.out.2.1; omega) (HPg.out.1.gh.below H1.out.1) (one_bC _)
  refine Calls.mono HC0.out ?_
  rintro e w2 ⟨u0, rfl, ho, hb⟩
  have H2 : Hid (Below W.heap.size W w2 ∧ w2.heap[W.heap.size]? = some (.cells #[.slice qo p.gh.length qc, .slice vo p.vs.length vc, .slice tto p.ts.length tc, .slice oo p.on.length oc, .int .i64 p.miss, .slice co p.cd.length cc] 27 (0, 0)) ∧ w2.heap[W.heap.size + 1]? = some (.cells #[.slice none 0 0, .slice none 0 0, .slice none 0 0, .slice none 0 0, .int .i64 0, .slice none 0 0] 27 (0, 0)) ∧ Ows w2 W.heap.size [en1 w1.heap.size u0 p.gh]) := by
    obtain ⟨q1, q2, q3, q4⟩ := H1.out
    exact ⟨q1.trans (hb.mono q1.size), (hb.block _ (blk_lt q2)).trans q2, (hb.block _ (blk_lt q3)).trans q3, Ows.next q4 hb ho (blk_lt q2)⟩
  obtain ⟨x0, y0, z0⟩ := own_form ho
  subst z0
  refine hK.out _ _ (HX.out _ H2.out.1 H2.out.2.1) (fun hS => ?_)
  clear hK K ho hb HC0 H1
  refine wpAnyH_ready (rs := [5]) (by kernel_rfl) (by simp) ?_
  refine AllReadyH.cons rfl (fun K hK => ?_) AllReadyH.nil
  go_simp
  have HC1 : Hid (Calls Tryd.prog 56 #[.slice vo p.vs.length vc] w2 fun e w' => ∃ v', e = .returned v' ∧ w'.ownsRow w2.heap.size 77 3 v' p.vs.length (vC p.vs) ∧ Below w2.heap.size w2 w') := cloneVa _ _ _ _ _ (len_vC _) (by have := HPg.out.2.2.1; omega) (HPg.out.1.vs.below H2.out.1) (one_vC _)
  refine Calls.mono HC1.out ?_
  rintro e w3 ⟨u1, rfl, ho, hb⟩
  have H3 : Hid (Below W.heap.size W w3 ∧ w3.heap[W.heap.size]? = some (.cells #[.slice qo p.gh.length qc, .slice vo p.vs.length vc, .slice tto p.ts.length tc, .slice oo p.on.length oc, .int .i64 p.miss, .slice co p.cd.length cc] 27 (0, 0)) ∧ w3.heap[W.heap.size + 1]? = some (.cells #[.slice none 0 0, .slice none 0 0, .slice none 0 0, .slice none 0 0, .int .i64 0, .slice none 0 0] 27 (0, 0)) ∧ Ows w3 W.heap.size [en1 w1.heap.size (.slice x0 p.gh.length y0) p.gh, en2 w2.heap.size u1 p.vs]) := by
    obtain ⟨q1, q2, q3, q4⟩ := H2.out
    exact ⟨q1.trans (hb.mono q1.size), (hb.block _ (blk_lt q2)).trans q2, (hb.block _ (blk_lt q3)).trans q3, Ows.next q4 hb ho (blk_lt q2)⟩
  obtain ⟨x1, y1, z1⟩ := own_form ho
  subst z1
  refine hK.out _ _ (HX.out _ H3.out.1 H3.out.2.1) (fun hS => ?_)
  clear hK K ho hb HC1 H2
  refine wpAnyH_ready (rs := [8]) (by kernel_rfl) (by simp) ?_
  refine AllReadyH.cons rfl (fun K hK => ?_) AllReadyH.nil
  go_simp
  have HC2 : Hid (Calls Tryd.prog 57 #[.slice tto p.ts.length tc] w3 fun e w' => ∃ v', e = .returned v' ∧ w'.ownsRow w3.heap.size 3 1 v' p.ts.length (iC p.ts) ∧ Below w3.heap.size w3 w') := cloneIt _ _ _ _ _ (len_iC _) (by have := HPg.out.2.2.2.1; omega) (HPg.out.1.ts.below H3.out.1) (one_iC _)
  refine Calls.mono HC2.out ?_
  rintro e w4 ⟨u2, rfl, ho, hb⟩
  have H4 : Hid (Below W.heap.size W w4 ∧ w4.heap[W.heap.size]? = some (.cells #[.slice qo p.gh.length qc, .slice vo p.vs.length vc, .slice tto p.ts.length tc, .slice oo p.on.length oc, .int .i64 p.miss, .slice co p.cd.length cc] 27 (0, 0)) ∧ w4.heap[W.heap.size + 1]? = some (.cells #[.slice none 0 0, .slice none 0 0, .slice none 0 0, .slice none 0 0, .int .i64 0, .slice none 0 0] 27 (0, 0)) ∧ Ows w4 W.heap.size [en1 w1.heap.size (.slice x0 p.gh.length y0) p.gh, en2 w2.heap.size (.slice x1 p.vs.length y1) p.vs, en3 w3.heap.size u2 p.ts]) := by
    obtain ⟨q1, q2, q3, q4⟩ := H3.out
    exact ⟨q1.trans (hb.mono q1.size), (hb.block _ (blk_lt q2)).trans q2, (hb.block _ (blk_lt q3)).trans q3, Ows.next q4 hb ho (blk_lt q2)⟩
  obtain ⟨x2, y2, z2⟩ := own_form ho
  subst z2
  refine hK.out _ _ (HX.out _ H4.out.1 H4.out.2.1) (fun hS => ?_)
  clear hK K ho hb HC2 H3
  refine wpAnyH_ready (rs := [11]) (by kernel_rfl) (by simp) ?_
  refine AllReadyH.cons rfl (fun K hK => ?_) AllReadyH.nil
  go_simp
  have HC3 : Hid (Calls Tryd.prog 57 #[.slice oo p.on.length oc] w4 fun e w' => ∃ v', e = .returned v' ∧ w'.ownsRow w4.heap.size 3 1 v' p.on.length (iC p.on) ∧ Below w4.heap.size w4 w') := cloneIt _ _ _ _ _ (len_iC _) (by have := HPg.out.2.2.2.2.1; omega) (HPg.out.1.on.below H4.out.1) (one_iC _)
  refine Calls.mono HC3.out ?_
  rintro e w5 ⟨u3, rfl, ho, hb⟩
  have H5 : Hid (Below W.heap.size W w5 ∧ w5.heap[W.heap.size]? = some (.cells #[.slice qo p.gh.length qc, .slice vo p.vs.length vc, .slice tto p.ts.length tc, .slice oo p.on.length oc, .int .i64 p.miss, .slice co p.cd.length cc] 27 (0, 0)) ∧ w5.heap[W.heap.size + 1]? = some (.cells #[.slice none 0 0, .slice none 0 0, .slice none 0 0, .slice none 0 0, .int .i64 0, .slice none 0 0] 27 (0, 0)) ∧ Ows w5 W.heap.size [en1 w1.heap.size (.slice x0 p.gh.length y0) p.gh, en2 w2.heap.size (.slice x1 p.vs.length y1) p.vs, en3 w3.heap.size (.slice x2 p.ts.length y2) p.ts, en3 w4.heap.size u3 p.on]) := by
    obtain ⟨q1, q2, q3, q4⟩ := H4.out
    exact ⟨q1.trans (hb.mono q1.size), (hb.block _ (blk_lt q2)).trans q2, (hb.block _ (blk_lt q3)).trans q3, Ows.next q4 hb ho (blk_lt q2)⟩
  obtain ⟨x3, y3, z3⟩ := own_form ho
  subst z3
  refine hK.out _ _ (HX.out _ H5.out.1 H5.out.2.1) (fun hS => ?_)
  clear hK K ho hb HC3 H4
  refine wpAnyH_ready (rs := [16]) (by kernel_rfl) (by simp) ?_
  refine AllReadyH.cons rfl (fun K hK => ?_) AllReadyH.nil
  go_simp
  have HC4 : Hid (Calls Tryd.prog 58 #[.slice co p.cd.length cc] w5 fun e w' => ∃ v', e = .returned v' ∧ w'.ownsRow w5.heap.size 53 5 v' p.cd.length (Vf.cC p.cd) ∧ Below w5.heap.size w5 w') := cloneIn _ _ _ _ _ (len_cC _) (by have := HPg.out.2.2.2.2.2; omega) (HPg.out.1.cd.below H5.out.1) (one_cC _)
  refine Calls.mono HC4.out ?_
  rintro e w6 ⟨u4, rfl, ho, hb⟩
  have H6 : Hid (Below W.heap.size W w6 ∧ w6.heap[W.heap.size]? = some (.cells #[.slice qo p.gh.length qc, .slice vo p.vs.length vc, .slice tto p.ts.length tc, .slice oo p.on.length oc, .int .i64 p.miss, .slice co p.cd.length cc] 27 (0, 0)) ∧ w6.heap[W.heap.size + 1]? = some (.cells #[.slice none 0 0, .slice none 0 0, .slice none 0 0, .slice none 0 0, .int .i64 0, .slice none 0 0] 27 (0, 0)) ∧ Ows w6 W.heap.size [en1 w1.heap.size (.slice x0 p.gh.length y0) p.gh, en2 w2.heap.size (.slice x1 p.vs.length y1) p.vs, en3 w3.heap.size (.slice x2 p.ts.length y2) p.ts, en3 w4.heap.size (.slice x3 p.on.length y3) p.on, en5 w5.heap.size u4 p.cd]) := by
    obtain ⟨q1, q2, q3, q4⟩ := H5.out
    exact ⟨q1.trans (hb.mono q1.size), (hb.block _ (blk_lt q2)).trans q2, (hb.block _ (blk_lt q3)).trans q3, Ows.next q4 hb ho (blk_lt q2)⟩
  obtain ⟨x4, y4, z4⟩ := own_form ho
  subst z4
  refine hK.out _ _ (HX.out _ H6.out.1 H6.out.2.1) (fun hS => ?_)
  clear hK K ho hb HC4 H5
  refine tqA 17 rfl hS ?_
  have HS6 : Hid ((fun w' : World => w'.cell? ⟨W.heap.size, 0, none⟩ = some (.slice qo p.gh.length qc) ∧ w'.cell? ⟨W.heap.size, 1, none⟩ = some (.slice vo p.vs.length vc) ∧ w'.cell? ⟨W.heap.size, 2, none⟩ = some (.slice tto p.ts.length tc) ∧ w'.cell? ⟨W.heap.size, 3, none⟩ = some (.slice oo p.on.length oc) ∧ w'.cell? ⟨W.heap.size, 4, none⟩ = some (.int .i64 p.miss) ∧ w'.cell? ⟨W.heap.size, 5, none⟩ = some (.slice co p.cd.length cc)) (w6.setRow (W.heap.size + 1) #[.slice x0 p.gh.length y0, .slice x1 p.vs.length y1, .slice x2 p.ts.length y2, .slice x3 p.on.length y3, .int .i64 p.miss, .slice x4 p.cd.length y4])) := HX.out _ (Cd.below_setRow H6.out.1 (by omega)) ((setRow_other w6 (W.heap.size + 1) W.heap.size _ (by omega)).trans H6.out.2.1)
  refine stA 18 (by kernel_rfl) rfl rfl 27 (.tmp 2) (.tmp 20) rfl (W.heap.size + 1) #[.slice x0 p.gh.length y0, .slice x1 p.vs.length y1, .slice x2 p.ts.length y2, .slice x3 p.on.length y3, .int .i64 p.miss, .slice x4 p.cd.length y4] (by go_simp) (by go_simp) 27 _ H6.out.2.2.1 (by kernel_rfl) rfl (by kernel_rfl) HS6.out (fun hS => ?_)
  have H7 : Hid (Below W.heap.size W (w6.setRow (W.heap.size + 1) #[.slice x0 p.gh.length y0, .slice x1 p.vs.length y1, .slice x2 p.ts.length y2, .slice x3 p.on.length y3, .int .i64 p.miss, .slice x4 p.cd.length y4]) ∧ (w6.setRow (W.heap.size + 1) #[.slice x0 p.gh.length y0, .slice x1 p.vs.length y1, .slice x2 p.ts.length y2, .slice x3 p.on.length y3, .int .i64 p.miss, .slice x4 p.cd.length y4]).heap[W.heap.size + 1]? = some (.cells #[.slice x0 p.gh.length y0, .slice x1 p.vs.length y1, .slice x2 p.ts.length y2, .slice x3 p.on.length y3, .int .i64 p.miss, .slice x4 p.cd.length y4] 27 (0, 0)) ∧ Own5 (w6.setRow (W.heap.size + 1) #[.slice x0 p.gh.length y0, .slice x1 p.vs.length y1, .slice x2 p.ts.length y2, .slice x3 p.on.length y3, .int .i64 p.miss, .slice x4 p.cd.length y4]) W.heap.size p (.slice x0 p.gh.length y0) (.slice x1 p.vs.length y1) (.slice x2 p.ts.length y2) (.slice x3 p.on.length y3) (.slice x4 p.cd.length y4)) := by
    obtain ⟨q1, q2, q3, q4⟩ := H6.out
    refine ⟨Cd.below_setRow q1 (by omega), setRow_heap _ _ _ _ _ _ q3, ⟨_, _, _, _, _, q4.keepR q3⟩⟩
  clear HS6 H6 HX
  generalize w6.setRow (W.heap.size + 1) #[.slice x0 p.gh.length y0, .slice x1 p.vs.length y1, .slice x2 p.ts.length y2, .slice x3 p.on.length y3, .int .i64 p.miss, .slice x4 p.cd.length y4] = w7 at *
  refine wpAnyH_done (by kernel_rfl) ?_ _
  clear hS
  go_simp
  obtain ⟨d0, d1, d2, d3, d4, d5⟩ := cells6 H7.out.2.1
  go_wp2_with fail
  refine bodyPost_ret (v := .agg #[.slice x0 p.gh.length y0, .slice x1 p.vs.length y1, .slice x2 p.ts.length y2, .slice x3 p.on.length y3, .int .i64 p.miss, .slice x4 p.cd.length y4]) (by simp [results, Tryd.results24, go_sem, d0, d1, d2, d3, d4, d5]) rfl ?_
  exact ⟨⟨x0, y0, x1, y1, x2, y2, x3, y3, x4, y4⟩, rfl, H7.out.2.2, H7.out.1⟩
end Go.Proofs.YtcicifcnffacpaaDoor.Cd

set_option linter.unusedSimpArgs false
namespace Go.Proofs.YtcicifcnffacpaaDoor.Cd
open Go.RowKit Go.Proofs.YtcicifcnffacpaaDoor.Nm Go.Proofs.YtcicifcnffacpaaDoor.Vf

/-- a program that was told can be read -/
theorem own5_is {w : World} {n : Nat} {p : Pg} {u : PV} (h : Own5 w n p (.slice u.qo p.gh.length u.qc) (.slice u.vo p.vs.length u.vc) (.slice u.to p.ts.length u.tc) (.slice u.oo p.on.length u.oc) (.slice u.co p.cd.length u.cc)) (hl : p.gh.length ≤ 1000000000000000 ∧ p.vs.length ≤ 1000000000000000 ∧ p.ts.length ≤ 1000000000000000 ∧ p.on.length ≤ 1000000000000000 ∧ p.cd.length ≤ 1000000000000000) : IsPg w u p := by
  obtain ⟨n1, n2, n3, n4, n5, h⟩ := h.ex
  exact ⟨own_rdV (h.ow (en1 n1 (.slice u.qo p.gh.length u.qc) p.gh) (by simp)).2, own_rdV (h.ow (en2 n2 (.slice u.vo p.vs.length u.vc) p.vs) (by simp)).2, own_rdV (h.ow (en3 n3 (.slice u.to p.ts.length u.tc) p.ts) (by simp)).2, own_rdV (h.ow (en3 n4 (.slice u.oo p.on.length u.oc) p.on) (by simp)).2, own_rdV (h.ow (en5 n5 (.slice u.co p.cd.length u.cc) p.cd) (by simp)).2, hl.1, hl.2.1, hl.2.2.1, hl.2.2.2.1, hl.2.2.2.2⟩
theorem beq_self_b (r : Bool) : (r == r) = true := by cases r <;> rfl
set_option maxHeartbeats 25600000 in
set_option maxRecDepth 100000 in
/-- CodeSames -/
theorem samesWalk (W : World) (hT : Lib.TabBelow Tryd.prog W.heap.size W "internal/strconv.uint64pow10" .u64 Lib.pow10Tab) (hA : Lib.TabBelow Tryd.prog W.heap.size W "strings.asciiSpace" .u8 Lib.asciiSpaceTab) (v : PV) (p : Pg) (hP : IsPg W v p) (_ : Wgh p) (u : PV) (q : Pg) (hQ : IsPg W u q) (hQw : Wgh q) :
    Calls Tryd.prog 5 #[.agg (pvC v p), .agg (pvC u q)] W fun e W' => e = .returned (.bool true) ∧ Below W.heap.size W W' := by
  obtain ⟨qo, qc, vo, vc, tto, tc, oo, oc, co, cc⟩ := v
  obtain ⟨qo', qc', vo', vc', tto', tc', oo', oc', co', cc'⟩ := u
  have HK : Hid (∀ w, Below W.heap.size W w → Calls Tryd.prog 9 #[] w fun e w' => e = .returned (.bool true) ∧ Below w.heap.size w w') := fun w hb => known_any w (tab_on hT hb) (tab_on hA hb)
  obtain ⟨r, hr⟩ : ∃ r, samB p q = r := ⟨_, rfl⟩
  have HS1 : Hid (∀ w, Below W.heap.size W w → Calls Tryd.prog 23 #[.agg #[.slice qo p.gh.length qc, .slice vo p.vs.length vc, .slice tto p.ts.length tc, .slice oo p.on.length oc, .int .i64 p.miss, .slice co p.cd.length cc], .agg #[.slice qo' q.gh.length qc', .slice vo' q.vs.length vc', .slice tto' q.ts.length tc', .slice oo' q.on.length oc', .int .i64 q.miss, .slice co' q.cd.length cc']] w fun e w' => e = .returned (.bool r) ∧ Below w.heap.size w w') := fun w hb => hr ▸ same_any ⟨qo, qc, vo, vc, tto, tc, oo, oc, co, cc⟩ ⟨qo', qc', vo', vc', tto', tc', oo', oc', co', cc'⟩ p q w (hP.below hb) (hQ.below hb)
  have HS2 : Hid (∀ w, Below W.heap.size W w → Calls Tryd.prog 21 #[.agg #[.slice qo p.gh.length qc, .slice vo p.vs.length vc, .slice tto p.ts.length tc, .slice oo p.on.length oc, .int .i64 p.miss, .slice co p.cd.length cc], .agg #[.slice qo' q.gh.length qc', .slice vo' q.vs.length vc', .slice tto' q.ts.length tc', .slice oo' q.on.length oc', .int .i64 q.miss, .slice co' q.cd.length cc']] w fun e w' => e = .returned (.bool r) ∧ Below w.heap.size w w') := fun w hb => hr ▸ rsame_any ⟨qo, qc, vo, vc, tto, tc, oo, oc, co, cc⟩ ⟨qo', qc', vo', vc', tto', tc', oo', oc', co', cc'⟩ p q w (hP.below hb) (hQ.below hb)
  have HS3 : Hid (∀ w, Below W.heap.size W w → Calls Tryd.prog 23 #[.agg #[.slice qo p.gh.length qc, .slice vo p.vs.length vc, .slice tto p.ts.length tc, .slice oo p.on.length oc, .int .i64 p.miss, .slice co p.cd.length cc], .agg #[.slice qo p.gh.length qc, .slice vo p.vs.length vc, .slice tto p.ts.length tc, .slice oo p.on.length oc, .int .i64 p.miss, .slice co p.cd.length cc]] w fun e w' => e = .returned (.bool true) ∧ Below w.heap.size w w') := fun w hb => (samB_iff p p).2 rfl ▸ same_any ⟨qo, qc, vo, vc, tto, tc, oo, oc, co, cc⟩ ⟨qo, qc, vo, vc, tto, tc, oo, oc, co, cc⟩ p p w (hP.below hb) (hP.below hb)
  have HTw : Hid (∀ w, Below W.heap.size W w → Calls Tryd.prog 24 #[.agg #[.slice qo' q.gh.length qc', .slice vo' q.vs.length vc', .slice tto' q.ts.length tc', .slice oo' q.on.length oc', .int .i64 q.miss, .slice co' q.cd.length cc']] w fun e w' => ∃ u : PV, e = .returned (.agg #[.slice u.qo q.gh.length u.qc, .slice u.vo q.vs.length u.vc, .slice u.to q.ts.length u.tc, .slice u.oo q.on.length u.oc, .int .i64 q.miss, .slice u.co q.cd.length u.cc]) ∧ IsPg w' u q ∧ Below w.heap.size w w') := fun w hb => (twin_any ⟨qo', qc', vo', vc', tto', tc', oo', oc', co', cc'⟩ q w (hQ.below hb) hQw).mono fun e w' ⟨u, h1, h2, h3⟩ => ⟨u, h1, own5_is h2 ⟨hQ.lgh, hQ.lvs, hQ.lts, hQ.lon, hQ.lcd⟩, h3⟩
  have HS4 : Hid (∀ w u, Below W.heap.size W w → IsPg w u q → Calls Tryd.prog 21 #[.agg #[.slice u.qo q.gh.length u.qc, .slice u.vo q.vs.length u.vc, .slice u.to q.ts.length u.tc, .slice u.oo q.on.length u.oc, .int .i64 q.miss, .slice u.co q.cd.length u.cc], .agg #[.slice qo' q.gh.length qc', .slice vo' q.vs.length vc', .slice tto' q.ts.length tc', .slice oo' q.on.length oc', .int .i64 q.miss, .slice co' q.cd.length cc']] w fun e w' => e = .returned (.bool true) ∧ Below w.heap.size w w') := fun w u hb hu => (samB_iff q q).2 rfl ▸ rsame_any u ⟨qo', qc', vo', vc', tto', tc', oo', oc', co', cc'⟩ q q w hu (hQ.below hb)
  clear hT hA hP hQ hQw hr
  have HB0 := show Hid _ from two_prg W #[.slice qo p.gh.length qc, .slice vo p.vs.length vc, .slice tto p.ts.length tc, .slice oo p.on.length oc, .int .i64 p.miss, .slice co p.cd.length cc] #[.slice qo' q.gh.length qc', .slice vo' q.vs.length vc', .slice tto' q.ts.length tc', .slice oo' q.on.length oc', .int .i64 q.miss, .slice co' q.cd.length cc']
  go_enter Tryd.func5, Tryd.ntmps5
  go_upto_region 1 with fail
  generalize ((W.alloc (.cells #[.slice qo p.gh.length qc, .slice vo p.vs.length vc, .slice tto p.ts.length tc, .slice oo p.on.length oc, .int .i64 p.miss, .slice co p.cd.length cc] 27)).alloc (.cells #[.slice qo' q.gh.length qc', .slice vo' q.vs.length vc', .slice tto' q.ts.length tc', .slice oo' q.on.length oc', .int .i64 q.miss, .slice co' q.cd.length cc'] 27)) = w0 at *
  go_wp2_with fail
  refine (HK.out _ HB0.out.1).mono ?_
  rintro e w1 ⟨rfl, hb⟩
  have HB1 : Hid (Below W.heap.size W w1 ∧ w1.heap[W.heap.size]? = some (.cells #[.slice qo p.gh.length qc, .slice vo p.vs.length vc, .slice tto p.ts.length tc, .slice oo p.on.length oc, .int .i64 p.miss, .slice co p.cd.length cc] 27 (0, 0)) ∧ w1.heap[W.heap.size + 1]? = some (.cells #[.slice qo' q.gh.length qc', .slice vo' q.vs.length vc', .slice tto' q.ts.length tc', .slice oo' q.on.length oc', .int .i64 q.miss, .slice co' q.cd.length cc'] 27 (0, 0))) := ⟨bel_step HB0.out.1 hb, (hb.block _ (blk_lt HB0.out.2.1)).trans HB0.out.2.1, (hb.block _ (blk_lt HB0.out.2.2)).trans HB0.out.2.2⟩
  clear hb HB0 HK
  go_upto_region 3 with fail
  have HX : Hid (∀ X, X.heap[W.heap.size]? = some (.cells #[.slice qo p.gh.length qc, .slice vo p.vs.length vc, .slice tto p.ts.length tc, .slice oo p.on.length oc, .int .i64 p.miss, .slice co p.cd.length cc] 27 (0, 0)) → X.heap[W.heap.size + 1]? = some (.cells #[.slice qo' q.gh.length qc', .slice vo' q.vs.length vc', .slice tto' q.ts.length tc', .slice oo' q.on.length oc', .int .i64 q.miss, .slice co' q.cd.length cc'] 27 (0, 0)) → (fun w' : World => w'.cell? ⟨W.heap.size, 0, none⟩ = some (.slice qo p.gh.length qc) ∧ w'.cell? ⟨W.heap.size, 1, none⟩ = some (.slice vo p.vs.length vc) ∧ w'.cell? ⟨W.heap.size, 2, none⟩ = some (.slice tto p.ts.length tc) ∧ w'.cell? ⟨W.heap.size, 3, none⟩ = some (.slice oo p.on.length oc) ∧ w'.cell? ⟨W.heap.size, 4, none⟩ = some (.int .i64 p.miss) ∧ w'.cell? ⟨W.heap.size, 5, none⟩ = some (.slice co p.cd.length cc) ∧ w'.cell? ⟨W.heap.size + 1, 0, none⟩ = some (.slice qo' q.gh.length qc') ∧ w'.cell? ⟨W.heap.size + 1, 1, none⟩ = some (.slice vo' q.vs.length vc') ∧ w'.cell? ⟨W.heap.size + 1, 2, none⟩ = some (.slice tto' q.ts.length tc') ∧ w'.cell? ⟨W.heap.size + 1, 3, none⟩ = some (.slice oo' q.on.length oc') ∧ w'.cell? ⟨W.heap.size + 1, 4, none⟩ = some (.int .i64 q.miss) ∧ w'.cell? ⟨W.heap.size + 1, 5, none⟩ = some (.slice co' q.cd.length cc')) X) := fun X h1 h2 => by
    obtain ⟨c0, c1, c2, c3, c4, c5⟩ := cells6 h1
    obtain ⟨d0, d1, d2, d3, d4, d5⟩ := cells6 h2
    exact ⟨c0, c1, c2, c3, c4, c5, d0, d1, d2, d3, d4, d5⟩
  refine wp_region_held (S := fun w' : World => w'.cell? ⟨W.heap.size, 0, none⟩ = some (.slice qo p.gh.length qc) ∧ w'.cell? ⟨W.heap.size, 1, none⟩ = some (.slice vo p.vs.length vc) ∧ w'.cell? ⟨W.heap.size, 2, none⟩ = some (.slice tto p.ts.length tc) ∧ w'.cell? ⟨W.heap.size, 3, none⟩ = some (.slice oo p.on.length oc) ∧ w'.cell? ⟨W.heap.size, 4, none⟩ = some (.int .i64 p.miss) ∧ w'.cell? ⟨W.heap.size, 5, none⟩ = some (.slice co p.cd.length cc) ∧ w'.cell? ⟨W.heap.size + 1, 0, none⟩ = some (.slice qo' q.gh.length qc') ∧ w'.cell? ⟨W.heap.size + 1, 1, none⟩ = some (.slice vo' q.vs.length vc') ∧ w'.cell? ⟨W.heap.size + 1, 2, none⟩ = some (.slice tto' q.ts.length tc') ∧ w'.cell? ⟨W.heap.size + 1, 3, none⟩ = some (.slice oo' q.on.length oc') ∧ w'.cell? ⟨W.heap.size + 1, 4, none⟩ = some (.int .i64 q.miss) ∧ w'.cell? ⟨W.heap.size + 1, 5, none⟩ = some (.slice co' q.cd.length cc')) (by kernel_rfl) ?_
  change wpAnyH _ _ _ _ _ _ _ _ w1.drew
  have HB2 : Hid (Below W.heap.size W w1.drew ∧ w1.drew.heap[W.heap.size]? = some (.cells #[.slice qo p.gh.length qc, .slice vo p.vs.length vc, .slice tto p.ts.length tc, .slice oo p.on.length oc, .int .i64 p.miss, .slice co p.cd.length cc] 27 (0, 0)) ∧ w1.drew.heap[W.heap.size + 1]? = some (.cells #[.slice qo' q.gh.length qc', .slice vo' q.vs.length vc', .slice tto' q.ts.length tc', .slice oo' q.on.length oc', .int .i64 q.miss, .slice co' q.cd.length cc'] 27 (0, 0))) := ⟨HB1.out.1.drew, HB1.out.2.1, HB1.out.2.2⟩
  clear HB1
  generalize w1.drew = w2 at *
  have hS := HX.out w2 HB2.out.2.1 HB2.out.2.2
  refine tqA 0 rfl hS ?_
  refine tqA 1 rfl hS ?_
  refine tqA 3 rfl hS ?_
  refine tqA 4 rfl hS ?_
  refine wpAnyH_ready (rs := [2]) (by kernel_rfl) (by simp) ?_
  refine AllReadyH.cons rfl (fun K hK => ?_) AllReadyH.nil
  go_simp
  refine Calls.mono (HS1.out _ HB2.out.1) ?_
  rintro e w3 ⟨rfl, hb⟩
  have HB3 : Hid (Below W.heap.size W w3 ∧ w3.heap[W.heap.size]? = some (.cells #[.slice qo p.gh.length qc, .slice vo p.vs.length vc, .slice tto p.ts.length tc, .slice oo p.on.length oc, .int .i64 p.miss, .slice co p.cd.length cc] 27 (0, 0)) ∧ w3.heap[W.heap.size + 1]? = some (.cells #[.slice qo' q.gh.length qc', .slice vo' q.vs.length vc', .slice tto' q.ts.length tc', .slice oo' q.on.length oc', .int .i64 q.miss, .slice co' q.cd.length cc'] 27 (0, 0))) := ⟨bel_step HB2.out.1 hb, (hb.block _ (blk_lt HB2.out.2.1)).trans HB2.out.2.1, (hb.block _ (blk_lt HB2.out.2.2)).trans HB2.out.2.2⟩
  refine hK.out _ _ (HX.out _ HB3.out.2.1 HB3.out.2.2) (fun hS => ?_)
  clear hK K hb HB2
  refine wpAnyH_ready (rs := [5]) (by kernel_rfl) (by simp) ?_
  refine AllReadyH.cons rfl (fun K hK => ?_) AllReadyH.nil
  go_simp
  refine Calls.mono (HS2.out _ HB3.out.1) ?_
  rintro e w4 ⟨rfl, hb⟩
  have HB4 : Hid (Below W.heap.size W w4 ∧ w4.heap[W.heap.size]? = some (.cells #[.slice qo p.gh.length qc, .slice vo p.vs.length vc, .slice tto p.ts.length tc, .slice oo p.on.length oc, .int .i64 p.miss, .slice co p.cd.length cc] 27 (0, 0)) ∧ w4.heap[W.heap.size + 1]? = some (.cells #[.slice qo' q.gh.length qc', .slice vo' q.vs.length vc', .slice tto' q.ts.length tc', .slice oo' q.on.length oc', .int .i64 q.miss, .slice co' q.cd.length cc'] 27 (0, 0))) := ⟨bel_step HB3.out.1 hb, (hb.block _ (blk_lt HB3.out.2.1)).trans HB3.out.2.1, (hb.block _ (blk_lt HB3.out.2.2)).trans HB3.out.2.2⟩
  refine hK.out _ _ (HX.out _ HB4.out.2.1 HB4.out.2.2) (fun hS => ?_)
  clear hK K hb HB3
  refine tqA (v := .bool true) 6 rfl hS ?_
  refine tqA 7 rfl hS ?_
  refine tkA 8 rfl hS ?_
  refine tkA 9 rfl hS ?_
  refine wpAnyH_ready (rs := [10]) (by kernel_rfl) (by simp) ?_
  refine AllReadyH.cons rfl (fun K hK => ?_) AllReadyH.nil
  go_simp
  refine Calls.mono (HS3.out _ HB4.out.1) ?_
  rintro e w5 ⟨rfl, hb⟩
  have HB5 : Hid (Below W.heap.size W w5 ∧ w5.heap[W.heap.size]? = some (.cells #[.slice qo p.gh.length qc, .slice vo p.vs.length vc, .slice tto p.ts.length tc, .slice oo p.on.length oc, .int .i64 p.miss, .slice co p.cd.length cc] 27 (0, 0)) ∧ w5.heap[W.heap.size + 1]? = some (.cells #[.slice qo' q.gh.length qc', .slice vo' q.vs.length vc', .slice tto' q.ts.length tc', .slice oo' q.on.length oc', .int .i64 q.miss, .slice co' q.cd.length cc'] 27 (0, 0))) := ⟨bel_step HB4.out.1 hb, (hb.block _ (blk_lt HB4.out.2.1)).trans HB4.out.2.1, (hb.block _ (blk_lt HB4.out.2.2)).trans HB4.out.2.2⟩
  refine hK.out _ _ (HX.out _ HB5.out.2.1 HB5.out.2.2) (fun hS => ?_)
  clear hK K hb HB4
  refine tqA 11 rfl hS ?_
  refine tqA 12 rfl hS ?_
  refine tkA 13 rfl hS ?_
  refine tkA 15 rfl hS ?_
  refine wpAnyH_ready (rs := [14]) (by kernel_rfl) (by simp) ?_
  refine AllReadyH.cons rfl (fun K hK => ?_) AllReadyH.nil
  go_simp
  refine Calls.mono (HTw.out _ HB5.out.1) ?_
  rintro e w6 ⟨u, rfl, hu, hb⟩
  have HB6 : Hid (Below W.heap.size W w6 ∧ w6.heap[W.heap.size]? = some (.cells #[.slice qo p.gh.length qc, .slice vo p.vs.length vc, .slice tto p.ts.length tc, .slice oo p.on.length oc, .int .i64 p.miss, .slice co p.cd.length cc] 27 (0, 0)) ∧ w6.heap[W.heap.size + 1]? = some (.cells #[.slice qo' q.gh.length qc', .slice vo' q.vs.length vc', .slice tto' q.ts.length tc', .slice oo' q.on.length oc', .int .i64 q.miss, .slice co' q.cd.length cc'] 27 (0, 0))) := ⟨bel_step HB5.out.1 hb, (hb.block _ (blk_lt HB5.out.2.1)).trans HB5.out.2.1, (hb.block _ (blk_lt HB5.out.2.2)).trans HB5.out.2.2⟩
  refine hK.out _ _ (HX.out _ HB6.out.2.1 HB6.out.2.2) (fun hS => ?_)
  clear hK K hb HB5
  refine wpAnyH_ready (rs := [16]) (by kernel_rfl) (by simp) ?_
  refine AllReadyH.cons rfl (fun K hK => ?_) AllReadyH.nil
  go_simp
  refine Calls.mono (HS4.out _ u HB6.out.1 hu) ?_
  rintro e w7 ⟨rfl, hb⟩
  have HB7 : Hid (Below W.heap.size W w7 ∧ w7.heap[W.heap.size]? = some (.cells #[.slice qo p.gh.length qc, .slice vo p.vs.length vc, .slice tto p.ts.length tc, .slice oo p.on.length oc, .int .i64 p.miss, .slice co p.cd.length cc] 27 (0, 0)) ∧ w7.heap[W.heap.size + 1]? = some (.cells #[.slice qo' q.gh.length qc', .slice vo' q.vs.length vc', .slice tto' q.ts.length tc', .slice oo' q.on.length oc', .int .i64 q.miss, .slice co' q.cd.length cc'] 27 (0, 0))) := ⟨bel_step HB6.out.1 hb, (hb.block _ (blk_lt HB6.out.2.1)).trans HB6.out.2.1, (hb.block _ (blk_lt HB6.out.2.2)).trans HB6.out.2.2⟩
  refine hK.out _ _ (HX.out _ HB7.out.2.1 HB7.out.2.2) (fun hS => ?_)
  clear hK K hb HB6
  refine tqA 17 rfl hS ?_
  refine tqA 18 rfl hS ?_
  refine wpAnyH_done (by kernel_rfl) ?_ _
  clear hS
  go_simp
  go_wp2_with fail
  go_ret
  exact ⟨rfl, HB7.out.1⟩
end Go.Proofs.YtcicifcnffacpaaDoor.Cd

namespace Go.Proofs.YtcicifcnffacpaaDoor.codeSames
open Go.ChangeShapes Go.WideShapes Go.ChangeAt Go.RowKit
open Go.Proofs.YtcicifcnffacpaaDoor.Nm Go.Proofs.YtcicifcnffacpaaDoor.Vf Go.Proofs.YtcicifcnffacpaaDoor.Cd

theorem own : ownKnob Tryd.prog.godebug = none := by kernel_rfl
theorem laidOut : laidOutB Tryd.prog = true := by kernel_rfl

set_option maxHeartbeats 3200000 in
set_option maxRecDepth 100000 in
theorem contract (H : Type) (enc : TypeId × Value → H) (W : World) (base : Nat) (args : Array Value) (ds gs : List (DataW H)) (before : List MemPlace)
    (hval : ∀ (j : Nat) t v, Tryd.f5.params[j]? = some t → args[j]? = some v → Value.okWide Tryd.prog W .any base t v)
    (hW : DataW.Whole enc Tryd.prog Tryd.f5.params.toList Rows.codeSamesSpec.vars false W args.toList ds gs before)
    (hsz : (DataW.weightsEach Tryd.prog (Tryd.f5.params.toList ++ (OpenSpec.ofChange Rows.codeSamesSpec).bare.plain.varTypes Tryd.prog) (ds ++ gs)).all (· ≤ reachBytes) = true) (hL : laidMetH Tryd.prog Rows.codeSamesRow.laid W) :
    Calls Tryd.prog 5 args W fun e W' => ∃ v, e = .returned v ∧ Rows.codeSamesSpec.post enc Tryd.prog Tryd.f5 false true false false W args v W' := by
  have hW' := hW
  obtain ⟨p, q, hA0, hV, rfl, hfz, hnd⟩ := hW
  have hA : DataW.TrodAll enc Tryd.prog W 0 (fun _ => true) true Tryd.f5.params.toList args.toList ds p := hA0
  rw [Tryd.params5] at hA hval hsz
  obtain ⟨v0, vs0, d0, ds0, p0, q0, hargs, rfl, rfl, h0, r0⟩ := trodAll_cons hA
  obtain ⟨v1, vs1, d1, ds1, p1, q1, rfl, rfl, rfl, h1, r1⟩ := trodAll_cons r0
  obtain ⟨rfl, rfl, rfl⟩ := trodAll_nil r1
  obtain rfl : args = #[v0, v1] := by cases args; simp_all
  obtain ⟨rfl, rfl⟩ := trodVars_none hV
  have lt0 : ∀ x ∈ p0, x.block < W.heap.size := by obtain ⟨m, hm⟩ := h0; exact DataW.trod_lt m _ _ _ hm
  have lt1 : ∀ x ∈ p1, x.block < W.heap.size := by obtain ⟨m, hm⟩ := h1; exact DataW.trod_lt m _ _ _ hm
  obtain ⟨pv0, pg0, x0, x1, x2, x3, x4, x5, rfl, hr0, rfl, l0, l1, l2, l3, l5⟩ := open_progL (hval 0 27 v0 rfl rfl) h0
  have is0 := prog_is hsz (j := 0) rfl rfl hr0 l0 l1 l2 l3 l5
  obtain ⟨pv1, pg1, x0, x1, x2, x3, x4, x5, rfl, hr1, rfl, l0, l1, l2, l3, l5⟩ := open_progL (hval 1 27 v1 rfl rfl) h1
  have is1 := prog_is hsz (j := 1) rfl rfl hr1 l0 l1 l2 l3 l5
  refine (samesWalk W (pow_of (show laidMetH Tryd.prog laidL W from hL)) (asc_of (show laidMetH Tryd.prog laidL W from hL)) pv0 pg0 is0.1 is0.2 pv1 pg1 is1.1 is1.2).mono fun e W2 ⟨he, bel⟩ => ?_
  subst he
  exact ⟨_, rfl, _, _, _, [], _, [], hW', trodAll_mk1 (shut_bool Tryd.underlying4 _), (trodAll_cons_mk (Below.trod laidOut (by kernel_rfl) (of_decide_eq_true (by kernel_rfl)) h0 bel lt0) (trodAll_cons_mk (Below.trod laidOut (by kernel_rfl) (of_decide_eq_true (by kernel_rfl)) h1 bel lt1) trodAll_mk0)), rfl, bel.frame _, fun h => by cases h⟩

set_option maxRecDepth 100000 in
/-- A world for the witness: the settled one and two blocks more (the ranges of blanks, and their table), the tables holding what their initialisers lay. -/
theorem start (os : Os) : ∃ w0 : World, w0.os = os ∧ (w0.forCall (fun _ _ => 0) ⟨#[], #[.agg #[.slice none 0 0, .slice none 0 0, .slice none 0 0, .slice none 0 0, .int .i64 0, .slice none 0 0], .agg #[.slice none 0 0, .slice none 0 0, .slice none 0 0, .slice none 0 0, .int .i64 0, .slice none 0 0]], []⟩).variablesRefB Tryd.prog = true ∧
    ((w0.forCall (fun _ _ => 0) ⟨#[], #[.agg #[.slice none 0 0, .slice none 0 0, .slice none 0 0, .slice none 0 0, .int .i64 0, .slice none 0 0], .agg #[.slice none 0 0, .slice none 0 0, .slice none 0 0, .slice none 0 0, .int .i64 0, .slice none 0 0]], []⟩).heap.toList.drop Tryd.prog.globals.size).take ((begin Tryd.prog (fun _ _ => 0) default).world.heap.size - Tryd.prog.globals.size) = (begin Tryd.prog (fun _ _ => 0) default).world.heap.toList.drop Tryd.prog.globals.size ∧
    Input.okWideB Tryd.prog (w0.forCall (fun _ _ => 0) ⟨#[], #[.agg #[.slice none 0 0, .slice none 0 0, .slice none 0 0, .slice none 0 0, .int .i64 0, .slice none 0 0], .agg #[.slice none 0 0, .slice none 0 0, .slice none 0 0, .slice none 0 0, .int .i64 0, .slice none 0 0]], []⟩) 5 ⟨#[], #[.agg #[.slice none 0 0, .slice none 0 0, .slice none 0 0, .slice none 0 0, .int .i64 0, .slice none 0 0], .agg #[.slice none 0 0, .slice none 0 0, .slice none 0 0, .slice none 0 0, .int .i64 0, .slice none 0 0]], []⟩ = true ∧
    laidMet Tryd.prog Rows.codeSamesRow.laid (w0.forCall (fun _ _ => 0) ⟨#[], #[.agg #[.slice none 0 0, .slice none 0 0, .slice none 0 0, .slice none 0 0, .int .i64 0, .slice none 0 0], .agg #[.slice none 0 0, .slice none 0 0, .slice none 0 0, .slice none 0 0, .int .i64 0, .slice none 0 0]], []⟩).memory ∧
    ∀ (H : Type) (enc : TypeId × Value → H),
      DataW.whole enc Tryd.prog (w0.forCall (fun _ _ => 0) ⟨#[], #[.agg #[.slice none 0 0, .slice none 0 0, .slice none 0 0, .slice none 0 0, .int .i64 0, .slice none 0 0], .agg #[.slice none 0 0, .slice none 0 0, .slice none 0 0, .slice none 0 0, .int .i64 0, .slice none 0 0]], []⟩).memory Tryd.f5.params.toList Rows.codeSamesSpec.vars false #[Value.agg #[.slice none 0 0, .slice none 0 0, .slice none 0 0, .slice none 0 0, .int .i64 0, .slice none 0 0], Value.agg #[.slice none 0 0, .slice none 0 0, .slice none 0 0, .slice none 0 0, .int .i64 0, .slice none 0 0]].toList 8 = some ([.agg [.nil, .nil, .nil, .nil, .lit (.int .i64 0), .nil], .agg [.nil, .nil, .nil, .nil, .lit (.int .i64 0), .nil]], [], []) ∧
      (OpenSpec.ofChange Rows.codeSamesSpec).bare.sizedB enc Tryd.prog Tryd.f5 false (w0.forCall (fun _ _ => 0) ⟨#[], #[.agg #[.slice none 0 0, .slice none 0 0, .slice none 0 0, .slice none 0 0, .int .i64 0, .slice none 0 0], .agg #[.slice none 0 0, .slice none 0 0, .slice none 0 0, .slice none 0 0, .int .i64 0, .slice none 0 0]], []⟩).memory #[Value.agg #[.slice none 0 0, .slice none 0 0, .slice none 0 0, .slice none 0 0, .int .i64 0, .slice none 0 0], Value.agg #[.slice none 0 0, .slice none 0 0, .slice none 0 0, .slice none 0 0, .int .i64 0, .slice none 0 0]] 8 = true :=
  ⟨{ World.holding Tryd.prog os ⟨#[.cells (Lib.whiteT.map fun (z : Nat) => Value.int .u16 (z : Int)).toArray 148, .cells #[.slice (some ⟨(World.settled Tryd.prog os).heap.size, 0, none⟩) 7 7, .slice none 0 0, .int .i64 2] 145], #[], []⟩ with
      heap := (((((World.holding Tryd.prog os ⟨#[.cells (Lib.whiteT.map fun (z : Nat) => Value.int .u16 (z : Int)).toArray 148, .cells #[.slice (some ⟨(World.settled Tryd.prog os).heap.size, 0, none⟩) 7 7, .slice none 0 0, .int .i64 2] 145], #[], []⟩).heap.modify 0 (fun o => match o with
        | .cells _ t frozen => .cells (Lib.asciiSpaceTab.map fun z => Value.int .u8 z).toArray t frozen
        | o => o)).modify 2 (fun o => match o with
        | .cells _ t frozen => .cells (Lib.pow10Tab.map fun z => Value.int .u64 z).toArray t frozen
        | o => o)).modify 3 (fun o => match o with
        | .cells _ t frozen => .cells (([0, 1, 28, 2, 29, 14, 24, 3, 30, 22, 20, 15, 25, 17, 4, 8, 31, 27, 13, 23, 21, 19, 16, 7, 26, 12, 18, 6, 11, 5, 10, 9] : List Int).map fun z => Value.int .u8 z).toArray t frozen
        | o => o)).modify 4 (fun o => match o with
        | .cells _ t frozen => .cells (([0, 1, 56, 2, 57, 49, 28, 3, 61, 58, 42, 50, 38, 29, 17, 4, 62, 47, 59, 36, 45, 43, 51, 22, 53, 39, 33, 30, 24, 18, 12, 5, 63, 55, 48, 27, 60, 41, 37, 16, 46, 35, 44, 21, 52, 32, 23, 11, 54, 26, 40, 15, 34, 20, 31, 10, 25, 14, 19, 9, 13, 8, 7, 6] : List Int).map fun z => Value.int .u8 z).toArray t frozen
        | o => o)).modify 1 (fun o => match o with
        | .cells _ t frozen => .cells #[.pointer (some ⟨(World.settled Tryd.prog os).heap.size + 1, 0, none⟩)] t frozen
        | o => o) },
    rfl, by kernel_rfl, by kernel_rfl, by kernel_rfl, laidMet_of_run' 10 (by kernel_rfl) (by kernel_rfl), fun _ _ => ⟨by kernel_rfl, by kernel_rfl⟩⟩

set_option maxRecDepth 100000 in
theorem lifted (os : Os) (started : os.Started) (H : Type) (enc : TypeId × Value → H) (F : Stop.Interp) :
    ReturnsInHanded {} Tryd.checked os 5 .any ((OpenSpec.ofChange Rows.codeSamesSpec).preRow enc Tryd.prog Tryd.f5 Rows.codeSamesRow.domain false Rows.codeSamesRow.laid) (((OpenSpec.ofChange Rows.codeSamesSpec).at F).post enc Tryd.prog Tryd.f5 false true false false) := by
  obtain ⟨w0, hos, hv, hr, hok, hlaid, hread⟩ := start os
  obtain ⟨hx, hsz⟩ := hread H enc
  refine returnsInHanded_of_row (C := Tryd.checked) (s := OpenSpec.ofChange Rows.codeSamesSpec) own started (by kernel_rfl) Tryd.func5
    (witness_row_atRef (enc := enc) (C := Tryd.checked) false w0 #[Value.agg #[.slice none 0 0, .slice none 0 0, .slice none 0 0, .slice none 0 0, .int .i64 0, .slice none 0 0], Value.agg #[.slice none 0 0, .slice none 0 0, .slice none 0 0, .slice none 0 0, .int .i64 0, .slice none 0 0]] hos hv hr hok
      (OpenSpec.preRow_of_cond 8 hx (by kernel_rfl) (fun k hk => by cases hk) hsz hlaid)) ?_
  intro W base args ds gs before hval hW _ _ hsz hL _ _
  exact contract H enc W base args ds gs before hval hW hsz hL

theorem said : Rows.CodeSamesSaid :=
  OpenClaim.holds_of_cond 5 Tryd.f5 rfl rfl rfl rfl rfl rfl rfl ⟨rfl, rfl, rfl, rfl, rfl⟩ rfl rfl rfl rfl rfl (by kernel_rfl) Tryd.func5 (by kernel_rfl)
    (of_decide_eq_true (by kernel_rfl)) (by unfold Func.isWrapper; first | (rw [if_pos (by decide +kernel)]; kernel_rfl) | (rw [if_neg (by decide +kernel)]; exact ⟨rfl, rfl⟩))
    (fun os started H enc _ F => by rw [OpenClaim.pre_eq_preRow]; exact lifted os started H enc F)

theorem plain (f : FuncId) (fn : Func) (hf : Tryd.pinned.checked.prog.funcNamed "winnow/winnowlaw15.CodeSames" = some f) (hfn : Tryd.pinned.checked.prog.funcs[f]? = some fn) :
    true = Tryd.pinned.checked.prog.looks [] ∧ ∀ (j : Nat) t, fn.params[j]? = some t → Tryd.pinned.checked.prog.wantsStandIn t = false := by
  obtain rfl : f = 5 := Option.some.inj ((show Tryd.prog.funcNamed "winnow/winnowlaw15.CodeSames" = some 5 by kernel_rfl).symm.trans hf) |>.symm
  obtain rfl : fn = Tryd.f5 := (Option.some.inj (Tryd.func5.symm.trans hfn)).symm
  refine ⟨by kernel_rfl, fun j t ht => ?_⟩
  rw [Tryd.params5] at ht
  obtain rfl : t = 27 := by simpa using Array.mem_of_getElem? ht
  exact (show Tryd.prog.wantsStandIn 27 = false by kernel_rfl)

theorem card : Rows.CodeSamesCardSaid :=
  Claim7.holds_tied_plain_at .later [] _ _ _ _ said (fun _ h => by cases h) (by kernel_rfl) (fun _ h => by cases h) codeSames_row_tie rfl ⟨rfl, rfl⟩ (by kernel_rfl) rfl plain (by kernel_rfl)
end Go.Proofs.YtcicifcnffacpaaDoor.codeSames
