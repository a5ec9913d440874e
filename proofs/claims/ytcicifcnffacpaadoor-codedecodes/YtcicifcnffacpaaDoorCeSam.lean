import Derived.Test.YtcicifcnffacpaaDoorCeEqs
set_option linter.unusedSimpArgs false
namespace Go.Proofs.YtcicifcnffacpaaDoor.Cd
open Go.RowKit Go.Proofs.YtcicifcnffacpaaDoor.Nm Go.Proofs.YtcicifcnffacpaaDoor.Vf

/-- are they the same? -/
def samB (p q : Pg) : Bool := decide (p.gh = q.gh) && (decide (p.vs = q.vs) && (decide (p.ts = q.ts) && (decide (p.on = q.on) && ((p.miss == q.miss) && decide (p.cd = q.cd)))))
theorem samB_iff (p q : Pg) : samB p q = true ↔ p = q := by
  unfold samB
  constructor
  · intro h
    simp only [Bool.and_eq_true, decide_eq_true_eq, beq_iff_eq] at h
    obtain ⟨h1, h2, h3, h4, h5, h6⟩ := h
    cases p
    cases q
    simp_all
  · rintro rfl
    simp
set_option maxHeartbeats 12800000 in
set_option maxRecDepth 100000 in
/-- Same -/
theorem same_any (v u : PV) (p q : Pg) (W : World) (hP : IsPg W v p) (hQ : IsPg W u q) : Calls Tryd.prog 23 #[.agg (pvC v p), .agg (pvC u q)] W fun e W' => e = .returned (.bool (samB p q)) ∧ Below W.heap.size W W' := by
  obtain ⟨r1, h1⟩ : ∃ r, decide (p.gh = q.gh) = r := ⟨_, rfl⟩
  obtain ⟨r2, h2⟩ : ∃ r, decide (p.vs = q.vs) = r := ⟨_, rfl⟩
  obtain ⟨r3, h3⟩ : ∃ r, decide (p.ts = q.ts) = r := ⟨_, rfl⟩
  obtain ⟨r4, h4⟩ : ∃ r, decide (p.on = q.on) = r := ⟨_, rfl⟩
  obtain ⟨r5, hr5⟩ : ∃ r, (p.miss == q.miss) = r := ⟨_, rfl⟩
  obtain ⟨r6, h6⟩ : ∃ r, decide (p.cd = q.cd) = r := ⟨_, rfl⟩
  have HS : Hid (samB p q = (r1 && (r2 && (r3 && (r4 && (r5 && r6)))))) := by
    show samB p q = _
    unfold samB
    rw [h1, h2, h3, h4, hr5, h6]
  have H1 : Hid (∀ w, Below W.heap.size W w → Calls Tryd.prog 51 #[.slice v.qo p.gh.length v.qc, .slice u.qo q.gh.length u.qc] w fun e w' => e = .returned (.bool r1) ∧ Below w.heap.size w w') := by
    intro w hb
    have := eqBool (ca := v.qc) (cb := u.qc) (Vf.Rd.below hP.gh hb) (Vf.Rd.below hQ.gh hb) hP.lgh hQ.lgh
    rw [h1] at this
    exact this
  have H2 : Hid (∀ w, Below W.heap.size W w → Calls Tryd.prog 52 #[.slice v.vo p.vs.length v.vc, .slice u.vo q.vs.length u.vc] w fun e w' => e = .returned (.bool r2) ∧ Below w.heap.size w w') := by
    intro w hb
    have := eqVar (ca := v.vc) (cb := u.vc) (Vf.Rd.below hP.vs hb) (Vf.Rd.below hQ.vs hb) hP.lvs hQ.lvs
    rw [h2] at this
    exact this
  have H3 : Hid (∀ w, Below W.heap.size W w → Calls Tryd.prog 53 #[.slice v.to p.ts.length v.tc, .slice u.to q.ts.length u.tc] w fun e w' => e = .returned (.bool r3) ∧ Below w.heap.size w w') := by
    intro w hb
    have := eqInt (ca := v.tc) (cb := u.tc) (Vf.Rd.below hP.ts hb) (Vf.Rd.below hQ.ts hb) hP.lts hQ.lts
    rw [h3] at this
    exact this
  have H4 : Hid (∀ w, Below W.heap.size W w → Calls Tryd.prog 53 #[.slice v.oo p.on.length v.oc, .slice u.oo q.on.length u.oc] w fun e w' => e = .returned (.bool r4) ∧ Below w.heap.size w w') := by
    intro w hb
    have := eqInt (ca := v.oc) (cb := u.oc) (Vf.Rd.below hP.on hb) (Vf.Rd.below hQ.on hb) hP.lon hQ.lon
    rw [h4] at this
    exact this
  have H6 : Hid (∀ w, Below W.heap.size W w → Calls Tryd.prog 54 #[.slice v.co p.cd.length v.cc, .slice u.co q.cd.length u.cc] w fun e w' => e = .returned (.bool r6) ∧ Below w.heap.size w w') := by
    intro w hb
    have := eqIns (ca := v.cc) (cb := u.cc) (Vf.Rd.below hP.cd hb) (Vf.Rd.below hQ.cd hb) hP.lcd hQ.lcd
    rw [h6] at this
    exact this
  have hb1 : Below W.heap.size W (W.alloc (.cells (pvC v p) 27)) := (Below.refl _ W).alloc (Nat.le_refl _) _
  have hb2 : Below (W.alloc (.cells (pvC v p) 27)).heap.size (W.alloc (.cells (pvC v p) 27)) ((W.alloc (.cells (pvC v p) 27)).alloc (.cells (pvC u q) 27)) := (Below.refl _ _).alloc (Nat.le_refl _) _
  have HB : Hid (Below W.heap.size W ((W.alloc (.cells (pvC v p) 27)).alloc (.cells (pvC u q) 27)) ∧ ((W.alloc (.cells (pvC v p) 27)).alloc (.cells (pvC u q) 27)).heap[W.heap.size]? = some (.cells (pvC v p) 27 (0, 0)) ∧ ((W.alloc (.cells (pvC v p) 27)).alloc (.cells (pvC u q) 27)).heap[W.heap.size + 1]? = some (.cells (pvC u q) 27 (0, 0))) := by
    refine ⟨hb1.trans (hb2.mono hb1.size), (hb2.block _ (blk_lt (heap_alloc_new W _))).trans (heap_alloc_new W _), ?_⟩
    have := heap_alloc_new (W.alloc (.cells (pvC v p) 27)) (.cells (pvC u q) 27)
    simpa using this
  clear h1 h2 h3 h4 h6 hb1 hb2 hP hQ
  obtain ⟨c0, c1, c2, c3, c4, c5⟩ := cells6 HB.out.2.1
  obtain ⟨d0, d1, d2, d3, d4, d5⟩ := cells6 HB.out.2.2
  go_enter Tryd.func23, Tryd.ntmps23
  go_wp2_with fail
  generalize ((W.alloc (.cells (pvC v p) 27)).alloc (.cells (pvC u q) 27)) = w0 at *
  refine (H1.out _ HB.out.1).mono ?_
  rintro e w1 ⟨rfl, hb⟩
  have HB1 : Hid (Below W.heap.size W w1 ∧ w1.heap[W.heap.size]? = some (.cells (pvC v p) 27 (0, 0)) ∧ w1.heap[W.heap.size + 1]? = some (.cells (pvC u q) 27 (0, 0))) := ⟨HB.out.1.trans (hb.mono HB.out.1.size), (hb.block _ (blk_lt HB.out.2.1)).trans HB.out.2.1, (hb.block _ (blk_lt HB.out.2.2)).trans HB.out.2.2⟩
  clear hb c0 c1 c2 c3 c4 c5 d0 d1 d2 d3 d4 d5
  obtain ⟨c0, c1, c2, c3, c4, c5⟩ := cells6 HB1.out.2.1
  obtain ⟨d0, d1, d2, d3, d4, d5⟩ := cells6 HB1.out.2.2
  cases r1
  case false =>
    go_wp2_with fail
    go_ret
    exact ⟨by rw [HS.out]; rfl, HB1.out.1⟩
  case true =>
    go_wp2_with fail
    refine (H2.out _ HB1.out.1).mono ?_
    rintro e w2 ⟨rfl, hb⟩
    have HB2 : Hid (Below W.heap.size W w2 ∧ w2.heap[W.heap.size]? = some (.cells (pvC v p) 27 (0, 0)) ∧ w2.heap[W.heap.size + 1]? = some (.cells (pvC u q) 27 (0, 0))) := ⟨HB1.out.1.trans (hb.mono HB1.out.1.size), (hb.block _ (blk_lt HB1.out.2.1)).trans HB1.out.2.1, (hb.block _ (blk_lt HB1.out.2.2)).trans HB1.out.2.2⟩
    clear hb c0 c1 c2 c3 c4 c5 d0 d1 d2 d3 d4 d5
    obtain ⟨c0, c1, c2, c3, c4, c5⟩ := cells6 HB2.out.2.1
    obtain ⟨d0, d1, d2, d3, d4, d5⟩ := cells6 HB2.out.2.2
    cases r2
    case false =>
      go_wp2_with fail
      go_ret
      exact ⟨by rw [HS.out]; rfl, HB2.out.1⟩
    case true =>
      go_wp2_with fail
      refine (H3.out _ HB2.out.1).mono ?_
      rintro e w3 ⟨rfl, hb⟩
      have HB3 : Hid (Below W.heap.size W w3 ∧ w3.heap[W.heap.size]? = some (.cells (pvC v p) 27 (0, 0)) ∧ w3.heap[W.heap.size + 1]? = some (.cells (pvC u q) 27 (0, 0))) := ⟨HB2.out.1.trans (hb.mono HB2.out.1.size), (hb.block _ (blk_lt HB2.out.2.1)).trans HB2.out.2.1, (hb.block _ (blk_lt HB2.out.2.2)).trans HB2.out.2.2⟩
      clear hb c0 c1 c2 c3 c4 c5 d0 d1 d2 d3 d4 d5
      obtain ⟨c0, c1, c2, c3, c4, c5⟩ := cells6 HB3.out.2.1
      obtain ⟨d0, d1, d2, d3, d4, d5⟩ := cells6 HB3.out.2.2
      cases r3
      case false =>
        go_wp2_with fail
        go_ret
        exact ⟨by rw [HS.out]; rfl, HB3.out.1⟩
      case true =>
        go_wp2_with fail
        refine (H4.out _ HB3.out.1).mono ?_
        rintro e w4 ⟨rfl, hb⟩
        have HB4 : Hid (Below W.heap.size W w4 ∧ w4.heap[W.heap.size]? = some (.cells (pvC v p) 27 (0, 0)) ∧ w4.heap[W.heap.size + 1]? = some (.cells (pvC u q) 27 (0, 0))) := ⟨HB3.out.1.trans (hb.mono HB3.out.1.size), (hb.block _ (blk_lt HB3.out.2.1)).trans HB3.out.2.1, (hb.block _ (blk_lt HB3.out.2.2)).trans HB3.out.2.2⟩
        clear hb c0 c1 c2 c3 c4 c5 d0 d1 d2 d3 d4 d5
        obtain ⟨c0, c1, c2, c3, c4, c5⟩ := cells6 HB4.out.2.1
        obtain ⟨d0, d1, d2, d3, d4, d5⟩ := cells6 HB4.out.2.2
        cases r4
        case false =>
          go_wp2_with fail
          go_ret
          exact ⟨by rw [HS.out]; rfl, HB4.out.1⟩
        case true =>
          cases r5
          case false =>
            go_wp2_with fail
            go_ret
            exact ⟨by rw [HS.out]; rfl, HB4.out.1⟩
          case true =>
            go_wp2_with fail
            refine (H6.out _ HB4.out.1).mono ?_
            rintro e w6 ⟨rfl, hb⟩
            have HB6 : Hid (Below W.heap.size W w6 ∧ w6.heap[W.heap.size]? = some (.cells (pvC v p) 27 (0, 0)) ∧ w6.heap[W.heap.size + 1]? = some (.cells (pvC u q) 27 (0, 0))) := ⟨HB4.out.1.trans (hb.mono HB4.out.1.size), (hb.block _ (blk_lt HB4.out.2.1)).trans HB4.out.2.1, (hb.block _ (blk_lt HB4.out.2.2)).trans HB4.out.2.2⟩
            clear hb c0 c1 c2 c3 c4 c5 d0 d1 d2 d3 d4 d5
            obtain ⟨c0, c1, c2, c3, c4, c5⟩ := cells6 HB6.out.2.1
            obtain ⟨d0, d1, d2, d3, d4, d5⟩ := cells6 HB6.out.2.2
            cases r6
            case false =>
              go_wp2_with fail
              go_ret
              exact ⟨by rw [HS.out]; rfl, HB6.out.1⟩
            case true =>
              go_wp2_with fail
              go_ret
              exact ⟨by rw [HS.out]; rfl, HB6.out.1⟩
end Go.Proofs.YtcicifcnffacpaaDoor.Cd
