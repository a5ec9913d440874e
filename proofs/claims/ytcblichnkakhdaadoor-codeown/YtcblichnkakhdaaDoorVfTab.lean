import Derived.Test.YtcblichnkakhdaaDoorVfRd
namespace Go.Proofs.YtcblichnkakhdaaDoor.Vf
open Go.RowKit Go.Proofs.YtcblichnkakhdaaDoor.Nm

set_option maxHeartbeats 6400000 in
set_option maxRecDepth 100000 in
/-- tablesFit -/
theorem tab_any (v : PV) (p : Pg) (w : World) (hP : IsPg w v p) : Calls Tryd.prog 45 #[.agg (pvC v p)] w fun e w' => e = .returned (.bool (tabF p)) ∧ Below w.heap.size w w' := by
  obtain ⟨qo, qc, vo, vc, to, tc, oo, oc, co, cc⟩ := v
  show Calls _ _ #[.agg #[.slice qo p.gh.length qc, .slice vo p.vs.length vc, .slice to p.ts.length tc, .slice oo p.on.length oc, .int .i64 p.miss, .slice co p.cd.length cc]] _ _
  have hb0 : Below w.heap.size w (w.alloc (.cells #[.slice qo p.gh.length qc, .slice vo p.vs.length vc, .slice to p.ts.length tc, .slice oo p.on.length oc, .int .i64 p.miss, .slice co p.cd.length cc] 29)) := (Below.refl _ w).alloc (Nat.le_refl _) _
  have HB : Hid (Below w.heap.size w (w.alloc (.cells #[.slice qo p.gh.length qc, .slice vo p.vs.length vc, .slice to p.ts.length tc, .slice oo p.on.length oc, .int .i64 p.miss, .slice co p.cd.length cc] 29)) ∧ (w.alloc (.cells #[.slice qo p.gh.length qc, .slice vo p.vs.length vc, .slice to p.ts.length tc, .slice oo p.on.length oc, .int .i64 p.miss, .slice co p.cd.length cc] 29)).heap[w.heap.size]? = some (.cells #[.slice qo p.gh.length qc, .slice vo p.vs.length vc, .slice to p.ts.length tc, .slice oo p.on.length oc, .int .i64 p.miss, .slice co p.cd.length cc] 29 (0, 0))) := ⟨hb0, heap_alloc_new _ _⟩
  have HP : Hid (IsPg w ⟨qo, qc, vo, vc, to, tc, oo, oc, co, cc⟩ p) := hP
  have n1 : (p.gh.length : Int) ≤ 1000000000000000 := by have := hP.lgh; omega
  have n2 : (p.vs.length : Int) ≤ 1000000000000000 := by have := hP.lvs; omega
  have n3 : (p.ts.length : Int) ≤ 1000000000000000 := by have := hP.lts; omega
  clear hb0 hP
  by_cases h1 : 16 < p.gh.length
  · have h1' : 16 < (p.gh.length : Int) := by omega
    have hr : tabF p = false := by unfold tabF; rw [decide_eq_false (by omega), Bool.false_and]
    rw [hr]
    go_enter Tryd.func45, Tryd.ntmps45
    go_wp2_with fail
    go_ret
    exact ⟨rfl, HB.out.1⟩
  have h1' : ¬ 16 < (p.gh.length : Int) := by omega
  by_cases h2 : 16 < p.vs.length
  · have h2' : 16 < (p.vs.length : Int) := by omega
    have hr : tabF p = false := by unfold tabF; rw [decide_eq_false (p := p.vs.length ≤ 16) (by omega), Bool.false_and, Bool.and_false]
    rw [hr]
    go_enter Tryd.func45, Tryd.ntmps45
    go_wp2_with fail
    go_ret
    exact ⟨rfl, HB.out.1⟩
  have h2' : ¬ 16 < (p.vs.length : Int) := by omega
  by_cases h3 : 4 < p.ts.length
  · have h3' : 4 < (p.ts.length : Int) := by omega
    have hr : tabF p = false := by unfold tabF; rw [decide_eq_false (p := p.ts.length ≤ 4) (by omega), Bool.false_and, Bool.and_false, Bool.and_false]
    rw [hr]
    go_enter Tryd.func45, Tryd.ntmps45
    go_wp2_with fail
    go_ret
    exact ⟨rfl, HB.out.1⟩
  have h3' : ¬ 4 < (p.ts.length : Int) := by omega
  have hr : tabF p = (p.vs.all varF && p.ts.all tagF) := by
    unfold tabF
    rw [decide_eq_true (p := p.gh.length ≤ 16) (by omega), decide_eq_true (p := p.vs.length ≤ 16) (by omega), decide_eq_true (p := p.ts.length ≤ 4) (by omega)]
    rfl
  rw [hr]
  clear hr h1 h2 h3
  go_enter Tryd.func45, Tryd.ntmps45
  go_wp2_with fail
  go_loopg [26] p.vs.length (fun gq x wr => ∃ j : Nat, j ≤ p.vs.length ∧ gq = p.vs.length - j ∧ x = .int .i64 (j : Int) ∧ (p.vs.take j).all varF = true ∧ Below w.heap.size w wr ∧ wr.heap[w.heap.size]? = some (.cells #[.slice qo p.gh.length qc, .slice vo p.vs.length vc, .slice to p.ts.length tc, .slice oo p.on.length oc, .int .i64 p.miss, .slice co p.cd.length cc] 29 (0, 0)))
  case atStart => exact ⟨0, Nat.zero_le _, rfl, rfl, rfl, HB.out.1, HB.out.2⟩
  case round =>
    obtain ⟨j, hj, hgk, rfl, ha, hb, hx⟩ := hrel
    have HG : Hid (gk = p.vs.length - j ∧ (p.vs.take j).all varF = true ∧ Below w.heap.size w wr ∧ wr.heap[w.heap.size]? = some (.cells #[.slice qo p.gh.length qc, .slice vo p.vs.length vc, .slice to p.ts.length tc, .slice oo p.on.length oc, .int .i64 p.miss, .slice co p.cd.length cc] 29 (0, 0))) := ⟨hgk, ha, hb, hx⟩
    clear hgk ha hb hx HB
    by_cases hlt : j < p.vs.length
    · have hlt' : (j : Int) < (p.vs.length : Int) := by omega
      obtain ⟨g, f, hvo, hg, d0, d1, d2⟩ := rd_var (HP.out.vs.below HG.out.2.2.1) hlt
      have HN : Hid (∀ x, Below w.heap.size w (wr.alloc x) ∧ (wr.alloc x).heap[w.heap.size]? = some (.cells #[.slice qo p.gh.length qc, .slice vo p.vs.length vc, .slice to p.ts.length tc, .slice oo p.on.length oc, .int .i64 p.miss, .slice co p.cd.length cc] 29 (0, 0))) := fun x => ⟨HG.out.2.2.1.alloc HG.out.2.2.1.size _, (((Below.refl _ wr).alloc (Nat.le_refl _) x).block _ (blk_lt HG.out.2.2.2)).trans HG.out.2.2.2⟩
      obtain rfl : vo = some ⟨g, f, none⟩ := hvo
      have HLt : Hid (j < p.vs.length) := hlt
      have hg1 : ¬ g = wr.heap.size := by omega
      by_cases hv : varF p.vs[j] = true
      · have HA : Hid ((p.vs.take (j + 1)).all varF = true) := all_take hlt HG.out.2.1 hv
        unfold varF at hv
        simp only [Bool.and_eq_true, decide_eq_true_eq] at hv
        obtain ⟨v1, v2, v3, v4⟩ := hv
        generalize p.vs[j].1 = y0 at *
        generalize p.vs[j].2.1 = y1 at *
        generalize p.vs[j].2.2 = y2 at *
        have v1' : ¬ y1 < -1073741824 := by omega
        have v2' : ¬ y0 < y1 := by omega
        have v3' : ¬ y2 < y0 := by omega
        have v4' : ¬ 1073741824 < y2 := by omega
        clear hlt v1 v2 v3 v4 hg
        go_wp2_with fail
        go_roundg (p.vs.length - (j + 1))
        case measure => have h1 := HG.out.1; have := HLt.out; omega
        case rel => exact ⟨j + 1, HLt.out, rfl, by go_num, HA.out, (HN.out _).1, (HN.out _).2⟩
      · have hr : (p.vs.all varF && p.ts.all tagF) = false := by rw [all_not hlt (Bool.eq_false_iff.2 hv)]; rfl
        have HR : Hid _ := hr
        unfold varF at hv
        simp only [Bool.and_eq_true, decide_eq_true_eq] at hv
        generalize p.vs[j].1 = y0 at *
        generalize p.vs[j].2.1 = y1 at *
        generalize p.vs[j].2.2 = y2 at *
        clear hlt hr hg
        have hw : y1 < -1073741824 ∨ (¬ y1 < -1073741824 ∧ y0 < y1) ∨ (¬ y1 < -1073741824 ∧ ¬ y0 < y1 ∧ y2 < y0) ∨ (¬ y1 < -1073741824 ∧ ¬ y0 < y1 ∧ ¬ y2 < y0 ∧ 1073741824 < y2) := by omega
        clear hv
        rcases hw with hw | ⟨w1, hw⟩ | ⟨w1, w2, hw⟩ | ⟨w1, w2, w3, hw⟩
        all_goals
          go_wp2_with fail
          go_ret
          exact ⟨by rw [HR.out]; rfl, (HN.out _).1⟩
    · have hlt' : ¬ (j : Int) < (p.vs.length : Int) := by omega
      obtain rfl : j = p.vs.length := by omega
      have hva : p.vs.all varF = true := by have := HG.out.2.1; rwa [List.take_length] at this
      have HV : Hid ((p.vs.all varF && p.ts.all tagF) = p.ts.all tagF) := by rw [hva]; rfl
      obtain ⟨i0, i1, i2, i3, i4, i5⟩ := cells6 HG.out.2.2.2
      have HBl : Hid (Below w.heap.size w wr) := HG.out.2.2.1
      clear hlt hva hj HG
      obtain ⟨W2, rfl⟩ : ∃ W2, W2 = wr := ⟨_, rfl⟩
      go_wp2_with fail
      go_loopg [56] p.ts.length (fun gq x wr => ∃ j : Nat, j ≤ p.ts.length ∧ gq = p.ts.length - j ∧ x = .int .i64 (j : Int) ∧ (p.ts.take j).all tagF = true ∧ wr = W2)
      case atStart => exact ⟨0, Nat.zero_le _, rfl, rfl, rfl, rfl⟩
      case round =>
        obtain ⟨j, hj, hgk, rfl, ha, rfl⟩ := hrel
        have HG2 : Hid (gk = p.ts.length - j ∧ (p.ts.take j).all tagF = true) := ⟨hgk, ha⟩
        clear hgk ha
        by_cases hlt : j < p.ts.length
        · have hlt' : (j : Int) < (p.ts.length : Int) := by omega
          obtain ⟨g, f, hvo, hg, d0⟩ := rd_int (HP.out.ts.below HBl.out) hlt
          obtain rfl : to = some ⟨g, f, none⟩ := hvo
          have HLt : Hid (j < p.ts.length) := hlt
          by_cases hv : tagF p.ts[j] = true
          · have HA : Hid ((p.ts.take (j + 1)).all tagF = true) := all_take hlt HG2.out.2 hv
            unfold tagF at hv
            simp only [Bool.and_eq_true, decide_eq_true_eq] at hv
            obtain ⟨v1, v2⟩ := hv
            generalize p.ts[j] = y0 at *
            have v1' : ¬ y0 < 1 := by omega
            have v2' : ¬ 255 < y0 := by omega
            clear hlt v1 v2 hg
            go_wp2_with fail
            go_roundg (p.ts.length - (j + 1))
            case measure => have h1 := HG2.out.1; have := HLt.out; omega
            case rel => exact ⟨j + 1, HLt.out, rfl, by go_num, HA.out, rfl⟩
          · have hr : (p.ts.all tagF) = false := all_not hlt (Bool.eq_false_iff.2 hv)
            have HR : Hid _ := hr
            unfold tagF at hv
            simp only [Bool.and_eq_true, decide_eq_true_eq] at hv
            generalize p.ts[j] = y0 at *
            clear hlt hr hg
            have hw : y0 < 1 ∨ (¬ y0 < 1 ∧ 255 < y0) := by omega
            clear hv
            rcases hw with hw | ⟨w1, hw⟩
            all_goals
              go_wp2_with fail
              go_ret
              exact ⟨by rw [HV.out, HR.out]; rfl, HBl.out⟩
        · have hlt' : ¬ (j : Int) < (p.ts.length : Int) := by omega
          obtain rfl : j = p.ts.length := by omega
          have hva : p.ts.all tagF = true := by have := HG2.out.2; rwa [List.take_length] at this
          have HR : Hid _ := hva
          clear hva hlt hj
          go_wp2_with fail
          go_ret
          exact ⟨by rw [HV.out, HR.out]; rfl, HBl.out⟩
end Go.Proofs.YtcblichnkakhdaaDoor.Vf
