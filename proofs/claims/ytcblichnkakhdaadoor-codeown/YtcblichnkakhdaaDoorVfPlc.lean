import Derived.Test.YtcblichnkakhdaaDoorVfRd
namespace Go.Proofs.YtcblichnkakhdaaDoor.Vf
open Go.RowKit Go.Proofs.YtcblichnkakhdaaDoor.Nm

set_option maxHeartbeats 6400000 in
set_option maxRecDepth 100000 in
/-- placesFit -/
theorem plc_any (v : PV) (p : Pg) (w : World) (hP : IsPg w v p) : Calls Tryd.prog 46 #[.agg (pvC v p)] w fun e w' => e = .returned (.bool (plcF p)) ∧ Below w.heap.size w w' := by
  obtain ⟨qo, qc, vo, vc, to, tc, oo, oc, co, cc⟩ := v
  show Calls _ _ #[.agg #[.slice qo p.gh.length qc, .slice vo p.vs.length vc, .slice to p.ts.length tc, .slice oo p.on.length oc, .int .i64 p.miss, .slice co p.cd.length cc]] _ _
  have HB : Hid (Below w.heap.size w (w.alloc (.cells #[.slice qo p.gh.length qc, .slice vo p.vs.length vc, .slice to p.ts.length tc, .slice oo p.on.length oc, .int .i64 p.miss, .slice co p.cd.length cc] 29)) ∧ (w.alloc (.cells #[.slice qo p.gh.length qc, .slice vo p.vs.length vc, .slice to p.ts.length tc, .slice oo p.on.length oc, .int .i64 p.miss, .slice co p.cd.length cc] 29)).heap[w.heap.size]? = some (.cells #[.slice qo p.gh.length qc, .slice vo p.vs.length vc, .slice to p.ts.length tc, .slice oo p.on.length oc, .int .i64 p.miss, .slice co p.cd.length cc] 29 (0, 0))) := ⟨(Below.refl _ w).alloc (Nat.le_refl _) _, heap_alloc_new _ _⟩
  have HP : Hid (IsPg w ⟨qo, qc, vo, vc, to, tc, oo, oc, co, cc⟩ p) := hP
  have n1 : (p.gh.length : Int) ≤ 1000000000000000 := by have := hP.lgh; omega
  have n2 : (p.on.length : Int) ≤ 1000000000000000 := by have := hP.lon; omega
  have n3 : (p.cd.length : Int) ≤ 1000000000000000 := by have := hP.lcd; omega
  clear hP
  by_cases h1 : p.on.length = p.gh.length
  case neg =>
    have h1' : ¬ (p.on.length : Int) = (p.gh.length : Int) := by omega
    have hr : plcF p = false := by unfold plcF; rw [decide_eq_false h1, Bool.false_and]
    rw [hr]
    clear h1
    go_enter Tryd.func46, Tryd.ntmps46
    go_wp2_with fail
    go_ret
    exact ⟨rfl, HB.out.1⟩
  rw [h1] at HB n2 ⊢
  by_cases h2 : 262144 < p.cd.length
  · have h2' : 262144 < (p.cd.length : Int) := by omega
    have hr : plcF p = false := by unfold plcF; rw [decide_eq_false (p := p.cd.length ≤ 262144) (by omega), Bool.false_and, Bool.and_false]
    rw [hr]
    go_enter Tryd.func46, Tryd.ntmps46
    go_wp2_with fail
    go_ret
    exact ⟨rfl, HB.out.1⟩
  have h2' : ¬ 262144 < (p.cd.length : Int) := by omega
  have hr : plcF p = (p.on.all (plcI p) && plcI p p.miss) := by
    unfold plcF
    rw [decide_eq_true h1, decide_eq_true (p := p.cd.length ≤ 262144) (by omega)]
    rfl
  rw [hr]
  have H1 : Hid (p.on.length = p.gh.length) := h1
  clear hr h2
  go_enter Tryd.func46, Tryd.ntmps46
  go_wp2_with fail
  obtain ⟨W2, hW2⟩ : ∃ W2, W2 = w.alloc (.cells #[.slice qo p.gh.length qc, .slice vo p.vs.length vc, .slice to p.ts.length tc, .slice oo p.gh.length oc, .int .i64 p.miss, .slice co p.cd.length cc] 29) := ⟨_, rfl⟩
  rw [← hW2]
  have HB2 : Hid (Below w.heap.size w W2 ∧ W2.heap[w.heap.size]? = some (.cells #[.slice qo p.gh.length qc, .slice vo p.vs.length vc, .slice to p.ts.length tc, .slice oo p.gh.length oc, .int .i64 p.miss, .slice co p.cd.length cc] 29 (0, 0))) := by rw [hW2]; exact HB.out
  clear hW2 HB
  obtain ⟨i0, i1, i2, i3, i4, i5⟩ := cells6 HB2.out.2
  go_loopg [21] p.gh.length (fun gq x wr => ∃ j : Nat, j ≤ p.gh.length ∧ gq = p.gh.length - j ∧ x = .int .i64 (j : Int) ∧ (p.on.take j).all (plcI p) = true ∧ wr = W2)
  case atStart => exact ⟨0, Nat.zero_le _, rfl, rfl, rfl, rfl⟩
  case round =>
    obtain ⟨j, hj, hgk, rfl, ha, rfl⟩ := hrel
    have HG2 : Hid (gk = p.gh.length - j ∧ (p.on.take j).all (plcI p) = true) := ⟨hgk, ha⟩
    clear hgk ha
    by_cases hlt : j < p.gh.length
    · have hlt' : (j : Int) < (p.gh.length : Int) := by omega
      have hlt2 : j < p.on.length := by have := H1.out; omega
      obtain ⟨g, f, hvo, hg, d0⟩ := rd_int (HP.out.on.below HB2.out.1) hlt2
      obtain rfl : oo = some ⟨g, f, none⟩ := hvo
      have HLt : Hid (j < p.gh.length) := hlt
      by_cases hv : plcI p p.on[j] = true
      · have HA : Hid ((p.on.take (j + 1)).all (plcI p) = true) := all_take hlt2 HG2.out.2 hv
        unfold plcI at hv
        simp only [Bool.and_eq_true, decide_eq_true_eq] at hv
        obtain ⟨v1, v2⟩ := hv
        generalize p.on[j] = y0 at *
        have v1' : ¬ y0 < -1 := by omega
        have v2' : ¬ (p.cd.length : Int) ≤ y0 := by omega
        clear hlt hlt2 v1 v2 hg
        go_wp2_with fail
        go_roundg (p.gh.length - (j + 1))
        case measure => have h1 := HG2.out.1; have := HLt.out; omega
        case rel => exact ⟨j + 1, HLt.out, rfl, by go_num, HA.out, rfl⟩
      · have hr : (p.on.all (plcI p)) = false := all_not hlt2 (Bool.eq_false_iff.2 hv)
        have HR : Hid _ := hr
        unfold plcI at hv
        simp only [Bool.and_eq_true, decide_eq_true_eq] at hv
        generalize p.on[j] = y0 at *
        clear hlt hlt2 hr hg
        have hw : y0 < -1 ∨ (¬ y0 < -1 ∧ (p.cd.length : Int) ≤ y0) := by omega
        clear hv
        rcases hw with hw | ⟨w1, hw⟩
        all_goals
          go_wp2_with fail
          go_ret
          exact ⟨by rw [HR.out]; rfl, HB2.out.1⟩
    · have hlt' : ¬ (j : Int) < (p.gh.length : Int) := by omega
      obtain rfl : j = p.gh.length := by omega
      have hva : p.on.all (plcI p) = true := by have := HG2.out.2; rwa [← H1.out, List.take_length] at this
      have HR : Hid ((p.on.all (plcI p) && plcI p p.miss) = plcI p p.miss) := by rw [hva]; rfl
      clear hva hlt hj
      by_cases hv : plcI p p.miss = true
      · have HR2 : Hid _ := hv
        unfold plcI at hv
        simp only [Bool.and_eq_true, decide_eq_true_eq] at hv
        obtain ⟨v1, v2⟩ := hv
        go_wp2_with fail
        go_ret
        exact ⟨by rw [HR.out, HR2.out]; rfl, HB2.out.1⟩
      · have HR2 : Hid _ := Bool.eq_false_iff.2 hv
        unfold plcI at hv
        simp only [Bool.and_eq_true, decide_eq_true_eq] at hv
        have hw : ¬ -1 ≤ p.miss ∨ (-1 ≤ p.miss ∧ ¬ p.miss < (p.cd.length : Int)) := by omega
        clear hv
        rcases hw with hw | ⟨w1, hw⟩
        all_goals
          go_wp2_with fail
          go_ret
          exact ⟨by rw [HR.out, HR2.out]; rfl, HB2.out.1⟩
end Go.Proofs.YtcblichnkakhdaaDoor.Vf
