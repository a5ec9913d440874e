import Derived.BigRegion
import Derived.Test.YtjoflihimpipcabGreatK43
set_option maxHeartbeats 25600000
set_option maxRecDepth 100000
namespace Go.Proofs.YtjoflihimpipcabGreat.Nm.Ty
open Go.RowKit Go.Maps Go.Proofs.YtjoflihimpipcabGreat.Sp Go.Proofs.YtjoflihimpipcabGreat.Lx Go.Proofs.YtjoflihimpipcabGreat.Gr Go.Proofs.YtjoflihimpipcabGreat.Nm
theorem take_rat {l : List Rz} {k : Nat} (h : k < l.length) : l.take (k + 1) = l.take k ++ [rat l k] := by
  rw [List.take_add_one, some_rat h]
  rfl
theorem namesCap_hit {l : List Rz} {k q : Nat} (h : k < l.length) (hh : (rat l k).kind = 32 ∧ (rat l k).n = (q : Int)) : capN l q = true := List.any_eq_true.2 ⟨rat l k, List.mem_of_getElem? (some_rat h), by generalize rat l k = r at hh ⊢; simp [hh.1, hh.2]⟩
theorem namesCap_step {l : List Rz} {k q : Nat} (h : k < l.length) (h1 : capN (l.take k) q = false) (hh : ¬ ((rat l k).kind = 32 ∧ (rat l k).n = (q : Int))) : capN (l.take (k + 1)) q = false := by
  rw [take_rat h]
  unfold capN at h1 ⊢
  rw [List.any_append, h1]
  generalize rat l k = r at hh ⊢
  simpa using hh
theorem namesSize_hit {l : List Rz} {k : Nat} (h : k < l.length) (hh : (rat l k).kind = 33) : sizN l = true := List.any_eq_true.2 ⟨rat l k, List.mem_of_getElem? (some_rat h), by generalize rat l k = r at hh ⊢; simp [hh]⟩
theorem namesSize_step {l : List Rz} {k : Nat} (h : k < l.length) (h1 : sizN (l.take k) = false) (hh : ¬ (rat l k).kind = 33) : sizN (l.take (k + 1)) = false := by
  rw [take_rat h]
  unfold sizN at h1 ⊢
  rw [List.any_append, h1]
  generalize rat l k = r at hh ⊢
  simpa using hh
theorem namesCap_any {P : Pg} {ao qo vo tto uo oo : Option Addr} {ac qc vc tc uc oc : Nat} {w : World} (h : IsRz w ao P.rows) (hn : P.rows.length ≤ 2932031007317) (q : Nat) :
    Calls Tryz.prog 8 #[pvG P ao qo vo tto uo oo ac qc vc tc uc oc, .int .i64 (q : Int)] w fun e w' => e = .returned (.bool (capN P.rows q)) ∧ Below w.heap.size w w' := by
  have hb1 : Below w.heap.size w (w.alloc (.cells #[.string P.name, .slice ao P.rows.length ac, .slice qo P.qs.length qc, .slice vo P.vs.length vc, .slice tto P.ts.length tc, .slice uo P.us.length uc, .slice oo P.on.length oc, .int .i64 P.miss] 30)) := (Below.refl _ w).alloc (Nat.le_refl _) _
  have HB : Hid (Below w.heap.size w (w.alloc (.cells #[.string P.name, .slice ao P.rows.length ac, .slice qo P.qs.length qc, .slice vo P.vs.length vc, .slice tto P.ts.length tc, .slice uo P.us.length uc, .slice oo P.on.length oc, .int .i64 P.miss] 30))) := hb1
  have HI := show Hid _ from IsRz.below h hb1
  have HX := show Hid _ from heap_alloc_new w (.cells #[.string P.name, .slice ao P.rows.length ac, .slice qo P.qs.length qc, .slice vo P.vs.length vc, .slice tto P.ts.length tc, .slice uo P.us.length uc, .slice oo P.on.length oc, .int .i64 P.miss] 30)
  have hln : (P.rows.length : Int) ≤ 2932031007317 := by omega
  obtain ⟨k0, k1, k2, k3, k4, k5, k6, k7⟩ := pol8 HX.out
  dsimp only [pvG] at *
  clear h hn hb1
  go_enter Tryz.func8, Tryz.ntmps8
  go_wp2_with fail
  generalize (w.alloc (.cells #[.string P.name, .slice ao P.rows.length ac, .slice qo P.qs.length qc, .slice vo P.vs.length vc, .slice tto P.ts.length tc, .slice uo P.us.length uc, .slice oo P.on.length oc, .int .i64 P.miss] 30)) = w1 at *
  go_loopg [5] P.rows.length (fun gq x wr => ∃ k : Nat, k ≤ P.rows.length ∧ gq = P.rows.length - k ∧ x = .int .i64 (k : Int) ∧ capN (P.rows.take k) q = false ∧ wr = w1)
  case atStart => exact ⟨0, Nat.zero_le _, rfl, rfl, rfl, rfl⟩
  case round =>
    obtain ⟨k, hk, hgk, rfl, hno, hw⟩ := hrel
    subst hw
    have HG : Hid (gk = P.rows.length - k) := hgk
    have HNo : Hid (capN (P.rows.take k) q = false) := hno
    clear hgk hno
    by_cases hlt : k < P.rows.length
    · have hlt' : (k : Int) < (P.rows.length : Int) := by omega
      have HLt : Hid (k < P.rows.length) := hlt
      obtain ⟨ga, oa, rfl, hga, c0, c1, c2, c3, c4⟩ := row_cells HI.out hlt
      clear hlt hk
      by_cases hh : (rat P.rows k).kind = 32 ∧ (rat P.rows k).n = (q : Int)
      · have HF : Hid (capN P.rows q = true) := namesCap_hit HLt.out hh
        have e1 : ((rat P.rows k).kind == 32) = true := by simpa using hh.1
        have e2 : ((rat P.rows k).n == (q : Int)) = true := by simpa using hh.2
        generalize (rat P.rows k).kind = kd at *
        generalize (rat P.rows k).n = nn at *
        clear hh HNo
        go_wp2_with fail
        go_ret
        rw [HF.out]
        exact ⟨rfl, HB.out⟩
      · have HN : Hid (capN (P.rows.take (k + 1)) q = false) := namesCap_step HLt.out HNo.out hh
        by_cases h32 : (rat P.rows k).kind = 32
        · have e1 : ((rat P.rows k).kind == 32) = true := by simpa using h32
          have e2 : ((rat P.rows k).n == (q : Int)) = false := by simpa using fun e => hh ⟨h32, e⟩
          generalize (rat P.rows k).kind = kd at *
          generalize (rat P.rows k).n = nn at *
          clear hh HNo h32
          go_wp2_with fail
          go_roundg (P.rows.length - (k + 1))
          case measure => have h1 := HG.out; have := HLt.out; omega
          case rel => exact ⟨k + 1, HLt.out, rfl, by go_num, HN.out, rfl⟩
        · have e1 : ((rat P.rows k).kind == 32) = false := by simpa using h32
          generalize (rat P.rows k).kind = kd at *
          generalize (rat P.rows k).n = nn at *
          clear hh HNo h32
          go_wp2_with fail
          go_roundg (P.rows.length - (k + 1))
          case measure => have h1 := HG.out; have := HLt.out; omega
          case rel => exact ⟨k + 1, HLt.out, rfl, by go_num, HN.out, rfl⟩
    · have hlt' : ¬ (k : Int) < (P.rows.length : Int) := by omega
      obtain rfl : k = P.rows.length := by omega
      have HN := HNo.out
      rw [List.take_length] at HN
      have HF := show Hid _ from HN
      clear HN HNo hlt hk
      go_wp2_with fail
      go_ret
      rw [HF.out]
      exact ⟨rfl, HB.out⟩
theorem namesSize_any {P : Pg} {ao qo vo tto uo oo : Option Addr} {ac qc vc tc uc oc : Nat} {w : World} (h : IsRz w ao P.rows) (hn : P.rows.length ≤ 2932031007317) :
    Calls Tryz.prog 9 #[pvG P ao qo vo tto uo oo ac qc vc tc uc oc] w fun e w' => e = .returned (.bool (sizN P.rows)) ∧ Below w.heap.size w w' := by
  have hb1 : Below w.heap.size w (w.alloc (.cells #[.string P.name, .slice ao P.rows.length ac, .slice qo P.qs.length qc, .slice vo P.vs.length vc, .slice tto P.ts.length tc, .slice uo P.us.length uc, .slice oo P.on.length oc, .int .i64 P.miss] 30)) := (Below.refl _ w).alloc (Nat.le_refl _) _
  have HB : Hid (Below w.heap.size w (w.alloc (.cells #[.string P.name, .slice ao P.rows.length ac, .slice qo P.qs.length qc, .slice vo P.vs.length vc, .slice tto P.ts.length tc, .slice uo P.us.length uc, .slice oo P.on.length oc, .int .i64 P.miss] 30))) := hb1
  have HI := show Hid _ from IsRz.below h hb1
  have HX := show Hid _ from heap_alloc_new w (.cells #[.string P.name, .slice ao P.rows.length ac, .slice qo P.qs.length qc, .slice vo P.vs.length vc, .slice tto P.ts.length tc, .slice uo P.us.length uc, .slice oo P.on.length oc, .int .i64 P.miss] 30)
  have hln : (P.rows.length : Int) ≤ 2932031007317 := by omega
  obtain ⟨k0, k1, k2, k3, k4, k5, k6, k7⟩ := pol8 HX.out
  dsimp only [pvG] at *
  clear h hn hb1
  go_enter Tryz.func9, Tryz.ntmps9
  go_wp2_with fail
  generalize (w.alloc (.cells #[.string P.name, .slice ao P.rows.length ac, .slice qo P.qs.length qc, .slice vo P.vs.length vc, .slice tto P.ts.length tc, .slice uo P.us.length uc, .slice oo P.on.length oc, .int .i64 P.miss] 30)) = w1 at *
  go_loopg [3] P.rows.length (fun gq x wr => ∃ k : Nat, k ≤ P.rows.length ∧ gq = P.rows.length - k ∧ x = .int .i64 (k : Int) ∧ sizN (P.rows.take k) = false ∧ wr = w1)
  case atStart => exact ⟨0, Nat.zero_le _, rfl, rfl, rfl, rfl⟩
  case round =>
    obtain ⟨k, hk, hgk, rfl, hno, hw⟩ := hrel
    subst hw
    have HG : Hid (gk = P.rows.length - k) := hgk
    have HNo : Hid (sizN (P.rows.take k) = false) := hno
    clear hgk hno
    by_cases hlt : k < P.rows.length
    · have hlt' : (k : Int) < (P.rows.length : Int) := by omega
      have HLt : Hid (k < P.rows.length) := hlt
      obtain ⟨ga, oa, rfl, hga, c0, c1, c2, c3, c4⟩ := row_cells HI.out hlt
      clear hlt hk
      by_cases hh : (rat P.rows k).kind = 33
      · have HF : Hid (sizN P.rows = true) := namesSize_hit HLt.out hh
        have e1 : ((rat P.rows k).kind == 33) = true := by simpa using hh
        generalize (rat P.rows k).kind = kd at *
        clear hh HNo
        go_wp2_with fail
        go_ret
        rw [HF.out]
        exact ⟨rfl, HB.out⟩
      · have HN : Hid (sizN (P.rows.take (k + 1)) = false) := namesSize_step HLt.out HNo.out hh
        have e1 : ((rat P.rows k).kind == 33) = false := by simpa using hh
        generalize (rat P.rows k).kind = kd at *
        clear hh HNo
        go_wp2_with fail
        go_roundg (P.rows.length - (k + 1))
        case measure => have h1 := HG.out; have := HLt.out; omega
        case rel => exact ⟨k + 1, HLt.out, rfl, by go_num, HN.out, rfl⟩
    · have hlt' : ¬ (k : Int) < (P.rows.length : Int) := by omega
      obtain rfl : k = P.rows.length := by omega
      have HN := HNo.out
      rw [List.take_length] at HN
      have HF := show Hid _ from HN
      clear HN HNo hlt hk
      go_wp2_with fail
      go_ret
      rw [HF.out]
      exact ⟨rfl, HB.out⟩
theorem iv_len (l : List Int) : (iv l).length = l.length := by simp [iv]
theorem vC_len (l : List (Int × Int × Int)) : (vC l).length = l.length * 3 := by
  induction l with
  | nil => rfl
  | cons x l ih =>
    have e : vC (x :: l) = [.int .i64 x.1, .int .i64 x.2.1, .int .i64 x.2.2] ++ vC l := by simp [vC]
    rw [e, List.length_append, ih]
    simp
    omega
theorem vC_at {l : List (Int × Int × Int)} {k : Nat} (h : k < l.length) : (vC l)[k * 3]? = some (.int .i64 l[k].1) ∧ (vC l)[k * 3 + 1]? = some (.int .i64 l[k].2.1) ∧ (vC l)[k * 3 + 2]? = some (.int .i64 l[k].2.2) := by
  induction l generalizing k with
  | nil => simp at h
  | cons x l ih =>
    have e : vC (x :: l) = [.int .i64 x.1, .int .i64 x.2.1, .int .i64 x.2.2] ++ vC l := by simp [vC]
    cases k with
    | zero => rw [e]; exact ⟨rfl, rfl, rfl⟩
    | succ k =>
      have h2 := ih (k := k) (by simpa using h)
      rw [e]
      refine ⟨?_, ?_, ?_⟩
      · rw [List.getElem?_append_right (by simp; omega)]
        have : (k + 1) * 3 - [Value.int .i64 x.1, .int .i64 x.2.1, .int .i64 x.2.2].length = k * 3 := by simp; omega
        rw [this]
        exact h2.1
      · rw [List.getElem?_append_right (by simp; omega)]
        have : (k + 1) * 3 + 1 - [Value.int .i64 x.1, .int .i64 x.2.1, .int .i64 x.2.2].length = k * 3 + 1 := by simp; omega
        rw [this]
        exact h2.2.1
      · rw [List.getElem?_append_right (by simp; omega)]
        have : (k + 1) * 3 + 2 - [Value.int .i64 x.1, .int .i64 x.2.1, .int .i64 x.2.2].length = k * 3 + 2 := by simp; omega
        rw [this]
        exact h2.2.2
/-- what is told twice, the same -/
theorem sameTyped_any {vs : List (Int × Int × Int)} {ts rl : List Int} {vo1 to1 ro1 vo2 to2 ro2 : Option Addr} {vc1 tc1 rc1 vc2 tc2 rc2 : Nat} {w : World} (h1 : IsVals w vo1 (vC vs)) (h2 : IsVals w vo2 (vC vs)) (h3 : IsVals w to1 (iv ts)) (h4 : IsVals w to2 (iv ts)) (h5 : IsVals w ro1 (iv rl)) (h6 : IsVals w ro2 (iv rl)) (hv : vs.length ≤ 2932031007317) (ht : ts.length ≤ 2932031007317) (hr : rl.length ≤ 2932031007317) :
    Calls Tryz.prog 12 #[.agg #[.slice vo1 vs.length vc1, .slice to1 ts.length tc1, .slice ro1 rl.length rc1], .agg #[.slice vo2 vs.length vc2, .slice to2 ts.length tc2, .slice ro2 rl.length rc2]] w fun e w' => e = .returned (.bool true) ∧ Below w.heap.size w w' := by
  have hb : Below w.heap.size w ((w.alloc (.cells #[.slice vo1 vs.length vc1, .slice to1 ts.length tc1, .slice ro1 rl.length rc1] 40)).alloc (.cells #[.slice vo2 vs.length vc2, .slice to2 ts.length tc2, .slice ro2 rl.length rc2] 40)) := ((Below.refl _ w).alloc (Nat.le_refl _) _).alloc (by simp) _
  have HB := show Hid _ from hb
  have HX : Hid (((w.alloc (.cells #[.slice vo1 vs.length vc1, .slice to1 ts.length tc1, .slice ro1 rl.length rc1] 40)).alloc (.cells #[.slice vo2 vs.length vc2, .slice to2 ts.length tc2, .slice ro2 rl.length rc2] 40)).heap[w.heap.size]? = some (.cells #[.slice vo1 vs.length vc1, .slice to1 ts.length tc1, .slice ro1 rl.length rc1] 40 (0, 0)) ∧ ((w.alloc (.cells #[.slice vo1 vs.length vc1, .slice to1 ts.length tc1, .slice ro1 rl.length rc1] 40)).alloc (.cells #[.slice vo2 vs.length vc2, .slice to2 ts.length tc2, .slice ro2 rl.length rc2] 40)).heap[w.heap.size + 1]? = some (.cells #[.slice vo2 vs.length vc2, .slice to2 ts.length tc2, .slice ro2 rl.length rc2] 40 (0, 0))) := ⟨by rw [alloc_old _ _ _ (by simp)]; exact alloc_at _ _ _ rfl, alloc_at _ _ _ (by simp)⟩
  have HS1 := show Hid _ from same17 (ca := tc1) (cb := tc2) (h3.below hb) (h4.below hb) (by omega)
  have H5 := show Hid _ from h5.below hb
  have H6 := show Hid _ from h6.below hb
  have H1 := show Hid _ from h1.below hb
  have H2 := show Hid _ from h2.below hb
  have HL : Hid (rl.length ≤ 2932031007317) := hr
  have hvl : (vs.length : Int) ≤ 2932031007317 := by omega
  obtain ⟨a0, a1, a2⟩ := cells3 HX.out.1
  obtain ⟨b0, b1, b2⟩ := cells3 HX.out.2
  clear h1 h2 h3 h4 h5 h6 hv ht hr hb
  go_enter Tryz.func12, Tryz.ntmps12
  go_wp2_with fail
  generalize ((w.alloc (.cells #[.slice vo1 vs.length vc1, .slice to1 ts.length tc1, .slice ro1 rl.length rc1] 40)).alloc (.cells #[.slice vo2 vs.length vc2, .slice to2 ts.length tc2, .slice ro2 rl.length rc2] 40)) = w2 at *
  refine Calls.mono HS1.out ?_
  rintro e w3 ⟨⟨bb, rfl, hbb⟩, hb3⟩
  have hbt : bb = true := hbb.2 (by first | rfl | trivial)
  subst hbt
  have HS2 := show Hid _ from same17 (ca := rc1) (cb := rc2) (IsVals.below H5.out hb3) (IsVals.below H6.out hb3) (by have := HL.out; omega)
  have HX3 : Hid (w3.heap[w.heap.size]? = some (.cells #[.slice vo1 vs.length vc1, .slice to1 ts.length tc1, .slice ro1 rl.length rc1] 40 (0, 0)) ∧ w3.heap[w.heap.size + 1]? = some (.cells #[.slice vo2 vs.length vc2, .slice to2 ts.length tc2, .slice ro2 rl.length rc2] 40 (0, 0))) := ⟨(hb3.block _ (blk_lt HX.out.1)).trans HX.out.1, (hb3.block _ (blk_lt HX.out.2)).trans HX.out.2⟩
  have HB3 : Hid (Below w2.heap.size w2 w3) := hb3
  clear hb3 hbb HS1 a0 a1 a2 b0 b1 b2
  obtain ⟨a0, a1, a2⟩ := cells3 HX3.out.1
  obtain ⟨b0, b1, b2⟩ := cells3 HX3.out.2
  go_wp2_with fail
  refine Calls.mono HS2.out ?_
  rintro e w4 ⟨⟨bb, rfl, hbb⟩, hb4⟩
  have hbt : bb = true := hbb.2 (by first | rfl | trivial)
  subst hbt
  have HB4 : Hid (Below w2.heap.size w2 w4) := HB3.out.trans (hb4.mono HB3.out.size)
  have HX4 : Hid (w4.heap[w.heap.size]? = some (.cells #[.slice vo1 vs.length vc1, .slice to1 ts.length tc1, .slice ro1 rl.length rc1] 40 (0, 0)) ∧ w4.heap[w.heap.size + 1]? = some (.cells #[.slice vo2 vs.length vc2, .slice to2 ts.length tc2, .slice ro2 rl.length rc2] 40 (0, 0))) := ⟨(hb4.block _ (blk_lt HX3.out.1)).trans HX3.out.1, (hb4.block _ (blk_lt HX3.out.2)).trans HX3.out.2⟩
  clear hb4 hbb HS2 a0 a1 a2 b0 b1 b2 HX HX3 HB3
  go_wp2_with fail
  go_loopg [5] vs.length (fun gq x wr => ∃ k : Nat, k ≤ vs.length ∧ gq = vs.length - k ∧ x = .int .i64 (k : Int) ∧ Below w4.heap.size w4 wr)
  case atStart => exact ⟨0, Nat.zero_le _, rfl, rfl, Below.refl _ _⟩
  case round =>
    obtain ⟨k, hk, hgk, rfl, hbr⟩ := hrel
    have HG : Hid (gk = vs.length - k) := hgk
    have HBr : Hid (Below w4.heap.size w4 wr) := hbr
    have hx1 := (hbr.block _ (blk_lt HX4.out.1)).trans HX4.out.1
    have hx2 := (hbr.block _ (blk_lt HX4.out.2)).trans HX4.out.2
    obtain ⟨a0, a1, a2⟩ := cells3 hx1
    obtain ⟨b0, b1, b2⟩ := cells3 hx2
    clear hgk hx1 hx2
    by_cases hlt : k < vs.length
    · have hlt' : (k : Int) < (vs.length : Int) := by omega
      have HLt : Hid (k < vs.length) := hlt
      have hbx := HB4.out.trans (hbr.mono HB4.out.size)
      obtain ⟨q0, q1, q2⟩ := vC_at hlt
      obtain ⟨g1, o1, e1, _, x0⟩ := (IsVals.below H1.out hbx) _ _ q0
      obtain ⟨_, _, ea, _, x1⟩ := (IsVals.below H1.out hbx) _ _ q1
      rw [e1] at ea
      cases ea
      obtain ⟨_, _, ea, _, x2⟩ := (IsVals.below H1.out hbx) _ _ q2
      rw [e1] at ea
      cases ea
      obtain ⟨g2, o2, e2, _, y0⟩ := (IsVals.below H2.out hbx) _ _ q0
      obtain ⟨_, _, ea, _, y1⟩ := (IsVals.below H2.out hbx) _ _ q1
      rw [e2] at ea
      cases ea
      obtain ⟨_, _, ea, _, y2⟩ := (IsVals.below H2.out hbx) _ _ q2
      rw [e2] at ea
      cases ea
      subst e1
      subst e2
      generalize vs[k].1 = z0 at *
      generalize vs[k].2.1 = z1 at *
      generalize vs[k].2.2 = z2 at *
      rw [← Nat.add_assoc] at x1 x2 y1 y2
      clear hlt hk hbr hbx q0 q1 q2
      go_wp2_with fail
      go_quiet (fail)
      go_wp2_with fail
      go_roundg (vs.length - (k + 1))
      case measure => have h1 := HG.out; have := HLt.out; omega
      case rel => exact ⟨k + 1, HLt.out, rfl, by go_num, HBr.out.trans ((below_drewN _ _).mono HBr.out.size)⟩
    · have hlt' : ¬ (k : Int) < (vs.length : Int) := by omega
      clear hlt hk hbr
      go_wp2_with fail
      go_ret
      exact ⟨rfl, HB.out.trans ((HB4.out.trans (HBr.out.mono HB4.out.size)).mono HB.out.size)⟩
theorem nats_iv {w : World} {uo : Option Addr} {us : List Nat} (h : IsNats w uo us) : IsVals w uo (iv (us.map fun n : Nat => (n : Int))) := fun k x hx => by
  simp only [iv, List.map_map, List.getElem?_map] at hx
  cases hu : us[k]? with
  | none => rw [hu] at hx; cases hx
  | some u =>
    rw [hu] at hx
    cases hx
    exact h k u hu
/-- a policy that was told can be read -/
theorem told_rd {w : World} {base : Nat} {v : Value} {p : Pl} (h : IsPl w base v p) : ∃ ao qo vo tto uo oo ac qc vc tc uc oc, v = pvG p.g ao qo vo tto uo oo ac qc vc tc uc oc ∧ (ao = none → ac = 0) ∧ RdG w p.g ao qo vo tto uo oo := by
  obtain ⟨rb, qo, vo, tto, uo, oo, ac, qc, vc, tc, uc, oc, hv0, hrw, hrd, hnat, huc⟩ := h.rd
  refine ⟨some ⟨rb, 0, none⟩, qo, vo, tto, uo, oo, ac, qc, vc, tc, uc, oc, ?_, nofun, ⟨hrd.r, hrd.q, hrd.v, hrd.t, nats_iv hnat, hrd.o⟩⟩
  rw [hv0]
  simp [pv, pvG, Pl.g]
/-- the law at work: its boxes; all that was when the policy had been told is as it was -/
structure Zw (w3 W : World) (pc : Array Value) (fe fa : Int) : Prop where
  p : W.heap[w3.heap.size]? = some (.cells pc 30 (0, 0))
  f : W.heap[w3.heap.size + 1]? = some (.cells #[.int .i64 fe, .int .i64 fa] 33 (0, 0))
  be : Below w3.heap.size w3 W
theorem Zw.below {w3 W W' : World} {pc : Array Value} {fe fa : Int} (h : Zw w3 W pc fe fa) (hb : Below W.heap.size W W') : Zw w3 W' pc fe fa := ⟨(hb.block _ (blk_lt h.p)).trans h.p, (hb.block _ (blk_lt h.f)).trans h.f, h.be.trans (hb.mono h.be.size)⟩
theorem Zw.put {w3 W : World} {pc : Array Value} {fe fa : Int} (h : Zw w3 W pc fe fa) (e a : Int) : Zw w3 ((W.setCell ⟨w3.heap.size + 1, 0, none⟩ (.int .i64 e)).setCell ⟨w3.heap.size + 1, 1, none⟩ (.int .i64 a)) pc e a ∧ ∀ k, k ≠ w3.heap.size + 1 → ((W.setCell ⟨w3.heap.size + 1, 0, none⟩ (.int .i64 e)).setCell ⟨w3.heap.size + 1, 1, none⟩ (.int .i64 a)).heap[k]? = W.heap[k]? := by
  obtain ⟨c1, c2, c3⟩ := put2M (v0 := .int .i64 e) (v1 := .int .i64 a) h.be (Nat.le_succ _) h.f
  exact ⟨⟨(c3 _ (by omega)).trans h.p, c1, c2⟩, c3⟩
/-- the other capacities: their box, their row -/
structure Dw (W : World) (base Bd : Nat) (sz : Int) (dq : Option Addr) (dc : Nat) (dl : List Int) : Prop where
  b : W.heap[Bd]? = some (.cells #[.int .i64 sz, .slice dq dl.length dc] 25 (0, 0))
  o : W.ownsRow base 3 1 (.slice dq dl.length dc) dl.length (iv dl)
  l : base ≤ Bd
theorem Dw.below {W W' : World} {base Bd : Nat} {sz : Int} {dq : Option Addr} {dc : Nat} {dl : List Int} (h : Dw W base Bd sz dq dc dl) (hb : Below W.heap.size W W') : Dw W' base Bd sz dq dc dl := ⟨(hb.block _ (blk_lt h.b)).trans h.b, own_below h.o hb, h.l⟩
theorem Dw.keep {W W' : World} {base Bd : Nat} {sz : Int} {dq : Option Addr} {dc : Nat} {dl : List Int} (h : Dw W base Bd sz dq dc dl) (hb : ∀ k, base ≤ k → W'.heap[k]? = W.heap[k]?) : Dw W' base Bd sz dq dc dl := ⟨(hb _ h.l).trans h.b, own_keepY h.o hb (Nat.le_refl _), h.l⟩
theorem Dw.size {W : World} {base Bd : Nat} {sz : Int} {dq : Option Addr} {dc : Nat} {dl : List Int} (h : Dw W base Bd sz dq dc dl) (x : Int) : Dw (W.setCell ⟨Bd, 0, none⟩ (.int .i64 x)) base Bd x dq dc dl := by
  refine ⟨set_at h.b _ rfl, own_grown h.o (set_onlyY W Bd 0 _) (fun k hk e => ?_), h.l⟩
  cases e
  rcases h.o.2 with ⟨e1, _⟩ | ⟨g, cap, cur, e1, _, hg, _⟩
  · rw [e1] at hk; cases hk
  · rw [e1] at hk
    cases hk
    have h1 := h.b
    rw [hg] at h1
    simp at h1
theorem Dw.putI {W : World} {base Bd g k : Nat} {sz : Int} {dc : Nat} {dl : List Int} (h : Dw W base Bd sz (some ⟨g, 0, none⟩) dc dl) (x : Int) : Dw (W.setCell ⟨g, k, none⟩ (.int .i64 x)) base Bd sz (some ⟨g, 0, none⟩) dc (dl.set k x) ∧ W.frozen? ⟨g, k, none⟩ = false ∧ base ≤ g := by
  obtain ⟨h1, h2⟩ := own_putI (k := k) (x := x) h.o
  have hne : Bd ≠ g := fun e => by
    rcases h.o.2 with ⟨e1, _⟩ | ⟨g', cap, cur, e1, _, hg, _⟩
    · cases e1
    · cases e1
      have h3 := h.b
      rw [e, hg] at h3
      simp at h3
  refine ⟨⟨?_, ?_, h.l⟩, h2, (World.ownsRow.lt h.o g rfl).1⟩
  · rw [List.length_set]
    exact (Below.heap_setCell W _ _ _ hne).trans h.b
  · rw [List.length_set]
    exact h1
/-- what append makes of an empty list and of one that is handed in -/
theorem cp_app {u : World} {base g cc : Nat} {co : Option Addr} {ql : List Int} (hg : u.heap[g]? = some (.cells #[] 3 (0, 0))) (hb : base ≤ g) (hq : IsVals u co (iv ql)) (hl : ql.length ≤ 17592186043904) (hn : co = none → cc = 0) :
    ∃ xo xc w', (Builtin.append_ #[23, 23] 23 #[.slice (some ⟨g, 0, none⟩) 0 0, .slice co ql.length cc]).run Tryz.prog u = .ok (.slice xo ql.length xc) w' ∧ w'.ownsRow base 3 1 (.slice xo ql.length xc) ql.length (iv ql) ∧ Below g u w' ∧ ∀ k, k ≠ g → k < u.heap.size → w'.heap[k]? = u.heap[k]? := by
  obtain ⟨j0, hj, hj0, hj1, hj2⟩ := info_parts info3
  have ho : u.ownsRow base 3 1 (.slice (some ⟨g, 0, none⟩) 0 0) 0 [] := ⟨rfl, Or.inr ⟨g, 0, #[], rfl, hb, hg, Nat.le_refl _, Nat.zero_le _, rfl, rfl⟩⟩
  obtain ⟨v', w', hr, h1, h2, -⟩ := run_app (P := Tryz.prog) u base 23 23 3 j0 (.int .i64 0) 1 8 Tryz.underlying23 hj hj0 hj1 hj2 rfl (by decide) _ 0 [] ho co ql.length cc (iv ql) (by simp [iv]) (fun e => ⟨vals_nil (m := ql.length) (sz := 1) hq (by simp [iv]) (by decide) e, hn e⟩) (vals_src hq) (iv_one ql) (by unfold maxLen; omega) (by omega) (by have := blk_lt hg; omega)
  rw [Nat.zero_add, List.nil_append] at h1
  obtain ⟨xo, xc, rfl⟩ := own_form h1
  exact ⟨xo, xc, w', hr, h1, ⟨h2.os, h2.tape, h2.output, h2.size, fun k hk => h2.block k (Nat.lt_trans hk (blk_lt hg)) (fun e => by cases e; exact absurd hk (Nat.lt_irrefl _))⟩, fun k hk hs => h2.block k hs (fun e => by cases e; exact hk rfl)⟩
theorem fin6 {w4 y : World} {base Bd : Nat} {csz : Int} {ql : List Int} {xo : Option Addr} {xc : Nat} {a b : Value} (hX : y.heap[Bd]? = some (.cells #[a, b] 25 (0, 0))) (ho : y.ownsRow base 3 1 (.slice xo ql.length xc) ql.length (iv ql)) (hb : Below base w4 y) (hB : base ≤ Bd) :
    ((y.setCell ⟨Bd, 0, none⟩ (.int .i64 csz)).setCell ⟨Bd, 1, none⟩ (.slice xo ql.length xc)).heap[Bd]? = some (.cells #[.int .i64 csz, .slice xo ql.length xc] 25 (0, 0)) ∧ ((y.setCell ⟨Bd, 0, none⟩ (.int .i64 csz)).setCell ⟨Bd, 1, none⟩ (.slice xo ql.length xc)).ownsRow base 3 1 (.slice xo ql.length xc) ql.length (iv ql) ∧ Below base w4 ((y.setCell ⟨Bd, 0, none⟩ (.int .i64 csz)).setCell ⟨Bd, 1, none⟩ (.slice xo ql.length xc)) := by
  obtain ⟨c1, c2, c3⟩ := put2M (v0 := .int .i64 csz) (v1 := .slice xo ql.length xc) hb hB hX
  refine ⟨c1, ?_, c2⟩
  have hne : ∀ k, (Value.slice xo ql.length xc).ownBlock = some k → k ≠ Bd := fun k hk e => by
    subst e
    rcases ho.2 with ⟨e1, _⟩ | ⟨g, cap, cur, e1, _, hg, _⟩
    · rw [e1] at hk; cases hk
    · rw [e1] at hk
      cases hk
      rw [hX] at hg
      simp at hg
  exact own_grown (own_grown ho (set_onlyY y Bd 0 _) (fun k hk e => hne k hk (by cases e; rfl))) (set_onlyY _ Bd 1 _) (fun k hk e => hne k hk (by cases e; rfl))
theorem frz6 {y : World} {Bd : Nat} {a b : Value} (hX : y.heap[Bd]? = some (.cells #[a, b] 25 (0, 0))) : (y.cell? ⟨Bd, 0, none⟩ = some a ∧ y.cell? ⟨Bd, 1, none⟩ = some b) ∧ ∀ j, y.frozen? ⟨Bd, j, none⟩ = false := ⟨cells2 hX, fun j => by simp only [World.frozen?, hX]; rfl⟩
theorem sizesWalk (ro : Option Addr) (l : List Rz) (rcap : Nat) (csz : Int) (co : Option Addr) (ql : List Int) (cc : Nat) (mo : Option Addr) (ml : List Int) (mc : Nat) (sz2 : Int) (w : World) (h : IsRz w ro l) (hl : l.length ≤ 2932031007317) (hq : IsVals w co (iv ql)) (hql : ql.length ≤ 17592186043904) (hqi : ∀ n ∈ ql, in64 n) (hcn : co = none → cc = 0) (hcsz : in64 csz) (hm : IsVals w mo (iv ml)) (hml : ml.length ≤ 17592186043904) (hmi : ∀ n ∈ ml, in64 n) (hs2 : in64 sz2) :
    Calls Tryz.prog 3 #[.slice ro l.length rcap, .agg #[.int .i64 csz, .slice co ql.length cc], .slice mo ml.length mc, .int .i64 sz2] w fun e w' => e = .returned (.bool true) ∧ Below w.heap.size w w' := by
  have hb1 : Below w.heap.size w (w.alloc (.cells #[.int .i64 csz, .slice co ql.length cc] 25)) := (Below.refl _ w).alloc (Nat.le_refl _) _
  have HB1 := show Hid _ from hb1
  have HX1 := show Hid _ from heap_alloc_new w (.cells #[.int .i64 csz, .slice co ql.length cc] 25)
  have HKn := show Hid _ from known_any (w.alloc (.cells #[.int .i64 csz, .slice co ql.length cc] 25))
  have HR : Hid (IsRz w ro l ∧ l.length ≤ 2932031007317) := ⟨h, hl⟩
  have HQ : Hid (IsVals w co (iv ql) ∧ ql.length ≤ 17592186043904 ∧ (∀ n ∈ ql, in64 n) ∧ (co = none → cc = 0) ∧ in64 csz) := ⟨hq, hql, hqi, hcn, hcsz⟩
  have HM : Hid (IsVals w mo (iv ml) ∧ ml.length ≤ 17592186043904 ∧ (∀ n ∈ ml, in64 n) ∧ in64 sz2) := ⟨hm, hml, hmi, hs2⟩
  clear h hl hq hql hqi hcn hcsz hm hml hmi hs2 hb1
  go_enter Tryz.func3, Tryz.ntmps3
  go_wp2_with fail
  generalize (w.alloc (.cells #[.int .i64 csz, .slice co ql.length cc] 25)) = w1 at *
  refine Calls.mono HKn.out ?_
  rintro e w2 ⟨rfl, hb2⟩
  have HB2 : Hid (Below w.heap.size w w2) := HB1.out.trans (hb2.mono HB1.out.size)
  have HX2 : Hid (w2.heap[w.heap.size]? = some (.cells #[.int .i64 csz, .slice co ql.length cc] 25 (0, 0))) := (hb2.block _ (blk_lt HX1.out)).trans HX1.out
  have HRs := show Hid _ from resolve_any (cap := rcap) (HR.out.1.below HB2.out) HR.out.2
  clear hb2 HKn HB1 HX1
  go_wp2_with fail
  refine Calls.mono HRs.out ?_
  rintro e w3 hT
  clear HRs
  cases hres : res l with
  | error ci =>
    rw [hres] at hT
    obtain ⟨hb3, rfl⟩ := hT
    obtain ⟨c1, c2⟩ := ci
    have hp := res_pos hres
    dsimp only at hp ⊢
    have hc1 : ((c1 : Int) != 0) = true := by simp; omega
    have hc0 : ¬ c1 = 0 := by omega
    have HB3 : Hid (Below w.heap.size w ((w3.alloc (.cells #[.string ⟨#[]⟩, pz, pz, pz, pz, pz, pz, .int .i64 0] 30)).alloc (.cells #[.int .i64 (c1 : Int), .int .i64 (c2 : Int)] 33))) := (HB2.out.trans (hb3.mono HB2.out.size)).trans ((((Below.refl _ w3).alloc (Nat.le_refl _) _).alloc (by simp) _).mono (HB2.out.trans (hb3.mono HB2.out.size)).size)
    clear hb3 hp hres
    go_wp2_with fail
    go_ret
    exact ⟨rfl, HB3.out⟩
  | ok p =>
    rw [hres] at hT
    obtain ⟨hb3, v, rfl, hpl⟩ := hT
    obtain ⟨ao, qo, vo, tto, uo, oo, ac, qc, vc, tc, uc, oc, hv, hnil, hrd⟩ := told_rd hpl
    have hsm := (res_sm HR.out.2 hres).1
    have hok : IsOk p.g := ⟨p, by show res (p.rows.map unn) = _; rw [res_back hres]; exact hres, rfl⟩
    have HP : Hid (p.g.Sm ∧ IsOk p.g ∧ Rdy p.g ∧ Rdc p.g ∧ (ao = none → ac = 0)) := ⟨hsm, hok, (rdy_of hsm hok).1, (rdy_of hsm hok).2, hnil⟩
    have HQ3 : Hid (IsVals w3 co (iv ql) ∧ IsVals w3 mo (iv ml)) := ⟨HQ.out.1.below (HB2.out.trans (hb3.mono HB2.out.size)), HM.out.1.below (HB2.out.trans (hb3.mono HB2.out.size))⟩
    subst hv
    clear hsm hok hnil hpl hres
    generalize p.g = P at *
    have hb4 : Below w3.heap.size w3 ((w3.alloc (.cells #[.string P.name, .slice ao P.rows.length ac, .slice qo P.qs.length qc, .slice vo P.vs.length vc, .slice tto P.ts.length tc, .slice uo P.us.length uc, .slice oo P.on.length oc, .int .i64 P.miss] 30)).alloc (.cells #[.int .i64 0, .int .i64 0] 33)) := ((Below.refl _ w3).alloc (Nat.le_refl _) _).alloc (by simp) _
    have hB3 := HB2.out.trans (hb3.mono HB2.out.size)
    have HZ4 : Hid (Zw w3 ((w3.alloc (.cells #[.string P.name, .slice ao P.rows.length ac, .slice qo P.qs.length qc, .slice vo P.vs.length vc, .slice tto P.ts.length tc, .slice uo P.us.length uc, .slice oo P.on.length oc, .int .i64 P.miss] 30)).alloc (.cells #[.int .i64 0, .int .i64 0] 33)) #[.string P.name, .slice ao P.rows.length ac, .slice qo P.qs.length qc, .slice vo P.vs.length vc, .slice tto P.ts.length tc, .slice uo P.us.length uc, .slice oo P.on.length oc, .int .i64 P.miss] 0 0) := ⟨by rw [alloc_old _ _ _ (by simp)]; exact alloc_at _ _ _ rfl, alloc_at _ _ _ (by simp), hb4⟩
    have H3 : Hid (RdG w3 P ao qo vo tto uo oo ∧ IsVals w3 co (iv ql) ∧ IsVals w3 mo (iv ml) ∧ w3.heap[w.heap.size]? = some (.cells #[.int .i64 csz, .slice co ql.length cc] 25 (0, 0)) ∧ Below w.heap.size w w3) := ⟨hrd, HQ3.out.1, HQ3.out.2, (hb3.block _ (blk_lt HX2.out)).trans HX2.out, hB3⟩
    have HC4 : Hid (((w3.alloc (.cells #[.string P.name, .slice ao P.rows.length ac, .slice qo P.qs.length qc, .slice vo P.vs.length vc, .slice tto P.ts.length tc, .slice uo P.us.length uc, .slice oo P.on.length oc, .int .i64 P.miss] 30)).alloc (.cells #[.int .i64 0, .int .i64 0] 33)).heap[w.heap.size]? = some (.cells #[.int .i64 csz, .slice co ql.length cc] 25 (0, 0))) := (hb4.block _ (blk_lt H3.out.2.2.2.1)).trans H3.out.2.2.2.1
    have HQ4 : Hid (IsVals ((w3.alloc (.cells #[.string P.name, .slice ao P.rows.length ac, .slice qo P.qs.length qc, .slice vo P.vs.length vc, .slice tto P.ts.length tc, .slice uo P.us.length uc, .slice oo P.on.length oc, .int .i64 P.miss] 30)).alloc (.cells #[.int .i64 0, .int .i64 0] 33)) co (iv ql) ∧ IsVals ((w3.alloc (.cells #[.string P.name, .slice ao P.rows.length ac, .slice qo P.qs.length qc, .slice vo P.vs.length vc, .slice tto P.ts.length tc, .slice uo P.us.length uc, .slice oo P.on.length oc, .int .i64 P.miss] 30)).alloc (.cells #[.int .i64 0, .int .i64 0] 33)) mo (iv ml)) := ⟨HQ3.out.1.below hb4, HQ3.out.2.below hb4⟩
    have HLb : Hid (w.heap.size < w3.heap.size) := by have := blk_lt HX2.out; have := hb3.size; show _ < _; omega
    obtain ⟨f0, f1⟩ := cells2 HZ4.out.f
    dsimp only [pvG] at *
    clear hb3 hb4 hB3 hrd HQ3 HB2 HX2 HR
    go_upto_region 6 with fail
    generalize ((w3.alloc (.cells #[.string P.name, .slice ao P.rows.length ac, .slice qo P.qs.length qc, .slice vo P.vs.length vc, .slice tto P.ts.length tc, .slice uo P.us.length uc, .slice oo P.on.length oc, .int .i64 P.miss] 30)).alloc (.cells #[.int .i64 0, .int .i64 0] 33)) = w4 at *
    clear f0 f1
    go_cut [11] (fun s11 wx => ∃ Bd dq dc, s11 = .pointer (some ⟨Bd, 0, none⟩) ∧ Dw wx w4.heap.size Bd csz dq dc ql ∧ Below w4.heap.size w4 wx)
    case first =>
      obtain ⟨d0, d1⟩ := cells2 HC4.out
      refine wp_region_held (S := fun W => W.heap[w.heap.size]? = some (.cells #[.int .i64 csz, .slice co ql.length cc] 25 (0, 0))) (by kernel_rfl) ?_
      have hS : (fun W : World => W.heap[w.heap.size]? = some (.cells #[.int .i64 csz, .slice co ql.length cc] 25 (0, 0))) w4.drew := HC4.out
      change wpAnyH _ _ _ _ _ _ _ _ w4.drew
      refine wpAnyH_take (i := 0) (v := ?v0) rfl (by kernel_rfl) (by kernel_rfl) (by kernel_rfl) (fun _ _ _ h => h) (Or.inl ⟨by rfl, ?y0⟩) hS ?r0
      case y0 =>
        intro w hSw
        clear hSw
        first
          | (go_simp; done)
          | (go_simp; with_reducible rfl)
      refine wpAnyH_take (i := 1) (v := ?v1) rfl (by kernel_rfl) (by kernel_rfl) (by kernel_rfl) (fun _ _ _ h => h) (Or.inl ⟨by rfl, ?y1⟩) hS ?r1
      case y1 =>
        intro w hSw
        obtain ⟨g0, g1⟩ := cells2 hSw
        first
          | (go_simp; done)
          | (go_simp; with_reducible rfl)
      refine wpAnyH_take (i := 3) (v := ?v3) rfl (by kernel_rfl) (by kernel_rfl) (by kernel_rfl) (fun _ _ _ h => h) (Or.inl ⟨by rfl, ?y3⟩) hS ?r3
      case y3 =>
        intro w hSw
        clear hSw
        first
          | (go_simp; done)
          | (go_simp; with_reducible rfl)
      refine wpAnyH_take (i := 4) (v := ?v4) rfl (by kernel_rfl) (by kernel_rfl) (by kernel_rfl) (fun _ _ _ h => h) (Or.inl ⟨by rfl, ?y4⟩) hS ?r4
      case y4 =>
        intro w hSw
        obtain ⟨g0, g1⟩ := cells2 hSw
        first
          | (go_simp; done)
          | (go_simp; with_reducible rfl)
      have HX0 : Hid (Below w4.heap.size w4 w4.drew) := (Below.refl _ w4).drew
      generalize w4.drew = y0 at *
      refine wpAnyH_ready (rs := [2, 7]) (by kernel_rfl) (by simp) ?_
      refine AllReadyH.cons rfl (fun K hK => ?_) (AllReadyH.cons rfl (fun K hK => ?_) AllReadyH.nil)
      · go_simp
        have hbm : Below y0.heap.size y0 (y0.alloc (.cells #[] 3)) := (Below.refl _ y0).alloc (Nat.le_refl _) _
        have HX1 : Hid (Below w4.heap.size w4 (y0.alloc (.cells #[] 3))) := HX0.out.trans (hbm.mono HX0.out.size)
        have HE1 : Hid ((y0.alloc (.cells #[] 3)).heap[y0.heap.size]? = some (.cells #[] 3 (0, 0)) ∧ w4.heap.size ≤ y0.heap.size) := ⟨heap_alloc_new _ _, HX0.out.size⟩
        clear hbm
        generalize y0.alloc (.cells #[] 3) = y1 at *
        generalize y0.heap.size = g1 at HE1 ⊢
        refine hK.out _ _ ((HX1.out.block _ (blk_lt HC4.out)).trans HC4.out) (fun hS => ?_)
        refine wpAnyH_ready (rs := [5, 7]) (by kernel_rfl) (by simp) ?_
        refine AllReadyH.cons rfl (fun K hK => ?_) (AllReadyH.cons rfl (fun K hK => ?_) AllReadyH.nil)
        · obtain ⟨xo, xc, y2, hrun, ho, hbg, hkp⟩ := cp_app (base := w4.heap.size) (cc := cc) HE1.out.1 HE1.out.2 (HQ4.out.1.below HX1.out) HQ.out.2.1 HQ.out.2.2.2.1
          have HX2 : Hid (Below w4.heap.size w4 y2) := HX1.out.trans (hbg.mono HE1.out.2)
          have HO2 : Hid (y2.ownsRow w4.heap.size 3 1 (.slice xo ql.length xc) ql.length (iv ql)) := ho
          clear ho hbg hkp
          refine step_run rfl (.tmp 28) (.tmp 30) 23 rfl (by first | (simp [Act.eval]; done) | simp [Act.eval, Act.put]) (by first | (simp [Act.eval]; done) | simp [Act.eval, Act.put]) hrun ?_
          clear hrun
          refine hK.out _ _ ((HX2.out.block _ (blk_lt HC4.out)).trans HC4.out) (fun hS => ?_)
          refine wpAnyH_ready (rs := [6, 7]) (by kernel_rfl) (by simp) ?_
          refine AllReadyH.cons rfl (fun K hK => ?_) (AllReadyH.cons rfl (fun K hK => ?_) AllReadyH.nil)
          · go_simp
            refine hK.out _ _ ((HX2.out.block _ (blk_lt HC4.out)).trans HC4.out) (fun hS => ?_)
            refine wpAnyH_ready (rs := [7]) (by kernel_rfl) (by simp) ?_
            refine AllReadyH.cons rfl (fun K hK => ?_) AllReadyH.nil
            go_simp
            have hbm : Below y2.heap.size y2 (y2.alloc (.cells #[.int .i64 0, .slice none 0 0] 25)) := (Below.refl _ y2).alloc (Nat.le_refl _) _
            have HX4 : Hid (Below w4.heap.size w4 (y2.alloc (.cells #[.int .i64 0, .slice none 0 0] 25))) := HX2.out.trans (hbm.mono HX2.out.size)
            have HB4 : Hid ((y2.alloc (.cells #[.int .i64 0, .slice none 0 0] 25)).heap[y2.heap.size]? = some (.cells #[.int .i64 0, .slice none 0 0] 25 (0, 0)) ∧ w4.heap.size ≤ y2.heap.size) := ⟨heap_alloc_new _ _, HX2.out.size⟩
            have HO4 : Hid ((y2.alloc (.cells #[.int .i64 0, .slice none 0 0] 25)).ownsRow w4.heap.size 3 1 (.slice xo ql.length xc) ql.length (iv ql)) := own_below HO2.out hbm
            clear hbm
            generalize y2.alloc (.cells #[.int .i64 0, .slice none 0 0] 25) = y4 at *
            generalize y2.heap.size = Q4 at HB4 ⊢
            refine hK.out _ _ ((HX4.out.block _ (blk_lt HC4.out)).trans HC4.out) (fun hS => ?_)
            refine wpAnyH_ready (rs := [8]) (by kernel_rfl) (by simp) ?_
            refine AllReadyH.cons rfl (fun K hK => ?_) AllReadyH.nil
            obtain ⟨⟨q0, q1⟩, qf⟩ := frz6 HB4.out.1
            go_simp
            obtain ⟨r1, r2, r3⟩ := fin6 (csz := csz) HB4.out.1 HO4.out HX4.out HB4.out.2
            refine hK.out _ _ ((r3.block _ (by have := blk_lt HC4.out; omega)).trans HC4.out) (fun hS => ?_)
            refine wpAnyH_done (by kernel_rfl) ?_ _
            go_wp2_with fail
            go_meet
            exact ⟨_, _, _, rfl, ⟨r1, r2, HB4.out.2⟩, r3⟩
          · go_simp
            have hbm : Below y2.heap.size y2 (y2.alloc (.cells #[.int .i64 0, .slice none 0 0] 25)) := (Below.refl _ y2).alloc (Nat.le_refl _) _
            have HX3 : Hid (Below w4.heap.size w4 (y2.alloc (.cells #[.int .i64 0, .slice none 0 0] 25))) := HX2.out.trans (hbm.mono HX2.out.size)
            have HB3 : Hid ((y2.alloc (.cells #[.int .i64 0, .slice none 0 0] 25)).heap[y2.heap.size]? = some (.cells #[.int .i64 0, .slice none 0 0] 25 (0, 0)) ∧ w4.heap.size ≤ y2.heap.size) := ⟨heap_alloc_new _ _, HX2.out.size⟩
            have HO3 : Hid ((y2.alloc (.cells #[.int .i64 0, .slice none 0 0] 25)).ownsRow w4.heap.size 3 1 (.slice xo ql.length xc) ql.length (iv ql)) := own_below HO2.out hbm
            clear hbm
            generalize y2.alloc (.cells #[.int .i64 0, .slice none 0 0] 25) = y3 at *
            generalize y2.heap.size = Q3 at HB3 ⊢
            refine hK.out _ _ ((HX3.out.block _ (blk_lt HC4.out)).trans HC4.out) (fun hS => ?_)
            refine wpAnyH_ready (rs := [6]) (by kernel_rfl) (by simp) ?_
            refine AllReadyH.cons rfl (fun K hK => ?_) AllReadyH.nil
            go_simp
            refine hK.out _ _ ((HX3.out.block _ (blk_lt HC4.out)).trans HC4.out) (fun hS => ?_)
            refine wpAnyH_ready (rs := [8]) (by kernel_rfl) (by simp) ?_
            refine AllReadyH.cons rfl (fun K hK => ?_) AllReadyH.nil
            obtain ⟨⟨q0, q1⟩, qf⟩ := frz6 HB3.out.1
            go_simp
            obtain ⟨r1, r2, r3⟩ := fin6 (csz := csz) HB3.out.1 HO3.out HX3.out HB3.out.2
            refine hK.out _ _ ((r3.block _ (by have := blk_lt HC4.out; omega)).trans HC4.out) (fun hS => ?_)
            refine wpAnyH_done (by kernel_rfl) ?_ _
            go_wp2_with fail
            go_meet
            exact ⟨_, _, _, rfl, ⟨r1, r2, HB3.out.2⟩, r3⟩
        · go_simp
          have hbm : Below y1.heap.size y1 (y1.alloc (.cells #[.int .i64 0, .slice none 0 0] 25)) := (Below.refl _ y1).alloc (Nat.le_refl _) _
          have HX2 : Hid (Below w4.heap.size w4 (y1.alloc (.cells #[.int .i64 0, .slice none 0 0] 25))) := HX1.out.trans (hbm.mono HX1.out.size)
          have HE2 : Hid ((y1.alloc (.cells #[.int .i64 0, .slice none 0 0] 25)).heap[g1]? = some (.cells #[] 3 (0, 0)) ∧ w4.heap.size ≤ g1) := ⟨(hbm.block _ (blk_lt HE1.out.1)).trans HE1.out.1, HE1.out.2⟩
          have HB2 : Hid ((y1.alloc (.cells #[.int .i64 0, .slice none 0 0] 25)).heap[y1.heap.size]? = some (.cells #[.int .i64 0, .slice none 0 0] 25 (0, 0)) ∧ w4.heap.size ≤ y1.heap.size ∧ y1.heap.size ≠ g1) := ⟨heap_alloc_new _ _, HX1.out.size, by have := blk_lt HE1.out.1; omega⟩
          clear hbm
          generalize y1.alloc (.cells #[.int .i64 0, .slice none 0 0] 25) = y2 at *
          generalize y1.heap.size = Q2 at HB2 ⊢
          refine hK.out _ _ ((HX2.out.block _ (blk_lt HC4.out)).trans HC4.out) (fun hS => ?_)
          refine wpAnyH_ready (rs := [5]) (by kernel_rfl) (by simp) ?_
          refine AllReadyH.cons rfl (fun K hK => ?_) AllReadyH.nil
          obtain ⟨xo, xc, y3, hrun, ho, hbg, hkp⟩ := cp_app (base := w4.heap.size) (cc := cc) HE2.out.1 HE2.out.2 (HQ4.out.1.below HX2.out) HQ.out.2.1 HQ.out.2.2.2.1
          have HX3 : Hid (Below w4.heap.size w4 y3) := HX2.out.trans (hbg.mono HE2.out.2)
          have HO3 : Hid (y3.ownsRow w4.heap.size 3 1 (.slice xo ql.length xc) ql.length (iv ql)) := ho
          have HB3 : Hid (y3.heap[Q2]? = some (.cells #[.int .i64 0, .slice none 0 0] 25 (0, 0)) ∧ w4.heap.size ≤ Q2) := ⟨(hkp _ HB2.out.2.2 (blk_lt HB2.out.1)).trans HB2.out.1, HB2.out.2.1⟩
          clear ho hbg hkp
          refine step_run rfl (.tmp 28) (.tmp 30) 23 rfl (by first | (simp [Act.eval]; done) | simp [Act.eval, Act.put]) (by first | (simp [Act.eval]; done) | simp [Act.eval, Act.put]) hrun ?_
          clear hrun
          refine hK.out _ _ ((HX3.out.block _ (blk_lt HC4.out)).trans HC4.out) (fun hS => ?_)
          refine wpAnyH_ready (rs := [6]) (by kernel_rfl) (by simp) ?_
          refine AllReadyH.cons rfl (fun K hK => ?_) AllReadyH.nil
          go_simp
          refine hK.out _ _ ((HX3.out.block _ (blk_lt HC4.out)).trans HC4.out) (fun hS => ?_)
          refine wpAnyH_ready (rs := [8]) (by kernel_rfl) (by simp) ?_
          refine AllReadyH.cons rfl (fun K hK => ?_) AllReadyH.nil
          obtain ⟨⟨q0, q1⟩, qf⟩ := frz6 HB3.out.1
          go_simp
          obtain ⟨r1, r2, r3⟩ := fin6 (csz := csz) HB3.out.1 HO3.out HX3.out HB3.out.2
          refine hK.out _ _ ((r3.block _ (by have := blk_lt HC4.out; omega)).trans HC4.out) (fun hS => ?_)
          refine wpAnyH_done (by kernel_rfl) ?_ _
          go_wp2_with fail
          go_meet
          exact ⟨_, _, _, rfl, ⟨r1, r2, HB3.out.2⟩, r3⟩
      · go_simp
        have hbm : Below y0.heap.size y0 (y0.alloc (.cells #[.int .i64 0, .slice none 0 0] 25)) := (Below.refl _ y0).alloc (Nat.le_refl _) _
        have HX1 : Hid (Below w4.heap.size w4 (y0.alloc (.cells #[.int .i64 0, .slice none 0 0] 25))) := HX0.out.trans (hbm.mono HX0.out.size)
        have HB1 : Hid ((y0.alloc (.cells #[.int .i64 0, .slice none 0 0] 25)).heap[y0.heap.size]? = some (.cells #[.int .i64 0, .slice none 0 0] 25 (0, 0)) ∧ w4.heap.size ≤ y0.heap.size) := ⟨heap_alloc_new _ _, HX0.out.size⟩
        clear hbm
        generalize y0.alloc (.cells #[.int .i64 0, .slice none 0 0] 25) = y1 at *
        generalize y0.heap.size = Q1 at HB1 ⊢
        refine hK.out _ _ ((HX1.out.block _ (blk_lt HC4.out)).trans HC4.out) (fun hS => ?_)
        refine wpAnyH_ready (rs := [2]) (by kernel_rfl) (by simp) ?_
        refine AllReadyH.cons rfl (fun K hK => ?_) AllReadyH.nil
        go_simp
        have hbm : Below y1.heap.size y1 (y1.alloc (.cells #[] 3)) := (Below.refl _ y1).alloc (Nat.le_refl _) _
        have HX2 : Hid (Below w4.heap.size w4 (y1.alloc (.cells #[] 3))) := HX1.out.trans (hbm.mono HX1.out.size)
        have HE2 : Hid ((y1.alloc (.cells #[] 3)).heap[y1.heap.size]? = some (.cells #[] 3 (0, 0)) ∧ w4.heap.size ≤ y1.heap.size) := ⟨heap_alloc_new _ _, HX1.out.size⟩
        have HB2 : Hid ((y1.alloc (.cells #[] 3)).heap[Q1]? = some (.cells #[.int .i64 0, .slice none 0 0] 25 (0, 0)) ∧ w4.heap.size ≤ Q1 ∧ Q1 ≠ y1.heap.size) := ⟨(hbm.block _ (blk_lt HB1.out.1)).trans HB1.out.1, HB1.out.2, by have := blk_lt HB1.out.1; omega⟩
        clear hbm
        generalize y1.alloc (.cells #[] 3) = y2 at *
        generalize y1.heap.size = g2 at HE2 HB2 ⊢
        refine hK.out _ _ ((HX2.out.block _ (blk_lt HC4.out)).trans HC4.out) (fun hS => ?_)
        refine wpAnyH_ready (rs := [5]) (by kernel_rfl) (by simp) ?_
        refine AllReadyH.cons rfl (fun K hK => ?_) AllReadyH.nil
        obtain ⟨xo, xc, y3, hrun, ho, hbg, hkp⟩ := cp_app (base := w4.heap.size) (cc := cc) HE2.out.1 HE2.out.2 (HQ4.out.1.below HX2.out) HQ.out.2.1 HQ.out.2.2.2.1
        have HX3 : Hid (Below w4.heap.size w4 y3) := HX2.out.trans (hbg.mono HE2.out.2)
        have HO3 : Hid (y3.ownsRow w4.heap.size 3 1 (.slice xo ql.length xc) ql.length (iv ql)) := ho
        have HB3 : Hid (y3.heap[Q1]? = some (.cells #[.int .i64 0, .slice none 0 0] 25 (0, 0)) ∧ w4.heap.size ≤ Q1) := ⟨(hkp _ HB2.out.2.2 (blk_lt HB2.out.1)).trans HB2.out.1, HB2.out.2.1⟩
        clear ho hbg hkp
        refine step_run rfl (.tmp 28) (.tmp 30) 23 rfl (by first | (simp [Act.eval]; done) | simp [Act.eval, Act.put]) (by first | (simp [Act.eval]; done) | simp [Act.eval, Act.put]) hrun ?_
        clear hrun
        refine hK.out _ _ ((HX3.out.block _ (blk_lt HC4.out)).trans HC4.out) (fun hS => ?_)
        refine wpAnyH_ready (rs := [6]) (by kernel_rfl) (by simp) ?_
        refine AllReadyH.cons rfl (fun K hK => ?_) AllReadyH.nil
        go_simp
        refine hK.out _ _ ((HX3.out.block _ (blk_lt HC4.out)).trans HC4.out) (fun hS => ?_)
        refine wpAnyH_ready (rs := [8]) (by kernel_rfl) (by simp) ?_
        refine AllReadyH.cons rfl (fun K hK => ?_) AllReadyH.nil
        obtain ⟨⟨q0, q1⟩, qf⟩ := frz6 HB3.out.1
        go_simp
        obtain ⟨r1, r2, r3⟩ := fin6 (csz := csz) HB3.out.1 HO3.out HX3.out HB3.out.2
        refine hK.out _ _ ((r3.block _ (by have := blk_lt HC4.out; omega)).trans HC4.out) (fun hS => ?_)
        refine wpAnyH_done (by kernel_rfl) ?_ _
        go_wp2_with fail
        go_meet
        exact ⟨_, _, _, rfl, ⟨r1, r2, HB3.out.2⟩, r3⟩
    case rest =>
      obtain ⟨Bd, dq, dc, rfl, hdw, hbx⟩ := hcut
      have HL4 : Hid (w3.heap.size + 1 < w4.heap.size) := blk_lt HZ4.out.f
      have HDw0 : Hid (Dw wc w4.heap.size Bd csz dq dc (dLst P.rows ql ml 0) ∧ Below w4.heap.size w4 wc) := ⟨by rw [dL_zero]; exact hdw, hbx⟩
      have hqln : (ql.length : Int) ≤ 17592186043904 := by have := HQ.out.2.1; omega
      have hmln : (ml.length : Int) ≤ 17592186043904 := by have := HM.out.2.1; omega
      clear hdw hbx HQ4 HC4
      go_wp2_with fail
      go_loopg [12] ql.length (fun gq x wr => ∃ k : Nat, k ≤ ql.length ∧ gq = ql.length - k ∧ x = .int .i64 (k : Int) ∧ Dw wr w4.heap.size Bd csz dq dc (dLst P.rows ql ml k) ∧ Below w4.heap.size w4 wr)
      case atStart => exact ⟨0, Nat.zero_le _, rfl, rfl, HDw0.out.1, HDw0.out.2⟩
      case round =>
        obtain ⟨k, hk, hgk, rfl, hdk, hbr⟩ := hrel
        have HG : Hid (gk = ql.length - k) := hgk
        have HDk : Hid (Dw wr w4.heap.size Bd csz dq dc (dLst P.rows ql ml k)) := hdk
        have HBr : Hid (Below w4.heap.size w4 wr) := hbr
        have HZr : Hid (Zw w3 wr #[.string P.name, .slice ao P.rows.length ac, .slice qo P.qs.length qc, .slice vo P.vs.length vc, .slice tto P.ts.length tc, .slice uo P.us.length uc, .slice oo P.on.length oc, .int .i64 P.miss] 0 0) := HZ4.out.below hbr
        have hd2 := hdk.b
        rw [dL_len] at hd2
        obtain ⟨d0, d1⟩ := cells2 hd2
        obtain ⟨k0, k1, k2, k3, k4, k5, k6, k7⟩ := pol8 HZr.out.p
        have hkq : (k : Int) ≤ 17592186043904 := by omega
        clear hgk hdk hbr hd2 HDw0
        go_upto_region 8 with fail
        go_cut [43] from 33 to 57 (fun s43 wx => s43 = .bool (decide (k < ql.length ∧ k < ml.length)) ∧ wx = wr)
        case first =>
          by_cases h1 : k < ql.length
          · have h1' : (k : Int) < (ql.length : Int) := by omega
            by_cases h2 : k < ml.length
            · have h2' : (k : Int) < (ml.length : Int) := by omega
              have e : decide (k < ql.length ∧ k < ml.length) = true := decide_eq_true ⟨h1, h2⟩
              go_wp2_with fail
              go_meet
              exact ⟨by rw [e], rfl⟩
            · have h2' : ¬ (k : Int) < (ml.length : Int) := by omega
              have e : decide (k < ql.length ∧ k < ml.length) = false := decide_eq_false (fun h => h2 h.2)
              go_wp2_with fail
              go_meet
              exact ⟨by rw [e], rfl⟩
          · have h1' : ¬ (k : Int) < (ql.length : Int) := by omega
            have e : decide (k < ql.length ∧ k < ml.length) = false := decide_eq_false (fun h => h1 h.1)
            go_wp2_with fail
            go_meet
            exact ⟨by rw [e], rfl⟩
        case rest =>
          obtain ⟨rfl, rfl⟩ := hcut
          by_cases hx : k < ql.length ∧ k < ml.length
          · have e : decide (k < ql.length ∧ k < ml.length) = true := decide_eq_true hx
            rw [e]
            have HCp := show Hid _ from namesCap_any (P := P) (qo := qo) (vo := vo) (tto := tto) (uo := uo) (oo := oo) (ac := ac) (qc := qc) (vc := vc) (tc := tc) (uc := uc) (oc := oc) (H3.out.1.below HZr.out.be).r HP.out.1.r k
            have HKx : Hid (k < ql.length ∧ k < ml.length) := hx
            dsimp only [pvG] at HCp
            clear hx e d0 d1
            go_wp2_with fail
            refine Calls.mono HCp.out ?_
            rintro e w5 ⟨rfl, hb5⟩
            have HB5 : Hid (Below w4.heap.size w4 w5) := HBr.out.trans (hb5.mono HBr.out.size)
            have HD5 : Hid (Dw w5 w4.heap.size Bd csz dq dc (dLst P.rows ql ml k)) := HDk.out.below hb5
            clear hb5 HCp k0 k1 k2 k3 k4 k5 k6 k7 HDk HBr HZr
            cases hcap : capN P.rows k with
            | true =>
              have HN : Hid (Dw w5 w4.heap.size Bd csz dq dc (dLst P.rows ql ml (k + 1))) := by show Dw _ _ _ _ _ _ _; rw [dL_keep hcap]; exact HD5.out
              clear hcap
              go_wp2_with fail
              go_roundg (ql.length - (k + 1))
              case measure => have h1 := HG.out; have := HKx.out; omega
              case rel => exact ⟨k + 1, HKx.out.1, rfl, by go_num, HN.out, HB5.out⟩
            | false =>
              obtain ⟨g, rfl⟩ : ∃ g, dq = some ⟨g, 0, none⟩ := by
                rcases HD5.out.o.2 with ⟨_, h0⟩ | ⟨g, cap, cur, e1, _⟩
                · rw [dL_len] at h0; have := HKx.out; omega
                · cases e1; exact ⟨g, rfl⟩
              have hm := List.getElem?_eq_getElem HKx.out.2
              obtain ⟨gm, om, rfl, _, cm⟩ := (IsVals.below H3.out.2.2.1 ((HZ4.out.below HB5.out).be)) k (.int .i64 (ml.getD k 0)) (by simp [iv, List.getD_eq_getElem?_getD, hm])
              have hlk : k < (dLst P.rows ql ml k).length := (dL_len P.rows ql ml k).symm ▸ HKx.out.1
              obtain ⟨g', o', e', _, cd⟩ := (vals_of HD5.out.o) k (.int .i64 ((dLst P.rows ql ml k).getD k 0)) (by simp [iv, List.getD_eq_getElem?_getD, List.getElem?_eq_getElem hlk])
              cases e'
              rw [Nat.zero_add] at cd
              obtain ⟨hp1, hp2, hp3⟩ := HD5.out.putI (k := k) (ml.getD k 0)
              rw [← dL_put hcap HKx.out.1 HKx.out.2] at hp1
              have HN : Hid (Dw (w5.setCell ⟨g, k, none⟩ (.int .i64 (ml.getD k 0))) w4.heap.size Bd csz (some ⟨g, 0, none⟩) dc (dLst P.rows ql ml (k + 1)) ∧ w4.heap.size ≤ g) := ⟨hp1, hp3⟩
              have hd2 := HD5.out.b
              rw [dL_len] at hd2
              obtain ⟨d0, d1⟩ := cells2 hd2
              have h1' : (k : Int) < (ql.length : Int) := by have := HKx.out; omega
              have h2' : (k : Int) < (ml.length : Int) := by have := HKx.out; omega
              clear hp1 hp3 hm hcap hd2 hlk
              generalize ml.getD k 0 = mk at *
              generalize (dLst P.rows ql ml k).getD k 0 = dk at *
              go_wp2_with fail
              go_region
              all_goals
                go_wp2_with fail
                go_roundg (ql.length - (k + 1))
                case measure => have h1 := HG.out; have := HKx.out; omega
                case rel => exact ⟨k + 1, HKx.out.1, rfl, by go_num, HN.out.1.below (Below.refl _ _).drew, (HB5.out.trans ((Below.refl _ w5).setCell (p := ⟨g, k, none⟩) HN.out.2 _)).drew⟩
          · have e : decide (k < ql.length ∧ k < ml.length) = false := decide_eq_false hx
            rw [e]
            have HDe : Hid (Dw wc w4.heap.size Bd csz dq dc (dLst P.rows ql ml ql.length)) := by show Dw _ _ _ _ _ _ _; rw [← dL_end hx]; exact HDk.out
            have HNs := show Hid _ from namesSize_any (P := P) (qo := qo) (vo := vo) (tto := tto) (uo := uo) (oo := oo) (ac := ac) (qc := qc) (vc := vc) (tc := tc) (uc := uc) (oc := oc) (H3.out.1.below HZr.out.be).r HP.out.1.r
            dsimp only [pvG] at HNs
            clear hx e d0 d1 HDk HG
            go_wp2_with fail
            refine Calls.mono HNs.out ?_
            rintro e w5 ⟨rfl, hb5⟩
            have HB5 : Hid (Below w4.heap.size w4 w5) := HBr.out.trans (hb5.mono HBr.out.size)
            have HD5 : Hid (Dw w5 w4.heap.size Bd csz dq dc (dLst P.rows ql ml ql.length)) := HDe.out.below hb5
            clear hb5 HNs k0 k1 k2 k3 k4 k5 k6 k7 HDe HBr HZr
            go_upto_if 60 with fail
            go_cut [8] (fun s8 wx => s8 = .bool false ∧ Dw wx w4.heap.size Bd (if sizN P.rows = true then csz else sz2) dq dc (dLst P.rows ql ml ql.length) ∧ Below w4.heap.size w4 wx)
            case first =>
              cases hsz : sizN P.rows with
              | true =>
                have HN : Hid (Dw w5 w4.heap.size Bd (if sizN P.rows = true then csz else sz2) dq dc (dLst P.rows ql ml ql.length)) := by show Dw _ _ _ _ _ _ _; rw [if_pos hsz]; exact HD5.out
                go_wp2_with fail
                go_meet
                exact ⟨rfl, HN.out, HB5.out⟩
              | false =>
                have HN : Hid (Dw (w5.setCell ⟨Bd, 0, none⟩ (.int .i64 sz2)) w4.heap.size Bd (if sizN P.rows = true then csz else sz2) dq dc (dLst P.rows ql ml ql.length)) := by show Dw _ _ _ _ _ _ _; rw [if_neg (by rw [hsz]; exact Bool.false_ne_true)]; exact HD5.out.size sz2
                obtain ⟨d0, d1⟩ := cells2 HD5.out.b
                have df : ∀ j, w5.frozen? ⟨Bd, j, none⟩ = false := fun j => by have := HD5.out.b; simp only [World.frozen?, this]; rfl
                go_wp2_with fail
                go_meet
                exact ⟨rfl, HN.out, HB5.out.trans ((Below.refl _ w5).setCell (p := ⟨Bd, 0, none⟩) HD5.out.l _)⟩
            case rest =>
              obtain ⟨rfl, hdw, hbx⟩ := hcut
              have HDc : Hid (Dw wc w4.heap.size Bd (if sizN P.rows = true then csz else sz2) dq dc (dLst P.rows ql ml ql.length)) := hdw
              have HZc : Hid (Zw w3 wc #[.string P.name, .slice ao P.rows.length ac, .slice qo P.qs.length qc, .slice vo P.vs.length vc, .slice tto P.ts.length tc, .slice uo P.us.length uc, .slice oo P.on.length oc, .int .i64 P.miss] 0 0) := HZ4.out.below hbx
              have HSz2 : Hid (in64 (if sizN P.rows = true then csz else sz2)) := by show in64 _; split; exact HQ.out.2.2.2.2; exact HM.out.2.2.2
              have HPs : Hid ((chkO P csz (fun i => ql.getD i 0) ql.length).e ≠ 45 → (chkO P (if sizN P.rows = true then csz else sz2) (fun i => (dLst P.rows ql ml ql.length).getD i 0) ql.length).e ≠ 45 → chkO P csz (fun i => ql.getD i 0) ql.length = chkO P (if sizN P.rows = true then csz else sz2) (fun i => (dLst P.rows ql ml ql.length).getD i 0) ql.length) := sizes_same HP.out.2.2.1 HP.out.2.2.2.1 csz sz2 ql ml
              have HPf : Hid (((chkO P csz (fun i => ql.getD i 0) ql.length).e = 45 ∨ (chkO P (if sizN P.rows = true then csz else sz2) (fun i => (dLst P.rows ql ml ql.length).getD i 0) ql.length).e = 45) → ((chkO P csz (fun i => ql.getD i 0) ql.length).e = 45 ↔ fitE (ghL P.qs) P.qs.length csz (fun i => ql.getD i 0) ql.length ≠ 0) ∧ ((chkO P (if sizN P.rows = true then csz else sz2) (fun i => (dLst P.rows ql ml ql.length).getD i 0) ql.length).e = 45 ↔ fitE (ghL P.qs) P.qs.length (if sizN P.rows = true then csz else sz2) (fun i => (dLst P.rows ql ml ql.length).getD i 0) ql.length ≠ 0)) := fun h => by
                by_cases hf : (fltN P.rows (ghL P.qs) P.rows.length).1 = 0
                · exact ⟨chkO_fit hf _ _ _, chkO_fit hf _ _ _⟩
                · rcases h with h | h
                  · exact absurd h (chkO_flt hf _ _ _).2
                  · exact absurd h (chkO_flt hf _ _ _).2
              have HO1 := show Hid _ from chkO_len P csz (fun i => ql.getD i 0) ql.length
              have HO2 := show Hid _ from chkO_len P (if sizN P.rows = true then csz else sz2) (fun i => (dLst P.rows ql ml ql.length).getD i 0) ql.length
              have HT1 : Hid (∀ W : World, Below w3.heap.size w3 W → Calls Tryz.prog 10 #[.agg #[.string P.name, .slice ao P.rows.length ac, .slice qo P.qs.length qc, .slice vo P.vs.length vc, .slice tto P.ts.length tc, .slice uo P.us.length uc, .slice oo P.on.length oc, .int .i64 P.miss], .agg #[.int .i64 csz, .slice co ql.length cc]] W fun e w' => Below W.heap.size W w' ∧ ∃ v1 t1 r1 c1 c2 c3, e = .returned (.tuple #[.agg #[.slice v1 (chkO P csz (fun i => ql.getD i 0) ql.length).vs.length c1, .slice t1 (chkO P csz (fun i => ql.getD i 0) ql.length).ts.length c2, .slice r1 (chkO P csz (fun i => ql.getD i 0) ql.length).rl.length c3], .agg #[.int .i64 (chkO P csz (fun i => ql.getD i 0) ql.length).e, .int .i64 (chkO P csz (fun i => ql.getD i 0) ql.length).a]]) ∧ IsVals w' v1 (vC (chkO P csz (fun i => ql.getD i 0) ql.length).vs) ∧ IsVals w' t1 (iv (chkO P csz (fun i => ql.getD i 0) ql.length).ts) ∧ IsVals w' r1 (iv (chkO P csz (fun i => ql.getD i 0) ql.length).rl) ∧ ∀ a, v1 = some a ∨ t1 = some a ∨ r1 = some a → W.heap.size ≤ a.block) := fun W hW => tcheck_out (H3.out.1.below hW) HP.out.1 HP.out.2.2.2.2 HP.out.2.1 HP.out.2.2.1 HP.out.2.2.2.1 (by have h1 := IsVals.below H3.out.2.1 hW; rw [iv_fL] at h1; exact h1) HQ.out.2.1 HQ.out.2.2.2.2 (in_getD HQ.out.2.2.1)
              have HT2 : Hid (∀ W : World, Below w3.heap.size w3 W → Dw W w4.heap.size Bd (if sizN P.rows = true then csz else sz2) dq dc (dLst P.rows ql ml ql.length) → Calls Tryz.prog 10 #[.agg #[.string P.name, .slice ao P.rows.length ac, .slice qo P.qs.length qc, .slice vo P.vs.length vc, .slice tto P.ts.length tc, .slice uo P.us.length uc, .slice oo P.on.length oc, .int .i64 P.miss], .agg #[.int .i64 (if sizN P.rows = true then csz else sz2), .slice dq ql.length dc]] W fun e w' => Below W.heap.size W w' ∧ ∃ v1 t1 r1 c1 c2 c3, e = .returned (.tuple #[.agg #[.slice v1 (chkO P (if sizN P.rows = true then csz else sz2) (fun i => (dLst P.rows ql ml ql.length).getD i 0) ql.length).vs.length c1, .slice t1 (chkO P (if sizN P.rows = true then csz else sz2) (fun i => (dLst P.rows ql ml ql.length).getD i 0) ql.length).ts.length c2, .slice r1 (chkO P (if sizN P.rows = true then csz else sz2) (fun i => (dLst P.rows ql ml ql.length).getD i 0) ql.length).rl.length c3], .agg #[.int .i64 (chkO P (if sizN P.rows = true then csz else sz2) (fun i => (dLst P.rows ql ml ql.length).getD i 0) ql.length).e, .int .i64 (chkO P (if sizN P.rows = true then csz else sz2) (fun i => (dLst P.rows ql ml ql.length).getD i 0) ql.length).a]]) ∧ IsVals w' v1 (vC (chkO P (if sizN P.rows = true then csz else sz2) (fun i => (dLst P.rows ql ml ql.length).getD i 0) ql.length).vs) ∧ IsVals w' t1 (iv (chkO P (if sizN P.rows = true then csz else sz2) (fun i => (dLst P.rows ql ml ql.length).getD i 0) ql.length).ts) ∧ IsVals w' r1 (iv (chkO P (if sizN P.rows = true then csz else sz2) (fun i => (dLst P.rows ql ml ql.length).getD i 0) ql.length).rl) ∧ ∀ a, v1 = some a ∨ t1 = some a ∨ r1 = some a → W.heap.size ≤ a.block) := fun W hW hd => tcheck_out (H3.out.1.below hW) HP.out.1 HP.out.2.2.2.2 HP.out.2.1 HP.out.2.2.1 HP.out.2.2.2.1 (by have h1 := vals_of hd.o; rw [iv_fL, dL_len] at h1; exact h1) HQ.out.2.1 HSz2.out (in_getD (dL_in HQ.out.2.2.1 HM.out.2.2.1 _))
              have HF1 : Hid (∀ W : World, Below w3.heap.size w3 W → Calls Tryz.prog 11 #[.agg #[.string P.name, .slice ao P.rows.length ac, .slice qo P.qs.length qc, .slice vo P.vs.length vc, .slice tto P.ts.length tc, .slice uo P.us.length uc, .slice oo P.on.length oc, .int .i64 P.miss], .agg #[.int .i64 csz, .slice co ql.length cc]] W fun e w' => e = .returned (.agg #[.int .i64 (fitE (ghL P.qs) P.qs.length csz (fun i => ql.getD i 0) ql.length), .int .i64 0]) ∧ Below W.heap.size W w') := fun W hW => Calls.mono (fit_any (H3.out.1.below hW) HP.out.1 HP.out.2.2.2.2 (by have h1 := IsVals.below H3.out.2.1 hW; rw [iv_fL] at h1; exact h1) HQ.out.2.1) (by
                rintro e w' ⟨hb, ⟨h1, _⟩ | ⟨_, h1⟩⟩
                · exact absurd HP.out.2.1 h1
                · exact ⟨h1, hb⟩)
              have HF2 : Hid (∀ W : World, Below w3.heap.size w3 W → Dw W w4.heap.size Bd (if sizN P.rows = true then csz else sz2) dq dc (dLst P.rows ql ml ql.length) → Calls Tryz.prog 11 #[.agg #[.string P.name, .slice ao P.rows.length ac, .slice qo P.qs.length qc, .slice vo P.vs.length vc, .slice tto P.ts.length tc, .slice uo P.us.length uc, .slice oo P.on.length oc, .int .i64 P.miss], .agg #[.int .i64 (if sizN P.rows = true then csz else sz2), .slice dq ql.length dc]] W fun e w' => e = .returned (.agg #[.int .i64 (fitE (ghL P.qs) P.qs.length (if sizN P.rows = true then csz else sz2) (fun i => (dLst P.rows ql ml ql.length).getD i 0) ql.length), .int .i64 0]) ∧ Below W.heap.size W w') := fun W hW hd => Calls.mono (fit_any (H3.out.1.below hW) HP.out.1 HP.out.2.2.2.2 (by have h1 := vals_of hd.o; rw [iv_fL, dL_len] at h1; exact h1) HQ.out.2.1) (by
                rintro e w' ⟨hb, ⟨h1, _⟩ | ⟨_, h1⟩⟩
                · exact absurd HP.out.2.1 h1
                · exact ⟨h1, hb⟩)
              have HDl : Hid ((dLst P.rows ql ml ql.length).length = ql.length) := dL_len _ _ _ _
              have HRl : Hid (P.rows.length ≤ 2932031007317) := HP.out.1.r
              clear hdw hbx HSz2 HZ4 HP HQ HM
              generalize chkO P csz (fun i => ql.getD i 0) ql.length = O1 at *
              generalize chkO P (if sizN P.rows = true then csz else sz2) (fun i => (dLst P.rows ql ml ql.length).getD i 0) ql.length = O2 at *
              generalize fitE (ghL P.qs) P.qs.length csz (fun i => ql.getD i 0) ql.length = F1 at *
              generalize fitE (ghL P.qs) P.qs.length (if sizN P.rows = true then csz else sz2) (fun i => (dLst P.rows ql ml ql.length).getD i 0) ql.length = F2 at *
              generalize (if sizN P.rows = true then csz else sz2) = dsz at *
              generalize (dLst P.rows ql ml ql.length) = dl at *
              have HCc : Hid (∀ W : World, Below w3.heap.size w3 W → W.heap[w.heap.size]? = some (.cells #[.int .i64 csz, .slice co ql.length cc] 25 (0, 0))) := fun W hW => (hW.block _ (blk_lt H3.out.2.2.2.1)).trans H3.out.2.2.2.1
              obtain ⟨k0, k1, k2, k3, k4, k5, k6, k7⟩ := pol8 HZc.out.p
              obtain ⟨d0, d1⟩ := cells2 (HCc.out _ HZc.out.be)
              have HC1 := show Hid _ from HT1.out wc HZc.out.be
              clear HT1
              go_wp2_with fail
              refine Calls.mono HC1.out ?_
              rintro e w6 ⟨hb6, v1, t1, r1, c1, c2, c3, rfl, hv1, ht1, hr1, hlo1⟩
              clear k0 k1 k2 k3 k4 k5 k6 k7 d0 d1 HC1
              have hZa := HZc.out.below hb6
              have hL6 : w3.heap.size + 1 < w6.heap.size := blk_lt hZa.f
              have hLc : w3.heap.size + 1 < wc.heap.size := blk_lt HZc.out.f
              obtain ⟨hZ7, h7k⟩ := hZa.put O1.e O1.a
              have hsz7 : ((w6.setCell ⟨w3.heap.size + 1, 0, none⟩ (.int .i64 O1.e)).setCell ⟨w3.heap.size + 1, 1, none⟩ (.int .i64 O1.a)).heap.size = w6.heap.size := by simp
              have hb7a : Below ((w6.setCell ⟨w3.heap.size + 1, 0, none⟩ (.int .i64 O1.e)).setCell ⟨w3.heap.size + 1, 1, none⟩ (.int .i64 O1.a)).heap.size ((w6.setCell ⟨w3.heap.size + 1, 0, none⟩ (.int .i64 O1.e)).setCell ⟨w3.heap.size + 1, 1, none⟩ (.int .i64 O1.a)) (((w6.setCell ⟨w3.heap.size + 1, 0, none⟩ (.int .i64 O1.e)).setCell ⟨w3.heap.size + 1, 1, none⟩ (.int .i64 O1.a)).alloc (.cells #[.slice v1 O1.vs.length c1, .slice t1 O1.ts.length c2, .slice r1 O1.rl.length c3] 40)) := (Below.refl _ _).alloc (Nat.le_refl _) _
              have HZ7 : Hid (Zw w3 (((w6.setCell ⟨w3.heap.size + 1, 0, none⟩ (.int .i64 O1.e)).setCell ⟨w3.heap.size + 1, 1, none⟩ (.int .i64 O1.a)).alloc (.cells #[.slice v1 O1.vs.length c1, .slice t1 O1.ts.length c2, .slice r1 O1.rl.length c3] 40)) #[.string P.name, .slice ao P.rows.length ac, .slice qo P.qs.length qc, .slice vo P.vs.length vc, .slice tto P.ts.length tc, .slice uo P.us.length uc, .slice oo P.on.length oc, .int .i64 P.miss] O1.e O1.a) := hZ7.below hb7a
              have HD7 : Hid (Dw (((w6.setCell ⟨w3.heap.size + 1, 0, none⟩ (.int .i64 O1.e)).setCell ⟨w3.heap.size + 1, 1, none⟩ (.int .i64 O1.a)).alloc (.cells #[.slice v1 O1.vs.length c1, .slice t1 O1.ts.length c2, .slice r1 O1.rl.length c3] 40)) w4.heap.size Bd dsz dq dc dl) := ((HDc.out.below hb6).keep (fun k hk => h7k k (by have := HL4.out; omega))).below hb7a
              have HT7 : Hid ((((w6.setCell ⟨w3.heap.size + 1, 0, none⟩ (.int .i64 O1.e)).setCell ⟨w3.heap.size + 1, 1, none⟩ (.int .i64 O1.a)).alloc (.cells #[.slice v1 O1.vs.length c1, .slice t1 O1.ts.length c2, .slice r1 O1.rl.length c3] 40)).heap[w6.heap.size]? = some (.cells #[.slice v1 O1.vs.length c1, .slice t1 O1.ts.length c2, .slice r1 O1.rl.length c3] 40 (0, 0))) := alloc_at _ _ _ hsz7.symm
              have HV7 : Hid (IsVals (((w6.setCell ⟨w3.heap.size + 1, 0, none⟩ (.int .i64 O1.e)).setCell ⟨w3.heap.size + 1, 1, none⟩ (.int .i64 O1.a)).alloc (.cells #[.slice v1 O1.vs.length c1, .slice t1 O1.ts.length c2, .slice r1 O1.rl.length c3] 40)) v1 (vC O1.vs) ∧ IsVals (((w6.setCell ⟨w3.heap.size + 1, 0, none⟩ (.int .i64 O1.e)).setCell ⟨w3.heap.size + 1, 1, none⟩ (.int .i64 O1.a)).alloc (.cells #[.slice v1 O1.vs.length c1, .slice t1 O1.ts.length c2, .slice r1 O1.rl.length c3] 40)) t1 (iv O1.ts) ∧ IsVals (((w6.setCell ⟨w3.heap.size + 1, 0, none⟩ (.int .i64 O1.e)).setCell ⟨w3.heap.size + 1, 1, none⟩ (.int .i64 O1.a)).alloc (.cells #[.slice v1 O1.vs.length c1, .slice t1 O1.ts.length c2, .slice r1 O1.rl.length c3] 40)) r1 (iv O1.rl)) := ⟨(vals_keep hv1 (fun a ha => h7k _ (by have := hlo1 a (Or.inl ha); omega)) (by simp)).below hb7a, (vals_keep ht1 (fun a ha => h7k _ (by have := hlo1 a (Or.inr (Or.inl ha)); omega)) (by simp)).below hb7a, (vals_keep hr1 (fun a ha => h7k _ (by have := hlo1 a (Or.inr (Or.inr ha)); omega)) (by simp)).below hb7a⟩
              obtain ⟨f0, f1⟩ := cells2 hZa.f
              have ff : ∀ j, w6.frozen? ⟨w3.heap.size + 1, j, none⟩ = false := fun j => by have := hZa.f; simp only [World.frozen?, this]; rfl
              obtain ⟨k0, k1, k2, k3, k4, k5, k6, k7⟩ := pol8 HZ7.out.p
              have hd7 := HD7.out.b
              rw [HDl.out] at hd7
              obtain ⟨d0, d1⟩ := cells2 hd7
              have HC2 := show Hid _ from HT2.out _ HZ7.out.be HD7.out
              clear hb6 hb7a hsz7 hv1 ht1 hr1 hlo1 hZ7 h7k HT2 HZc HDc hd7 hZa
              go_wp2_with fail
              generalize (((w6.setCell ⟨w3.heap.size + 1, 0, none⟩ (.int .i64 O1.e)).setCell ⟨w3.heap.size + 1, 1, none⟩ (.int .i64 O1.a)).alloc (.cells #[.slice v1 O1.vs.length c1, .slice t1 O1.ts.length c2, .slice r1 O1.rl.length c3] 40)) = w7 at *
              generalize w6.heap.size = B6 at *
              refine Calls.mono HC2.out ?_
              rintro e w8 ⟨hb8, v2, t2, r2, e1, e2, e3, rfl, hv2, ht2, hr2, -⟩
              clear k0 k1 k2 k3 k4 k5 k6 k7 d0 d1 f0 f1 ff HC2
              have hb9 : Below w8.heap.size w8 ((w8.alloc (.cells #[.slice v2 O2.vs.length e1, .slice t2 O2.ts.length e2, .slice r2 O2.rl.length e3] 40)).alloc (.cells #[.int .i64 O2.e, .int .i64 O2.a] 33)) := ((Below.refl _ w8).alloc (Nat.le_refl _) _).alloc (by simp) _
              have HZ9 := show Hid _ from (HZ7.out.below hb8).below hb9
              have HD9 := show Hid _ from (HD7.out.below hb8).below hb9
              have HV9 : Hid ((IsVals ((w8.alloc (.cells #[.slice v2 O2.vs.length e1, .slice t2 O2.ts.length e2, .slice r2 O2.rl.length e3] 40)).alloc (.cells #[.int .i64 O2.e, .int .i64 O2.a] 33)) v1 (vC O1.vs) ∧ IsVals ((w8.alloc (.cells #[.slice v2 O2.vs.length e1, .slice t2 O2.ts.length e2, .slice r2 O2.rl.length e3] 40)).alloc (.cells #[.int .i64 O2.e, .int .i64 O2.a] 33)) t1 (iv O1.ts) ∧ IsVals ((w8.alloc (.cells #[.slice v2 O2.vs.length e1, .slice t2 O2.ts.length e2, .slice r2 O2.rl.length e3] 40)).alloc (.cells #[.int .i64 O2.e, .int .i64 O2.a] 33)) r1 (iv O1.rl)) ∧ (IsVals ((w8.alloc (.cells #[.slice v2 O2.vs.length e1, .slice t2 O2.ts.length e2, .slice r2 O2.rl.length e3] 40)).alloc (.cells #[.int .i64 O2.e, .int .i64 O2.a] 33)) v2 (vC O2.vs) ∧ IsVals ((w8.alloc (.cells #[.slice v2 O2.vs.length e1, .slice t2 O2.ts.length e2, .slice r2 O2.rl.length e3] 40)).alloc (.cells #[.int .i64 O2.e, .int .i64 O2.a] 33)) t2 (iv O2.ts) ∧ IsVals ((w8.alloc (.cells #[.slice v2 O2.vs.length e1, .slice t2 O2.ts.length e2, .slice r2 O2.rl.length e3] 40)).alloc (.cells #[.int .i64 O2.e, .int .i64 O2.a] 33)) r2 (iv O2.rl))) := ⟨⟨(HV7.out.1.below hb8).below hb9, (HV7.out.2.1.below hb8).below hb9, (HV7.out.2.2.below hb8).below hb9⟩, ⟨hv2.below hb9, ht2.below hb9, hr2.below hb9⟩⟩
              have HT9 : Hid (((w8.alloc (.cells #[.slice v2 O2.vs.length e1, .slice t2 O2.ts.length e2, .slice r2 O2.rl.length e3] 40)).alloc (.cells #[.int .i64 O2.e, .int .i64 O2.a] 33)).heap[B6]? = some (.cells #[.slice v1 O1.vs.length c1, .slice t1 O1.ts.length c2, .slice r1 O1.rl.length c3] 40 (0, 0)) ∧ ((w8.alloc (.cells #[.slice v2 O2.vs.length e1, .slice t2 O2.ts.length e2, .slice r2 O2.rl.length e3] 40)).alloc (.cells #[.int .i64 O2.e, .int .i64 O2.a] 33)).heap[w8.heap.size]? = some (.cells #[.slice v2 O2.vs.length e1, .slice t2 O2.ts.length e2, .slice r2 O2.rl.length e3] 40 (0, 0)) ∧ ((w8.alloc (.cells #[.slice v2 O2.vs.length e1, .slice t2 O2.ts.length e2, .slice r2 O2.rl.length e3] 40)).alloc (.cells #[.int .i64 O2.e, .int .i64 O2.a] 33)).heap[w8.heap.size + 1]? = some (.cells #[.int .i64 O2.e, .int .i64 O2.a] 33 (0, 0))) := ⟨(hb9.block _ (by have := blk_lt HT7.out; have := hb8.size; omega)).trans ((hb8.block _ (blk_lt HT7.out)).trans HT7.out), by rw [alloc_old _ _ _ (by simp)]; exact alloc_at _ _ _ rfl, alloc_at _ _ _ (by simp)⟩
              clear hb8 hb9 hv2 ht2 hr2 HZ7 HD7 HV7 HT7
              obtain ⟨f0, f1⟩ := cells2 HZ9.out.f
              obtain ⟨g0, g1⟩ := cells2 HT9.out.2.2
              go_upto_region 16 with fail
              generalize ((w8.alloc (.cells #[.slice v2 O2.vs.length e1, .slice t2 O2.ts.length e2, .slice r2 O2.rl.length e3] 40)).alloc (.cells #[.int .i64 O2.e, .int .i64 O2.a] 33)) = w9 at *
              generalize w8.heap.size = B8 at *
              by_cases h1 : O1.e = 45
              · have hpf := HPf.out (Or.inl h1)
                by_cases h2 : O2.e = 45
                · have hz1 : ¬ F1 = 0 := hpf.1.1 h1
                  have hz2 : ¬ F2 = 0 := hpf.2.1 h2
                  have h1' : (O1.e == 45) = true := by simpa using h1
                  have h2' : (O2.e == 45) = true := by simpa using h2
                  have HBe : Hid (Below w.heap.size w w9) := H3.out.2.2.2.2.trans (HZ9.out.be.mono H3.out.2.2.2.2.size)
                  have hd9 := HD9.out.b
                  rw [HDl.out] at hd9
                  obtain ⟨p0, p1, p2, p3, p4, p5, p6, p7⟩ := pol8 HZ9.out.p
                  obtain ⟨m0, m1⟩ := cells2 (HCc.out _ HZ9.out.be)
                  obtain ⟨n0, n1⟩ := cells2 hd9
                  have lp := blk_lt HZ9.out.p
                  have lf := blk_lt HZ9.out.f
                  have ld := blk_lt hd9
                  have lc := blk_lt (HCc.out _ HZ9.out.be)
                  have lg := blk_lt HT9.out.2.2
                  have yp0 : ∀ y : Kin w9, y.u.cell? ⟨w3.heap.size, 0, none⟩ = some (.string P.name) := fun y => y.cell (a := ⟨w3.heap.size, 0, none⟩) lp p0
                  have yp1 : ∀ y : Kin w9, y.u.cell? ⟨w3.heap.size, 1, none⟩ = some (.slice ao P.rows.length ac) := fun y => y.cell (a := ⟨w3.heap.size, 1, none⟩) lp p1
                  have yp2 : ∀ y : Kin w9, y.u.cell? ⟨w3.heap.size, 2, none⟩ = some (.slice qo P.qs.length qc) := fun y => y.cell (a := ⟨w3.heap.size, 2, none⟩) lp p2
                  have yp3 : ∀ y : Kin w9, y.u.cell? ⟨w3.heap.size, 3, none⟩ = some (.slice vo P.vs.length vc) := fun y => y.cell (a := ⟨w3.heap.size, 3, none⟩) lp p3
                  have yp4 : ∀ y : Kin w9, y.u.cell? ⟨w3.heap.size, 4, none⟩ = some (.slice tto P.ts.length tc) := fun y => y.cell (a := ⟨w3.heap.size, 4, none⟩) lp p4
                  have yp5 : ∀ y : Kin w9, y.u.cell? ⟨w3.heap.size, 5, none⟩ = some (.slice uo P.us.length uc) := fun y => y.cell (a := ⟨w3.heap.size, 5, none⟩) lp p5
                  have yp6 : ∀ y : Kin w9, y.u.cell? ⟨w3.heap.size, 6, none⟩ = some (.slice oo P.on.length oc) := fun y => y.cell (a := ⟨w3.heap.size, 6, none⟩) lp p6
                  have yp7 : ∀ y : Kin w9, y.u.cell? ⟨w3.heap.size, 7, none⟩ = some (.int .i64 P.miss) := fun y => y.cell (a := ⟨w3.heap.size, 7, none⟩) lp p7
                  have yf : ∀ y : Kin w9, y.u.cell? ⟨w3.heap.size + 1, 0, none⟩ = some (.int .i64 O1.e) := fun y => y.cell (a := ⟨w3.heap.size + 1, 0, none⟩) lf f0
                  have yg : ∀ y : Kin w9, y.u.cell? ⟨B8 + 1, 0, none⟩ = some (.int .i64 O2.e) := fun y => y.cell (a := ⟨B8 + 1, 0, none⟩) lg g0
                  have ym0 : ∀ y : Kin w9, y.u.cell? ⟨w.heap.size, 0, none⟩ = some (.int .i64 csz) := fun y => y.cell (a := ⟨w.heap.size, 0, none⟩) lc m0
                  have ym1 : ∀ y : Kin w9, y.u.cell? ⟨w.heap.size, 1, none⟩ = some (.slice co ql.length cc) := fun y => y.cell (a := ⟨w.heap.size, 1, none⟩) lc m1
                  have yn0 : ∀ y : Kin w9, y.u.cell? ⟨Bd, 0, none⟩ = some (.int .i64 dsz) := fun y => y.cell (a := ⟨Bd, 0, none⟩) ld n0
                  have yn1 : ∀ y : Kin w9, y.u.cell? ⟨Bd, 1, none⟩ = some (.slice dq ql.length dc) := fun y => y.cell (a := ⟨Bd, 1, none⟩) ld n1
                  have HFa := show Hid _ from fun y : Kin w9 => HF1.out y.u (HZ9.out.below y.ok).be
                  have HFb := show Hid _ from fun y : Kin w9 => HF2.out y.u (HZ9.out.below y.ok).be (HD9.out.below y.ok)
                  have hne := Kin.there w9
                  clear hpf h1 h2 HPf HPs HF1 HF2 hd9 lp lf ld lc lg p0 p1 p2 p3 p4 p5 p6 p7 m0 m1 n0 n1 HV9 HO1 HO2
                  go_wp2_with fail
                  refine wp_region_kin (by kernel_rfl) (by kernel_rfl) ?_
                  iterate 5 quiet_step (with_reducible rfl)
                  quiet_step (exact kin_of (HFa.out _))
                  iterate 9 quiet_step (with_reducible rfl)
                  quiet_step (exact kin_of (HFb.out _))
                  iterate 5 quiet_step (with_reducible rfl)
                  refine wpQuiet_nil ?_
                  rintro _ ⟨y, rfl⟩
                  have HBz : Hid (Below w.heap.size w y.u) := HBe.out.trans (y.ok.mono HBe.out.size)
                  clear yp0 yp1 yp2 yp3 yp4 yp5 yp6 yp7 yf yg ym0 ym1 yn0 yn1 HFa HFb
                  generalize y.u = wz at *
                  go_wp2
                  go_ret
                  exact ⟨rfl, HBz.out⟩
                · have hz1 : ¬ F1 = 0 := hpf.1.1 h1
                  have hz2 : F2 = 0 := Decidable.byContradiction fun h => h2 (hpf.2.2 h)
                  have h1' : (O1.e == 45) = true := by simpa using h1
                  have h2' : (O2.e == 45) = false := by simpa using h2
                  subst hz2
                  have HBe : Hid (Below w.heap.size w w9) := H3.out.2.2.2.2.trans (HZ9.out.be.mono H3.out.2.2.2.2.size)
                  have hd9 := HD9.out.b
                  rw [HDl.out] at hd9
                  obtain ⟨p0, p1, p2, p3, p4, p5, p6, p7⟩ := pol8 HZ9.out.p
                  obtain ⟨m0, m1⟩ := cells2 (HCc.out _ HZ9.out.be)
                  obtain ⟨n0, n1⟩ := cells2 hd9
                  have lp := blk_lt HZ9.out.p
                  have lf := blk_lt HZ9.out.f
                  have ld := blk_lt hd9
                  have lc := blk_lt (HCc.out _ HZ9.out.be)
                  have lg := blk_lt HT9.out.2.2
                  have yp0 : ∀ y : Kin w9, y.u.cell? ⟨w3.heap.size, 0, none⟩ = some (.string P.name) := fun y => y.cell (a := ⟨w3.heap.size, 0, none⟩) lp p0
                  have yp1 : ∀ y : Kin w9, y.u.cell? ⟨w3.heap.size, 1, none⟩ = some (.slice ao P.rows.length ac) := fun y => y.cell (a := ⟨w3.heap.size, 1, none⟩) lp p1
                  have yp2 : ∀ y : Kin w9, y.u.cell? ⟨w3.heap.size, 2, none⟩ = some (.slice qo P.qs.length qc) := fun y => y.cell (a := ⟨w3.heap.size, 2, none⟩) lp p2
                  have yp3 : ∀ y : Kin w9, y.u.cell? ⟨w3.heap.size, 3, none⟩ = some (.slice vo P.vs.length vc) := fun y => y.cell (a := ⟨w3.heap.size, 3, none⟩) lp p3
                  have yp4 : ∀ y : Kin w9, y.u.cell? ⟨w3.heap.size, 4, none⟩ = some (.slice tto P.ts.length tc) := fun y => y.cell (a := ⟨w3.heap.size, 4, none⟩) lp p4
                  have yp5 : ∀ y : Kin w9, y.u.cell? ⟨w3.heap.size, 5, none⟩ = some (.slice uo P.us.length uc) := fun y => y.cell (a := ⟨w3.heap.size, 5, none⟩) lp p5
                  have yp6 : ∀ y : Kin w9, y.u.cell? ⟨w3.heap.size, 6, none⟩ = some (.slice oo P.on.length oc) := fun y => y.cell (a := ⟨w3.heap.size, 6, none⟩) lp p6
                  have yp7 : ∀ y : Kin w9, y.u.cell? ⟨w3.heap.size, 7, none⟩ = some (.int .i64 P.miss) := fun y => y.cell (a := ⟨w3.heap.size, 7, none⟩) lp p7
                  have yf : ∀ y : Kin w9, y.u.cell? ⟨w3.heap.size + 1, 0, none⟩ = some (.int .i64 O1.e) := fun y => y.cell (a := ⟨w3.heap.size + 1, 0, none⟩) lf f0
                  have yg : ∀ y : Kin w9, y.u.cell? ⟨B8 + 1, 0, none⟩ = some (.int .i64 O2.e) := fun y => y.cell (a := ⟨B8 + 1, 0, none⟩) lg g0
                  have ym0 : ∀ y : Kin w9, y.u.cell? ⟨w.heap.size, 0, none⟩ = some (.int .i64 csz) := fun y => y.cell (a := ⟨w.heap.size, 0, none⟩) lc m0
                  have ym1 : ∀ y : Kin w9, y.u.cell? ⟨w.heap.size, 1, none⟩ = some (.slice co ql.length cc) := fun y => y.cell (a := ⟨w.heap.size, 1, none⟩) lc m1
                  have yn0 : ∀ y : Kin w9, y.u.cell? ⟨Bd, 0, none⟩ = some (.int .i64 dsz) := fun y => y.cell (a := ⟨Bd, 0, none⟩) ld n0
                  have yn1 : ∀ y : Kin w9, y.u.cell? ⟨Bd, 1, none⟩ = some (.slice dq ql.length dc) := fun y => y.cell (a := ⟨Bd, 1, none⟩) ld n1
                  have HFa := show Hid _ from fun y : Kin w9 => HF1.out y.u (HZ9.out.below y.ok).be
                  have HFb := show Hid _ from fun y : Kin w9 => HF2.out y.u (HZ9.out.below y.ok).be (HD9.out.below y.ok)
                  have hne := Kin.there w9
                  clear hpf h1 h2 HPf HPs HF1 HF2 hd9 lp lf ld lc lg p0 p1 p2 p3 p4 p5 p6 p7 m0 m1 n0 n1 HV9 HO1 HO2
                  go_wp2_with fail
                  refine wp_region_kin (by kernel_rfl) (by kernel_rfl) ?_
                  iterate 5 quiet_step (with_reducible rfl)
                  quiet_step (exact kin_of (HFa.out _))
                  iterate 9 quiet_step (with_reducible rfl)
                  quiet_step (exact kin_of (HFb.out _))
                  iterate 5 quiet_step (with_reducible rfl)
                  refine wpQuiet_nil ?_
                  rintro _ ⟨y, rfl⟩
                  have HBz : Hid (Below w.heap.size w y.u) := HBe.out.trans (y.ok.mono HBe.out.size)
                  clear yp0 yp1 yp2 yp3 yp4 yp5 yp6 yp7 yf yg ym0 ym1 yn0 yn1 HFa HFb
                  generalize y.u = wz at *
                  go_wp2
                  go_ret
                  exact ⟨rfl, HBz.out⟩
              · by_cases h2 : O2.e = 45
                · have hpf := HPf.out (Or.inr h2)
                  have hz1 : F1 = 0 := Decidable.byContradiction fun h => h1 (hpf.1.2 h)
                  have hz2 : ¬ F2 = 0 := hpf.2.1 h2
                  have h1' : (O1.e == 45) = false := by simpa using h1
                  have h2' : (O2.e == 45) = true := by simpa using h2
                  subst hz1
                  have HBe : Hid (Below w.heap.size w w9) := H3.out.2.2.2.2.trans (HZ9.out.be.mono H3.out.2.2.2.2.size)
                  have hd9 := HD9.out.b
                  rw [HDl.out] at hd9
                  obtain ⟨p0, p1, p2, p3, p4, p5, p6, p7⟩ := pol8 HZ9.out.p
                  obtain ⟨m0, m1⟩ := cells2 (HCc.out _ HZ9.out.be)
                  obtain ⟨n0, n1⟩ := cells2 hd9
                  have lp := blk_lt HZ9.out.p
                  have lf := blk_lt HZ9.out.f
                  have ld := blk_lt hd9
                  have lc := blk_lt (HCc.out _ HZ9.out.be)
                  have lg := blk_lt HT9.out.2.2
                  have yp0 : ∀ y : Kin w9, y.u.cell? ⟨w3.heap.size, 0, none⟩ = some (.string P.name) := fun y => y.cell (a := ⟨w3.heap.size, 0, none⟩) lp p0
                  have yp1 : ∀ y : Kin w9, y.u.cell? ⟨w3.heap.size, 1, none⟩ = some (.slice ao P.rows.length ac) := fun y => y.cell (a := ⟨w3.heap.size, 1, none⟩) lp p1
                  have yp2 : ∀ y : Kin w9, y.u.cell? ⟨w3.heap.size, 2, none⟩ = some (.slice qo P.qs.length qc) := fun y => y.cell (a := ⟨w3.heap.size, 2, none⟩) lp p2
                  have yp3 : ∀ y : Kin w9, y.u.cell? ⟨w3.heap.size, 3, none⟩ = some (.slice vo P.vs.length vc) := fun y => y.cell (a := ⟨w3.heap.size, 3, none⟩) lp p3
                  have yp4 : ∀ y : Kin w9, y.u.cell? ⟨w3.heap.size, 4, none⟩ = some (.slice tto P.ts.length tc) := fun y => y.cell (a := ⟨w3.heap.size, 4, none⟩) lp p4
                  have yp5 : ∀ y : Kin w9, y.u.cell? ⟨w3.heap.size, 5, none⟩ = some (.slice uo P.us.length uc) := fun y => y.cell (a := ⟨w3.heap.size, 5, none⟩) lp p5
                  have yp6 : ∀ y : Kin w9, y.u.cell? ⟨w3.heap.size, 6, none⟩ = some (.slice oo P.on.length oc) := fun y => y.cell (a := ⟨w3.heap.size, 6, none⟩) lp p6
                  have yp7 : ∀ y : Kin w9, y.u.cell? ⟨w3.heap.size, 7, none⟩ = some (.int .i64 P.miss) := fun y => y.cell (a := ⟨w3.heap.size, 7, none⟩) lp p7
                  have yf : ∀ y : Kin w9, y.u.cell? ⟨w3.heap.size + 1, 0, none⟩ = some (.int .i64 O1.e) := fun y => y.cell (a := ⟨w3.heap.size + 1, 0, none⟩) lf f0
                  have yg : ∀ y : Kin w9, y.u.cell? ⟨B8 + 1, 0, none⟩ = some (.int .i64 O2.e) := fun y => y.cell (a := ⟨B8 + 1, 0, none⟩) lg g0
                  have ym0 : ∀ y : Kin w9, y.u.cell? ⟨w.heap.size, 0, none⟩ = some (.int .i64 csz) := fun y => y.cell (a := ⟨w.heap.size, 0, none⟩) lc m0
                  have ym1 : ∀ y : Kin w9, y.u.cell? ⟨w.heap.size, 1, none⟩ = some (.slice co ql.length cc) := fun y => y.cell (a := ⟨w.heap.size, 1, none⟩) lc m1
                  have yn0 : ∀ y : Kin w9, y.u.cell? ⟨Bd, 0, none⟩ = some (.int .i64 dsz) := fun y => y.cell (a := ⟨Bd, 0, none⟩) ld n0
                  have yn1 : ∀ y : Kin w9, y.u.cell? ⟨Bd, 1, none⟩ = some (.slice dq ql.length dc) := fun y => y.cell (a := ⟨Bd, 1, none⟩) ld n1
                  have HFa := show Hid _ from fun y : Kin w9 => HF1.out y.u (HZ9.out.below y.ok).be
                  have HFb := show Hid _ from fun y : Kin w9 => HF2.out y.u (HZ9.out.below y.ok).be (HD9.out.below y.ok)
                  have hne := Kin.there w9
                  clear hpf h1 h2 HPf HPs HF1 HF2 hd9 lp lf ld lc lg p0 p1 p2 p3 p4 p5 p6 p7 m0 m1 n0 n1 HV9 HO1 HO2
                  go_wp2_with fail
                  refine wp_region_kin (by kernel_rfl) (by kernel_rfl) ?_
                  iterate 5 quiet_step (with_reducible rfl)
                  quiet_step (exact kin_of (HFa.out _))
                  iterate 9 quiet_step (with_reducible rfl)
                  quiet_step (exact kin_of (HFb.out _))
                  iterate 5 quiet_step (with_reducible rfl)
                  refine wpQuiet_nil ?_
                  rintro _ ⟨y, rfl⟩
                  have HBz : Hid (Below w.heap.size w y.u) := HBe.out.trans (y.ok.mono HBe.out.size)
                  clear yp0 yp1 yp2 yp3 yp4 yp5 yp6 yp7 yf yg ym0 ym1 yn0 yn1 HFa HFb
                  generalize y.u = wz at *
                  go_wp2
                  go_ret
                  exact ⟨rfl, HBz.out⟩
                · have HEq := HPs.out h1 h2
                  have h1' : (O1.e == 45) = false := by simpa using h1
                  have h2' : (O2.e == 45) = false := by simpa using h2
                  subst HEq
                  obtain ⟨a0, a1, a2⟩ := cells3 HT9.out.1
                  obtain ⟨b0, b1, b2⟩ := cells3 HT9.out.2.1
                  have HSm := show Hid _ from sameTyped_any (vc1 := c1) (tc1 := c2) (rc1 := c3) (vc2 := e1) (tc2 := e2) (rc2 := e3) HV9.out.1.1 HV9.out.2.1 HV9.out.1.2.1 HV9.out.2.2.1 HV9.out.1.2.2 HV9.out.2.2.2 (by have := HO1.out.1; have := HRl.out; omega) (by have := HO1.out.2.1; have := HRl.out; omega) (by have := HO1.out.2.2; have := HRl.out; omega)
                  have HBe : Hid (Below w.heap.size w w9) := H3.out.2.2.2.2.trans (HZ9.out.be.mono H3.out.2.2.2.2.size)
                  clear h1 h2 HPs HPf HF1 HF2
                  go_wp2_with fail
                  refine Calls.mono HSm.out ?_
                  rintro e wz ⟨rfl, hbz⟩
                  have HBz : Hid (Below w.heap.size w wz) := HBe.out.trans (hbz.mono HBe.out.size)
                  clear hbz HSm
                  go_wp2
                  go_ret
                  exact ⟨rfl, HBz.out⟩
end Go.Proofs.YtjoflihimpipcabGreat.Nm.Ty
namespace Go.Proofs.YtjoflihimpipcabGreat.typedSizes
open Go.ChangeShapes Go.WideShapes Go.ChangeAt Go.RowKit
open Go.Proofs.YtjoflihimpipcabGreat.Sp Go.Proofs.YtjoflihimpipcabGreat.Lx Go.Proofs.YtjoflihimpipcabGreat.Gr Go.Proofs.YtjoflihimpipcabGreat.Nm
theorem contractF (H : Type) (enc : TypeId × Value → H) (W : World) (base : Nat) (args : Array Value) (ds gs : List (DataW H)) (before : List MemPlace)
    (hval : ∀ (j : Nat) t v, Tryz.f3.params[j]? = some t → args[j]? = some v → Value.okWide Tryz.prog W .any base t v)
    (hW : DataW.Whole enc Tryz.prog Tryz.f3.params.toList Rows.typedSizesSpec.vars false W args.toList ds gs before)
    (hsz : (DataW.weightsEach Tryz.prog (Tryz.f3.params.toList ++ Rows.typedSizesSpec.plain.varTypes Tryz.prog) (ds ++ gs)).all (· ≤ reachBytes) = true) :
    Calls Tryz.prog 3 args W fun e W' => ∃ v, e = .returned v ∧ Rows.typedSizesSpec.post enc Tryz.prog Tryz.f3 false true false false W args v W' := by
  have hW' := hW
  obtain ⟨p, q, hA0, hV, rfl, hfz, hnd⟩ := hW
  have hA : DataW.TrodAll enc Tryz.prog W 0 (fun _ => true) true Tryz.f3.params.toList args.toList ds p := hA0
  rw [Tryz.params3] at hA hval hsz
  obtain ⟨v0, vs0, d0, ds0, p0, q0, hargs, rfl, rfl, h0, r0⟩ := trodAll_cons hA
  obtain ⟨v1, vs1, d1, ds1, p1, q1, rfl, rfl, rfl, h1, r1⟩ := trodAll_cons r0
  obtain ⟨v2, vs2, d2, ds2, p2, q2, rfl, rfl, rfl, h2, r2⟩ := trodAll_cons r1
  obtain ⟨v3, vs3, d3, ds3, p3, q3, rfl, rfl, rfl, h3, r3⟩ := trodAll_cons r2
  obtain ⟨rfl, rfl, rfl⟩ := trodAll_nil r3
  obtain rfl : args = #[v0, v1, v2, v3] := by cases args; simp_all
  obtain ⟨rfl, rfl⟩ := trodVars_none hV
  obtain ⟨a0, len0, cap0, rfl⟩ := okWide_slice Tryz.underlying22 (hval 0 22 v0 rfl rfl)
  have lt0 : ∀ x ∈ p0, x.block < W.heap.size := by obtain ⟨m, hm⟩ := h0; exact DataW.trod_lt m _ _ _ hm
  have lt1 : ∀ x ∈ p1, x.block < W.heap.size := by obtain ⟨m, hm⟩ := h1; exact DataW.trod_lt m _ _ _ hm
  have lt2 : ∀ x ∈ p2, x.block < W.heap.size := by obtain ⟨m, hm⟩ := h2; exact DataW.trod_lt m _ _ _ hm
  obtain ⟨s0, rfl, cl0, ib0, kb0, dd0⟩ := open_rowsZ h0
  obtain ⟨csz, co, cc, ql, e0, e1, rfl, hcsz, hq, hqi, hcn, rfl, hd1⟩ := Ty.open_caps (hval 1 25 v1 rfl rfl) h1
  obtain ⟨a2, len2, cap2, rfl⟩ := okWide_slice Tryz.underlying23 (hval 2 23 v2 rfl rfl)
  obtain ⟨ml, rfl, hm, hmi, _, dd2⟩ := Ty.open_numsW h2
  obtain ⟨a3, rfl, rfl, rfl, w3⟩ := open_int Tryz.underlying3 (hval 3 3 v3 rfl rfl) h3
  refine (Ty.sizesWalk a0 s0 cap0 csz co ql cc a2 ml cap2 a3 W ib0 (rows_reach hsz (j := 0) rfl rfl dd0).1 hq (Ty.caps_reach hsz (j := 1) rfl rfl hd1) hqi hcn hcsz hm (nums_reachJ hsz (j := 2) rfl rfl dd2) hmi (Ty.wf_in w3)).mono fun e W2 ⟨he, bel⟩ => ?_
  subst he
  exact ⟨_, rfl, _, _, _, [], _, [], hW', trodAll_mk1 (shut_bool Tryz.underlying4 _), (trodAll_cons_mk (Below.trod laidOut (by kernel_rfl) (of_decide_eq_true (by kernel_rfl)) h0 bel lt0) (trodAll_cons_mk (Below.trod laidOut (by kernel_rfl) (of_decide_eq_true (by kernel_rfl)) h1 bel lt1) (trodAll_cons_mk (Below.trod laidOut (by kernel_rfl) (of_decide_eq_true (by kernel_rfl)) h2 bel lt2) (trodAll_cons_mk (shut_int Tryz.underlying3 w3) trodAll_mk0)))), rfl, bel.frame _, fun h => by cases h⟩
theorem liftedF (os : Os) (started : os.Started) (H : Type) (enc : TypeId × Value → H) :
    ReturnsInHanded {} Tryz.checked os 3 .any (Rows.typedSizesSpec.pre6 enc Tryz.prog Tryz.f3 Rows.typedSizesRow.domain false) (Rows.typedSizesSpec.post enc Tryz.prog Tryz.f3 false true false false) := by
  refine returnsInHanded_of_change_sized (C := Tryz.checked) own started (by kernel_rfl) Tryz.func3
    (ChangeSpec.witness6 (enc := enc) (C := Tryz.checked) false ⟨#[], #[.slice none 0 0, .agg #[.int .i64 0, .slice none 0 0], .slice none 0 0, .int .i64 0], []⟩ 8 (by kernel_rfl) (by kernel_rfl) (by kernel_rfl) (by kernel_rfl)) ?_
  intro W base args ds gs before hval hW _ hsz _
  exact contractF H enc W base args ds gs before hval hW hsz
theorem provedF : Rows.TypedSizesSaid :=
  OpenClaim.holds_of_wide 3 Tryz.f3 rfl rfl rfl rfl rfl rfl rfl ⟨rfl, rfl, rfl, rfl, rfl⟩ rfl rfl rfl rfl rfl (by kernel_rfl) Tryz.func3 (by kernel_rfl)
    (of_decide_eq_true (by kernel_rfl)) (by unfold Func.isWrapper; first | (rw [if_pos (by decide +kernel)]; kernel_rfl) | (rw [if_neg (by decide +kernel)]; exact ⟨rfl, rfl⟩))
    (fun os started H enc _ => liftedF os started H enc)
end Go.Proofs.YtjoflihimpipcabGreat.typedSizes
