import Derived.Test.YtjoflihimpipcabGreatK41
set_option maxHeartbeats 25600000
set_option maxRecDepth 100000
namespace Go.Proofs.YtjoflihimpipcabGreat.Nm.Ty
open Go.RowKit Go.Maps Go.Proofs.YtjoflihimpipcabGreat.Sp Go.Proofs.YtjoflihimpipcabGreat.Lx Go.Proofs.YtjoflihimpipcabGreat.Gr Go.Proofs.YtjoflihimpipcabGreat.Nm
theorem take_rat {l : List Rz} {k : Nat} (h : k < l.length) : l.take (k + 1) = l.take k ++ [rat l k] := by
  rw [List.take_add_one, some_rat h]
  rfl
theorem namesCap_hit {l : List Rz} {k q : Nat} (h : k < l.length) (hh : (rat l k).kind = 32 ∧ (rat l k).n = (q : Int)) : capN l q = true := List.any_eq_true.2 ⟨rat l k, List.mem_of_getElem? (some_rat h), by generalize rat l k = r at hh ⊢; simp [hh.1, hh.2]⟩
theorem namesCap_step {l : List Rz} {k q : Nat} (h : k < l.length) (h1 : capN (l.take k) q = false) (hh : ¬ ((rat l k).kind = 32 ∧ (rat l k).n = (q : Int))) : capN (l.take (k + 1)) q = false := by
  rw [take_rat h]
  unfold capN at h1 ⊢
  rw [List.any_append, h1]
  generalize rat l k = r at hh ⊢
  simpa using hh
theorem namesSize_hit {l : List Rz} {k : Nat} (h : k < l.length) (hh : (rat l k).kind = 33) : sizN l = true := List.any_eq_true.2 ⟨rat l k, List.mem_of_getElem? (some_rat h), by generalize rat l k = r at hh ⊢; simp [hh]⟩
theorem namesSize_step {l : List Rz} {k : Nat} (h : k < l.length) (h1 : sizN (l.take k) = false) (hh : ¬ (rat l k).kind = 33) : sizN (l.take (k + 1)) = false := by
  rw [take_rat h]
  unfold sizN at h1 ⊢
  rw [List.any_append, h1]
  generalize rat l k = r at hh ⊢
  simpa using hh
theorem namesCap_any {P : Pg} {ao qo vo tto uo oo : Option Addr} {ac qc vc tc uc oc : Nat} {w : World} (h : IsRz w ao P.rows) (hn : P.rows.length ≤ 2932031007317) (q : Nat) :
    Calls Tryz.prog 8 #[pvG P ao qo vo tto uo oo ac qc vc tc uc oc, .int .i64 (q : Int)] w fun e w' => e = .returned (.bool (capN P.rows q)) ∧ Below w.heap.size w w' := by
  have hb1 : Below w.heap.size w (w.alloc (.cells #[.string P.name, .slice ao P.rows.length ac, .slice qo P.qs.length qc, .slice vo P.vs.length vc, .slice tto P.ts.length tc, .slice uo P.us.length uc, .slice oo P.on.length oc, .int .i64 P.miss] 30)) := (Below.refl _ w).alloc (Nat.le_refl _) _
  have HB : Hid (Below w.heap.size w (w.alloc (.cells #[.string P.name, .slice ao P.rows.length ac, .slice qo P.qs.length qc, .slice vo P.vs.length vc, .slice tto P.ts.length tc, .slice uo P.us.length uc, .slice oo P.on.length oc, .int .i64 P.miss] 30))) := hb1
  have HI := show Hid _ from IsRz.below h hb1
  have HX := show Hid _ from heap_alloc_new w (.cells #[.string P.name, .slice ao P.rows.length ac, .slice qo P.qs.length qc, .slice vo P.vs.length vc, .slice tto P.ts.length tc, .slice uo P.us.length uc, .slice oo P.on.length oc, .int .i64 P.miss] 30)
  have hln : (P.rows.length : Int) ≤ 2932031007317 := by omega
  obtain ⟨k0, k1, k2, k3, k4, k5, k6, k7⟩ := pol8 HX.out
  dsimp only [pvG] at *
  clear h hn hb1
  go_enter Tryz.func8, Tryz.ntmps8
  go_wp2_with fail
  generalize (w.alloc (.cells #[.string P.name, .slice ao P.rows.length ac, .slice qo P.qs.length qc, .slice vo P.vs.length vc, .slice tto P.ts.length tc, .slice uo P.us.length uc, .slice oo P.on.length oc, .int .i64 P.miss] 30)) = w1 at *
  go_loopg [5] P.rows.length (fun gq x wr => ∃ k : Nat, k ≤ P.rows.length ∧ gq = P.rows.length - k ∧ x = .int .i64 (k : Int) ∧ capN (P.rows.take k) q = false ∧ wr = w1)
  case atStart => exact ⟨0, Nat.zero_le _, rfl, rfl, rfl, rfl⟩
  case round =>
    obtain ⟨k, hk, hgk, rfl, hno, hw⟩ := hrel
    subst hw
    have HG : Hid (gk = P.rows.length - k) := hgk
    have HNo : Hid (capN (P.rows.take k) q = false) := hno
    clear hgk hno
    by_cases hlt : k < P.rows.length
    · have hlt' : (k : Int) < (P.rows.length : Int) := by omega
      have HLt : Hid (k < P.rows.length) := hlt
      obtain ⟨ga, oa, rfl, hga, c0, c1, c2, c3, c4⟩ := row_cells HI.out hlt
      clear hlt hk
      by_cases hh : (rat P.rows k).kind = 32 ∧ (rat P.rows k).n = (q : Int)
      · have HF : Hid (capN P.rows q = true) := namesCap_hit HLt.out hh
        have e1 : ((rat P.rows k).kind == 32) = true := by simpa using hh.1
        have e2 : ((rat P.rows k).n == (q : Int)) = true := by simpa using hh.2
        generalize (rat P.rows k).kind = kd at *
        generalize (rat P.rows k).n = nn at *
        clear hh HNo
        go_wp2_with fail
        go_ret
        rw [HF.out]
        exact ⟨rfl, HB.out⟩
      · have HN : Hid (capN (P.rows.take (k + 1)) q = false) := namesCap_step HLt.out HNo.out hh
        by_cases h32 : (rat P.rows k).kind = 32
        · have e1 : ((rat P.rows k).kind == 32) = true := by simpa using h32
          have e2 : ((rat P.rows k).n == (q : Int)) = false := by simpa using fun e => hh ⟨h32, e⟩
          generalize (rat P.rows k).kind = kd at *
          generalize (rat P.rows k).n = nn at *
          clear hh HNo h32
          go_wp2_with fail
          go_roundg (P.rows.length - (k + 1))
          case measure => have h1 := HG.out; have := HLt.out; omega
          case rel => exact ⟨k + 1, HLt.out, rfl, by go_num, HN.out, rfl⟩
        · have e1 : ((rat P.rows k).kind == 32) = false := by simpa using h32
          generalize (rat P.rows k).kind = kd at *
          generalize (rat P.rows k).n = nn at *
          clear hh HNo h32
          go_wp2_with fail
          go_roundg (P.rows.length - (k + 1))
          case measure => have h1 := HG.out; have := HLt.out; omega
          case rel => exact ⟨k + 1, HLt.out, rfl, by go_num, HN.out, rfl⟩
    · have hlt' : ¬ (k : Int) < (P.rows.length : Int) := by omega
      obtain rfl : k = P.rows.length := by omega
      have HN := HNo.out
      rw [List.take_length] at HN
      have HF := show Hid _ from HN
      clear HN HNo hlt hk
      go_wp2_with fail
      go_ret
      rw [HF.out]
      exact ⟨rfl, HB.out⟩
theorem namesSize_any {P : Pg} {ao qo vo tto uo oo : Option Addr} {ac qc vc tc uc oc : Nat} {w : World} (h : IsRz w ao P.rows) (hn : P.rows.length ≤ 2932031007317) :
    Calls Tryz.prog 9 #[pvG P ao qo vo tto uo oo ac qc vc tc uc oc] w fun e w' => e = .returned (.bool (sizN P.rows)) ∧ Below w.heap.size w w' := by
  have hb1 : Below w.heap.size w (w.alloc (.cells #[.string P.name, .slice ao P.rows.length ac, .slice qo P.qs.length qc, .slice vo P.vs.length vc, .slice tto P.ts.length tc, .slice uo P.us.length uc, .slice oo P.on.length oc, .int .i64 P.miss] 30)) := (Below.refl _ w).alloc (Nat.le_refl _) _
  have HB : Hid (Below w.heap.size w (w.alloc (.cells #[.string P.name, .slice ao P.rows.length ac, .slice qo P.qs.length qc, .slice vo P.vs.length vc, .slice tto P.ts.length tc, .slice uo P.us.length uc, .slice oo P.on.length oc, .int .i64 P.miss] 30))) := hb1
  have HI := show Hid _ from IsRz.below h hb1
  have HX := show Hid _ from heap_alloc_new w (.cells #[.string P.name, .slice ao P.rows.length ac, .slice qo P.qs.length qc, .slice vo P.vs.length vc, .slice tto P.ts.length tc, .slice uo P.us.length uc, .slice oo P.on.length oc, .int .i64 P.miss] 30)
  have hln : (P.rows.length : Int) ≤ 2932031007317 := by omega
  obtain ⟨k0, k1, k2, k3, k4, k5, k6, k7⟩ := pol8 HX.out
  dsimp only [pvG] at *
  clear h hn hb1
  go_enter Tryz.func9, Tryz.ntmps9
  go_wp2_with fail
  generalize (w.alloc (.cells #[.string P.name, .slice ao P.rows.length ac, .slice qo P.qs.length qc, .slice vo P.vs.length vc, .slice tto P.ts.length tc, .slice uo P.us.length uc, .slice oo P.on.length oc, .int .i64 P.miss] 30)) = w1 at *
  go_loopg [3] P.rows.length (fun gq x wr => ∃ k : Nat, k ≤ P.rows.length ∧ gq = P.rows.length - k ∧ x = .int .i64 (k : Int) ∧ sizN (P.rows.take k) = false ∧ wr = w1)
  case atStart => exact ⟨0, Nat.zero_le _, rfl, rfl, rfl, rfl⟩
  case round =>
    obtain ⟨k, hk, hgk, rfl, hno, hw⟩ := hrel
    subst hw
    have HG : Hid (gk = P.rows.length - k) := hgk
    have HNo : Hid (sizN (P.rows.take k) = false) := hno
    clear hgk hno
    by_cases hlt : k < P.rows.length
    · have hlt' : (k : Int) < (P.rows.length : Int) := by omega
      have HLt : Hid (k < P.rows.length) := hlt
      obtain ⟨ga, oa, rfl, hga, c0, c1, c2, c3, c4⟩ := row_cells HI.out hlt
      clear hlt hk
      by_cases hh : (rat P.rows k).kind = 33
      · have HF : Hid (sizN P.rows = true) := namesSize_hit HLt.out hh
        have e1 : ((rat P.rows k).kind == 33) = true := by simpa using hh
        generalize (rat P.rows k).kind = kd at *
        clear hh HNo
        go_wp2_with fail
        go_ret
        rw [HF.out]
        exact ⟨rfl, HB.out⟩
      · have HN : Hid (sizN (P.rows.take (k + 1)) = false) := namesSize_step HLt.out HNo.out hh
        have e1 : ((rat P.rows k).kind == 33) = false := by simpa using hh
        generalize (rat P.rows k).kind = kd at *
        clear hh HNo
        go_wp2_with fail
        go_roundg (P.rows.length - (k + 1))
        case measure => have h1 := HG.out; have := HLt.out; omega
        case rel => exact ⟨k + 1, HLt.out, rfl, by go_num, HN.out, rfl⟩
    · have hlt' : ¬ (k : Int) < (P.rows.length : Int) := by omega
      obtain rfl : k = P.rows.length := by omega
      have HN := HNo.out
      rw [List.take_length] at HN
      have HF := show Hid _ from HN
      clear HN HNo hlt hk
      go_wp2_with fail
      go_ret
      rw [HF.out]
      exact ⟨rfl, HB.out⟩
theorem iv_len (l : List Int) : (iv l).length = l.length := by simp [iv]
theorem vC_len (l : List (Int × Int × Int)) : (vC l).length = l.length * 3 := by
  induction l with
  | nil => rfl
  | cons x l ih =>
    have e : vC (x :: l) = [.int .i64 x.1, .int .i64 x.2.1, .int .i64 x.2.2] ++ vC l := by simp [vC]
    rw [e, List.length_append, ih]
    simp
    omega
theorem vC_at {l : List (Int × Int × Int)} {k : Nat} (h : k < l.length) : (vC l)[k * 3]? = some (.int .i64 l[k].1) ∧ (vC l)[k * 3 + 1]? = some (.int .i64 l[k].2.1) ∧ (vC l)[k * 3 + 2]? = some (.int .i64 l[k].2.2) := by
  induction l generalizing k with
  | nil => simp at h
  | cons x l ih =>
    have e : vC (x :: l) = [.int .i64 x.1, .int .i64 x.2.1, .int .i64 x.2.2] ++ vC l := by simp [vC]
    cases k with
    | zero => rw [e]; exact ⟨rfl, rfl, rfl⟩
    | succ k =>
      have h2 := ih (k := k) (by simpa using h)
      rw [e]
      refine ⟨?_, ?_, ?_⟩
      · rw [List.getElem?_append_right (by simp; omega)]
        have : (k + 1) * 3 - [Value.int .i64 x.1, .int .i64 x.2.1, .int .i64 x.2.2].length = k * 3 := by simp; omega
        rw [this]
        exact h2.1
      · rw [List.getElem?_append_right (by simp; omega)]
        have : (k + 1) * 3 + 1 - [Value.int .i64 x.1, .int .i64 x.2.1, .int .i64 x.2.2].length = k * 3 + 1 := by simp; omega
        rw [this]
        exact h2.2.1
      · rw [List.getElem?_append_right (by simp; omega)]
        have : (k + 1) * 3 + 2 - [Value.int .i64 x.1, .int .i64 x.2.1, .int .i64 x.2.2].length = k * 3 + 2 := by simp; omega
        rw [this]
        exact h2.2.2
/-- what is told twice, the same -/
theorem sameTyped_any {vs : List (Int × Int × Int)} {ts rl : List Int} {vo1 to1 ro1 vo2 to2 ro2 : Option Addr} {vc1 tc1 rc1 vc2 tc2 rc2 : Nat} {w : World} (h1 : IsVals w vo1 (vC vs)) (h2 : IsVals w vo2 (vC vs)) (h3 : IsVals w to1 (iv ts)) (h4 : IsVals w to2 (iv ts)) (h5 : IsVals w ro1 (iv rl)) (h6 : IsVals w ro2 (iv rl)) (hv : vs.length ≤ 2932031007317) (ht : ts.length ≤ 2932031007317) (hr : rl.length ≤ 2932031007317) :
    Calls Tryz.prog 12 #[.agg #[.slice vo1 vs.length vc1, .slice to1 ts.length tc1, .slice ro1 rl.length rc1], .agg #[.slice vo2 vs.length vc2, .slice to2 ts.length tc2, .slice ro2 rl.length rc2]] w fun e w' => e = .returned (.bool true) ∧ Below w.heap.size w w' := by
  have hb : Below w.heap.size w ((w.alloc (.cells #[.slice vo1 vs.length vc1, .slice to1 ts.length tc1, .slice ro1 rl.length rc1] 40)).alloc (.cells #[.slice vo2 vs.length vc2, .slice to2 ts.length tc2, .slice ro2 rl.length rc2] 40)) := ((Below.refl _ w).alloc (Nat.le_refl _) _).alloc (by simp) _
  have HB := show Hid _ from hb
  have HX : Hid (((w.alloc (.cells #[.slice vo1 vs.length vc1, .slice to1 ts.length tc1, .slice ro1 rl.length rc1] 40)).alloc (.cells #[.slice vo2 vs.length vc2, .slice to2 ts.length tc2, .slice ro2 rl.length rc2] 40)).heap[w.heap.size]? = some (.cells #[.slice vo1 vs.length vc1, .slice to1 ts.length tc1, .slice ro1 rl.length rc1] 40 (0, 0)) ∧ ((w.alloc (.cells #[.slice vo1 vs.length vc1, .slice to1 ts.length tc1, .slice ro1 rl.length rc1] 40)).alloc (.cells #[.slice vo2 vs.length vc2, .slice to2 ts.length tc2, .slice ro2 rl.length rc2] 40)).heap[w.heap.size + 1]? = some (.cells #[.slice vo2 vs.length vc2, .slice to2 ts.length tc2, .slice ro2 rl.length rc2] 40 (0, 0))) := ⟨by rw [alloc_old _ _ _ (by simp)]; exact alloc_at _ _ _ rfl, alloc_at _ _ _ (by simp)⟩
  have HS1 := show Hid _ from same17 (ca := tc1) (cb := tc2) (h3.below hb) (h4.below hb) (by omega)
  have H5 := show Hid _ from h5.below hb
  have H6 := show Hid _ from h6.below hb
  have H1 := show Hid _ from h1.below hb
  have H2 := show Hid _ from h2.below hb
  have HL : Hid (rl.length ≤ 2932031007317) := hr
  have hvl : (vs.length : Int) ≤ 2932031007317 := by omega
  obtain ⟨a0, a1, a2⟩ := cells3 HX.out.1
  obtain ⟨b0, b1, b2⟩ := cells3 HX.out.2
  clear h1 h2 h3 h4 h5 h6 hv ht hr hb
  go_enter Tryz.func12, Tryz.ntmps12
  go_wp2_with fail
  generalize ((w.alloc (.cells #[.slice vo1 vs.length vc1, .slice to1 ts.length tc1, .slice ro1 rl.length rc1] 40)).alloc (.cells #[.slice vo2 vs.length vc2, .slice to2 ts.length tc2, .slice ro2 rl.length rc2] 40)) = w2 at *
  refine Calls.mono HS1.out ?_
  rintro e w3 ⟨⟨bb, rfl, hbb⟩, hb3⟩
  have hbt : bb = true := hbb.2 (by first | rfl | trivial)
  subst hbt
  have HS2 := show Hid _ from same17 (ca := rc1) (cb := rc2) (IsVals.below H5.out hb3) (IsVals.below H6.out hb3) (by have := HL.out; omega)
  have HX3 : Hid (w3.heap[w.heap.size]? = some (.cells #[.slice vo1 vs.length vc1, .slice to1 ts.length tc1, .slice ro1 rl.length rc1] 40 (0, 0)) ∧ w3.heap[w.heap.size + 1]? = some (.cells #[.slice vo2 vs.length vc2, .slice to2 ts.length tc2, .slice ro2 rl.length rc2] 40 (0, 0))) := ⟨(hb3.block _ (blk_lt HX.out.1)).trans HX.out.1, (hb3.block _ (blk_lt HX.out.2)).trans HX.out.2⟩
  have HB3 : Hid (Below w2.heap.size w2 w3) := hb3
  clear hb3 hbb HS1 a0 a1 a2 b0 b1 b2
  obtain ⟨a0, a1, a2⟩ := cells3 HX3.out.1
  obtain ⟨b0, b1, b2⟩ := cells3 HX3.out.2
  go_wp2_with fail
  refine Calls.mono HS2.out ?_
  rintro e w4 ⟨⟨bb, rfl, hbb⟩, hb4⟩
  have hbt : bb = true := hbb.2 (by first | rfl | trivial)
  subst hbt
  have HB4 : Hid (Below w2.heap.size w2 w4) := HB3.out.trans (hb4.mono HB3.out.size)
  have HX4 : Hid (w4.heap[w.heap.size]? = some (.cells #[.slice vo1 vs.length vc1, .slice to1 ts.length tc1, .slice ro1 rl.length rc1] 40 (0, 0)) ∧ w4.heap[w.heap.size + 1]? = some (.cells #[.slice vo2 vs.length vc2, .slice to2 ts.length tc2, .slice ro2 rl.length rc2] 40 (0, 0))) := ⟨(hb4.block _ (blk_lt HX3.out.1)).trans HX3.out.1, (hb4.block _ (blk_lt HX3.out.2)).trans HX3.out.2⟩
  clear hb4 hbb HS2 a0 a1 a2 b0 b1 b2 HX HX3 HB3
  go_wp2_with fail
  go_loopg [5] vs.length (fun gq x wr => ∃ k : Nat, k ≤ vs.length ∧ gq = vs.length - k ∧ x = .int .i64 (k : Int) ∧ Below w4.heap.size w4 wr)
  case atStart => exact ⟨0, Nat.zero_le _, rfl, rfl, Below.refl _ _⟩
  case round =>
    obtain ⟨k, hk, hgk, rfl, hbr⟩ := hrel
    have HG : Hid (gk = vs.length - k) := hgk
    have HBr : Hid (Below w4.heap.size w4 wr) := hbr
    have hx1 := (hbr.block _ (blk_lt HX4.out.1)).trans HX4.out.1
    have hx2 := (hbr.block _ (blk_lt HX4.out.2)).trans HX4.out.2
    obtain ⟨a0, a1, a2⟩ := cells3 hx1
    obtain ⟨b0, b1, b2⟩ := cells3 hx2
    clear hgk hx1 hx2
    by_cases hlt : k < vs.length
    · have hlt' : (k : Int) < (vs.length : Int) := by omega
      have HLt : Hid (k < vs.length) := hlt
      have hbx := HB4.out.trans (hbr.mono HB4.out.size)
      obtain ⟨q0, q1, q2⟩ := vC_at hlt
      obtain ⟨g1, o1, e1, _, x0⟩ := (IsVals.below H1.out hbx) _ _ q0
      obtain ⟨_, _, ea, _, x1⟩ := (IsVals.below H1.out hbx) _ _ q1
      rw [e1] at ea
      cases ea
      obtain ⟨_, _, ea, _, x2⟩ := (IsVals.below H1.out hbx) _ _ q2
      rw [e1] at ea
      cases ea
      obtain ⟨g2, o2, e2, _, y0⟩ := (IsVals.below H2.out hbx) _ _ q0
      obtain ⟨_, _, ea, _, y1⟩ := (IsVals.below H2.out hbx) _ _ q1
      rw [e2] at ea
      cases ea
      obtain ⟨_, _, ea, _, y2⟩ := (IsVals.below H2.out hbx) _ _ q2
      rw [e2] at ea
      cases ea
      subst e1
      subst e2
      generalize vs[k].1 = z0 at *
      generalize vs[k].2.1 = z1 at *
      generalize vs[k].2.2 = z2 at *
      rw [← Nat.add_assoc] at x1 x2 y1 y2
      clear hlt hk hbr hbx q0 q1 q2
      go_wp2_with fail
      go_quiet (fail)
      go_wp2_with fail
      go_roundg (vs.length - (k + 1))
      case measure => have h1 := HG.out; have := HLt.out; omega
      case rel => exact ⟨k + 1, HLt.out, rfl, by go_num, HBr.out.trans ((below_drewN _ _).mono HBr.out.size)⟩
    · have hlt' : ¬ (k : Int) < (vs.length : Int) := by omega
      clear hlt hk hbr
      go_wp2_with fail
      go_ret
      exact ⟨rfl, HB.out.trans ((HB4.out.trans (HBr.out.mono HB4.out.size)).mono HB.out.size)⟩
theorem kid_inj {l : List Rz} (h : Whole l) {i k i' k' : Nat} (hi : i < l.length) (hk : k < km l i) (hi' : i' < l.length) (hk' : k' < km l i') (e : kidp l i k = kidp l i' k') : i = i' ∧ k = k' := by
  have h1 := up_kid h hi hk
  have h2 := up_kid h hi' hk'
  rw [e] at h1
  exact ⟨h1.1.symm.trans h2.1, h1.2.symm.trans h2.2⟩
theorem askRow_own {l : List Rz} (h : Whole l) {i k : Nat} (hi : i < l.length) (f : Nat → Int) : ∀ m, m ≤ km l i → k < m → askRow l i f m (kidp l i k) = (rP l i).asked k (rP l (i + 1)).is
  | 0, _, hk => by omega
  | m + 1, hm, hk => by
    unfold askRow setF
    by_cases e : kidp l i k = kidp l i m
    · rw [if_pos e, (kid_inj h hi (by omega) hi (by omega) e).2]
    · rw [if_neg e]
      exact askRow_own h hi f m (by omega) (by
        rcases Nat.lt_or_ge k m with h1 | h1
        · exact h1
        · exact absurd (by rw [show k = m by omega]) e)
theorem askRow_other {l : List Rz} (h : Whole l) {i k i' : Nat} (hi : i < l.length) (hk : k < km l i) (hi' : i' < l.length) (hne : i' ≠ i) (f : Nat → Int) : ∀ m, m ≤ km l i' → askRow l i' f m (kidp l i k) = f (kidp l i k)
  | 0, _ => rfl
  | m + 1, hm => by
    unfold askRow setF
    rw [if_neg (fun e => hne (kid_inj h hi hk hi' (by omega) e).1.symm)]
    exact askRow_other h hi hk hi' hne f m (by omega)
/-- what is asked of a kid -/
theorem asks_kid {l : List Rz} (h : Whole l) {i k : Nat} (hi : i < l.length) (hk : k < km l i) : ∀ n, i < n → n ≤ l.length → asksN l n (kidp l i k) = (rP l i).asked k (rP l (i + 1)).is
  | 0, h0, _ => by omega
  | n + 1, h0, hn => by
    unfold asksN
    by_cases e : n = i
    · subst e
      exact askRow_own h hi _ _ (Nat.le_refl _) hk
    · rw [askRow_other h hi hk (by omega) e _ _ (Nat.le_refl _)]
      exact asks_kid h hi hk n (by omega) (by omega)
theorem fltN_zero {l : List Rz} {gh : Nat → Bool} : ∀ {n}, (fltN l gh n).1 = 0 → ∀ i, i < n → fltZ l gh i = 0
  | 0, _, i, hi => by omega
  | n + 1, h, i, hi => by
    unfold fltN at h
    split at h
    · rename_i h1; exact absurd h h1
    · rename_i h1
      split at h
      · rename_i h2; exact absurd h h2
      · rename_i h2
        by_cases e : i = n
        · subst e; simpa using h2
        · exact fltN_zero (by simpa using h1) i (by omega)
/-- a kid has the type that is asked of it -/
theorem kid_is {l : List Rz} {gh : Nat → Bool} (h : Whole l) (hf : (fltN l gh l.length).1 = 0) {i k : Nat} (hi : i < l.length) (hk : k < km l i) (ha : (rP l i).asked k (rP l (i + 1)).is ≠ 0) : (rP l (kidp l i k)).is = (rP l i).asked k (rP l (i + 1)).is := by
  have hj := (kid_at h hi hk).1
  have h1 := fltN_zero hf _ hj
  have h2 := asks_kid h hi hk l.length hi (Nat.le_refl _)
  unfold fltZ at h1
  rw [h2] at h1
  by_cases e : (rP l i).asked k (rP l (i + 1)).is = (rP l (kidp l i k)).is
  · exact e.symm
  · rw [if_pos ⟨ha, e⟩] at h1
    cases h1
/-- what must be constant is -/
theorem not_changing {l : List Rz} {gh : Nat → Bool} (hf : (fltN l gh l.length).1 = 0) {j : Nat} (hj : j < l.length) (hc : j < conN l j) : (rP l j).changing = false := by
  have h1 := fltN_zero hf _ hj
  unfold fltZ at h1
  split at h1
  · cases h1
  · cases hx : (rP l j).changing with
    | false => rfl
    | true =>
      rw [if_pos ⟨hc, hx⟩] at h1
      cases h1
theorem con_till {l : List Rz} {i : Nat} : ∀ {j}, i < j → tillZ l i ≤ conN l j
  | 0, h => by omega
  | j + 1, h => by
    unfold conN
    by_cases e : i = j
    · subst e; omega
    · have := con_till (l := l) (show i < j by omega); omega
/-- values, when p rows from the last on are reckoned: those are final -/
theorem vB_final {l : List Rz} {size : Int} {cq : Nat → Int} {p j : Nat} (hj : l.length - p ≤ j) (hjl : j < l.length) : ∀ q, p ≤ q → q ≤ l.length → vB l size cq q j = vB l size cq p j
  | 0, h, _ => by rw [show p = 0 by omega]
  | q + 1, h, hq => by
    by_cases e : p = q + 1
    · rw [e]
    · have : vB l size cq (q + 1) j = vB l size cq q j := by
        show setF (vB l size cq q) _ _ j = _
        unfold setF
        rw [if_neg (by omega)]
      rw [this]
      exact vB_final hj hjl q (by omega) (by omega)
theorem vB_rec {l : List Rz} {size : Int} {cq : Nat → Int} (hW : Whole l) {j : Nat} (hj : j < l.length) : vB l size cq l.length j = (rP l j).cm size cq (if 0 < km l j then vB l size cq l.length (j + 1) else 0) (if 1 < km l j then vB l size cq l.length (endp l (j + 1)) else 0) := by
  have h1 := vB_final (l := l) (size := size) (cq := cq) (p := l.length - 1 - j + 1) (j := j) (by omega) hj l.length (by omega) (Nat.le_refl _)
  have e1 : l.length - 1 - (l.length - 1 - j) = j := by omega
  have h2 : vB l size cq (l.length - 1 - j + 1) j = (rP l j).cm size cq (if 0 < km l j then vB l size cq (l.length - 1 - j) (j + 1) else 0) (if 1 < km l j then vB l size cq (l.length - 1 - j) (endp l (j + 1)) else 0) := by
    show setF _ _ _ j = _
    rw [e1]
    exact if_pos rfl
  rw [h1, h2]
  have a1 : (if 0 < km l j then vB l size cq (l.length - 1 - j) (j + 1) else 0) = (if 0 < km l j then vB l size cq l.length (j + 1) else 0) := by
    split
    · rename_i hk
      have := (kid_at hW hj hk).1
      rw [kid_zero] at this
      exact (vB_final (by omega) this _ (by omega) (Nat.le_refl _)).symm
    · rfl
  have a2 : (if 1 < km l j then vB l size cq (l.length - 1 - j) (endp l (j + 1)) else 0) = (if 1 < km l j then vB l size cq l.length (endp l (j + 1)) else 0) := by
    split
    · rename_i hk
      have h5 := (kid_at hW hj (k := 0) (by omega)).2.1
      have h6 := kid_at hW hj (k := 1) hk
      rw [kid_zero] at h5
      rw [← h5]
      exact (vB_final (by omega) h6.1 _ (by omega) (Nat.le_refl _)).symm
    · rfl
  rw [a1, a2]
/-- a number of that type -/
def Rng (t v : Int) : Prop := (t = 1 → -1073741824 ≤ v ∧ v ≤ 1073741824) ∧ (t = 2 → v = 0 ∨ v = 1)
theorem rng_zero (t : Int) : Rng t 0 := ⟨fun _ => by omega, fun _ => Or.inl rfl⟩
theorem rng_one (b : Bool) : Rng 2 (oneZ b) := ⟨fun h => (by cases h), fun _ => (by cases b; exact Or.inl rfl; exact Or.inr rfl)⟩
theorem rng_num {v : Int} (h1 : -1073741824 ≤ v) (h2 : v ≤ 1073741824) : Rng 1 v := ⟨fun _ => ⟨h1, h2⟩, fun h => (by cases h)⟩
theorem rng_clamp (n : Int) : Rng 1 (clampZ n) := by have := clamp_in n; exact rng_num (by omega) (by omega)
theorem rng_div (a b : Int) : Rng 1 (divZ a b) := by
  unfold divZ
  split
  · exact rng_zero 1
  · split
    · have := clamp_in a; exact rng_num (by omega) (by omega)
    · exact rng_clamp _
theorem bit_and {a b : Int} (ha : a = 0 ∨ a = 1) (hb : b = 0 ∨ b = 1) : bits .and .i64 a b = 0 ∨ bits .and .i64 a b = 1 := by
  rcases ha with rfl | rfl <;> rcases hb with rfl | rfl
  · exact Or.inl (by decide)
  · exact Or.inl (by decide)
  · exact Or.inl (by decide)
  · exact Or.inr (by decide)
theorem bit_or {a b : Int} (ha : a = 0 ∨ a = 1) (hb : b = 0 ∨ b = 1) : bits .or .i64 a b = 0 ∨ bits .or .i64 a b = 1 := by
  rcases ha with rfl | rfl <;> rcases hb with rfl | rfl
  · exact Or.inl (by decide)
  · exact Or.inr (by decide)
  · exact Or.inr (by decide)
  · exact Or.inr (by decide)
theorem bit_not {a : Int} (ha : a = 0 ∨ a = 1) : wrap64 (1 - a) = 0 ∨ wrap64 (1 - a) = 1 := by
  unfold wrap64
  omega
/-- the parts of kinds -/
theorem pOf_wriT {k n t m : Int} (h : pOf k n = .wri t m) (hn : 0 ≤ n ∧ n ≤ 1073741824) : Rng t m := by
  unfold pOf at h
  repeat' split at h
  all_goals first
    | (cases h; exact rng_num (by omega) (by omega))
    | (cases h; exact ⟨fun e => (by cases e), fun _ => Or.inr rfl⟩)
    | (cases h; exact rng_zero _)
    | cases h
/-- each value is one of its row's type -/
theorem vB_rng {l : List Rz} {gh : Nat → Bool} {size : Int} {cq : Nat → Int} (hW : Whole l) (hf : (fltN l gh l.length).1 = 0) (hs : 0 ≤ size ∧ size ≤ 1048576) (hn : ∀ i, i < l.length → 0 ≤ (rat l i).n ∧ (rat l i).n ≤ 1073741824) (hq : ∀ i, i < l.length → (rat l i).kind = 32 → 0 ≤ cq (rat l i).n.toNat ∧ cq (rat l i).n.toNat ≤ 1048576) : ∀ d j, l.length - j ≤ d → j < l.length → Rng (rP l j).is (vB l size cq l.length j) := by
  intro d
  induction d with
  | zero => intro j h1 h2; omega
  | succ d ih =>
    intro j hd hj
    rw [vB_rec hW hj]
    have ka : ∀ t, t ≠ 0 → (0 < km l j → (rP l j).asked 0 (rP l (j + 1)).is = t) → Rng t (if 0 < km l j then vB l size cq l.length (j + 1) else 0) := fun t ht h => by
      split
      · rename_i hk
        have h1 := kid_at hW hj hk
        rw [kid_zero] at h1
        have h2 := kid_is hW hf hj hk (by rw [h hk]; exact ht)
        rw [kid_zero, h hk] at h2
        rw [← h2]
        exact ih (j + 1) (by omega) h1.1
      · exact rng_zero t
    have kb : ∀ t, t ≠ 0 → (1 < km l j → (rP l j).asked 1 (rP l (j + 1)).is = t) → Rng t (if 1 < km l j then vB l size cq l.length (endp l (j + 1)) else 0) := fun t ht h => by
      split
      · rename_i hk
        have h5 := (kid_at hW hj (k := 0) (by omega)).2.1
        rw [kid_zero] at h5
        have h6 := kid_at hW hj hk
        have h2 := kid_is hW hf hj hk (by rw [h hk]; exact ht)
        rw [h hk] at h2
        rw [← h5, ← h2]
        exact ih _ (by omega) h6.1
      · exact rng_zero t
    cases hp : rP l j with
    | dng a b c => exact rng_zero _
    | wri t n => exact pOf_wriT hp (hn j hj)
    | cpy q =>
      obtain ⟨h1, h2⟩ := pOf_cpy hp
      have h3 := hq j hj h1
      rw [h2] at h3
      exact rng_num (by show _ ≤ cq q.toNat; omega) (by show cq q.toNat ≤ _; omega)
    | siz => exact rng_num (by show _ ≤ size; omega) (by show size ≤ _; omega)
    | chg t => exact rng_zero _
    | rck k =>
      have ha := ka 1 (by decide) (fun _ => by rw [hp]; rfl)
      have hb := kb 1 (by decide) (fun _ => by rw [hp]; rfl)
      have ha1 := ha.1 rfl
      have hb1 := hb.1 rfl
      show Rng 1 (Prt.cm (.rck k) size cq _ _)
      simp only [Prt.cm]
      repeat' split
      all_goals first | exact rng_clamp _ | exact rng_div _ _ | exact rng_num (by omega) (by omega)
    | cmp k =>
      show Rng 2 (Prt.cm (.cmp k) size cq _ _)
      simp only [Prt.cm]
      repeat' split
      all_goals exact rng_one _
    | joi k =>
      have ha := (ka 2 (by decide) (fun _ => by rw [hp]; rfl)).2 rfl
      have hb := (kb 2 (by decide) (fun _ => by rw [hp]; rfl)).2 rfl
      refine ⟨fun h => (by cases h), fun _ => ?_⟩
      show Prt.cm (.joi k) size cq _ _ = 0 ∨ Prt.cm (.joi k) size cq _ _ = 1
      simp only [Prt.cm]
      split
      · exact bit_not ha
      · split
        · exact bit_and ha hb
        · exact bit_or ha hb
    | lik k => exact rng_one _
/-- rows of a kind, among the first n -/
def cntK (l : List Rz) (k : Int) : Nat → Nat
  | 0 => 0
  | n + 1 => if (rat l n).kind = k then cntK l k n + 1 else cntK l k n
theorem setV_cnt (l : List Rz) (v : Nat → Int) : ∀ n, (setV l v n).length = cntK l 4 n
  | 0 => rfl
  | n + 1 => by
    have := setV_cnt l v n
    unfold setV cntK
    split
    · simp [this]
    · exact this
theorem setT_cnt (l : List Rz) (v : Nat → Int) : ∀ n, (setT l v n).length = cntK l 5 n
  | 0 => rfl
  | n + 1 => by
    have := setT_cnt l v n
    unfold setT cntK
    split
    · simp [this]
    · exact this
theorem cnt_like {l m : List Rz} {k : Int} : ∀ {n}, (∀ j, j < n → (rat l j).kind = (rat m j).kind) → cntK l k n = cntK m k n
  | 0, _ => rfl
  | n + 1, h => by
    unfold cntK
    rw [h n (by omega), cnt_like (fun j hj => h j (by omega))]
theorem ask_lists {n : Nat} {t s : Rs} (h : askN n t 3 = .ok s) : ∃ t1, askD n t = .ok t1 ∧ s.vs = t1.vs ∧ s.ts = t1.ts := by
  cases h1 : askD n t with
  | error c =>
    have : askN n t 3 = .error c := by simp [askN, ask, h1]
    rw [this] at h
    cases h
  | ok t1 =>
    refine ⟨t1, rfl, ?_⟩
    cases h2 : askM n t1 with
    | error c =>
      have : askN n t 3 = .error c := by simp [askN, ask, h1, h2]
      rw [this] at h
      cases h
    | ok t2 =>
      have h3 : askH n t2 = .ok s := by
        have : askN n t 3 = askH n t2 := by simp [askN, ask, h1, h2]
        rw [← this]
        exact h
      have e2 : t2.vs = t1.vs ∧ t2.ts = t1.ts := by
        unfold askM at h2
        split at h2
        · cases h2; exact ⟨rfl, rfl⟩
        · split at h2
          · cases h2
          · split at h2
            · cases h2
            · split at h2
              · cases h2
              · cases h2; exact ⟨rfl, rfl⟩
      have e3 : s.vs = t2.vs ∧ s.ts = t2.ts := by
        unfold askH at h3
        split at h3
        · cases h3; exact ⟨rfl, rfl⟩
        · split at h3
          · cases h3
          · cases h3; exact ⟨rfl, rfl⟩
      exact ⟨e3.1.trans e2.1, e3.2.trans e2.2⟩
theorem askD_lists {n : Nat} {t t1 : Rs} {k : Int} (h : askD n t = .ok t1) (hk : (rat t.rows n).kind = k) : t1.vs.length = (if k = 4 then t.vs.length + 1 else t.vs.length) ∧ t1.ts.length = (if k = 5 then t.ts.length + 1 else t.ts.length) := by
  unfold askD at h
  rw [hk] at h
  split at h
  · rename_i h0
    cases h
    have h4 : k ≠ 4 := fun e => by rw [e] at h0; exact absurd h0 (by decide)
    have h5 : k ≠ 5 := fun e => by rw [e] at h0; exact absurd h0 (by decide)
    rw [if_neg h4, if_neg h5]
    exact ⟨rfl, rfl⟩
  · split at h
    · cases h
    · split at h
      · cases h
      · cases h
        unfold Rs.dec
        dsimp only
        rw [hk]
        constructor
        · split <;> simp
        · split <;> simp
theorem upto_cnt {l : List Rz} (hB : Base l) : ∀ n, n ≤ l.length → ∀ s, upto (start l) n = .ok s → s.vs.length = cntK l 4 n ∧ s.ts.length = cntK l 5 n
  | 0, _, s, h => by cases h; exact ⟨rfl, rfl⟩
  | n + 1, hn, s, h => by
    cases hu : upto (start l) n with
    | error e =>
      have : upto (start l) (n + 1) = .error e := by simp [upto, hu]
      rw [this] at h
      cases h
    | ok t =>
      have ih := upto_cnt hB n (by omega) t hu
      have hg := upto_good hB n (by omega) hu
      cases ha : askN n t 3 with
      | error c =>
        have : upto (start l) (n + 1) = .error (c, n) := by simp [upto, hu, ha]
        rw [this] at h
        cases h
      | ok t' =>
        have : upto (start l) (n + 1) = .ok t' := by simp [upto, hu, ha]
        rw [this] at h
        cases h
        obtain ⟨t1, h1, h2, h3⟩ := ask_lists ha
        have h4 := askD_lists h1 (like_kind hg.like (show n < l.length by omega)).1
        rw [h2, h3, h4.1, h4.2]
        unfold cntK
        rw [ih.1, ih.2]
        exact ⟨rfl, rfl⟩
/-- how many vars and tags a told policy has; what its first row is -/
theorem res_cnt {l : List Rz} {p : Pl} (h : res l = .ok p) : p.vs.length = cntK p.rows 4 p.rows.length ∧ p.ts.length = cntK p.rows 5 p.rows.length ∧ (rat p.rows 0).kind = 1 := by
  unfold res at h
  split at h
  · cases h
  · rename_i hc
    have hw := (chk_ok (by simpa using hc)).2
    have hB := base_of hw
    unfold resR at h
    split at h
    · cases h
    · rename_i s hs
      have hg := upto_good hB _ (Nat.le_refl _) hs
      have hn := upto_cnt hB _ (Nat.le_refl _) s hs
      have hll := like_len hg.like
      split at h
      · cases h
      · cases h
        have e := fun k => cnt_like (l := s.rows) (m := l) (k := k) (n := l.length) (fun j hj => (like_kind hg.like hj).1)
        show s.vs.length = cntK s.rows 4 s.rows.length ∧ s.ts.length = cntK s.rows 5 s.rows.length ∧ (rat s.rows 0).kind = 1
        rw [hll, e, e]
        refine ⟨hn.1, hn.2, ?_⟩
        rw [(like_kind hg.like hB.pos).1]
        cases l with
        | nil => have := hB.pos; simp at this
        | cons r l =>
          simp only [wrong] at hw
          split at hw
          · cases hw
          · rename_i hc2
            simp only [Bool.or_eq_true, Bool.not_eq_true', Bool.and_eq_false_iff, not_or, Bool.not_eq_false, Bool.not_eq_true] at hc2
            have h3 := hc2.2.1
            have h4 : mayStand 0 0 0 r.kind = true := h3
            unfold mayStand at h4
            rw [if_pos rfl] at h4
            show r.kind = 1
            simpa using h4
/-- what Const tells at a row -/
theorem con_row {l : List Rz} {V : Nat → Int} {i : Nat} (hi : i < l.length) (hr : Rng (rP l i).is (V i)) (hty : (rP l i).is = 0 ∨ (rP l i).is = 1 ∨ (rP l i).is = 2) : ((rP l i).is = 0 → (conZ l V i).2 = (42, (i : Int))) ∧ ((conZ l V i).2.1 = 0 → -1073741824 ≤ (conZ l V i).1 ∧ (conZ l V i).1 ≤ 1073741824 ∧ ((rP l i).is = 2 → (conZ l V i).1 = 0 ∨ (conZ l V i).1 = 1)) ∧ ((conZ l V i).2.1 = 0 ∨ (conZ l V i).2.1 = 42) := by
  have e : conZ l V i = if (rP l i).is = 0 ∨ anyC (fun j => rP l (i + j)) (endp l i - i) = true then (0, 42, (i : Int)) else (V i, 0, 0) := by
    unfold conZ
    rw [if_neg (by omega), Int.toNat_natCast]
  rw [e]
  refine ⟨fun h => by rw [if_pos (Or.inl h)], ?_, ?_⟩
  · split
    · intro h; cases h
    · rename_i h
      intro _
      have h0 : (rP l i).is ≠ 0 := fun e => h (Or.inl e)
      rcases hty with h1 | h1 | h1
      · exact absurd h1 h0
      · have := hr.1 h1
        exact ⟨this.1, this.2, fun e => by rw [h1] at e; cases e⟩
      · have := hr.2 h1
        exact ⟨by show _ ≤ V i; omega, by show V i ≤ _; omega, fun _ => this⟩
  · split
    · exact Or.inr rfl
    · exact Or.inl rfl
theorem is_cases (k n : Int) : (pOf k n).is = 0 ∨ (pOf k n).is = 1 ∨ (pOf k n).is = 2 := by
  unfold pOf
  repeat' split
  all_goals simp [Prt.is]
theorem anyC_no {f : Nat → Prt} : ∀ {n}, (∀ j, j < n → (f j).changing = false) → anyC f n = false
  | 0, _ => rfl
  | n + 1, h => by
    unfold anyC
    rw [anyC_no (fun j hj => h j (by omega)), h n (by omega)]
    rfl
theorem setN_all {l : List Rz} {v : Nat → Int} : ∀ {n}, (setN l v n).1 = 0 → ∀ i, i < n → setE l v i = 0
  | 0, _, i, hi => by omega
  | n + 1, h, i, hi => by
    unfold setN at h
    split at h
    · rename_i h1; exact absurd h h1
    · rename_i h1
      split at h
      · rename_i h2; exact absurd h h2
      · rename_i h2
        by_cases e : i = n
        · subst e; simpa using h2
        · exact setN_all (by simpa using h1) i (by omega)
theorem setV_at {l : List Rz} {v : Nat → Int} {k : Nat} (hk : (rat l k).kind = 4) : ∀ {n}, k < n → (setV l v n)[cntK l 4 k]? = some (v (kidp l k 0), v (kidp l k 1), v (kidp l k 2))
  | 0, h => by omega
  | n + 1, h => by
    unfold setV
    by_cases e : k = n
    · subst e
      rw [if_pos hk, List.getElem?_append_right (by rw [setV_cnt]; exact Nat.le_refl _), setV_cnt, Nat.sub_self]
      rfl
    · have ih := setV_at (v := v) hk (n := n) (by omega)
      have hlt := (List.getElem?_eq_some_iff.1 ih).1
      split
      · rw [List.getElem?_append_left hlt]
        exact ih
      · exact ih
theorem setT_at {l : List Rz} {v : Nat → Int} {k : Nat} (hk : (rat l k).kind = 5) : ∀ {n}, k < n → (setT l v n)[cntK l 5 k]? = some (v (k + 1))
  | 0, h => by omega
  | n + 1, h => by
    unfold setT
    by_cases e : k = n
    · subst e
      rw [if_pos hk, List.getElem?_append_right (by rw [setT_cnt]; exact Nat.le_refl _), setT_cnt, Nat.sub_self]
      rfl
    · have ih := setT_at (v := v) hk (n := n) (by omega)
      have hlt := (List.getElem?_eq_some_iff.1 ih).1
      split
      · rw [List.getElem?_append_left hlt]
        exact ih
      · exact ih
theorem setR_at {l : List Rz} {v : Nat → Int} {k : Nat} : ∀ {n}, setR l v n k = if k < n ∧ (rat l k).kind = 13 then v (k + 1) else 0
  | 0 => by rw [if_neg (by omega)]; rfl
  | n + 1 => by
    unfold setR
    split
    · rename_i h13
      unfold setF
      by_cases e : k = n
      · subst e
        rw [if_pos rfl, if_pos ⟨by omega, h13⟩]
      · rw [if_neg e, setR_at (n := n)]
        have : (k < n ∧ (rat l k).kind = 13) ↔ (k < n + 1 ∧ (rat l k).kind = 13) := by constructor <;> rintro ⟨a, b⟩ <;> exact ⟨by omega, b⟩
        simp only [this]
    · rename_i h13
      rw [setR_at (n := n)]
      by_cases e : k = n
      · subst e
        rw [if_neg (by omega), if_neg (fun h => h13 h.2)]
      · have : (k < n ∧ (rat l k).kind = 13) ↔ (k < n + 1 ∧ (rat l k).kind = 13) := by constructor <;> rintro ⟨a, b⟩ <;> exact ⟨by omega, b⟩
        simp only [this]
theorem setN_pos {l : List Rz} {v : Nat → Int} (h0 : (rat l 0).kind = 1) : ∀ n, (setN l v n).1 ≠ 0 → 0 < (setN l v n).2 ∧ (setN l v n).2 < n
  | 0, h => absurd rfl h
  | n + 1, h => by
    unfold setN at h ⊢
    split
    · rename_i h1
      have := setN_pos h0 n h1
      omega
    · rename_i h1
      rw [if_neg h1] at h
      split
      · rename_i h2
        refine ⟨?_, by show n < n + 1; omega⟩
        show 0 < n
        rcases Nat.eq_zero_or_pos n with e | e
        · subst e
          exfalso
          apply h2
          unfold setE
          rw [h0]
          rfl
        · exact e
      · rename_i h2
        rw [if_neg h2] at h
        exact absurd rfl h
theorem fltN_at {l : List Rz} {gh : Nat → Bool} : ∀ n, (fltN l gh n).1 ≠ 0 → (fltN l gh n).2 < n
  | 0, h => absurd rfl h
  | n + 1, h => by
    unfold fltN at h ⊢
    split
    · rename_i h1
      have := fltN_at n h1
      omega
    · rename_i h1
      rw [if_neg h1] at h
      split
      · show n < n + 1; omega
      · rename_i h2
        rw [if_neg h2] at h
        exact absurd rfl h
/-- a first kid that must be constant: Const tells its value -/
theorem con_kid {l : List Rz} {gh : Nat → Bool} {V : Nat → Int} (hT : TreeZ l) (hf : (fltN l gh l.length).1 = 0) {i : Nat} (hi : i < l.length) (hi1 : i + 1 < l.length) (hk : 0 < km l i) (ha : (rP l i).asked 0 (rP l (i + 1)).is ≠ 0) (ht : endp l (i + 1) ≤ tillZ l i) : conZ l V ((i : Int) + 1) = (V (i + 1), 0, 0) ∧ (rP l (i + 1)).is = (rP l i).asked 0 (rP l (i + 1)).is := by
  have h1 := kid_is hT.whole hf hi hk ha
  rw [kid_zero] at h1
  refine ⟨?_, h1⟩
  unfold conZ
  have e : ((i : Int) + 1).toNat = i + 1 := by omega
  rw [if_neg (by omega), e, if_neg]
  rintro (h | h)
  · rw [h1] at h; exact ha h
  · rw [anyC_no (fun j hj => not_changing hf (by have := (end_kid hT.whole hi1).2.2; omega) (by have := con_till (l := l) (i := i) (j := i + 1 + j) (by omega); omega))] at h
    cases h
theorem end_first {l : List Rz} (hT : TreeZ l) {i : Nat} (hi : i < l.length) (hk : 0 < km l i) : endp l (i + 1) ≤ endp l i := by
  have h1 := (kidIn hT.whole hi hk).2.2.1
  rw [kid_zero] at h1
  exact h1
/-- Const of a policy and capacities that fit, in one form -/
theorem tconst_out {P : Pg} {ao qo vo tto uo oo co : Option Addr} {ac qc vc tc uc oc nc cc : Nat} {size row : Int} {cs : Nat → Int} {w : World} (h : RdG w P ao qo vo tto uo oo) (hs : P.Sm) (hnil : ao = none → ac = 0) (hok : IsOk P) (hR : Rdy P) (hD : Rdc P) (hc : IsVals w co (fL nc (fun i => .int .i64 (cs i)))) (hcl : nc ≤ 17592186043904) (hsz : in64 size) (hcs : ∀ i, in64 (cs i)) (hru : (ruZ P size cs nc).1 = 0) {a b c : Int} (hz : conZ P.rows (vB P.rows size cs P.rows.length) row = (a, b, c)) :
    Calls Tryz.prog 14 #[.agg #[.string P.name, .slice ao P.rows.length ac, .slice qo P.qs.length qc, .slice vo P.vs.length vc, .slice tto P.ts.length tc, .slice uo P.us.length uc, .slice oo P.on.length oc, .int .i64 P.miss], .agg #[.int .i64 size, .slice co nc cc], .int .i64 row] w fun e w' => e = .returned (.tuple #[.int .i64 a, .agg #[.int .i64 b, .int .i64 c]]) ∧ Below w.heap.size w w' := by
  refine Calls.mono (tconst_any h hs hnil (fun _ => hR) (fun _ => hD) hc hcl hsz hcs) ?_
  rintro e w' ⟨hb, hq⟩
  rcases hq with ⟨h1, _⟩ | ⟨_, h1, _⟩ | ⟨_, _, he⟩
  · exact absurd hok h1
  · exact absurd hru h1
  · rw [hz] at he
    exact ⟨he, hb⟩
theorem cnt_le (l : List Rz) (k : Int) : ∀ n, cntK l k n ≤ n
  | 0 => Nat.le_refl _
  | n + 1 => by
    have := cnt_le l k n
    unfold cntK
    split <;> omega
/-- numbers at work: its boxes -/
structure Gw (w W : World) (pc cc ta : Array Value) : Prop where
  p : W.heap[w.heap.size]? = some (.cells pc 30 (0, 0))
  c : W.heap[w.heap.size + 1]? = some (.cells cc 25 (0, 0))
  t : W.heap[w.heap.size + 1 + 1]? = some (.cells ta 40 (0, 0))
  be : Below w.heap.size w W
theorem Gw.below {w W W' : World} {pc cc ta : Array Value} (h : Gw w W pc cc ta) (hb : Below W.heap.size W W') : Gw w W' pc cc ta := ⟨(hb.block _ (blk_lt h.p)).trans h.p, (hb.block _ (blk_lt h.c)).trans h.c, (hb.block _ (blk_lt h.t)).trans h.t, h.be.trans (hb.mono h.be.size)⟩
theorem gw_start (w : World) (pc cc ta : Array Value) : Gw w (((w.alloc (.cells pc 30)).alloc (.cells cc 25)).alloc (.cells ta 40)) pc cc ta := by
  refine ⟨?_, ?_, ?_, (((Below.refl _ w).alloc (Nat.le_refl _) _).alloc (by simp) _).alloc (by simp; omega) _⟩
  · rw [alloc_old _ _ _ (by simp; omega), alloc_old _ _ _ (by simp)]
    exact alloc_at _ _ _ rfl
  · rw [alloc_old _ _ _ (by simp)]
    exact alloc_at _ _ _ (by simp)
  · exact alloc_at _ _ _ (by simp)
theorem numbers_any {P : Pg} {ao qo vo tto uo oo co v1 t1 r1 : Option Addr} {ac qc vc tc uc oc nc cc c1 c2 c3 : Nat} {size : Int} {cs V : Nat → Int} {w : World} (h : RdG w P ao qo vo tto uo oo) (hs : P.Sm) (hnil : ao = none → ac = 0) (hok : IsOk P) (hR : Rdy P) (hD : Rdc P) (hc : IsVals w co (fL nc (fun i => .int .i64 (cs i)))) (hcl : nc ≤ 17592186043904) (hsz : in64 size) (hcs : ∀ i, in64 (cs i)) (hru : (ruZ P size cs nc).1 = 0) (hV : vB P.rows size cs P.rows.length = V) (hfl : (fltN P.rows (ghL P.qs) P.rows.length).1 = 0) (hrg : ∀ j, j < P.rows.length → Rng (rP P.rows j).is (V j)) (hsn : (setN P.rows V P.rows.length).1 = 0) (hmn : ∀ i, i < P.rows.length → (rat P.rows i).kind = 5 ∨ (rat P.rows i).kind = 6 ∨ (rat P.rows i).kind = 13 → 0 < km P.rows i)
    (hv : IsVals w v1 (vC (setV P.rows V P.rows.length))) (ht : IsVals w t1 (iv (setT P.rows V P.rows.length))) (hr : IsVals w r1 (iv ((List.range P.rows.length).map (setR P.rows V P.rows.length)))) :
    Calls Tryz.prog 15 #[.agg #[.string P.name, .slice ao P.rows.length ac, .slice qo P.qs.length qc, .slice vo P.vs.length vc, .slice tto P.ts.length tc, .slice uo P.us.length uc, .slice oo P.on.length oc, .int .i64 P.miss], .agg #[.int .i64 size, .slice co nc cc], .agg #[.slice v1 (setV P.rows V P.rows.length).length c1, .slice t1 (setT P.rows V P.rows.length).length c2, .slice r1 P.rows.length c3]] w fun e w' => e = .returned (.bool true) ∧ Below w.heap.size w w' := by
  have HG1 := show Hid _ from gw_start w #[.string P.name, .slice ao P.rows.length ac, .slice qo P.qs.length qc, .slice vo P.vs.length vc, .slice tto P.ts.length tc, .slice uo P.us.length uc, .slice oo P.on.length oc, .int .i64 P.miss] #[.int .i64 size, .slice co nc cc] #[.slice v1 (setV P.rows V P.rows.length).length c1, .slice t1 (setT P.rows V P.rows.length).length c2, .slice r1 P.rows.length c3]
  have HCn : Hid (∀ (W : World) (row a b c : Int), Below w.heap.size w W → conZ P.rows V row = (a, b, c) → Calls Tryz.prog 14 #[.agg #[.string P.name, .slice ao P.rows.length ac, .slice qo P.qs.length qc, .slice vo P.vs.length vc, .slice tto P.ts.length tc, .slice uo P.us.length uc, .slice oo P.on.length oc, .int .i64 P.miss], .agg #[.int .i64 size, .slice co nc cc], .int .i64 row] W fun e w' => e = .returned (.tuple #[.int .i64 a, .agg #[.int .i64 b, .int .i64 c]]) ∧ Below W.heap.size W w') := fun W row a b c hW hz => tconst_out (h.below hW) hs hnil hok hR hD (hc.below hW) hcl hsz hcs hru (by rw [hV]; exact hz)
  have HI := show Hid _ from h
  have HVt : Hid (IsVals w v1 (vC (setV P.rows V P.rows.length)) ∧ IsVals w t1 (iv (setT P.rows V P.rows.length)) ∧ IsVals w r1 (iv ((List.range P.rows.length).map (setR P.rows V P.rows.length)))) := ⟨hv, ht, hr⟩
  have HE : Hid (∀ i, i < P.rows.length → setE P.rows V i = 0) := setN_all hsn
  have HK : Hid (TreeZ P.rows ∧ (fltN P.rows (ghL P.qs) P.rows.length).1 = 0 ∧ Stz P.rows ∧ ∀ j, j < P.rows.length → Rng (rP P.rows j).is (V j)) := ⟨hR.t, hfl, hD.z, hrg⟩
  have hln : (P.rows.length : Int) ≤ 2932031007317 := by have := hs.r; omega
  have HMn : Hid (∀ i, i < P.rows.length → (rat P.rows i).kind = 5 ∨ (rat P.rows i).kind = 6 ∨ (rat P.rows i).kind = 13 → 0 < km P.rows i) := hmn
  obtain ⟨k0, k1, k2, k3, k4, k5, k6, k7⟩ := pol8 HG1.out.p
  clear h hs hnil hok hR hD hc hcl hsz hcs hru hV hfl hrg hsn hv ht hr hmn
  go_enter Tryz.func15, Tryz.ntmps15
  go_wp2_with fail
  generalize (((w.alloc (.cells #[.string P.name, .slice ao P.rows.length ac, .slice qo P.qs.length qc, .slice vo P.vs.length vc, .slice tto P.ts.length tc, .slice uo P.us.length uc, .slice oo P.on.length oc, .int .i64 P.miss] 30)).alloc (.cells #[.int .i64 size, .slice co nc cc] 25)).alloc (.cells #[.slice v1 (setV P.rows V P.rows.length).length c1, .slice t1 (setT P.rows V P.rows.length).length c2, .slice r1 P.rows.length c3] 40)) = w1 at *
  clear k0 k1 k2 k3 k4 k5 k6 k7
  go_loopg [7, 8, 9] P.rows.length (fun gq xv xg x wr => ∃ k : Nat, k ≤ P.rows.length ∧ gq = P.rows.length - k ∧ xv = .int .i64 (cntK P.rows 4 k : Int) ∧ xg = .int .i64 (cntK P.rows 5 k : Int) ∧ x = .int .i64 (k : Int) ∧ Below w1.heap.size w1 wr)
  case atStart => exact ⟨0, Nat.zero_le _, rfl, rfl, rfl, rfl, Below.refl _ _⟩
  case round =>
    obtain ⟨k, hk, hgk, rfl, rfl, rfl, hbr⟩ := hrel
    have HG : Hid (gk = P.rows.length - k) := hgk
    have HGr := show Hid _ from HG1.out.below hbr
    have HBr : Hid (Below w1.heap.size w1 wr) := hbr
    obtain ⟨k0, k1, k2, k3, k4, k5, k6, k7⟩ := pol8 HGr.out.p
    obtain ⟨d0, d1⟩ := cells2 HGr.out.c
    have hkl : (k : Int) ≤ 2932031007317 := by omega
    have hc4 : cntK P.rows 4 k ≤ k := cnt_le _ _ _
    have hc5 : cntK P.rows 5 k ≤ k := cnt_le _ _ _
    clear hgk hbr
    by_cases hlt : k < P.rows.length
    · have hlt' : (k : Int) < (P.rows.length : Int) := by omega
      have HLt : Hid (k < P.rows.length) := hlt
      have hrk : (iv ((List.range P.rows.length).map (setR P.rows V P.rows.length)))[k]? = some (.int .i64 (if (rat P.rows k).kind = 13 then V (k + 1) else 0)) := by
        have e := setR_at (l := P.rows) (v := V) (k := k) (n := P.rows.length)
        have e2 : (k < P.rows.length ∧ (rat P.rows k).kind = 13) ↔ (rat P.rows k).kind = 13 := ⟨fun h => h.2, fun h => ⟨hlt, h⟩⟩
        simp only [e2] at e
        simp [iv, hlt, e]
      have HRk := show Hid _ from hrk
      clear hrk hk
      have HKq : Hid (∀ kd : Int, (rat P.rows k).kind = kd → kd = 5 ∨ kd = 6 ∨ kd = 13 → 0 < km P.rows k) := fun kd h1 h2 => HMn.out k HLt.out (by rw [h1]; exact h2)
      by_cases hk : (rat P.rows k).kind = 4
      · have HN4 : Hid (cntK P.rows 4 (k + 1) = cntK P.rows 4 k + 1) := if_pos hk
        have HN5 : Hid (cntK P.rows 5 (k + 1) = cntK P.rows 5 k) := if_neg (by omega)
        have hkm := HK.out.2.2.1.v k HLt.out hk
        have hi1 : k + 1 < P.rows.length := by
          have h2 := (kid_at HK.out.1.whole HLt.out (k := 0) (by omega)).1
          rwa [kid_zero] at h2
        have hasked : (rP P.rows k).asked 0 (rP P.rows (k + 1)).is = 1 := by unfold rP; rw [hk]; rfl
        have hz := (con_kid (V := V) HK.out.1 HK.out.2.1 HLt.out hi1 (by omega) (by rw [hasked]; decide) (by have := end_first HK.out.1 HLt.out (by omega); unfold tillZ; rw [hk]; exact this)).1
        have hE := HE.out k HLt.out
        unfold setE at hE
        rw [if_pos hk, kid_zero] at hE
        have hva := setV_at (l := P.rows) (v := V) hk HLt.out
        rw [kid_zero] at hva
        have hvl := (List.getElem?_eq_some_iff.1 hva).1
        have hvg := (List.getElem?_eq_some_iff.1 hva).2
        have hvc := vC_at hvl
        rw [hvg] at hvc
        have HVc := show Hid _ from hvc
        have hlo : decide (V (kidp P.rows k 1) > V (k + 1)) = false := decide_eq_false (fun h => by rw [if_pos (Or.inl h)] at hE; cases hE)
        have hhi : decide (V (kidp P.rows k 2) < V (k + 1)) = false := decide_eq_false (fun h => by rw [if_pos (Or.inr h)] at hE; cases hE)
        have hvl' : (cntK P.rows 4 k : Int) < ((setV P.rows V P.rows.length).length : Int) := by omega
        rw [hk, if_neg (by decide)] at HRk
        clear hE hva hvl hvg hvc hkm hi1 hasked
        have HC := show Hid _ from HCn.out wr ((k : Int) + 1) (V (k + 1)) 0 0 HGr.out.be hz
        clear hz
        go_wp2_with fail
        refine Calls.mono HC.out ?_
        rintro e w5 ⟨rfl, hb5⟩
        have hbX : Below wr.heap.size wr (w5.alloc (.cells #[.int .i64 0, .int .i64 0] 33)) := hb5.alloc hb5.size _
        have HGx := show Hid _ from HGr.out.below hbX
        have HBx : Hid (Below w1.heap.size w1 (w5.alloc (.cells #[.int .i64 0, .int .i64 0] 33))) := HBr.out.trans (hbX.mono HBr.out.size)
        clear k0 k1 k2 k3 k4 k5 k6 k7 d0 d1 hb5 hbX HC
        obtain ⟨k0, k1, k2, k3, k4, k5, k6, k7⟩ := pol8 HGx.out.p
        obtain ⟨s0, s1, s2⟩ := cells3 HGx.out.t
        obtain ⟨f0, f1⟩ := cells2 (heap_alloc_new w5 (.cells #[.int .i64 0, .int .i64 0] 33))
        obtain ⟨ga, oa, rfl, _, q0, q1, q2, q3, q4⟩ := row_cells (HI.out.below HGx.out.be).r HLt.out
        obtain ⟨gr, orr, rfl, _, rr⟩ := (IsVals.below HVt.out.2.2 HGx.out.be) k _ HRk.out
        rw [hk] at q0
        obtain ⟨gv, ov, rfl, _, x0⟩ := (IsVals.below HVt.out.1 HGx.out.be) _ _ HVc.out.1
        obtain ⟨_, _, ea, _, x1⟩ := (IsVals.below HVt.out.1 HGx.out.be) _ _ HVc.out.2.1
        cases ea
        obtain ⟨_, _, ea, _, x2⟩ := (IsVals.below HVt.out.1 HGx.out.be) _ _ HVc.out.2.2
        cases ea
        rw [← Nat.add_assoc] at x1 x2
        clear hk
        generalize V (k + 1) = y0 at *
        generalize V (kidp P.rows k 1) = y1 at *
        generalize V (kidp P.rows k 2) = y2 at *
        generalize (setV P.rows V P.rows.length).length = vl at *
        generalize cntK P.rows 4 k = m4 at *
        go_wp2_with fail
        go_roundg (P.rows.length - (k + 1))
        case measure => have h1 := HG.out; have := HLt.out; omega
        case rel => exact ⟨k + 1, HLt.out, rfl, by rw [HN4.out]; simp, by rw [HN5.out], by go_num, HBx.out⟩
      · have h4 := hk
        clear hk
        by_cases hk : (rat P.rows k).kind = 5
        · have HN4 : Hid (cntK P.rows 4 (k + 1) = cntK P.rows 4 k) := if_neg (by omega)
          have HN5 : Hid (cntK P.rows 5 (k + 1) = cntK P.rows 5 k + 1) := if_pos hk
          have hi1 : k + 1 < P.rows.length := HK.out.2.2.1.o k HLt.out (Or.inl hk)
          have hkm : 0 < km P.rows k := HKq.out _ hk (by omega)
          have hasked : (rP P.rows k).asked 0 (rP P.rows (k + 1)).is = 1 := by unfold rP; rw [hk]; rfl
          have hck := con_kid (V := V) HK.out.1 HK.out.2.1 HLt.out hi1 hkm (by rw [hasked]; decide) (by have := end_first HK.out.1 HLt.out hkm; unfold tillZ; rw [hk]; exact this)
          have hz := hck.1
          have hE := HE.out k HLt.out
          unfold setE at hE
          rw [if_neg (by omega), if_pos hk] at hE
          have hta := setT_at (l := P.rows) (v := V) hk HLt.out
          have htl := (List.getElem?_eq_some_iff.1 hta).1
          have HTc : Hid ((iv (setT P.rows V P.rows.length))[cntK P.rows 5 k]? = some (.int .i64 (V (k + 1)))) := by show _ = _; simp [iv, hta]
          have hlo : decide (V (k + 1) < 1) = false := decide_eq_false (fun h => by rw [if_pos (Or.inl h)] at hE; cases hE)
          have hhi : decide (V (k + 1) > 255) = false := decide_eq_false (fun h => by rw [if_pos (Or.inr h)] at hE; cases hE)
          have htl' : (cntK P.rows 5 k : Int) < ((setT P.rows V P.rows.length).length : Int) := by omega
          rw [hk, if_neg (by decide)] at HRk
          clear hE hta htl hkm hi1 hasked hck
          have HC := show Hid _ from HCn.out wr ((k : Int) + 1) (V (k + 1)) 0 0 HGr.out.be hz
          clear hz
          go_wp2_with fail
          refine Calls.mono HC.out ?_
          rintro e w5 ⟨rfl, hb5⟩
          have hbX : Below wr.heap.size wr (w5.alloc (.cells #[.int .i64 0, .int .i64 0] 33)) := hb5.alloc hb5.size _
          have HGx := show Hid _ from HGr.out.below hbX
          have HBx : Hid (Below w1.heap.size w1 (w5.alloc (.cells #[.int .i64 0, .int .i64 0] 33))) := HBr.out.trans (hbX.mono HBr.out.size)
          clear k0 k1 k2 k3 k4 k5 k6 k7 d0 d1 hb5 hbX HC
          obtain ⟨k0, k1, k2, k3, k4, k5, k6, k7⟩ := pol8 HGx.out.p
          obtain ⟨s0, s1, s2⟩ := cells3 HGx.out.t
          obtain ⟨f0, f1⟩ := cells2 (heap_alloc_new w5 (.cells #[.int .i64 0, .int .i64 0] 33))
          obtain ⟨ga, oa, rfl, _, q0, q1, q2, q3, q4⟩ := row_cells (HI.out.below HGx.out.be).r HLt.out
          obtain ⟨gr, orr, rfl, _, rr⟩ := (IsVals.below HVt.out.2.2 HGx.out.be) k _ HRk.out
          rw [hk] at q0
          obtain ⟨gt, ot, rfl, _, x0⟩ := (IsVals.below HVt.out.2.1 HGx.out.be) _ _ HTc.out
          clear hk
          generalize V (k + 1) = y0 at *
          generalize (setT P.rows V P.rows.length).length = tl at *
          generalize cntK P.rows 5 k = m5 at *
          go_wp2_with fail
          go_roundg (P.rows.length - (k + 1))
          case measure => have h1 := HG.out; have := HLt.out; omega
          case rel => exact ⟨k + 1, HLt.out, rfl, by rw [HN4.out], by rw [HN5.out]; simp, by go_num, HBx.out⟩
        · have h5 := hk
          clear hk
          by_cases hk : (rat P.rows k).kind = 6
          · have HN4 : Hid (cntK P.rows 4 (k + 1) = cntK P.rows 4 k) := if_neg (by omega)
            have HN5 : Hid (cntK P.rows 5 (k + 1) = cntK P.rows 5 k) := if_neg (by omega)
            have hi1 : k + 1 < P.rows.length := HK.out.2.2.1.o k HLt.out (Or.inr (Or.inl hk))
            have hkm : 0 < km P.rows k := HKq.out _ hk (by omega)
            have hasked : (rP P.rows k).asked 0 (rP P.rows (k + 1)).is = 2 := by unfold rP; rw [hk]; rfl
            have hck := con_kid (V := V) HK.out.1 HK.out.2.1 HLt.out hi1 hkm (by rw [hasked]; decide) (by have := end_first HK.out.1 HLt.out hkm; unfold tillZ; rw [hk]; exact this)
            have hz := hck.1
            have hE := HE.out k HLt.out
            unfold setE at hE
            rw [if_neg (by omega), if_neg (by omega), if_pos hk] at hE
            have hrg := HK.out.2.2.2 (k + 1) hi1
            rw [hck.2, hasked] at hrg
            have hv1 : V (k + 1) = 1 := by
              rcases hrg.2 rfl with h | h
              · rw [if_pos h] at hE; cases hE
              · exact h
            rw [hk, if_neg (by decide)] at HRk
            clear hE hrg hkm hi1 hasked hck
            rw [hv1] at hz
            have HC := show Hid _ from HCn.out wr ((k : Int) + 1) 1 0 0 HGr.out.be hz
            clear hz
            go_wp2_with fail
            refine Calls.mono HC.out ?_
            rintro e w5 ⟨rfl, hb5⟩
            have hbX : Below wr.heap.size wr (w5.alloc (.cells #[.int .i64 0, .int .i64 0] 33)) := hb5.alloc hb5.size _
            have HGx := show Hid _ from HGr.out.below hbX
            have HBx : Hid (Below w1.heap.size w1 (w5.alloc (.cells #[.int .i64 0, .int .i64 0] 33))) := HBr.out.trans (hbX.mono HBr.out.size)
            clear k0 k1 k2 k3 k4 k5 k6 k7 d0 d1 hb5 hbX HC
            obtain ⟨k0, k1, k2, k3, k4, k5, k6, k7⟩ := pol8 HGx.out.p
            obtain ⟨s0, s1, s2⟩ := cells3 HGx.out.t
            obtain ⟨f0, f1⟩ := cells2 (heap_alloc_new w5 (.cells #[.int .i64 0, .int .i64 0] 33))
            obtain ⟨ga, oa, rfl, _, q0, q1, q2, q3, q4⟩ := row_cells (HI.out.below HGx.out.be).r HLt.out
            obtain ⟨gr, orr, rfl, _, rr⟩ := (IsVals.below HVt.out.2.2 HGx.out.be) k _ HRk.out
            rw [hk] at q0
            clear hk hv1
            go_wp2_with fail
            go_roundg (P.rows.length - (k + 1))
            case measure => have h1 := HG.out; have := HLt.out; omega
            case rel => exact ⟨k + 1, HLt.out, rfl, by rw [HN4.out], by rw [HN5.out], by go_num, HBx.out⟩
          · have h6 := hk
            clear hk
            by_cases hk : (rat P.rows k).kind = 13
            · have HN4 : Hid (cntK P.rows 4 (k + 1) = cntK P.rows 4 k) := if_neg (by omega)
              have HN5 : Hid (cntK P.rows 5 (k + 1) = cntK P.rows 5 k) := if_neg (by omega)
              have hi1 : k + 1 < P.rows.length := HK.out.2.2.1.o k HLt.out (Or.inr (Or.inr hk))
              have hkm : 0 < km P.rows k := HKq.out _ hk (by omega)
              have hasked : (rP P.rows k).asked 0 (rP P.rows (k + 1)).is = 1 := by unfold rP; rw [hk]; rfl
              have hck := con_kid (V := V) HK.out.1 HK.out.2.1 HLt.out hi1 hkm (by rw [hasked]; decide) (by unfold tillZ; rw [hk]; exact Nat.le_refl _)
              have hz := hck.1
              have hE := HE.out k HLt.out
              unfold setE at hE
              rw [if_neg (by omega), if_neg (by omega), if_neg (by omega), if_pos hk] at hE
              have hlo : decide (V (k + 1) < 0) = false := decide_eq_false (fun h => by rw [if_pos (Or.inl h)] at hE; cases hE)
              have hhi : decide (V (k + 1) > 4194304) = false := decide_eq_false (fun h => by rw [if_pos (Or.inr h)] at hE; cases hE)
              rw [if_pos hk] at HRk
              clear hE hkm hi1 hasked hck
              have HC := show Hid _ from HCn.out wr ((k : Int) + 1) (V (k + 1)) 0 0 HGr.out.be hz
              clear hz
              go_wp2_with fail
              refine Calls.mono HC.out ?_
              rintro e w5 ⟨rfl, hb5⟩
              have hbX : Below wr.heap.size wr (w5.alloc (.cells #[.int .i64 0, .int .i64 0] 33)) := hb5.alloc hb5.size _
              have HGx := show Hid _ from HGr.out.below hbX
              have HBx : Hid (Below w1.heap.size w1 (w5.alloc (.cells #[.int .i64 0, .int .i64 0] 33))) := HBr.out.trans (hbX.mono HBr.out.size)
              clear k0 k1 k2 k3 k4 k5 k6 k7 d0 d1 hb5 hbX HC
              obtain ⟨k0, k1, k2, k3, k4, k5, k6, k7⟩ := pol8 HGx.out.p
              obtain ⟨s0, s1, s2⟩ := cells3 HGx.out.t
              obtain ⟨f0, f1⟩ := cells2 (heap_alloc_new w5 (.cells #[.int .i64 0, .int .i64 0] 33))
              obtain ⟨ga, oa, rfl, _, q0, q1, q2, q3, q4⟩ := row_cells (HI.out.below HGx.out.be).r HLt.out
              obtain ⟨gr, orr, rfl, _, rr⟩ := (IsVals.below HVt.out.2.2 HGx.out.be) k _ HRk.out
              rw [hk] at q0
              clear hk
              generalize V (k + 1) = y0 at *
              go_wp2_with fail
              go_roundg (P.rows.length - (k + 1))
              case measure => have h1 := HG.out; have := HLt.out; omega
              case rel => exact ⟨k + 1, HLt.out, rfl, by rw [HN4.out], by rw [HN5.out], by go_num, HBx.out⟩
            · have h13 := hk
              clear hk
              have HN4 : Hid (cntK P.rows 4 (k + 1) = cntK P.rows 4 k) := if_neg h4
              have HN5 : Hid (cntK P.rows 5 (k + 1) = cntK P.rows 5 k) := if_neg h5
              have e4 : ((rat P.rows k).kind == 4) = false := by simpa using h4
              have e5 : ((rat P.rows k).kind == 5) = false := by simpa using h5
              have e6 : ((rat P.rows k).kind == 6) = false := by simpa using h6
              have e13 : ((rat P.rows k).kind == 13) = false := by simpa using h13
              rw [if_neg h13] at HRk
              obtain ⟨za, zb, zc, hz⟩ : ∃ a b c, conZ P.rows V ((k : Int) + 1) = (a, b, c) := ⟨_, _, _, rfl⟩
              have HC := show Hid _ from HCn.out wr ((k : Int) + 1) za zb zc HGr.out.be hz
              clear hz
              go_wp2_with fail
              refine Calls.mono HC.out ?_
              rintro e w5 ⟨rfl, hb5⟩
              have hbX : Below wr.heap.size wr (w5.alloc (.cells #[.int .i64 zb, .int .i64 zc] 33)) := hb5.alloc hb5.size _
              have HGx := show Hid _ from HGr.out.below hbX
              have HBx : Hid (Below w1.heap.size w1 (w5.alloc (.cells #[.int .i64 zb, .int .i64 zc] 33))) := HBr.out.trans (hbX.mono HBr.out.size)
              clear k0 k1 k2 k3 k4 k5 k6 k7 d0 d1 hb5 hbX HC
              obtain ⟨k0, k1, k2, k3, k4, k5, k6, k7⟩ := pol8 HGx.out.p
              obtain ⟨s0, s1, s2⟩ := cells3 HGx.out.t
              obtain ⟨f0, f1⟩ := cells2 (heap_alloc_new w5 (.cells #[.int .i64 zb, .int .i64 zc] 33))
              obtain ⟨ga, oa, rfl, _, q0, q1, q2, q3, q4⟩ := row_cells (HI.out.below HGx.out.be).r HLt.out
              obtain ⟨gr, orr, rfl, _, rr⟩ := (IsVals.below HVt.out.2.2 HGx.out.be) k _ HRk.out
              generalize (rat P.rows k).kind = kd at *
              clear h4 h5 h6 h13
              go_wp2_with fail
              go_roundg (P.rows.length - (k + 1))
              case measure => have h1 := HG.out; have := HLt.out; omega
              case rel => exact ⟨k + 1, HLt.out, rfl, by rw [HN4.out], by rw [HN5.out], by go_num, HBx.out⟩
    · have hlt' : ¬ (k : Int) < (P.rows.length : Int) := by omega
      clear hlt hk
      go_wp2_with fail
      go_ret
      exact ⟨rfl, HGr.out.be⟩
end Go.Proofs.YtjoflihimpipcabGreat.Nm.Ty
