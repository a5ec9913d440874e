import Derived.Test.YtcicifcnffacpaaDoorCeDec
import Derived.BigQuiet
set_option linter.unusedSimpArgs false
namespace Go.Proofs.YtcicifcnffacpaaDoor.Cd
open Go.RowKit Go.Proofs.YtcicifcnffacpaaDoor.Nm Go.Proofs.YtcicifcnffacpaaDoor.Vf

theorem take_next {α : Type} {l m : List α} {k : Nat} (h : l.take k = m.take k) (hl : k < l.length) (hm : k < m.length) (he : l[k] = m[k]) : l.take (k + 1) = m.take (k + 1) := by
  rw [List.take_add_one, List.take_add_one, h, List.getElem?_eq_getElem hl, List.getElem?_eq_getElem hm, he]
theorem ne_of_at {α : Type} {l m : List α} {k : Nat} (hl : k < l.length) (hm : k < m.length) (he : l[k] ≠ m[k]) : l ≠ m := fun e => by
  subst e
  exact he rfl
instance insDec : DecidableEq Ins := fun x y => decidable_of_iff (x.op = y.op ∧ x.a = y.a ∧ x.b = y.b ∧ x.c = y.c ∧ x.d = y.d) ⟨fun h => by
  obtain ⟨h1, h2, h3, h4, h5⟩ := h
  cases x
  cases y
  simp_all, fun h => by subst h; exact ⟨rfl, rfl, rfl, rfl, rfl⟩⟩
theorem neq_var {x y : Int × Int × Int} (h : x ≠ y) (u : World) : (binOp BinOp.neq 77 (.agg #[.int .i64 x.1, .int .i64 x.2.1, .int .i64 x.2.2]) (.agg #[.int .i64 y.1, .int .i64 y.2.1, .int .i64 y.2.2])).run Tryd.prog u = .ok (.bool true) u := by
  go_simp
  intro e1 e2 e3
  exact h (Prod.ext e1 (Prod.ext e2 e3))
theorem neq_ins {x y : Ins} (h : x ≠ y) (u : World) : (binOp BinOp.neq 53 (.agg #[.int .i64 x.op, .int .i64 x.a, .int .i64 x.b, .int .i64 x.c, .int .i64 x.d]) (.agg #[.int .i64 y.op, .int .i64 y.a, .int .i64 y.b, .int .i64 y.c, .int .i64 y.d])).run Tryd.prog u = .ok (.bool true) u := by
  go_simp
  intro e1 e2 e3 e4 e5
  refine h ?_
  cases x
  cases y
  simp_all
set_option maxHeartbeats 6400000 in
set_option maxRecDepth 100000 in
/-- slices.Equal of truths -/
theorem eqBool {w : World} {ao bo : Option Addr} {l m : List (Bool)} {ca cb : Nat} (ha : Vf.Rd w ao (bC l)) (hb : Vf.Rd w bo (bC m)) (hn : l.length ≤ 1000000000000000) (_hm : m.length ≤ 1000000000000000) :
    Calls Tryd.prog 51 #[.slice ao l.length ca, .slice bo m.length cb] w fun e w' => e = .returned (.bool (decide (l = m))) ∧ Below w.heap.size w w' := by
  by_cases hz : l.length = m.length
  case neg =>
    have hne : ((l.length : Int) != (m.length : Int)) = true := by rw [bne_iff_ne]; omega
    have HD : Hid (decide (l = m) = false) := decide_eq_false fun e => hz (congrArg List.length e)
    rw [HD.out]
    clear hz ha hb hn _hm HD
    go_enter Tryd.func51, Tryd.ntmps51
    go_wp2_with fail
    go_ret
    exact ⟨rfl, Below.refl _ _⟩
  case pos =>
    have HA := show Hid _ from ha
    have HB := show Hid _ from hb
    have HZ : Hid (l.length = m.length) := hz
    have hn2 : (l.length : Int) ≤ 1000000000000000 := by omega
    have hne : ((l.length : Int) != (l.length : Int)) = false := by simp
    rw [← hz]
    clear ha hb hn _hm hz
    go_enter Tryd.func51, Tryd.ntmps51
    go_wp2_with fail
    go_loopg [13] l.length (fun gq x wr => ∃ k : Nat, k + gq = l.length ∧ x = .int .i64 (k : Int) ∧ Below w.heap.size w wr ∧ l.take k = m.take k)
    case atStart => exact ⟨0, by omega, rfl, Below.refl _ _, rfl⟩
    case round =>
      obtain ⟨k, hkg, rfl, hbw, htk⟩ := hrel
      have HG : Hid (k + gk = l.length ∧ Below w.heap.size w wr ∧ l.take k = m.take k) := ⟨hkg, hbw, htk⟩
      by_cases hlt : k < l.length
      · have hk' : (k : Int) < (l.length : Int) := by omega
        have hk2 : (k : Int) ≤ 1000000000000000 := by omega
        have hltm : k < m.length := by have := HZ.out; omega
        have HLt : Hid (k < l.length ∧ (l[k] = m[k] → l.take (k + 1) = m.take (k + 1)) ∧ (l[k] ≠ m[k] → decide (l = m) = false)) := ⟨hlt, fun e => take_next htk hlt hltm e, fun e => decide_eq_false (ne_of_at hlt hltm e)⟩
        obtain ⟨g, o, rfl, _, d0⟩ := rd_bool (Vf.Rd.below HA.out hbw) hlt
        obtain ⟨g', o', rfl, _, e0⟩ := rd_bool (Vf.Rd.below HB.out hbw) hltm
        generalize l[k] = x at *
        generalize m[k] = y at *
        clear hkg hlt hbw htk hltm
        by_cases hxy : x = y
        · have HE : Hid (k < l.length ∧ l.take (k + 1) = m.take (k + 1)) := by
            exact ⟨HLt.out.1, HLt.out.2.1 hxy⟩
          subst hxy
          clear HLt
          go_wp2_with fail
          go_quiet (fail)
          go_wp2_with fail
          go_roundg (l.length - (k + 1))
          case measure => have := HG.out.1; have := HE.out.1; omega
          case rel => exact ⟨k + 1, by have := HE.out.1; omega, by go_num, HG.out.2.1.trans ((Nm.below_drewN _ _).mono HG.out.2.1.size), HE.out.2⟩
        · have HE : Hid (decide (l = m) = false) := by
            exact HLt.out.2.2 hxy
          clear HLt
          have hxy2 : (x == y) = false := by rw [beq_eq_false_iff_ne]; exact hxy
          clear hxy
          go_wp2_with fail
          go_quiet (fail)
          go_wp2_with fail
          go_ret
          exact ⟨by rw [HE.out]; rfl, HG.out.2.1.trans ((Nm.below_drewN _ _).mono HG.out.2.1.size)⟩
      · have hk' : decide (k < l.length) = false := decide_eq_false hlt
        have HD : Hid (decide (l = m) = true) := by
          have hkl : k = l.length := by omega
          subst hkl
          rw [List.take_length, HZ.out, List.take_length] at htk
          exact decide_eq_true htk
        clear hkg hlt hbw htk
        go_wp2
        go_ret
        exact ⟨by rw [HD.out]; rfl, HG.out.2.1⟩
set_option maxHeartbeats 6400000 in
set_option maxRecDepth 100000 in
/-- slices.Equal of numbers -/
theorem eqInt {w : World} {ao bo : Option Addr} {l m : List (Int)} {ca cb : Nat} (ha : Vf.Rd w ao (iC l)) (hb : Vf.Rd w bo (iC m)) (hn : l.length ≤ 1000000000000000) (_hm : m.length ≤ 1000000000000000) :
    Calls Tryd.prog 53 #[.slice ao l.length ca, .slice bo m.length cb] w fun e w' => e = .returned (.bool (decide (l = m))) ∧ Below w.heap.size w w' := by
  by_cases hz : l.length = m.length
  case neg =>
    have hne : ((l.length : Int) != (m.length : Int)) = true := by rw [bne_iff_ne]; omega
    have HD : Hid (decide (l = m) = false) := decide_eq_false fun e => hz (congrArg List.length e)
    rw [HD.out]
    clear hz ha hb hn _hm HD
    go_enter Tryd.func53, Tryd.ntmps53
    go_wp2_with fail
    go_ret
    exact ⟨rfl, Below.refl _ _⟩
  case pos =>
    have HA := show Hid _ from ha
    have HB := show Hid _ from hb
    have HZ : Hid (l.length = m.length) := hz
    have hn2 : (l.length : Int) ≤ 1000000000000000 := by omega
    have hne : ((l.length : Int) != (l.length : Int)) = false := by simp
    rw [← hz]
    clear ha hb hn _hm hz
    go_enter Tryd.func53, Tryd.ntmps53
    go_wp2_with fail
    go_loopg [13] l.length (fun gq x wr => ∃ k : Nat, k + gq = l.length ∧ x = .int .i64 (k : Int) ∧ Below w.heap.size w wr ∧ l.take k = m.take k)
    case atStart => exact ⟨0, by omega, rfl, Below.refl _ _, rfl⟩
    case round =>
      obtain ⟨k, hkg, rfl, hbw, htk⟩ := hrel
      have HG : Hid (k + gk = l.length ∧ Below w.heap.size w wr ∧ l.take k = m.take k) := ⟨hkg, hbw, htk⟩
      by_cases hlt : k < l.length
      · have hk' : (k : Int) < (l.length : Int) := by omega
        have hk2 : (k : Int) ≤ 1000000000000000 := by omega
        have hltm : k < m.length := by have := HZ.out; omega
        have HLt : Hid (k < l.length ∧ (l[k] = m[k] → l.take (k + 1) = m.take (k + 1)) ∧ (l[k] ≠ m[k] → decide (l = m) = false)) := ⟨hlt, fun e => take_next htk hlt hltm e, fun e => decide_eq_false (ne_of_at hlt hltm e)⟩
        obtain ⟨g, o, rfl, _, d0⟩ := rd_int (Vf.Rd.below HA.out hbw) hlt
        obtain ⟨g', o', rfl, _, e0⟩ := rd_int (Vf.Rd.below HB.out hbw) hltm
        generalize l[k] = x at *
        generalize m[k] = y at *
        clear hkg hlt hbw htk hltm
        by_cases hxy : x = y
        · have HE : Hid (k < l.length ∧ l.take (k + 1) = m.take (k + 1)) := by
            exact ⟨HLt.out.1, HLt.out.2.1 hxy⟩
          subst hxy
          clear HLt
          go_wp2_with fail
          go_quiet (fail)
          go_wp2_with fail
          go_roundg (l.length - (k + 1))
          case measure => have := HG.out.1; have := HE.out.1; omega
          case rel => exact ⟨k + 1, by have := HE.out.1; omega, by go_num, HG.out.2.1.trans ((Nm.below_drewN _ _).mono HG.out.2.1.size), HE.out.2⟩
        · have HE : Hid (decide (l = m) = false) := by
            exact HLt.out.2.2 hxy
          clear HLt
          have hxy2 : (x == y) = false := by rw [beq_eq_false_iff_ne]; exact hxy
          clear hxy
          go_wp2_with fail
          go_quiet (fail)
          go_wp2_with fail
          go_ret
          exact ⟨by rw [HE.out]; rfl, HG.out.2.1.trans ((Nm.below_drewN _ _).mono HG.out.2.1.size)⟩
      · have hk' : decide (k < l.length) = false := decide_eq_false hlt
        have HD : Hid (decide (l = m) = true) := by
          have hkl : k = l.length := by omega
          subst hkl
          rw [List.take_length, HZ.out, List.take_length] at htk
          exact decide_eq_true htk
        clear hkg hlt hbw htk
        go_wp2
        go_ret
        exact ⟨by rw [HD.out]; rfl, HG.out.2.1⟩
set_option maxHeartbeats 6400000 in
set_option maxRecDepth 100000 in
/-- slices.Equal of variables -/
theorem eqVar {w : World} {ao bo : Option Addr} {l m : List (Int × Int × Int)} {ca cb : Nat} (ha : Vf.Rd w ao (vC l)) (hb : Vf.Rd w bo (vC m)) (hn : l.length ≤ 1000000000000000) (_hm : m.length ≤ 1000000000000000) :
    Calls Tryd.prog 52 #[.slice ao l.length ca, .slice bo m.length cb] w fun e w' => e = .returned (.bool (decide (l = m))) ∧ Below w.heap.size w w' := by
  by_cases hz : l.length = m.length
  case neg =>
    have hne : ((l.length : Int) != (m.length : Int)) = true := by rw [bne_iff_ne]; omega
    have HD : Hid (decide (l = m) = false) := decide_eq_false fun e => hz (congrArg List.length e)
    rw [HD.out]
    clear hz ha hb hn _hm HD
    go_enter Tryd.func52, Tryd.ntmps52
    go_wp2_with fail
    go_ret
    exact ⟨rfl, Below.refl _ _⟩
  case pos =>
    have HA := show Hid _ from ha
    have HB := show Hid _ from hb
    have HZ : Hid (l.length = m.length) := hz
    have hn2 : (l.length : Int) ≤ 1000000000000000 := by omega
    have hne : ((l.length : Int) != (l.length : Int)) = false := by simp
    rw [← hz]
    clear ha hb hn _hm hz
    go_enter Tryd.func52, Tryd.ntmps52
    go_wp2_with fail
    go_loopg [13] l.length (fun gq x wr => ∃ k : Nat, k + gq = l.length ∧ x = .int .i64 (k : Int) ∧ Below w.heap.size w wr ∧ l.take k = m.take k)
    case atStart => exact ⟨0, by omega, rfl, Below.refl _ _, rfl⟩
    case round =>
      obtain ⟨k, hkg, rfl, hbw, htk⟩ := hrel
      have HG : Hid (k + gk = l.length ∧ Below w.heap.size w wr ∧ l.take k = m.take k) := ⟨hkg, hbw, htk⟩
      by_cases hlt : k < l.length
      · have hk' : (k : Int) < (l.length : Int) := by omega
        have hk2 : (k : Int) ≤ 1000000000000000 := by omega
        have hltm : k < m.length := by have := HZ.out; omega
        have HLt : Hid (k < l.length ∧ (l[k] = m[k] → l.take (k + 1) = m.take (k + 1)) ∧ (l[k] ≠ m[k] → decide (l = m) = false)) := ⟨hlt, fun e => take_next htk hlt hltm e, fun e => decide_eq_false (ne_of_at hlt hltm e)⟩
        obtain ⟨qd0, qd1, qd2⟩ := Vf.vC_at hlt
        obtain ⟨g, o, rfl, _, d0⟩ := (Vf.Rd.below HA.out hbw) _ _ qd0
        obtain ⟨g'', o'', h', _, d1⟩ := (Vf.Rd.below HA.out hbw) _ _ qd1
        cases h'
        obtain ⟨g'', o'', h', _, d2⟩ := (Vf.Rd.below HA.out hbw) _ _ qd2
        cases h'
        rw [← Nat.add_assoc] at d1 d2
        clear qd0 qd1 qd2
        obtain ⟨qe0, qe1, qe2⟩ := Vf.vC_at hltm
        obtain ⟨g', o', rfl, _, e0⟩ := (Vf.Rd.below HB.out hbw) _ _ qe0
        obtain ⟨g'', o'', h', _, e1⟩ := (Vf.Rd.below HB.out hbw) _ _ qe1
        cases h'
        obtain ⟨g'', o'', h', _, e2⟩ := (Vf.Rd.below HB.out hbw) _ _ qe2
        cases h'
        rw [← Nat.add_assoc] at e1 e2
        clear qe0 qe1 qe2
        generalize l[k] = x at *
        generalize m[k] = y at *
        clear hkg hlt hbw htk hltm
        by_cases hxy : x = y
        · have HE : Hid (k < l.length ∧ l.take (k + 1) = m.take (k + 1)) := by
            exact ⟨HLt.out.1, HLt.out.2.1 hxy⟩
          subst hxy
          obtain ⟨x0, x1, x2⟩ := x
          dsimp only at *
          clear HLt
          go_wp2_with fail
          go_quiet (fail)
          go_wp2_with fail
          go_roundg (l.length - (k + 1))
          case measure => have := HG.out.1; have := HE.out.1; omega
          case rel => exact ⟨k + 1, by have := HE.out.1; omega, by go_num, HG.out.2.1.trans ((Nm.below_drewN _ _).mono HG.out.2.1.size), HE.out.2⟩
        · have HE : Hid (decide (l = m) = false) := by
            exact HLt.out.2.2 hxy
          clear HLt
          have hq : ∀ u : World, (binOp BinOp.neq 77 (.agg #[.int .i64 x.1, .int .i64 x.2.1, .int .i64 x.2.2]) (.agg #[.int .i64 y.1, .int .i64 y.2.1, .int .i64 y.2.2])).run Tryd.prog u = .ok (.bool true) u := fun u => neq_var hxy u
          clear hxy
          obtain ⟨x0, x1, x2⟩ := x
          obtain ⟨y0, y1, y2⟩ := y
          dsimp only at *
          go_wp2_with fail
          go_quiet (fail)
          go_wp2_with fail
          go_ret
          exact ⟨by rw [HE.out]; rfl, HG.out.2.1.trans ((Nm.below_drewN _ _).mono HG.out.2.1.size)⟩
      · have hk' : decide (k < l.length) = false := decide_eq_false hlt
        have HD : Hid (decide (l = m) = true) := by
          have hkl : k = l.length := by omega
          subst hkl
          rw [List.take_length, HZ.out, List.take_length] at htk
          exact decide_eq_true htk
        clear hkg hlt hbw htk
        go_wp2
        go_ret
        exact ⟨by rw [HD.out]; rfl, HG.out.2.1⟩
set_option maxHeartbeats 6400000 in
set_option maxRecDepth 100000 in
/-- slices.Equal of instructions -/
theorem eqIns {w : World} {ao bo : Option Addr} {l m : List (Ins)} {ca cb : Nat} (ha : Vf.Rd w ao (Vf.cC l)) (hb : Vf.Rd w bo (Vf.cC m)) (hn : l.length ≤ 1000000000000000) (_hm : m.length ≤ 1000000000000000) :
    Calls Tryd.prog 54 #[.slice ao l.length ca, .slice bo m.length cb] w fun e w' => e = .returned (.bool (decide (l = m))) ∧ Below w.heap.size w w' := by
  by_cases hz : l.length = m.length
  case neg =>
    have hne : ((l.length : Int) != (m.length : Int)) = true := by rw [bne_iff_ne]; omega
    have HD : Hid (decide (l = m) = false) := decide_eq_false fun e => hz (congrArg List.length e)
    rw [HD.out]
    clear hz ha hb hn _hm HD
    go_enter Tryd.func54, Tryd.ntmps54
    go_wp2_with fail
    go_ret
    exact ⟨rfl, Below.refl _ _⟩
  case pos =>
    have HA := show Hid _ from ha
    have HB := show Hid _ from hb
    have HZ : Hid (l.length = m.length) := hz
    have hn2 : (l.length : Int) ≤ 1000000000000000 := by omega
    have hne : ((l.length : Int) != (l.length : Int)) = false := by simp
    rw [← hz]
    clear ha hb hn _hm hz
    go_enter Tryd.func54, Tryd.ntmps54
    go_wp2_with fail
    go_loopg [13] l.length (fun gq x wr => ∃ k : Nat, k + gq = l.length ∧ x = .int .i64 (k : Int) ∧ Below w.heap.size w wr ∧ l.take k = m.take k)
    case atStart => exact ⟨0, by omega, rfl, Below.refl _ _, rfl⟩
    case round =>
      obtain ⟨k, hkg, rfl, hbw, htk⟩ := hrel
      have HG : Hid (k + gk = l.length ∧ Below w.heap.size w wr ∧ l.take k = m.take k) := ⟨hkg, hbw, htk⟩
      by_cases hlt : k < l.length
      · have hk' : (k : Int) < (l.length : Int) := by omega
        have hk2 : (k : Int) ≤ 1000000000000000 := by omega
        have hltm : k < m.length := by have := HZ.out; omega
        have HLt : Hid (k < l.length ∧ (l[k] = m[k] → l.take (k + 1) = m.take (k + 1)) ∧ (l[k] ≠ m[k] → decide (l = m) = false)) := ⟨hlt, fun e => take_next htk hlt hltm e, fun e => decide_eq_false (ne_of_at hlt hltm e)⟩
        obtain ⟨qd0, qd1, qd2, qd3, qd4⟩ := Vf.cC_at hlt
        obtain ⟨g, o, rfl, _, d0⟩ := (Vf.Rd.below HA.out hbw) _ _ qd0
        obtain ⟨g'', o'', h', _, d1⟩ := (Vf.Rd.below HA.out hbw) _ _ qd1
        cases h'
        obtain ⟨g'', o'', h', _, d2⟩ := (Vf.Rd.below HA.out hbw) _ _ qd2
        cases h'
        obtain ⟨g'', o'', h', _, d3⟩ := (Vf.Rd.below HA.out hbw) _ _ qd3
        cases h'
        obtain ⟨g'', o'', h', _, d4⟩ := (Vf.Rd.below HA.out hbw) _ _ qd4
        cases h'
        rw [← Nat.add_assoc] at d1 d2 d3 d4
        clear qd0 qd1 qd2 qd3 qd4
        obtain ⟨qe0, qe1, qe2, qe3, qe4⟩ := Vf.cC_at hltm
        obtain ⟨g', o', rfl, _, e0⟩ := (Vf.Rd.below HB.out hbw) _ _ qe0
        obtain ⟨g'', o'', h', _, e1⟩ := (Vf.Rd.below HB.out hbw) _ _ qe1
        cases h'
        obtain ⟨g'', o'', h', _, e2⟩ := (Vf.Rd.below HB.out hbw) _ _ qe2
        cases h'
        obtain ⟨g'', o'', h', _, e3⟩ := (Vf.Rd.below HB.out hbw) _ _ qe3
        cases h'
        obtain ⟨g'', o'', h', _, e4⟩ := (Vf.Rd.below HB.out hbw) _ _ qe4
        cases h'
        rw [← Nat.add_assoc] at e1 e2 e3 e4
        clear qe0 qe1 qe2 qe3 qe4
        generalize l[k] = x at *
        generalize m[k] = y at *
        clear hkg hlt hbw htk hltm
        by_cases hxy : x = y
        · have HE : Hid (k < l.length ∧ l.take (k + 1) = m.take (k + 1)) := by
            exact ⟨HLt.out.1, HLt.out.2.1 hxy⟩
          subst hxy
          obtain ⟨x0, x1, x2, x3, x4⟩ := x
          dsimp only at *
          clear HLt
          go_wp2_with fail
          go_quiet (fail)
          go_wp2_with fail
          go_roundg (l.length - (k + 1))
          case measure => have := HG.out.1; have := HE.out.1; omega
          case rel => exact ⟨k + 1, by have := HE.out.1; omega, by go_num, HG.out.2.1.trans ((Nm.below_drewN _ _).mono HG.out.2.1.size), HE.out.2⟩
        · have HE : Hid (decide (l = m) = false) := by
            exact HLt.out.2.2 hxy
          clear HLt
          have hq : ∀ u : World, (binOp BinOp.neq 53 (.agg #[.int .i64 x.op, .int .i64 x.a, .int .i64 x.b, .int .i64 x.c, .int .i64 x.d]) (.agg #[.int .i64 y.op, .int .i64 y.a, .int .i64 y.b, .int .i64 y.c, .int .i64 y.d])).run Tryd.prog u = .ok (.bool true) u := fun u => neq_ins hxy u
          clear hxy
          obtain ⟨x0, x1, x2, x3, x4⟩ := x
          obtain ⟨y0, y1, y2, y3, y4⟩ := y
          dsimp only at *
          go_wp2_with fail
          go_quiet (fail)
          go_wp2_with fail
          go_ret
          exact ⟨by rw [HE.out]; rfl, HG.out.2.1.trans ((Nm.below_drewN _ _).mono HG.out.2.1.size)⟩
      · have hk' : decide (k < l.length) = false := decide_eq_false hlt
        have HD : Hid (decide (l = m) = true) := by
          have hkl : k = l.length := by omega
          subst hkl
          rw [List.take_length, HZ.out, List.take_length] at htk
          exact decide_eq_true htk
        clear hkg hlt hbw htk
        go_wp2
        go_ret
        exact ⟨by rw [HD.out]; rfl, HG.out.2.1⟩
end Go.Proofs.YtcicifcnffacpaaDoor.Cd
