import Derived.Test.YtcblichnkakhdaaDoorCeDec
import Derived.BigQuiet
set_option linter.unusedSimpArgs false
namespace Go.Proofs.YtcblichnkakhdaaDoor.Cd
open Go.RowKit Go.Proofs.YtcblichnkakhdaaDoor.Nm Go.Proofs.YtcblichnkakhdaaDoor.Vf

theorem take_next {α : Type} {l m : List α} {k : Nat} (h : l.take k = m.take k) (hl : k < l.length) (hm : k < m.length) (he : l[k] = m[k]) : l.take (k + 1) = m.take (k + 1) := by
  rw [List.take_add_one, List.take_add_one, h, List.getElem?_eq_getElem hl, List.getElem?_eq_getElem hm, he]
theorem ne_of_at {α : Type} {l m : List α} {k : Nat} (hl : k < l.length) (hm : k < m.length) (he : l[k] ≠ m[k]) : l ≠ m := fun e => by
  subst e
  exact he rfl
instance insDec : DecidableEq Ins := fun x y => decidable_of_iff (x.op = y.op ∧ x.a = y.a ∧ x.b = y.b ∧ x.c = y.c ∧ x.d = y.d) ⟨fun h => by
  obtain ⟨h1, h2, h3, h4, h5⟩ := h
  cases x
  cases y
  simp_all, fun h => by subst h; exact ⟨rfl, rfl, rfl, rfl, rfl⟩⟩
theorem neq_var {x y : Int × Int × Int} (h : x ≠ y) (u : World) : (binOp BinOp.neq 60 (.agg #[.int .i64 x.1, .int .i64 x.2.1, .int .i64 x.2.2]) (.agg #[.int .i64 y.1, .int .i64 y.2.1, .int .i64 y.2.2])).run Tryd.prog u = .ok (.bool true) u := by
  go_simp
  intro e1 e2 e3
  exact h (Prod.ext e1 (Prod.ext e2 e3))
theorem neq_ins {x y : Ins} (h : x ≠ y) (u : World) : (binOp BinOp.neq 64 (.agg #[.int .i64 x.op, .int .i64 x.a, .int .i64 x.b, .int .i64 x.c, .int .i64 x.d]) (.agg #[.int .i64 y.op, .int .i64 y.a, .int .i64 y.b, .int .i64 y.c, .int .i64 y.d])).run Tryd.prog u = .ok (.bool true) u := by
  go_simp
  intro e1 e2 e3 e4 e5
  refine h ?_
  cases x
  cases y
  simp_all
set_option maxHeartbeats 6400000 in
set_option maxRecDepth 100000 in
/-- slices.Equal of truths -/
theorem eqBool {w : World} {ao bo : Option Addr} {l m : List (Bool)} {ca cb : Nat} (ha : Vf.Rd w ao (bC l)) (hb : Vf.Rd w bo (bC m)) (hn : l.length ≤ 1000000000000000) (_hm : m.length ≤ 1000000000000000) :
    Calls Tryd.prog 24 #[.slice ao l.length ca, .slice bo m.length cb] w fun e w' => e = .returned (.bool (decide (l = m))) ∧ Below w.heap.size w w' := by
  by_cases hz : l.length = m.length
  case neg =>
    have hne : ((l.length : Int) != (m.length : Int)) = true := by rw [bne_iff_ne]; omega
    have HD : Hid (decide (l = m) = false) := decide_eq_false fun e => hz (congrArg List.length e)
    rw [HD.out]
    clear hz ha hb hn _hm HD
    go_enter Tryd.func24, Tryd.ntmps24
    go_wp2_with fail
    go_ret
    exact ⟨rfl, Below.refl _ _⟩
  case pos =>
    have HA := show Hid _ from ha
    have HB := show Hid _ from hb
    have HZ : Hid (l.length = m.length) := hz
    have hn2 : (l.length : Int) ≤ 1000000000000000 := by omega
    have hne : ((l.length : Int) != (l.length : Int)) = false := by simp
    rw [← hz]
    clear ha hb hn _hm hz
    go_enter Tryd.func24, Tryd.ntmps24
    go_wp2_with fail
    go_loopg [13] l.length (fun gq x wr => ∃ k : Nat, k + gq = l.length ∧ x = .int .i64 (k : Int) ∧ Below w.heap.size w wr ∧ l.take k = m.take k)
    case atStart => exact ⟨0, by omega, rfl, Below.refl _ _, rfl⟩
    case round =>
      obtain ⟨k, hkg, rfl, hbw, htk⟩ := hrel
      have HG : Hid (k + gk = l.length ∧ Below w.heap.size w wr ∧ l.take k = m.take k) := ⟨hkg, hbw, htk⟩
      by_cases hlt : k < l.length
      · have hk' : (k : Int) < (l.length : Int) := by omega
        have hk2 : (k : Int) ≤ 1000000000000000 := by omega
        have hltm : k < m.length := by have := HZ.out; omega
        have HLt : Hid (k < l.length ∧ (l[k] = m[k] → l.take (k + 1) = m.take (k + 1)) ∧ (l[k] ≠ m[k] → decide (l = m) = false)) := ⟨hlt, fun e => take_next htk hlt hltm e, fun e => decide_eq_false (ne_of_at hlt hltm e)⟩
        obtain ⟨g, o, rfl, _, d0⟩ := rd_bool (Vf.Rd.below HA.out hbw) hlt
        obtain ⟨g', o', rfl, _, e0⟩ := rd_bool (Vf.Rd.below HB.out hbw) hltm
        generalize l[k] = x at *
        generalize m[k] = y at *
        clear hkg hlt hbw htk hltm
        by_cases hxy : x = y
        · have HE : Hid (k < l.length ∧ l.take (k + 1) = m.take (k + 1)) := by
            exact ⟨HLt.out.1, HLt.out.2.1 hxy⟩
          subst hxy
          clear HLt
          go_wp2_with fail
          go_quiet (fail)
          go_wp2_with fail
          go_roundg (l.length - (k + 1))
          case measure => have := HG.out.1; have := HE.out.1; omega
          case rel => exact ⟨k + 1, by have := HE.out.1; omega, by go_num, HG.out.2.1.trans ((Nm.below_drewN _ _).mono HG.out.2.1.size), HE.out.2⟩
        · have HE : Hid (decide (l = m) = false) := by
            exact HLt.out.2.2 hxy
          clear HLt
          have hxy2 : (x == y) = false := by rw [beq_eq_false_iff_ne]; exact hxy
          clear hxy
          go_wp2_with fail
          go_quiet (fail)
          go_wp2_with fail
          go_ret
          exact ⟨by rw [HE.out]; rfl, HG.out.2.1.trans ((Nm.below_drewN _ _).mono HG.out.2.1.size)⟩
      · have hk' : decide (k < l.length) = false := decide_eq_false hlt
        have HD : Hid (decide (l = m) = true) := by
          have hkl : k = l.length := by omega
          subst hkl
          rw [List.take_length, HZ.out, List.take_length] at htk
          exact decide_eq_true htk
        clear hkg hlt hbw htk
        go_wp2
        go_ret
        exact ⟨by rw [HD.out]; rfl, HG.out.2.1⟩
set_option maxHeartbeats 6400000 in
set_option maxRecDepth 100000 in
/-- slices.Equal of numbers -/
theorem eqInt {w : World} {ao bo : Option Addr} {l m : List (Int)} {ca cb : Nat} (ha : Vf.Rd w ao (iC l)) (hb : Vf.Rd w bo (iC m)) (hn : l.length ≤ 1000000000000000) (_hm : m.length ≤ 1000000000000000) :
    Calls Tryd.prog 26 #[.slice ao l.length ca, .slice bo m.length cb] w fun e w' => e = .returned (.bool (decide (l = m))) ∧ Below w.heap.size w w' := by
  by_cases hz : l.length = m.length
  case neg =>
    have hne : ((l.length : Int) != (m.length : Int)) = true := by rw [bne_iff_ne]; omega
    have HD : Hid (decide (l = m) = false) := decide_eq_false fun e => hz (congrArg List.length e)
    rw [HD.out]
    clear hz ha hb hn _hm HD
    go_enter Tryd.func26, Tryd.ntmps26
    go_wp2_with fail
    go_ret
    exact ⟨rfl, Below.refl _ _⟩
  case pos =>
    have HA := show Hid _ from ha
    have HB := show Hid _ from hb
    have HZ : Hid (l.length = m.length) := hz
    have hn2 : (l.length : Int) ≤ 1000000000000000 := by omega
    have hne : ((l.length : Int) != (l.length : Int)) = false := by simp
    rw [← hz]
    clear ha hb hn _hm hz
    go_enter Tryd.func26, Tryd.ntmps26
    go_wp2_with fail
    go_loopg [13] l.length (fun gq x wr => ∃ k : Nat, k + gq = l.length ∧ x = .int .i64 (k : Int) ∧ Below w.heap.size w wr ∧ l.take k = m.take k)
    case atStart => exact ⟨0, by omega, rfl, Below.refl _ _, rfl⟩
    case round =>
      obtain ⟨k, hkg, rfl, hbw, htk⟩ := hrel
      have HG : Hid (k + gk = l.length ∧ Below w.heap.size w wr ∧ l.take k = m.take k) := ⟨hkg, hbw, htk⟩
      by_cases hlt : k < l.length
      · have hk' : (k : Int) < (l.length : Int) := by omega
        have hk2 : (k : Int) ≤ 1000000000000000 := by omega
        have hltm : k < m.length := by have := HZ.out; omega
        have HLt : Hid (k < l.length ∧ (l[k] = m[k] → l.take (k + 1) = m.take (k + 1)) ∧ (l[k] ≠ m[k] → decide (l = m) = false)) := ⟨hlt, fun e => take_next htk hlt hltm e, fun e => decide_eq_false (ne_of_at hlt hltm e)⟩
        obtain ⟨g, o, rfl, _, d0⟩ := rd_int (Vf.Rd.below HA.out hbw) hlt
        obtain ⟨g', o', rfl, _, e0⟩ := rd_int (Vf.Rd.below HB.out hbw) hltm
        generalize l[k] = x at *
        generalize m[k] = y at *
        clear hkg hlt hbw htk hltm
        by_cases hxy : x = y
        · have HE : Hid (k < l.length ∧ l.take (k + 1) = m.take (k + 1)) := by
            exact ⟨HLt.out.1, HLt.out.2.1 hxy⟩
          subst hxy
          clear HLt
          go_wp2_with fail
          go_quiet (fail)
          go_wp2_with fail
          go_roundg (l.length - (k + 1))
          case measure => have := HG.out.1; have := HE.out.1; omega
          case rel => exact ⟨k + 1, by have := HE.out.1; omega, by go_num, HG.out.2.1.trans ((Nm.below_drewN _ _).mono HG.out.2.1.size), HE.out.2⟩
        · have HE : Hid (decide (l = m) = false) := by
            exact HLt.out.2.2 hxy
          clear HLt
          have hxy2 : (x == y) = false := by rw [beq_eq_false_iff_ne]; exact hxy
          clear hxy
          go_wp2_with fail
          go_quiet (fail)
          go_wp2_with fail
          go_ret
          exact ⟨by rw [HE.out]; rfl, HG.out.2.1.trans ((Nm.below_drewN _ _).mono HG.out.2.1.size)⟩
      · have hk' : decide (k < l.length) = false := decide_eq_false hlt
        have HD : Hid (decide (l = m) = true) := by
          have hkl : k = l.length := by omega
          subst hkl
          rw [List.take_length, HZ.out, List.take_length] at htk
          exact decide_eq_true htk
        clear hkg hlt hbw htk
        go_wp2
        go_ret
        exact ⟨by rw [HD.out]; rfl, HG.out.2.1⟩
set_option maxHeartbeats 6400000 in
set_option maxRecDepth 100000 in
/-- slices.Equal of variables -/
theorem eqVar {w : World} {ao bo : Option Addr} {l m : List (Int × Int × Int)} {ca cb : Nat} (ha : Vf.Rd w ao (vC l)) (hb : Vf.Rd w bo (vC m)) (hn : l.length ≤ 1000000000000000) (_hm : m.length ≤ 1000000000000000) :
    Calls Tryd.prog 25 #[.slice ao l.length ca, .slice bo m.length cb] w fun e w' => e = .returned (.bool (decide (l = m))) ∧ Below w.heap.size w w' := by
  by_cases hz : l.length = m.length
  case neg =>
    have hne : ((l.length : Int) != (m.length : Int)) = true := by rw [bne_iff_ne]; omega
    have HD : Hid (decide (l = m) = false) := decide_eq_false fun e => hz (congrArg List.length e)
    rw [HD.out]
    clear hz ha hb hn _hm HD
    go_enter Tryd.func25, Tryd.ntmps25
    go_wp2_with fail
    go_ret
    exact ⟨rfl, Below.refl _ _⟩
  case pos =>
    have HA := show Hid _ from ha
    have HB := show Hid _ from hb
    have HZ : Hid (l.length = m.length) := hz
    have hn2 : (l.length : Int) ≤ 1000000000000000 := by omega
    have hne : ((l.length : Int) != (l.length : Int)) = false := by simp
    rw [← hz]
    clear ha hb hn _hm hz
    go_enter Tryd.func25, Tryd.ntmps25
    go_wp2_with fail
    go_loopg [13] l.length (fun gq x wr => ∃ k : Nat, k + gq = l.length ∧ x = .int .i64 (k : Int) ∧ Below w.heap.size w wr ∧ l.take k = m.take k)
    case atStart => exact ⟨0, by omega, rfl, Below.refl _ _, rfl⟩
    case round =>
      obtain ⟨k, hkg, rfl, hbw, htk⟩ := hrel
      have HG : Hid (k + gk = l.length ∧ Below w.heap.size w wr ∧ l.take k = m.take k) := ⟨hkg, hbw, htk⟩
      by_cases hlt : k < l.length
      · have hk' : (k : Int) < (l.length : Int) := by omega
        have hk2 : (k : Int) ≤ 1000000000000000 := by omega
        have hltm : k < m.length := by have := HZ.out; omega
        have HLt : Hid (k < l.length ∧ (l[k] = m[k] → l.take (k + 1) = m.take (k + 1)) ∧ (l[k] ≠ m[k] → decide (l = m) = false)) := ⟨hlt, fun e => take_next htk hlt hltm e, fun e => decide_eq_false (ne_of_at hlt hltm e)⟩
        obtain ⟨qd0, qd1, qd2⟩ := Vf.vC_at hlt
        obtain ⟨g, o, rfl, _, d0⟩ := (Vf.Rd.below HA.out hbw) _ _ qd0
        obtain ⟨g'', o'', h', _, d1⟩ := (Vf.Rd.below HA.out hbw) _ _ qd1
        cases h'
        obtain ⟨g'', o'', h', _, d2⟩ := (Vf.Rd.below HA.out hbw) _ _ qd2
        cases h'
        rw [← Nat.add_assoc] at d1 d2
        clear qd0 qd1 qd2
        obtain ⟨qe0, qe1, qe2⟩ := Vf.vC_at hltm
        obtain ⟨g', o', rfl, _, e0⟩ := (Vf.Rd.below HB.out hbw) _ _ qe0
        obtain ⟨g'', o'', h', _, e1⟩ := (Vf.Rd.below HB.out hbw) _ _ qe1
        cases h'
        obtain ⟨g'', o'', h', _, e2⟩ := (Vf.Rd.below HB.out hbw) _ _ qe2
        cases h'
        rw [← Nat.add_assoc] at e1 e2
        clear qe0 qe1 qe2
        generalize l[k] = x at *
        generalize m[k] = y at *
        clear hkg hlt hbw htk hltm
        by_cases hxy : x = y
        · have HE : Hid (k < l.length ∧ l.take (k + 1) = m.take (k + 1)) := by
            exact ⟨HLt.out.1, HLt.out.2.1 hxy⟩
          subst hxy
          obtain ⟨x0, x1, x2⟩ := x
          dsimp only at *
          clear HLt
          go_wp2_with fail
          go_quiet (fail)
          go_wp2_with fail
          go_roundg (l.length - (k + 1))
          case measure => have := HG.out.1; have := HE.out.1; omega
          case rel => exact ⟨k + 1, by have := HE.out.1; omega, by go_num, HG.out.2.1.trans ((Nm.below_drewN _ _).mono HG.out.2.1.size), HE.out.2⟩
        · have HE : Hid (decide (l = m) = false) := by
            exact HLt.out.2.2 hxy
          clear HLt
          have hq : ∀ u : World, (binOp BinOp.neq 60 (.agg #[.int .i64 x.1, .int .i64 x.2.1, .int .i64 x.2.2]) (.agg #[.int .i64 y.1, .int .i64 y.2.1, .int .i64 y.2.2])).run Tryd.prog u = .ok (.bool true) u := fun u => neq_var hxy u
          clear hxy
          obtain ⟨x0, x1, x2⟩ := x
          obtain ⟨y0, y1, y2⟩ := y
          dsimp only at *
          go_wp2_with fail
          go_quiet (fail)
          go_wp2_with fail
          go_ret
          exact ⟨by rw [HE.out]; rfl, HG.out.2.1.trans ((Nm.below_drewN _ _).mono HG.out.2.1.size)⟩
      · have hk' : decide (k < l.length) = false := decide_eq_false hlt
        have HD : Hid (decide (l = m) = true) := by
          have hkl : k = l.length := by omega
          subst hkl
          rw [List.take_length, HZ.out, List.take_length] at htk
          exact decide_eq_true htk
        clear hkg hlt hbw htk
        go_wp2
        go_ret
        exact ⟨by rw [HD.out]; rfl, HG.out.2.1⟩
set_option maxHeartbeats 6400000 in
set_option maxRecDepth 100000 in
/-- slices.Equal of instructions -/
theorem eqIns {w : World} {ao bo : Option Addr} {l m : List (Ins)} {ca cb : Nat} (ha : Vf.Rd w ao (Vf.cC l)) (hb : Vf.Rd w bo (Vf.cC m)) (hn : l.length ≤ 1000000000000000) (_hm : m.length ≤ 1000000000000000) :
    Calls Tryd.prog 27 #[.slice ao l.length ca, .slice bo m.length cb] w fun e w' => e = .returned (.bool (decide (l = m))) ∧ Below w.heap.size w w' := by
  by_cases hz : l.length = m.length
  case neg =>
    have hne : ((l.length : Int) != (m.length : Int)) = true := by rw [bne_iff_ne]; omega
    have HD : Hid (decide (l = m) = false) := decide_eq_false fun e => hz (congrArg List.length e)
    rw [HD.out]
    clear hz ha hb hn _hm HD
    go_enter Tryd.func27, Tryd.ntmps27
    go_wp2_with fail
    go_ret
    exact ⟨rfl, Below.refl _ _⟩
  case pos =>
    have HA := show Hid _ from ha
    have HB := show Hid _ from hb
    have HZ : Hid (l.length = m.length) := hz
    have hn2 : (l.length : Int) ≤ 1000000000000000 := by omega
    have hne : ((l.length : Int) != (l.length : Int)) = false := by simp
    rw [← hz]
    clear ha hb hn _hm hz
    go_enter Tryd.func27, Tryd.ntmps27
    go_wp2_with fail
    go_loopg [13] l.length (fun gq x wr => ∃ k : Nat, k + gq = l.length ∧ x = .int .i64 (k : Int) ∧ Below w.heap.size w wr ∧ l.take k = m.take k)
    case atStart => exact ⟨0, by omega, rfl, Below.refl _ _, rfl⟩
    case round =>
      obtain ⟨k, hkg, rfl, hbw, htk⟩ := hrel
      have HG : Hid (k + gk = l.length ∧ Below w.heap.size w wr ∧ l.take k = m.take k) := ⟨hkg, hbw, htk⟩
      by_cases hlt : k < l.length
      · have hk' : (k : Int) < (l.length : Int) := by omega
        have hk2 : (k : Int) ≤ 1000000000000000 := by omega
        have hltm : k < m.length := by have := HZ.out; omega
        have HLt : Hid (k < l.length ∧ (l[k] = m[k] → l.take (k + 1) = m.take (k + 1)) ∧ (l[k] ≠ m[k] → decide (l = m) = false)) := ⟨hlt, fun e => take_next htk hlt hltm e, fun e => decide_eq_false (ne_of_at hlt hltm e)⟩
        obtain ⟨qd0, qd1, qd2, qd3, qd4⟩ := Vf.cC_at hlt
        obtain ⟨g, o, rfl, _, d0⟩ := (Vf.Rd.below HA.out hbw) _ _ qd0
        obtain ⟨g'', o'', h', _, d1⟩ := (Vf.Rd.below HA.out hbw) _ _ qd1
        cases h'
        obtain ⟨g'', o'', h', _, d2⟩ := (Vf.Rd.below HA.out hbw) _ _ qd2
        cases h'
        obtain ⟨g'', o'', h', _, d3⟩ := (Vf.Rd.below HA.out hbw) _ _ qd3
        cases h'
        obtain ⟨g'', o'', h', _, d4⟩ := (Vf.Rd.below HA.out hbw) _ _ qd4
        cases h'
        rw [← Nat.add_assoc] at d1 d2 d3 d4
        clear qd0 qd1 qd2 qd3 qd4
        obtain ⟨qe0, qe1, qe2, qe3, qe4⟩ := Vf.cC_at hltm
        obtain ⟨g', o', rfl, _, e0⟩ := (Vf.Rd.below HB.out hbw) _ _ qe0
        obtain ⟨g'', o'', h', _, e1⟩ := (Vf.Rd.below HB.out hbw) _ _ qe1
        cases h'
        obtain ⟨g'', o'', h', _, e2⟩ := (Vf.Rd.below HB.out hbw) _ _ qe2
        cases h'
        obtain ⟨g'', o'', h', _, e3⟩ := (Vf.Rd.below HB.out hbw) _ _ qe3
        cases h'
        obtain ⟨g'', o'', h', _, e4⟩ := (Vf.Rd.below HB.out hbw) _ _ qe4
        cases h'
        rw [← Nat.add_assoc] at e1 e2 e3 e4
        clear qe0 qe1 qe2 qe3 qe4
        generalize l[k] = x at *
        generalize m[k] = y at *
        clear hkg hlt hbw htk hltm
        by_cases hxy : x = y
        · have HE : Hid (k < l.length ∧ l.take (k + 1) = m.take (k + 1)) := by
            exact ⟨HLt.out.1, HLt.out.2.1 hxy⟩
          subst hxy
          obtain ⟨x0, x1, x2, x3, x4⟩ := x
          dsimp only at *
          clear HLt
          go_wp2_with fail
          go_quiet (fail)
          go_wp2_with fail
          go_roundg (l.length - (k + 1))
          case measure => have := HG.out.1; have := HE.out.1; omega
          case rel => exact ⟨k + 1, by have := HE.out.1; omega, by go_num, HG.out.2.1.trans ((Nm.below_drewN _ _).mono HG.out.2.1.size), HE.out.2⟩
        · have HE : Hid (decide (l = m) = false) := by
            exact HLt.out.2.2 hxy
          clear HLt
          have hq : ∀ u : World, (binOp BinOp.neq 64 (.agg #[.int .i64 x.op, .int .i64 x.a, .int .i64 x.b, .int .i64 x.c, .int .i64 x.d]) (.agg #[.int .i64 y.op, .int .i64 y.a, .int .i64 y.b, .int .i64 y.c, .int .i64 y.d])).run Tryd.prog u = .ok (.bool true) u := fun u => neq_ins hxy u
          clear hxy
          obtain ⟨x0, x1, x2, x3, x4⟩ := x
          obtain ⟨y0, y1, y2, y3, y4⟩ := y
          dsimp only at *
          go_wp2_with fail
          go_quiet (fail)
          go_wp2_with fail
          go_ret
          exact ⟨by rw [HE.out]; rfl, HG.out.2.1.trans ((Nm.below_drewN _ _).mono HG.out.2.1.size)⟩
      · have hk' : decide (k < l.length) = false := decide_eq_false hlt
        have HD : Hid (decide (l = m) = true) := by
          have hkl : k = l.length := by omega
          subst hkl
          rw [List.take_length, HZ.out, List.take_length] at htk
          exact decide_eq_true htk
        clear hkg hlt hbw htk
        go_wp2
        go_ret
        exact ⟨by rw [HD.out]; rfl, HG.out.2.1⟩
end Go.Proofs.YtcblichnkakhdaaDoor.Cd

set_option linter.unusedSimpArgs false
namespace Go.Proofs.YtcblichnkakhdaaDoor.Cd
open Go.RowKit Go.Proofs.YtcblichnkakhdaaDoor.Nm Go.Proofs.YtcblichnkakhdaaDoor.Vf

/-- are they the same? -/
def samB (p q : Pg) : Bool := decide (p.gh = q.gh) && (decide (p.vs = q.vs) && (decide (p.ts = q.ts) && (decide (p.on = q.on) && ((p.miss == q.miss) && decide (p.cd = q.cd)))))
theorem samB_iff (p q : Pg) : samB p q = true ↔ p = q := by
  unfold samB
  constructor
  · intro h
    simp only [Bool.and_eq_true, decide_eq_true_eq, beq_iff_eq] at h
    obtain ⟨h1, h2, h3, h4, h5, h6⟩ := h
    cases p
    cases q
    simp_all
  · rintro rfl
    simp
set_option maxHeartbeats 12800000 in
set_option maxRecDepth 100000 in
/-- Same -/
theorem same_any (v u : PV) (p q : Pg) (W : World) (hP : IsPg W v p) (hQ : IsPg W u q) : Calls Tryd.prog 13 #[.agg (pvC v p), .agg (pvC u q)] W fun e W' => e = .returned (.bool (samB p q)) ∧ Below W.heap.size W W' := by
  obtain ⟨r1, h1⟩ : ∃ r, decide (p.gh = q.gh) = r := ⟨_, rfl⟩
  obtain ⟨r2, h2⟩ : ∃ r, decide (p.vs = q.vs) = r := ⟨_, rfl⟩
  obtain ⟨r3, h3⟩ : ∃ r, decide (p.ts = q.ts) = r := ⟨_, rfl⟩
  obtain ⟨r4, h4⟩ : ∃ r, decide (p.on = q.on) = r := ⟨_, rfl⟩
  obtain ⟨r5, hr5⟩ : ∃ r, (p.miss == q.miss) = r := ⟨_, rfl⟩
  obtain ⟨r6, h6⟩ : ∃ r, decide (p.cd = q.cd) = r := ⟨_, rfl⟩
  have HS : Hid (samB p q = (r1 && (r2 && (r3 && (r4 && (r5 && r6)))))) := by
    show samB p q = _
    unfold samB
    rw [h1, h2, h3, h4, hr5, h6]
  have H1 : Hid (∀ w, Below W.heap.size W w → Calls Tryd.prog 24 #[.slice v.qo p.gh.length v.qc, .slice u.qo q.gh.length u.qc] w fun e w' => e = .returned (.bool r1) ∧ Below w.heap.size w w') := by
    intro w hb
    have := eqBool (ca := v.qc) (cb := u.qc) (Vf.Rd.below hP.gh hb) (Vf.Rd.below hQ.gh hb) hP.lgh hQ.lgh
    rw [h1] at this
    exact this
  have H2 : Hid (∀ w, Below W.heap.size W w → Calls Tryd.prog 25 #[.slice v.vo p.vs.length v.vc, .slice u.vo q.vs.length u.vc] w fun e w' => e = .returned (.bool r2) ∧ Below w.heap.size w w') := by
    intro w hb
    have := eqVar (ca := v.vc) (cb := u.vc) (Vf.Rd.below hP.vs hb) (Vf.Rd.below hQ.vs hb) hP.lvs hQ.lvs
    rw [h2] at this
    exact this
  have H3 : Hid (∀ w, Below W.heap.size W w → Calls Tryd.prog 26 #[.slice v.to p.ts.length v.tc, .slice u.to q.ts.length u.tc] w fun e w' => e = .returned (.bool r3) ∧ Below w.heap.size w w') := by
    intro w hb
    have := eqInt (ca := v.tc) (cb := u.tc) (Vf.Rd.below hP.ts hb) (Vf.Rd.below hQ.ts hb) hP.lts hQ.lts
    rw [h3] at this
    exact this
  have H4 : Hid (∀ w, Below W.heap.size W w → Calls Tryd.prog 26 #[.slice v.oo p.on.length v.oc, .slice u.oo q.on.length u.oc] w fun e w' => e = .returned (.bool r4) ∧ Below w.heap.size w w') := by
    intro w hb
    have := eqInt (ca := v.oc) (cb := u.oc) (Vf.Rd.below hP.on hb) (Vf.Rd.below hQ.on hb) hP.lon hQ.lon
    rw [h4] at this
    exact this
  have H6 : Hid (∀ w, Below W.heap.size W w → Calls Tryd.prog 27 #[.slice v.co p.cd.length v.cc, .slice u.co q.cd.length u.cc] w fun e w' => e = .returned (.bool r6) ∧ Below w.heap.size w w') := by
    intro w hb
    have := eqIns (ca := v.cc) (cb := u.cc) (Vf.Rd.below hP.cd hb) (Vf.Rd.below hQ.cd hb) hP.lcd hQ.lcd
    rw [h6] at this
    exact this
  have hb1 : Below W.heap.size W (W.alloc (.cells (pvC v p) 29)) := (Below.refl _ W).alloc (Nat.le_refl _) _
  have hb2 : Below (W.alloc (.cells (pvC v p) 29)).heap.size (W.alloc (.cells (pvC v p) 29)) ((W.alloc (.cells (pvC v p) 29)).alloc (.cells (pvC u q) 29)) := (Below.refl _ _).alloc (Nat.le_refl _) _
  have HB : Hid (Below W.heap.size W ((W.alloc (.cells (pvC v p) 29)).alloc (.cells (pvC u q) 29)) ∧ ((W.alloc (.cells (pvC v p) 29)).alloc (.cells (pvC u q) 29)).heap[W.heap.size]? = some (.cells (pvC v p) 29 (0, 0)) ∧ ((W.alloc (.cells (pvC v p) 29)).alloc (.cells (pvC u q) 29)).heap[W.heap.size + 1]? = some (.cells (pvC u q) 29 (0, 0))) := by
    refine ⟨hb1.trans (hb2.mono hb1.size), (hb2.block _ (blk_lt (heap_alloc_new W _))).trans (heap_alloc_new W _), ?_⟩
    have := heap_alloc_new (W.alloc (.cells (pvC v p) 29)) (.cells (pvC u q) 29)
    simpa using this
  clear h1 h2 h3 h4 h6 hb1 hb2 hP hQ
  obtain ⟨c0, c1, c2, c3, c4, c5⟩ := cells6 HB.out.2.1
  obtain ⟨d0, d1, d2, d3, d4, d5⟩ := cells6 HB.out.2.2
  go_enter Tryd.func13, Tryd.ntmps13
  go_wp2_with fail
  generalize ((W.alloc (.cells (pvC v p) 29)).alloc (.cells (pvC u q) 29)) = w0 at *
  refine (H1.out _ HB.out.1).mono ?_
  rintro e w1 ⟨rfl, hb⟩
  have HB1 : Hid (Below W.heap.size W w1 ∧ w1.heap[W.heap.size]? = some (.cells (pvC v p) 29 (0, 0)) ∧ w1.heap[W.heap.size + 1]? = some (.cells (pvC u q) 29 (0, 0))) := ⟨HB.out.1.trans (hb.mono HB.out.1.size), (hb.block _ (blk_lt HB.out.2.1)).trans HB.out.2.1, (hb.block _ (blk_lt HB.out.2.2)).trans HB.out.2.2⟩
  clear hb c0 c1 c2 c3 c4 c5 d0 d1 d2 d3 d4 d5
  obtain ⟨c0, c1, c2, c3, c4, c5⟩ := cells6 HB1.out.2.1
  obtain ⟨d0, d1, d2, d3, d4, d5⟩ := cells6 HB1.out.2.2
  cases r1
  case false =>
    go_wp2_with fail
    go_ret
    exact ⟨by rw [HS.out]; rfl, HB1.out.1⟩
  case true =>
    go_wp2_with fail
    refine (H2.out _ HB1.out.1).mono ?_
    rintro e w2 ⟨rfl, hb⟩
    have HB2 : Hid (Below W.heap.size W w2 ∧ w2.heap[W.heap.size]? = some (.cells (pvC v p) 29 (0, 0)) ∧ w2.heap[W.heap.size + 1]? = some (.cells (pvC u q) 29 (0, 0))) := ⟨HB1.out.1.trans (hb.mono HB1.out.1.size), (hb.block _ (blk_lt HB1.out.2.1)).trans HB1.out.2.1, (hb.block _ (blk_lt HB1.out.2.2)).trans HB1.out.2.2⟩
    clear hb c0 c1 c2 c3 c4 c5 d0 d1 d2 d3 d4 d5
    obtain ⟨c0, c1, c2, c3, c4, c5⟩ := cells6 HB2.out.2.1
    obtain ⟨d0, d1, d2, d3, d4, d5⟩ := cells6 HB2.out.2.2
    cases r2
    case false =>
      go_wp2_with fail
      go_ret
      exact ⟨by rw [HS.out]; rfl, HB2.out.1⟩
    case true =>
      go_wp2_with fail
      refine (H3.out _ HB2.out.1).mono ?_
      rintro e w3 ⟨rfl, hb⟩
      have HB3 : Hid (Below W.heap.size W w3 ∧ w3.heap[W.heap.size]? = some (.cells (pvC v p) 29 (0, 0)) ∧ w3.heap[W.heap.size + 1]? = some (.cells (pvC u q) 29 (0, 0))) := ⟨HB2.out.1.trans (hb.mono HB2.out.1.size), (hb.block _ (blk_lt HB2.out.2.1)).trans HB2.out.2.1, (hb.block _ (blk_lt HB2.out.2.2)).trans HB2.out.2.2⟩
      clear hb c0 c1 c2 c3 c4 c5 d0 d1 d2 d3 d4 d5
      obtain ⟨c0, c1, c2, c3, c4, c5⟩ := cells6 HB3.out.2.1
      obtain ⟨d0, d1, d2, d3, d4, d5⟩ := cells6 HB3.out.2.2
      cases r3
      case false =>
        go_wp2_with fail
        go_ret
        exact ⟨by rw [HS.out]; rfl, HB3.out.1⟩
      case true =>
        go_wp2_with fail
        refine (H4.out _ HB3.out.1).mono ?_
        rintro e w4 ⟨rfl, hb⟩
        have HB4 : Hid (Below W.heap.size W w4 ∧ w4.heap[W.heap.size]? = some (.cells (pvC v p) 29 (0, 0)) ∧ w4.heap[W.heap.size + 1]? = some (.cells (pvC u q) 29 (0, 0))) := ⟨HB3.out.1.trans (hb.mono HB3.out.1.size), (hb.block _ (blk_lt HB3.out.2.1)).trans HB3.out.2.1, (hb.block _ (blk_lt HB3.out.2.2)).trans HB3.out.2.2⟩
        clear hb c0 c1 c2 c3 c4 c5 d0 d1 d2 d3 d4 d5
        obtain ⟨c0, c1, c2, c3, c4, c5⟩ := cells6 HB4.out.2.1
        obtain ⟨d0, d1, d2, d3, d4, d5⟩ := cells6 HB4.out.2.2
        cases r4
        case false =>
          go_wp2_with fail
          go_ret
          exact ⟨by rw [HS.out]; rfl, HB4.out.1⟩
        case true =>
          cases r5
          case false =>
            go_wp2_with fail
            go_ret
            exact ⟨by rw [HS.out]; rfl, HB4.out.1⟩
          case true =>
            go_wp2_with fail
            refine (H6.out _ HB4.out.1).mono ?_
            rintro e w6 ⟨rfl, hb⟩
            have HB6 : Hid (Below W.heap.size W w6 ∧ w6.heap[W.heap.size]? = some (.cells (pvC v p) 29 (0, 0)) ∧ w6.heap[W.heap.size + 1]? = some (.cells (pvC u q) 29 (0, 0))) := ⟨HB4.out.1.trans (hb.mono HB4.out.1.size), (hb.block _ (blk_lt HB4.out.2.1)).trans HB4.out.2.1, (hb.block _ (blk_lt HB4.out.2.2)).trans HB4.out.2.2⟩
            clear hb c0 c1 c2 c3 c4 c5 d0 d1 d2 d3 d4 d5
            obtain ⟨c0, c1, c2, c3, c4, c5⟩ := cells6 HB6.out.2.1
            obtain ⟨d0, d1, d2, d3, d4, d5⟩ := cells6 HB6.out.2.2
            cases r6
            case false =>
              go_wp2_with fail
              go_ret
              exact ⟨by rw [HS.out]; rfl, HB6.out.1⟩
            case true =>
              go_wp2_with fail
              go_ret
              exact ⟨by rw [HS.out]; rfl, HB6.out.1⟩
end Go.Proofs.YtcblichnkakhdaaDoor.Cd

set_option linter.unusedSimpArgs false
namespace Go.Proofs.YtcblichnkakhdaaDoor.Cd
open Go.RowKit Go.Proofs.YtcblichnkakhdaaDoor.Nm Go.Proofs.YtcblichnkakhdaaDoor.Vf

theorem samB_no {p q : Pg} (h : p ≠ q) : samB p q = false := by
  cases e : samB p q
  · rfl
  · exact absurd ((samB_iff p q).1 e) h
theorem two_prg (w : World) (P Q : Array Value) : Below w.heap.size w ((w.alloc (.cells P 29)).alloc (.cells Q 29)) ∧ ((w.alloc (.cells P 29)).alloc (.cells Q 29)).heap[w.heap.size]? = some (.cells P 29 (0, 0)) ∧ ((w.alloc (.cells P 29)).alloc (.cells Q 29)).heap[w.heap.size + 1]? = some (.cells Q 29 (0, 0)) := by
  have hb1 : Below w.heap.size w (w.alloc (.cells P 29)) := (Below.refl _ w).alloc (Nat.le_refl _) _
  have hb2 : Below (w.alloc (.cells P 29)).heap.size (w.alloc (.cells P 29)) ((w.alloc (.cells P 29)).alloc (.cells Q 29)) := (Below.refl _ _).alloc (Nat.le_refl _) _
  refine ⟨hb1.trans (hb2.mono hb1.size), (hb2.block _ (blk_lt (heap_alloc_new w _))).trans (heap_alloc_new w _), ?_⟩
  have := heap_alloc_new (w.alloc (.cells P 29)) (.cells Q 29)
  simpa using this
set_option maxHeartbeats 25600000 in
set_option maxRecDepth 100000 in
theorem rsame_n0 (qo vo tto oo co qo' vo' tto' oo' co' : Option Addr) (qc vc tc oc cc qc' vc' tc' oc' cc' : Nat) (p q : Pg) (W : World) (h0 : p.gh.length ≠ q.gh.length) :
    Calls Tryd.prog 11 #[.agg #[.slice qo p.gh.length qc, .slice vo p.vs.length vc, .slice tto p.ts.length tc, .slice oo p.on.length oc, .int .i64 p.miss, .slice co p.cd.length cc], .agg #[.slice qo' q.gh.length qc', .slice vo' q.vs.length vc', .slice tto' q.ts.length tc', .slice oo' q.on.length oc', .int .i64 q.miss, .slice co' q.cd.length cc']] W fun e W' => e = .returned (.bool false) ∧ Below W.heap.size W W' := by
  have n0 : ((p.gh.length : Int) != (q.gh.length : Int)) = true := by rw [bne_iff_ne]; omega
  clear h0
  have HB := show Hid _ from two_prg W #[.slice qo p.gh.length qc, .slice vo p.vs.length vc, .slice tto p.ts.length tc, .slice oo p.on.length oc, .int .i64 p.miss, .slice co p.cd.length cc] #[.slice qo' q.gh.length qc', .slice vo' q.vs.length vc', .slice tto' q.ts.length tc', .slice oo' q.on.length oc', .int .i64 q.miss, .slice co' q.cd.length cc']
  obtain ⟨c0, c1, c2, c3, c4, c5⟩ := cells6 HB.out.2.1
  obtain ⟨d0, d1, d2, d3, d4, d5⟩ := cells6 HB.out.2.2
  go_enter Tryd.func11, Tryd.ntmps11
  go_wp2_with fail
  go_ret
  exact ⟨rfl, HB.out.1⟩
set_option maxHeartbeats 25600000 in
set_option maxRecDepth 100000 in
theorem rsame_n1 (qo vo tto oo co qo' vo' tto' oo' co' : Option Addr) (qc vc tc oc cc qc' vc' tc' oc' cc' : Nat) (p q : Pg) (W : World) (h0 : p.gh.length = q.gh.length) (h1 : p.vs.length ≠ q.vs.length) :
    Calls Tryd.prog 11 #[.agg #[.slice qo p.gh.length qc, .slice vo p.vs.length vc, .slice tto p.ts.length tc, .slice oo p.on.length oc, .int .i64 p.miss, .slice co p.cd.length cc], .agg #[.slice qo' q.gh.length qc', .slice vo' q.vs.length vc', .slice tto' q.ts.length tc', .slice oo' q.on.length oc', .int .i64 q.miss, .slice co' q.cd.length cc']] W fun e W' => e = .returned (.bool false) ∧ Below W.heap.size W W' := by
  have n0 : ((p.gh.length : Int) != (q.gh.length : Int)) = false := by rw [h0]; simp
  have n1 : ((p.vs.length : Int) != (q.vs.length : Int)) = true := by rw [bne_iff_ne]; omega
  clear h0 h1
  have HB := show Hid _ from two_prg W #[.slice qo p.gh.length qc, .slice vo p.vs.length vc, .slice tto p.ts.length tc, .slice oo p.on.length oc, .int .i64 p.miss, .slice co p.cd.length cc] #[.slice qo' q.gh.length qc', .slice vo' q.vs.length vc', .slice tto' q.ts.length tc', .slice oo' q.on.length oc', .int .i64 q.miss, .slice co' q.cd.length cc']
  obtain ⟨c0, c1, c2, c3, c4, c5⟩ := cells6 HB.out.2.1
  obtain ⟨d0, d1, d2, d3, d4, d5⟩ := cells6 HB.out.2.2
  go_enter Tryd.func11, Tryd.ntmps11
  go_wp2_with fail
  go_ret
  exact ⟨rfl, HB.out.1⟩
set_option maxHeartbeats 25600000 in
set_option maxRecDepth 100000 in
theorem rsame_n2 (qo vo tto oo co qo' vo' tto' oo' co' : Option Addr) (qc vc tc oc cc qc' vc' tc' oc' cc' : Nat) (p q : Pg) (W : World) (h0 : p.gh.length = q.gh.length) (h1 : p.vs.length = q.vs.length) (h2 : p.ts.length ≠ q.ts.length) :
    Calls Tryd.prog 11 #[.agg #[.slice qo p.gh.length qc, .slice vo p.vs.length vc, .slice tto p.ts.length tc, .slice oo p.on.length oc, .int .i64 p.miss, .slice co p.cd.length cc], .agg #[.slice qo' q.gh.length qc', .slice vo' q.vs.length vc', .slice tto' q.ts.length tc', .slice oo' q.on.length oc', .int .i64 q.miss, .slice co' q.cd.length cc']] W fun e W' => e = .returned (.bool false) ∧ Below W.heap.size W W' := by
  have n0 : ((p.gh.length : Int) != (q.gh.length : Int)) = false := by rw [h0]; simp
  have n1 : ((p.vs.length : Int) != (q.vs.length : Int)) = false := by rw [h1]; simp
  have n2 : ((p.ts.length : Int) != (q.ts.length : Int)) = true := by rw [bne_iff_ne]; omega
  clear h0 h1 h2
  have HB := show Hid _ from two_prg W #[.slice qo p.gh.length qc, .slice vo p.vs.length vc, .slice tto p.ts.length tc, .slice oo p.on.length oc, .int .i64 p.miss, .slice co p.cd.length cc] #[.slice qo' q.gh.length qc', .slice vo' q.vs.length vc', .slice tto' q.ts.length tc', .slice oo' q.on.length oc', .int .i64 q.miss, .slice co' q.cd.length cc']
  obtain ⟨c0, c1, c2, c3, c4, c5⟩ := cells6 HB.out.2.1
  obtain ⟨d0, d1, d2, d3, d4, d5⟩ := cells6 HB.out.2.2
  go_enter Tryd.func11, Tryd.ntmps11
  go_wp2_with fail
  go_ret
  exact ⟨rfl, HB.out.1⟩
set_option maxHeartbeats 25600000 in
set_option maxRecDepth 100000 in
theorem rsame_n3 (qo vo tto oo co qo' vo' tto' oo' co' : Option Addr) (qc vc tc oc cc qc' vc' tc' oc' cc' : Nat) (p q : Pg) (W : World) (h0 : p.gh.length = q.gh.length) (h1 : p.vs.length = q.vs.length) (h2 : p.ts.length = q.ts.length) (h3 : p.on.length ≠ q.on.length) :
    Calls Tryd.prog 11 #[.agg #[.slice qo p.gh.length qc, .slice vo p.vs.length vc, .slice tto p.ts.length tc, .slice oo p.on.length oc, .int .i64 p.miss, .slice co p.cd.length cc], .agg #[.slice qo' q.gh.length qc', .slice vo' q.vs.length vc', .slice tto' q.ts.length tc', .slice oo' q.on.length oc', .int .i64 q.miss, .slice co' q.cd.length cc']] W fun e W' => e = .returned (.bool false) ∧ Below W.heap.size W W' := by
  have n0 : ((p.gh.length : Int) != (q.gh.length : Int)) = false := by rw [h0]; simp
  have n1 : ((p.vs.length : Int) != (q.vs.length : Int)) = false := by rw [h1]; simp
  have n2 : ((p.ts.length : Int) != (q.ts.length : Int)) = false := by rw [h2]; simp
  have n3 : ((p.on.length : Int) != (q.on.length : Int)) = true := by rw [bne_iff_ne]; omega
  clear h0 h1 h2 h3
  have HB := show Hid _ from two_prg W #[.slice qo p.gh.length qc, .slice vo p.vs.length vc, .slice tto p.ts.length tc, .slice oo p.on.length oc, .int .i64 p.miss, .slice co p.cd.length cc] #[.slice qo' q.gh.length qc', .slice vo' q.vs.length vc', .slice tto' q.ts.length tc', .slice oo' q.on.length oc', .int .i64 q.miss, .slice co' q.cd.length cc']
  obtain ⟨c0, c1, c2, c3, c4, c5⟩ := cells6 HB.out.2.1
  obtain ⟨d0, d1, d2, d3, d4, d5⟩ := cells6 HB.out.2.2
  go_enter Tryd.func11, Tryd.ntmps11
  go_wp2_with fail
  go_ret
  exact ⟨rfl, HB.out.1⟩
set_option maxHeartbeats 25600000 in
set_option maxRecDepth 100000 in
theorem rsame_n4 (qo vo tto oo co qo' vo' tto' oo' co' : Option Addr) (qc vc tc oc cc qc' vc' tc' oc' cc' : Nat) (p q : Pg) (W : World) (h0 : p.gh.length = q.gh.length) (h1 : p.vs.length = q.vs.length) (h2 : p.ts.length = q.ts.length) (h3 : p.on.length = q.on.length) (h4 : p.cd.length ≠ q.cd.length) :
    Calls Tryd.prog 11 #[.agg #[.slice qo p.gh.length qc, .slice vo p.vs.length vc, .slice tto p.ts.length tc, .slice oo p.on.length oc, .int .i64 p.miss, .slice co p.cd.length cc], .agg #[.slice qo' q.gh.length qc', .slice vo' q.vs.length vc', .slice tto' q.ts.length tc', .slice oo' q.on.length oc', .int .i64 q.miss, .slice co' q.cd.length cc']] W fun e W' => e = .returned (.bool false) ∧ Below W.heap.size W W' := by
  have n0 : ((p.gh.length : Int) != (q.gh.length : Int)) = false := by rw [h0]; simp
  have n1 : ((p.vs.length : Int) != (q.vs.length : Int)) = false := by rw [h1]; simp
  have n2 : ((p.ts.length : Int) != (q.ts.length : Int)) = false := by rw [h2]; simp
  have n3 : ((p.on.length : Int) != (q.on.length : Int)) = false := by rw [h3]; simp
  have n4 : ((p.cd.length : Int) != (q.cd.length : Int)) = true := by rw [bne_iff_ne]; omega
  clear h0 h1 h2 h3 h4
  have HB := show Hid _ from two_prg W #[.slice qo p.gh.length qc, .slice vo p.vs.length vc, .slice tto p.ts.length tc, .slice oo p.on.length oc, .int .i64 p.miss, .slice co p.cd.length cc] #[.slice qo' q.gh.length qc', .slice vo' q.vs.length vc', .slice tto' q.ts.length tc', .slice oo' q.on.length oc', .int .i64 q.miss, .slice co' q.cd.length cc']
  obtain ⟨c0, c1, c2, c3, c4, c5⟩ := cells6 HB.out.2.1
  obtain ⟨d0, d1, d2, d3, d4, d5⟩ := cells6 HB.out.2.2
  go_enter Tryd.func11, Tryd.ntmps11
  go_wp2_with fail
  go_ret
  exact ⟨rfl, HB.out.1⟩
set_option maxHeartbeats 25600000 in
set_option maxRecDepth 100000 in
theorem rsame_n5 (qo vo tto oo co qo' vo' tto' oo' co' : Option Addr) (qc vc tc oc cc qc' vc' tc' oc' cc' : Nat) (p q : Pg) (W : World) (h0 : p.gh.length = q.gh.length) (h1 : p.vs.length = q.vs.length) (h2 : p.ts.length = q.ts.length) (h3 : p.on.length = q.on.length) (h4 : p.cd.length = q.cd.length) (h5 : p.miss ≠ q.miss) :
    Calls Tryd.prog 11 #[.agg #[.slice qo p.gh.length qc, .slice vo p.vs.length vc, .slice tto p.ts.length tc, .slice oo p.on.length oc, .int .i64 p.miss, .slice co p.cd.length cc], .agg #[.slice qo' q.gh.length qc', .slice vo' q.vs.length vc', .slice tto' q.ts.length tc', .slice oo' q.on.length oc', .int .i64 q.miss, .slice co' q.cd.length cc']] W fun e W' => e = .returned (.bool false) ∧ Below W.heap.size W W' := by
  have n0 : ((p.gh.length : Int) != (q.gh.length : Int)) = false := by rw [h0]; simp
  have n1 : ((p.vs.length : Int) != (q.vs.length : Int)) = false := by rw [h1]; simp
  have n2 : ((p.ts.length : Int) != (q.ts.length : Int)) = false := by rw [h2]; simp
  have n3 : ((p.on.length : Int) != (q.on.length : Int)) = false := by rw [h3]; simp
  have n4 : ((p.cd.length : Int) != (q.cd.length : Int)) = false := by rw [h4]; simp
  have n5 : (p.miss != q.miss) = true := by rw [bne_iff_ne]; exact h5
  clear h0 h1 h2 h3 h4 h5
  have HB := show Hid _ from two_prg W #[.slice qo p.gh.length qc, .slice vo p.vs.length vc, .slice tto p.ts.length tc, .slice oo p.on.length oc, .int .i64 p.miss, .slice co p.cd.length cc] #[.slice qo' q.gh.length qc', .slice vo' q.vs.length vc', .slice tto' q.ts.length tc', .slice oo' q.on.length oc', .int .i64 q.miss, .slice co' q.cd.length cc']
  obtain ⟨c0, c1, c2, c3, c4, c5⟩ := cells6 HB.out.2.1
  obtain ⟨d0, d1, d2, d3, d4, d5⟩ := cells6 HB.out.2.2
  go_enter Tryd.func11, Tryd.ntmps11
  go_wp2_with fail
  go_ret
  exact ⟨rfl, HB.out.1⟩
set_option maxHeartbeats 25600000 in
set_option maxRecDepth 100000 in
theorem rsame_l (qo vo tto oo co qo' vo' tto' oo' co' : Option Addr) (qc vc tc oc cc qc' vc' tc' oc' cc' : Nat) (p q : Pg) (W : World) (hg : q.gh.length = p.gh.length) (hv : q.vs.length = p.vs.length) (ht : q.ts.length = p.ts.length) (ho : q.on.length = p.on.length) (hc : q.cd.length = p.cd.length) (hm : q.miss = p.miss) (hP : IsPg W ⟨qo, qc, vo, vc, tto, tc, oo, oc, co, cc⟩ p) (hQ : IsPg W ⟨qo', qc', vo', vc', tto', tc', oo', oc', co', cc'⟩ q) :
    Calls Tryd.prog 11 #[.agg #[.slice qo p.gh.length qc, .slice vo p.vs.length vc, .slice tto p.ts.length tc, .slice oo p.on.length oc, .int .i64 p.miss, .slice co p.cd.length cc], .agg #[.slice qo' p.gh.length qc', .slice vo' p.vs.length vc', .slice tto' p.ts.length tc', .slice oo' p.on.length oc', .int .i64 p.miss, .slice co' p.cd.length cc']] W fun e W' => e = .returned (.bool (samB p q)) ∧ Below W.heap.size W W' := by
  have HB := show Hid _ from two_prg W #[.slice qo p.gh.length qc, .slice vo p.vs.length vc, .slice tto p.ts.length tc, .slice oo p.on.length oc, .int .i64 p.miss, .slice co p.cd.length cc] #[.slice qo' p.gh.length qc', .slice vo' p.vs.length vc', .slice tto' p.ts.length tc', .slice oo' p.on.length oc', .int .i64 p.miss, .slice co' p.cd.length cc']
  have HP0 : Hid (IsPg ((W.alloc (.cells #[.slice qo p.gh.length qc, .slice vo p.vs.length vc, .slice tto p.ts.length tc, .slice oo p.on.length oc, .int .i64 p.miss, .slice co p.cd.length cc] 29)).alloc (.cells #[.slice qo' p.gh.length qc', .slice vo' p.vs.length vc', .slice tto' p.ts.length tc', .slice oo' p.on.length oc', .int .i64 p.miss, .slice co' p.cd.length cc'] 29)) ⟨qo, qc, vo, vc, tto, tc, oo, oc, co, cc⟩ p ∧ IsPg ((W.alloc (.cells #[.slice qo p.gh.length qc, .slice vo p.vs.length vc, .slice tto p.ts.length tc, .slice oo p.on.length oc, .int .i64 p.miss, .slice co p.cd.length cc] 29)).alloc (.cells #[.slice qo' p.gh.length qc', .slice vo' p.vs.length vc', .slice tto' p.ts.length tc', .slice oo' p.on.length oc', .int .i64 p.miss, .slice co' p.cd.length cc'] 29)) ⟨qo', qc', vo', vc', tto', tc', oo', oc', co', cc'⟩ q) := ⟨hP.below HB.out.1, hQ.below HB.out.1⟩
  have b0 : (p.gh.length : Int) ≤ 1000000000000000 := by have := hP.lgh; omega
  have e0 : ((p.gh.length : Int) != (p.gh.length : Int)) = false := by simp
  have b1 : (p.vs.length : Int) ≤ 1000000000000000 := by have := hP.lvs; omega
  have e1 : ((p.vs.length : Int) != (p.vs.length : Int)) = false := by simp
  have b2 : (p.ts.length : Int) ≤ 1000000000000000 := by have := hP.lts; omega
  have e2 : ((p.ts.length : Int) != (p.ts.length : Int)) = false := by simp
  have b3 : (p.on.length : Int) ≤ 1000000000000000 := by have := hP.lon; omega
  have e3 : ((p.on.length : Int) != (p.on.length : Int)) = false := by simp
  have b4 : (p.cd.length : Int) ≤ 1000000000000000 := by have := hP.lcd; omega
  have e4 : ((p.cd.length : Int) != (p.cd.length : Int)) = false := by simp
  have e5 : (p.miss != p.miss) = false := by simp
  have HLn : Hid (q.gh.length = p.gh.length ∧ q.vs.length = p.vs.length ∧ q.ts.length = p.ts.length ∧ q.on.length = p.on.length ∧ q.cd.length = p.cd.length ∧ q.miss = p.miss) := ⟨hg, hv, ht, ho, hc, hm⟩
  clear hP hQ hg hv ht ho hc hm
  go_enter Tryd.func11, Tryd.ntmps11
  go_upto_region 1 with fail
  generalize ((W.alloc (.cells #[.slice qo p.gh.length qc, .slice vo p.vs.length vc, .slice tto p.ts.length tc, .slice oo p.on.length oc, .int .i64 p.miss, .slice co p.cd.length cc] 29)).alloc (.cells #[.slice qo' p.gh.length qc', .slice vo' p.vs.length vc', .slice tto' p.ts.length tc', .slice oo' p.on.length oc', .int .i64 p.miss, .slice co' p.cd.length cc'] 29)) = W0 at *
  have HX : Hid (∀ X, Below W0.heap.size W0 X → X.heap[W.heap.size]? = some (.cells #[.slice qo p.gh.length qc, .slice vo p.vs.length vc, .slice tto p.ts.length tc, .slice oo p.on.length oc, .int .i64 p.miss, .slice co p.cd.length cc] 29 (0, 0)) ∧ X.heap[W.heap.size + 1]? = some (.cells #[.slice qo' p.gh.length qc', .slice vo' p.vs.length vc', .slice tto' p.ts.length tc', .slice oo' p.on.length oc', .int .i64 p.miss, .slice co' p.cd.length cc'] 29 (0, 0))) := fun X hX => ⟨(hX.block _ (blk_lt HB.out.2.1)).trans HB.out.2.1, (hX.block _ (blk_lt HB.out.2.2)).trans HB.out.2.2⟩
  obtain ⟨c0, c1, c2, c3, c4, c5⟩ := cells6 HB.out.2.1
  obtain ⟨d0, d1, d2, d3, d4, d5⟩ := cells6 HB.out.2.2
  go_wp2_with fail
  clear c0 c1 c2 c3 c4 c5 d0 d1 d2 d3 d4 d5 e0 e1 e2 e3 e4 e5
  have HE0 : Hid (Below W0.heap.size W0 W0) := Below.refl _ _
  go_loopg [5] p.gh.length (fun gq x wr => ∃ k : Nat, k + gq = p.gh.length ∧ x = .int .i64 (k : Int) ∧ Below W0.heap.size W0 wr ∧ p.gh.take k = q.gh.take k)
  case atStart => exact ⟨0, by omega, rfl, HE0.out, rfl⟩
  case round =>
    obtain ⟨k, hkg, rfl, hbw, htk⟩ := hrel
    have HG : Hid (k + gk = p.gh.length ∧ Below W0.heap.size W0 wr ∧ p.gh.take k = q.gh.take k) := ⟨hkg, hbw, htk⟩
    obtain ⟨i0, i1, i2, i3, i4, i5⟩ := cells6 (HX.out wr hbw).1
    obtain ⟨j0, j1, j2, j3, j4, j5⟩ := cells6 (HX.out wr hbw).2
    by_cases hlt : k < p.gh.length
    · have hk' : (k : Int) < (p.gh.length : Int) := by omega
      have hk2 : (k : Int) ≤ 1000000000000000 := by omega
      have hltm : k < q.gh.length := by have := HLn.out.1; omega
      have HLt : Hid (k < p.gh.length ∧ (p.gh[k] = q.gh[k] → p.gh.take (k + 1) = q.gh.take (k + 1)) ∧ (p.gh[k] ≠ q.gh[k] → samB p q = false)) := ⟨hlt, fun e => take_next htk hlt hltm e, fun e => samB_no fun e' => ne_of_at hlt hltm e (by rw [e'])⟩
      obtain ⟨g, o, hzd, _, d0⟩ := rd_bool (Vf.Rd.below HP0.out.1.gh hbw) hlt
      obtain rfl : qo = some ⟨g, o, none⟩ := hzd
      obtain ⟨g', o', hze, _, e0⟩ := rd_bool (Vf.Rd.below HP0.out.2.gh hbw) hltm
      obtain rfl : qo' = some ⟨g', o', none⟩ := hze
      generalize p.gh[k] = x at *
      generalize q.gh[k] = y at *
      clear hkg hlt hbw htk hltm
      by_cases hxy : x = y
      · have HEQ : Hid (k < p.gh.length ∧ p.gh.take (k + 1) = q.gh.take (k + 1)) := ⟨HLt.out.1, HLt.out.2.1 hxy⟩
        subst hxy
        clear HLt
        go_wp2_with fail
        go_quiet (fail)
        go_wp2_with fail
        go_roundg (p.gh.length - (k + 1))
        case measure => have := HG.out.1; have := HEQ.out.1; omega
        case rel => exact ⟨k + 1, by have := HEQ.out.1; omega, by go_num, HG.out.2.1.trans ((Nm.below_drewN _ _).mono HG.out.2.1.size), HEQ.out.2⟩
      · have HNE : Hid (samB p q = false) := HLt.out.2.2 hxy
        clear HLt
        have hxy2 : (x == y) = false := by rw [beq_eq_false_iff_ne]; exact hxy
        clear hxy
        go_wp2_with fail
        go_quiet (fail)
        go_wp2_with fail
        go_ret
        exact ⟨by rw [HNE.out]; rfl, HB.out.1.trans ((HG.out.2.1.trans ((Nm.below_drewN _ _).mono HG.out.2.1.size)).mono HB.out.1.size)⟩
    · have hk' : ¬ (k : Int) < (p.gh.length : Int) := by omega
      have HD0 : Hid (p.gh = q.gh) := by
        have hkl : k = p.gh.length := by omega
        subst hkl
        rw [List.take_length] at htk
        rw [← HLn.out.1, List.take_length] at htk
        exact htk
      have HE1 : Hid (Below W0.heap.size W0 wr) := hbw
      clear hkg hlt hbw htk HG
      go_wp2_with fail
      clear i0 i1 i2 i3 i4 i5 j0 j1 j2 j3 j4 j5 hk'
      go_loopg [6] p.vs.length (fun gq x wr => ∃ k : Nat, k + gq = p.vs.length ∧ x = .int .i64 (k : Int) ∧ Below W0.heap.size W0 wr ∧ p.vs.take k = q.vs.take k)
      case atStart => exact ⟨0, by omega, rfl, HE1.out, rfl⟩
      case round =>
        obtain ⟨k, hkg, rfl, hbw, htk⟩ := hrel
        have HG : Hid (k + gk = p.vs.length ∧ Below W0.heap.size W0 wr ∧ p.vs.take k = q.vs.take k) := ⟨hkg, hbw, htk⟩
        obtain ⟨i0, i1, i2, i3, i4, i5⟩ := cells6 (HX.out wr hbw).1
        obtain ⟨j0, j1, j2, j3, j4, j5⟩ := cells6 (HX.out wr hbw).2
        by_cases hlt : k < p.vs.length
        · have hk' : (k : Int) < (p.vs.length : Int) := by omega
          have hk2 : (k : Int) ≤ 1000000000000000 := by omega
          have hltm : k < q.vs.length := by have := HLn.out.2.1; omega
          have HLt : Hid (k < p.vs.length ∧ (p.vs[k] = q.vs[k] → p.vs.take (k + 1) = q.vs.take (k + 1)) ∧ (p.vs[k] ≠ q.vs[k] → samB p q = false)) := ⟨hlt, fun e => take_next htk hlt hltm e, fun e => samB_no fun e' => ne_of_at hlt hltm e (by rw [e'])⟩
          obtain ⟨qd0, qd1, qd2⟩ := Vf.vC_at hlt
          obtain ⟨g, o, hzd, _, d0⟩ := (Vf.Rd.below HP0.out.1.vs hbw) _ _ qd0
          obtain rfl : vo = some ⟨g, o, none⟩ := hzd
          obtain ⟨g'', o'', h', _, d1⟩ := (Vf.Rd.below HP0.out.1.vs hbw) _ _ qd1
          cases h'
          obtain ⟨g'', o'', h', _, d2⟩ := (Vf.Rd.below HP0.out.1.vs hbw) _ _ qd2
          cases h'
          rw [← Nat.add_assoc] at d1 d2
          clear qd0 qd1 qd2
          obtain ⟨qe0, qe1, qe2⟩ := Vf.vC_at hltm
          obtain ⟨g', o', hze, _, e0⟩ := (Vf.Rd.below HP0.out.2.vs hbw) _ _ qe0
          obtain rfl : vo' = some ⟨g', o', none⟩ := hze
          obtain ⟨g'', o'', h', _, e1⟩ := (Vf.Rd.below HP0.out.2.vs hbw) _ _ qe1
          cases h'
          obtain ⟨g'', o'', h', _, e2⟩ := (Vf.Rd.below HP0.out.2.vs hbw) _ _ qe2
          cases h'
          rw [← Nat.add_assoc] at e1 e2
          clear qe0 qe1 qe2
          generalize p.vs[k] = x at *
          generalize q.vs[k] = y at *
          clear hkg hlt hbw htk hltm
          by_cases hxy : x = y
          · have HEQ : Hid (k < p.vs.length ∧ p.vs.take (k + 1) = q.vs.take (k + 1)) := ⟨HLt.out.1, HLt.out.2.1 hxy⟩
            subst hxy
            obtain ⟨x0, x1, x2⟩ := x
            dsimp only at *
            clear HLt
            go_wp2_with fail
            go_quiet (fail)
            go_wp2_with fail
            go_roundg (p.vs.length - (k + 1))
            case measure => have := HG.out.1; have := HEQ.out.1; omega
            case rel => exact ⟨k + 1, by have := HEQ.out.1; omega, by go_num, HG.out.2.1.trans ((Nm.below_drewN _ _).mono HG.out.2.1.size), HEQ.out.2⟩
          · have HNE : Hid (samB p q = false) := HLt.out.2.2 hxy
            clear HLt
            have hq : ∀ u : World, (binOp BinOp.neq 60 (.agg #[.int .i64 x.1, .int .i64 x.2.1, .int .i64 x.2.2]) (.agg #[.int .i64 y.1, .int .i64 y.2.1, .int .i64 y.2.2])).run Tryd.prog u = .ok (.bool true) u := fun u => neq_var hxy u
            clear hxy
            obtain ⟨x0, x1, x2⟩ := x
            obtain ⟨y0, y1, y2⟩ := y
            dsimp only at *
            go_wp2_with fail
            go_quiet (fail)
            go_wp2_with fail
            go_ret
            exact ⟨by rw [HNE.out]; rfl, HB.out.1.trans ((HG.out.2.1.trans ((Nm.below_drewN _ _).mono HG.out.2.1.size)).mono HB.out.1.size)⟩
        · have hk' : ¬ (k : Int) < (p.vs.length : Int) := by omega
          have HD1 : Hid (p.vs = q.vs) := by
            have hkl : k = p.vs.length := by omega
            subst hkl
            rw [List.take_length] at htk
            rw [← HLn.out.2.1, List.take_length] at htk
            exact htk
          have HE2 : Hid (Below W0.heap.size W0 wr) := hbw
          clear hkg hlt hbw htk HG
          go_wp2_with fail
          clear i0 i1 i2 i3 i4 i5 j0 j1 j2 j3 j4 j5 hk'
          go_loopg [7] p.ts.length (fun gq x wr => ∃ k : Nat, k + gq = p.ts.length ∧ x = .int .i64 (k : Int) ∧ Below W0.heap.size W0 wr ∧ p.ts.take k = q.ts.take k)
          case atStart => exact ⟨0, by omega, rfl, HE2.out, rfl⟩
          case round =>
            obtain ⟨k, hkg, rfl, hbw, htk⟩ := hrel
            have HG : Hid (k + gk = p.ts.length ∧ Below W0.heap.size W0 wr ∧ p.ts.take k = q.ts.take k) := ⟨hkg, hbw, htk⟩
            obtain ⟨i0, i1, i2, i3, i4, i5⟩ := cells6 (HX.out wr hbw).1
            obtain ⟨j0, j1, j2, j3, j4, j5⟩ := cells6 (HX.out wr hbw).2
            by_cases hlt : k < p.ts.length
            · have hk' : (k : Int) < (p.ts.length : Int) := by omega
              have hk2 : (k : Int) ≤ 1000000000000000 := by omega
              have hltm : k < q.ts.length := by have := HLn.out.2.2.1; omega
              have HLt : Hid (k < p.ts.length ∧ (p.ts[k] = q.ts[k] → p.ts.take (k + 1) = q.ts.take (k + 1)) ∧ (p.ts[k] ≠ q.ts[k] → samB p q = false)) := ⟨hlt, fun e => take_next htk hlt hltm e, fun e => samB_no fun e' => ne_of_at hlt hltm e (by rw [e'])⟩
              obtain ⟨g, o, hzd, _, d0⟩ := rd_int (Vf.Rd.below HP0.out.1.ts hbw) hlt
              obtain rfl : tto = some ⟨g, o, none⟩ := hzd
              obtain ⟨g', o', hze, _, e0⟩ := rd_int (Vf.Rd.below HP0.out.2.ts hbw) hltm
              obtain rfl : tto' = some ⟨g', o', none⟩ := hze
              generalize p.ts[k] = x at *
              generalize q.ts[k] = y at *
              clear hkg hlt hbw htk hltm
              by_cases hxy : x = y
              · have HEQ : Hid (k < p.ts.length ∧ p.ts.take (k + 1) = q.ts.take (k + 1)) := ⟨HLt.out.1, HLt.out.2.1 hxy⟩
                subst hxy
                clear HLt
                go_wp2_with fail
                go_quiet (fail)
                go_wp2_with fail
                go_roundg (p.ts.length - (k + 1))
                case measure => have := HG.out.1; have := HEQ.out.1; omega
                case rel => exact ⟨k + 1, by have := HEQ.out.1; omega, by go_num, HG.out.2.1.trans ((Nm.below_drewN _ _).mono HG.out.2.1.size), HEQ.out.2⟩
              · have HNE : Hid (samB p q = false) := HLt.out.2.2 hxy
                clear HLt
                have hxy2 : (x == y) = false := by rw [beq_eq_false_iff_ne]; exact hxy
                clear hxy
                go_wp2_with fail
                go_quiet (fail)
                go_wp2_with fail
                go_ret
                exact ⟨by rw [HNE.out]; rfl, HB.out.1.trans ((HG.out.2.1.trans ((Nm.below_drewN _ _).mono HG.out.2.1.size)).mono HB.out.1.size)⟩
            · have hk' : ¬ (k : Int) < (p.ts.length : Int) := by omega
              have HD2 : Hid (p.ts = q.ts) := by
                have hkl : k = p.ts.length := by omega
                subst hkl
                rw [List.take_length] at htk
                rw [← HLn.out.2.2.1, List.take_length] at htk
                exact htk
              have HE3 : Hid (Below W0.heap.size W0 wr) := hbw
              clear hkg hlt hbw htk HG
              go_wp2_with fail
              clear i0 i1 i2 i3 i4 i5 j0 j1 j2 j3 j4 j5 hk'
              go_loopg [8] p.on.length (fun gq x wr => ∃ k : Nat, k + gq = p.on.length ∧ x = .int .i64 (k : Int) ∧ Below W0.heap.size W0 wr ∧ p.on.take k = q.on.take k)
              case atStart => exact ⟨0, by omega, rfl, HE3.out, rfl⟩
              case round =>
                obtain ⟨k, hkg, rfl, hbw, htk⟩ := hrel
                have HG : Hid (k + gk = p.on.length ∧ Below W0.heap.size W0 wr ∧ p.on.take k = q.on.take k) := ⟨hkg, hbw, htk⟩
                obtain ⟨i0, i1, i2, i3, i4, i5⟩ := cells6 (HX.out wr hbw).1
                obtain ⟨j0, j1, j2, j3, j4, j5⟩ := cells6 (HX.out wr hbw).2
                by_cases hlt : k < p.on.length
                · have hk' : (k : Int) < (p.on.length : Int) := by omega
                  have hk2 : (k : Int) ≤ 1000000000000000 := by omega
                  have hltm : k < q.on.length := by have := HLn.out.2.2.2.1; omega
                  have HLt : Hid (k < p.on.length ∧ (p.on[k] = q.on[k] → p.on.take (k + 1) = q.on.take (k + 1)) ∧ (p.on[k] ≠ q.on[k] → samB p q = false)) := ⟨hlt, fun e => take_next htk hlt hltm e, fun e => samB_no fun e' => ne_of_at hlt hltm e (by rw [e'])⟩
                  obtain ⟨g, o, hzd, _, d0⟩ := rd_int (Vf.Rd.below HP0.out.1.on hbw) hlt
                  obtain rfl : oo = some ⟨g, o, none⟩ := hzd
                  obtain ⟨g', o', hze, _, e0⟩ := rd_int (Vf.Rd.below HP0.out.2.on hbw) hltm
                  obtain rfl : oo' = some ⟨g', o', none⟩ := hze
                  generalize p.on[k] = x at *
                  generalize q.on[k] = y at *
                  clear hkg hlt hbw htk hltm
                  by_cases hxy : x = y
                  · have HEQ : Hid (k < p.on.length ∧ p.on.take (k + 1) = q.on.take (k + 1)) := ⟨HLt.out.1, HLt.out.2.1 hxy⟩
                    subst hxy
                    clear HLt
                    go_wp2_with fail
                    go_quiet (fail)
                    go_wp2_with fail
                    go_roundg (p.on.length - (k + 1))
                    case measure => have := HG.out.1; have := HEQ.out.1; omega
                    case rel => exact ⟨k + 1, by have := HEQ.out.1; omega, by go_num, HG.out.2.1.trans ((Nm.below_drewN _ _).mono HG.out.2.1.size), HEQ.out.2⟩
                  · have HNE : Hid (samB p q = false) := HLt.out.2.2 hxy
                    clear HLt
                    have hxy2 : (x == y) = false := by rw [beq_eq_false_iff_ne]; exact hxy
                    clear hxy
                    go_wp2_with fail
                    go_quiet (fail)
                    go_wp2_with fail
                    go_ret
                    exact ⟨by rw [HNE.out]; rfl, HB.out.1.trans ((HG.out.2.1.trans ((Nm.below_drewN _ _).mono HG.out.2.1.size)).mono HB.out.1.size)⟩
                · have hk' : ¬ (k : Int) < (p.on.length : Int) := by omega
                  have HD3 : Hid (p.on = q.on) := by
                    have hkl : k = p.on.length := by omega
                    subst hkl
                    rw [List.take_length] at htk
                    rw [← HLn.out.2.2.2.1, List.take_length] at htk
                    exact htk
                  have HE4 : Hid (Below W0.heap.size W0 wr) := hbw
                  clear hkg hlt hbw htk HG
                  go_wp2_with fail
                  clear i0 i1 i2 i3 i4 i5 j0 j1 j2 j3 j4 j5 hk'
                  go_loopg [9] p.cd.length (fun gq x wr => ∃ k : Nat, k + gq = p.cd.length ∧ x = .int .i64 (k : Int) ∧ Below W0.heap.size W0 wr ∧ p.cd.take k = q.cd.take k)
                  case atStart => exact ⟨0, by omega, rfl, HE4.out, rfl⟩
                  case round =>
                    obtain ⟨k, hkg, rfl, hbw, htk⟩ := hrel
                    have HG : Hid (k + gk = p.cd.length ∧ Below W0.heap.size W0 wr ∧ p.cd.take k = q.cd.take k) := ⟨hkg, hbw, htk⟩
                    obtain ⟨i0, i1, i2, i3, i4, i5⟩ := cells6 (HX.out wr hbw).1
                    obtain ⟨j0, j1, j2, j3, j4, j5⟩ := cells6 (HX.out wr hbw).2
                    by_cases hlt : k < p.cd.length
                    · have hk' : (k : Int) < (p.cd.length : Int) := by omega
                      have hk2 : (k : Int) ≤ 1000000000000000 := by omega
                      have hltm : k < q.cd.length := by have := HLn.out.2.2.2.2.1; omega
                      have HLt : Hid (k < p.cd.length ∧ (p.cd[k] = q.cd[k] → p.cd.take (k + 1) = q.cd.take (k + 1)) ∧ (p.cd[k] ≠ q.cd[k] → samB p q = false)) := ⟨hlt, fun e => take_next htk hlt hltm e, fun e => samB_no fun e' => ne_of_at hlt hltm e (by rw [e'])⟩
                      obtain ⟨qd0, qd1, qd2, qd3, qd4⟩ := Vf.cC_at hlt
                      obtain ⟨g, o, hzd, _, d0⟩ := (Vf.Rd.below HP0.out.1.cd hbw) _ _ qd0
                      obtain rfl : co = some ⟨g, o, none⟩ := hzd
                      obtain ⟨g'', o'', h', _, d1⟩ := (Vf.Rd.below HP0.out.1.cd hbw) _ _ qd1
                      cases h'
                      obtain ⟨g'', o'', h', _, d2⟩ := (Vf.Rd.below HP0.out.1.cd hbw) _ _ qd2
                      cases h'
                      obtain ⟨g'', o'', h', _, d3⟩ := (Vf.Rd.below HP0.out.1.cd hbw) _ _ qd3
                      cases h'
                      obtain ⟨g'', o'', h', _, d4⟩ := (Vf.Rd.below HP0.out.1.cd hbw) _ _ qd4
                      cases h'
                      rw [← Nat.add_assoc] at d1 d2 d3 d4
                      clear qd0 qd1 qd2 qd3 qd4
                      obtain ⟨qe0, qe1, qe2, qe3, qe4⟩ := Vf.cC_at hltm
                      obtain ⟨g', o', hze, _, e0⟩ := (Vf.Rd.below HP0.out.2.cd hbw) _ _ qe0
                      obtain rfl : co' = some ⟨g', o', none⟩ := hze
                      obtain ⟨g'', o'', h', _, e1⟩ := (Vf.Rd.below HP0.out.2.cd hbw) _ _ qe1
                      cases h'
                      obtain ⟨g'', o'', h', _, e2⟩ := (Vf.Rd.below HP0.out.2.cd hbw) _ _ qe2
                      cases h'
                      obtain ⟨g'', o'', h', _, e3⟩ := (Vf.Rd.below HP0.out.2.cd hbw) _ _ qe3
                      cases h'
                      obtain ⟨g'', o'', h', _, e4⟩ := (Vf.Rd.below HP0.out.2.cd hbw) _ _ qe4
                      cases h'
                      rw [← Nat.add_assoc] at e1 e2 e3 e4
                      clear qe0 qe1 qe2 qe3 qe4
                      generalize p.cd[k] = x at *
                      generalize q.cd[k] = y at *
                      clear hkg hlt hbw htk hltm
                      by_cases hxy : x = y
                      · have HEQ : Hid (k < p.cd.length ∧ p.cd.take (k + 1) = q.cd.take (k + 1)) := ⟨HLt.out.1, HLt.out.2.1 hxy⟩
                        subst hxy
                        obtain ⟨x0, x1, x2, x3, x4⟩ := x
                        dsimp only at *
                        clear HLt
                        go_wp2_with fail
                        go_quiet (fail)
                        go_wp2_with fail
                        go_roundg (p.cd.length - (k + 1))
                        case measure => have := HG.out.1; have := HEQ.out.1; omega
                        case rel => exact ⟨k + 1, by have := HEQ.out.1; omega, by go_num, HG.out.2.1.trans ((Nm.below_drewN _ _).mono HG.out.2.1.size), HEQ.out.2⟩
                      · have HNE : Hid (samB p q = false) := HLt.out.2.2 hxy
                        clear HLt
                        have hq : ∀ u : World, (binOp BinOp.neq 64 (.agg #[.int .i64 x.op, .int .i64 x.a, .int .i64 x.b, .int .i64 x.c, .int .i64 x.d]) (.agg #[.int .i64 y.op, .int .i64 y.a, .int .i64 y.b, .int .i64 y.c, .int .i64 y.d])).run Tryd.prog u = .ok (.bool true) u := fun u => neq_ins hxy u
                        clear hxy
                        obtain ⟨x0, x1, x2, x3, x4⟩ := x
                        obtain ⟨y0, y1, y2, y3, y4⟩ := y
                        dsimp only at *
                        go_wp2_with fail
                        go_quiet (fail)
                        go_wp2_with fail
                        go_ret
                        exact ⟨by rw [HNE.out]; rfl, HB.out.1.trans ((HG.out.2.1.trans ((Nm.below_drewN _ _).mono HG.out.2.1.size)).mono HB.out.1.size)⟩
                    · have hk' : ¬ (k : Int) < (p.cd.length : Int) := by omega
                      have HD4 : Hid (p.cd = q.cd) := by
                        have hkl : k = p.cd.length := by omega
                        subst hkl
                        rw [List.take_length] at htk
                        rw [← HLn.out.2.2.2.2.1, List.take_length] at htk
                        exact htk
                      have HE5 : Hid (Below W0.heap.size W0 wr) := hbw
                      clear hkg hlt hbw htk HG
                      go_wp2_with fail
                      clear i0 i1 i2 i3 i4 i5 j0 j1 j2 j3 j4 j5 hk'
                      go_ret
                      refine ⟨?_, HB.out.1.trans (HE5.out.mono HB.out.1.size)⟩
                      rw [(samB_iff p q).2 (by
                        cases p
                        cases q
                        have h0 := HD0.out
                        have h1 := HD1.out
                        have h2 := HD2.out
                        have h3 := HD3.out
                        have h4 := HD4.out
                        have h5 := HLn.out.2.2.2.2.2
                        dsimp only at h0 h1 h2 h3 h4 h5
                        subst h0 h1 h2 h3 h4 h5
                        rfl)]
                      rfl
/-- the reference's Same -/
theorem rsame_any (v u : PV) (p q : Pg) (W : World) (hP : IsPg W v p) (hQ : IsPg W u q) : Calls Tryd.prog 11 #[.agg (pvC v p), .agg (pvC u q)] W fun e W' => e = .returned (.bool (samB p q)) ∧ Below W.heap.size W W' := by
  obtain ⟨qo, qc, vo, vc, tto, tc, oo, oc, co, cc⟩ := v
  obtain ⟨qo', qc', vo', vc', tto', tc', oo', oc', co', cc'⟩ := u
  by_cases h0 : p.gh.length = q.gh.length
  case neg => rw [samB_no fun e => h0 (by rw [e])]; exact rsame_n0 _ _ _ _ _ _ _ _ _ _ _ _ _ _ _ _ _ _ _ _ p q W h0
  by_cases h1 : p.vs.length = q.vs.length
  case neg => rw [samB_no fun e => h1 (by rw [e])]; exact rsame_n1 _ _ _ _ _ _ _ _ _ _ _ _ _ _ _ _ _ _ _ _ p q W h0 h1
  by_cases h2 : p.ts.length = q.ts.length
  case neg => rw [samB_no fun e => h2 (by rw [e])]; exact rsame_n2 _ _ _ _ _ _ _ _ _ _ _ _ _ _ _ _ _ _ _ _ p q W h0 h1 h2
  by_cases h3 : p.on.length = q.on.length
  case neg => rw [samB_no fun e => h3 (by rw [e])]; exact rsame_n3 _ _ _ _ _ _ _ _ _ _ _ _ _ _ _ _ _ _ _ _ p q W h0 h1 h2 h3
  by_cases h4 : p.cd.length = q.cd.length
  case neg => rw [samB_no fun e => h4 (by rw [e])]; exact rsame_n4 _ _ _ _ _ _ _ _ _ _ _ _ _ _ _ _ _ _ _ _ p q W h0 h1 h2 h3 h4
  by_cases h5 : p.miss = q.miss
  case neg => rw [samB_no fun e => h5 (by rw [e])]; exact rsame_n5 _ _ _ _ _ _ _ _ _ _ _ _ _ _ _ _ _ _ _ _ p q W h0 h1 h2 h3 h4 h5
  have key := rsame_l qo vo tto oo co qo' vo' tto' oo' co' qc vc tc oc cc qc' vc' tc' oc' cc' p q W h0.symm h1.symm h2.symm h3.symm h4.symm h5.symm hP hQ
  show Calls _ _ #[_, .agg #[.slice qo' q.gh.length qc', .slice vo' q.vs.length vc', .slice tto' q.ts.length tc', .slice oo' q.on.length oc', .int .i64 q.miss, .slice co' q.cd.length cc']] _ _
  rw [← h0, ← h1, ← h2, ← h3, ← h4, ← h5]
  exact key
end Go.Proofs.YtcblichnkakhdaaDoor.Cd
