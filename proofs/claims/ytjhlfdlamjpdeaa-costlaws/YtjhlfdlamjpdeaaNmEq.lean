import Derived.Test.YtjhlfdlamjpdeaaNmRes0
namespace Go.Proofs.Ytjhlfdlamjpdeaa.Nm
open Go.RowKit Go.Maps Go.Proofs.Ytjhlfdlamjpdeaa.Sp Go.Proofs.Ytjhlfdlamjpdeaa.Lx Go.Proofs.Ytjhlfdlamjpdeaa.Gr

/-- cells that can be read -/
def IsVals (w : World) (ao : Option Addr) (xs : List Value) : Prop := ∀ (k : Nat) (x : Value), xs[k]? = some x → ∃ g o, ao = some ⟨g, o, none⟩ ∧ g < w.heap.size ∧ w.cell? ⟨g, o + k, none⟩ = some x
theorem IsVals.below {w w' : World} {ao : Option Addr} {xs : List Value} (h : IsVals w ao xs) (hb : Below w.heap.size w w') : IsVals w' ao xs := fun k x hx => by
  obtain ⟨g, o, e, hg, hc⟩ := h k x hx
  exact ⟨g, o, e, Nat.lt_of_lt_of_le hg hb.size, (hb.cell (p := ⟨g, o + k, none⟩) hg).trans hc⟩
theorem vals_of {w : World} {base n c sz m : Nat} {T : TypeId} {ao : Option Addr} {xs : List Value} (h : w.ownsRow base T sz (.slice ao n c) m xs) : IsVals w ao xs := by
  intro k x hx
  have hc := h
  rcases h.2 with ⟨_, hz⟩ | ⟨g, cap, cur, e, h3, h4, _⟩
  · have h1 := h.1
    rw [hz, Nat.zero_mul] at h1
    have := (List.getElem?_eq_some_iff.1 hx).1
    omega
  · cases e
    refine ⟨g, 0, rfl, blk_lt h4, ?_⟩
    have := hc.cells (g := g) rfl k x hx
    rw [Lib.addr_add] at this
    exact this
set_option maxHeartbeats 3200000 in
set_option maxRecDepth 100000 in
/-- two lists of the same rows -/
theorem eqRows {w : World} {ao bo : Option Addr} {l : List Rz} {ca cb : Nat} (ha : IsRz w ao l) (hb : IsRz w bo l) (hn : l.length ≤ 2932031007317) :
    Calls Try.prog 40 #[.slice ao l.length ca, .slice bo l.length cb] w fun e w' => e = .returned (.bool true) ∧ Below w.heap.size w w' := by
  have HA := show Hid _ from ha
  have HB := show Hid _ from hb
  have hn2 : (l.length : Int) ≤ 2932031007317 := by omega
  have hne : ((l.length : Int) != (l.length : Int)) = false := by simp
  clear ha hb
  go_enter Try.func40, Try.ntmps40
  go_wp2_with fail
  go_loopg [13] l.length (fun gq x wr => ∃ k : Nat, k + gq = l.length ∧ x = .int .i64 (k : Int) ∧ Below w.heap.size w wr)
  case atStart => exact ⟨0, by omega, rfl, Below.refl _ _⟩
  case round =>
    obtain ⟨k, hkg, rfl, hbw⟩ := hrel
    have HG : Hid (k + gk = l.length ∧ Below w.heap.size w wr) := ⟨hkg, hbw⟩
    by_cases hlt : k < l.length
    · have hk' : (k : Int) < (l.length : Int) := by omega
      have hk2 : (k : Int) ≤ 2932031007317 := by omega
      obtain ⟨g, o, rfl, hg, d0, d1, d2, d3, d4⟩ := (IsRz.below HA.out hbw) k _ (some_rat hlt)
      obtain ⟨g', o', rfl, hg', e0, e1, e2, e3, e4⟩ := (IsRz.below HB.out hbw) k _ (some_rat hlt)
      generalize rat l k = x at *
      obtain ⟨kd, nm, st, n, ks⟩ := x
      dsimp only at *
      clear hg hg'
      have HLt : Hid (k < l.length) := hlt
      clear hkg hlt hbw
      go_wp2_with fail
      go_quiet (fail)
      go_wp2_with fail
      go_roundg (l.length - (k + 1))
      case measure => have := HG.out.1; have := HLt.out; omega
      case rel => exact ⟨k + 1, by have := HLt.out; omega, by go_num, HG.out.2.trans ((below_drewN _ _).mono HG.out.2.size)⟩
    · have hk' : decide (k < l.length) = false := decide_eq_false hlt
      clear hkg hlt hbw
      go_wp2
      go_ret
      exact ⟨rfl, HG.out.2⟩
set_option maxHeartbeats 3200000 in
set_option maxRecDepth 100000 in
/-- two lists of the same texts -/
theorem eqStrs {w : World} {ao bo : Option Addr} {l : List ByteArray} {ca cb : Nat} (ha : IsVals w ao (l.map Value.string)) (hb : IsVals w bo (l.map Value.string)) (hn : l.length ≤ 2932031007317) :
    Calls Try.prog 42 #[.slice ao l.length ca, .slice bo l.length cb] w fun e w' => e = .returned (.bool true) ∧ Below w.heap.size w w' := by
  have HA := show Hid _ from ha
  have HB := show Hid _ from hb
  have hn2 : (l.length : Int) ≤ 2932031007317 := by omega
  have hne : ((l.length : Int) != (l.length : Int)) = false := by simp
  clear ha hb
  go_enter Try.func42, Try.ntmps42
  go_wp2_with fail
  go_loopg [13] l.length (fun gq x wr => ∃ k : Nat, k + gq = l.length ∧ x = .int .i64 (k : Int) ∧ Below w.heap.size w wr)
  case atStart => exact ⟨0, by omega, rfl, Below.refl _ _⟩
  case round =>
    obtain ⟨k, hkg, rfl, hbw⟩ := hrel
    have HG : Hid (k + gk = l.length ∧ Below w.heap.size w wr) := ⟨hkg, hbw⟩
    by_cases hlt : k < l.length
    · have hk' : (k : Int) < (l.length : Int) := by omega
      have hk2 : (k : Int) ≤ 2932031007317 := by omega
      have hx : (l.map Value.string)[k]? = some (.string l[k]) := by rw [List.getElem?_map, List.getElem?_eq_getElem hlt]; rfl
      obtain ⟨g, o, rfl, hg, d0⟩ := (IsVals.below HA.out hbw) k _ hx
      obtain ⟨g', o', rfl, hg', e0⟩ := (IsVals.below HB.out hbw) k _ hx
      clear hx
      generalize l[k] = x at *
      clear hg hg'
      have HLt : Hid (k < l.length) := hlt
      clear hkg hlt hbw
      go_wp2_with fail
      go_quiet (fail)
      go_wp2_with fail
      go_roundg (l.length - (k + 1))
      case measure => have := HG.out.1; have := HLt.out; omega
      case rel => exact ⟨k + 1, by have := HLt.out; omega, by go_num, HG.out.2.trans ((below_drewN _ _).mono HG.out.2.size)⟩
    · have hk' : decide (k < l.length) = false := decide_eq_false hlt
      clear hkg hlt hbw
      go_wp2
      go_ret
      exact ⟨rfl, HG.out.2⟩
set_option maxHeartbeats 3200000 in
set_option maxRecDepth 100000 in
/-- two lists of the same numbers -/
theorem eqInts {w : World} {ao bo : Option Addr} {l : List Int} {ca cb : Nat} (ha : IsVals w ao (iv l)) (hb : IsVals w bo (iv l)) (hn : l.length ≤ 2932031007317) :
    Calls Try.prog 43 #[.slice ao l.length ca, .slice bo l.length cb] w fun e w' => e = .returned (.bool true) ∧ Below w.heap.size w w' := by
  have HA := show Hid _ from ha
  have HB := show Hid _ from hb
  have hn2 : (l.length : Int) ≤ 2932031007317 := by omega
  have hne : ((l.length : Int) != (l.length : Int)) = false := by simp
  clear ha hb
  go_enter Try.func43, Try.ntmps43
  go_wp2_with fail
  go_loopg [13] l.length (fun gq x wr => ∃ k : Nat, k + gq = l.length ∧ x = .int .i64 (k : Int) ∧ Below w.heap.size w wr)
  case atStart => exact ⟨0, by omega, rfl, Below.refl _ _⟩
  case round =>
    obtain ⟨k, hkg, rfl, hbw⟩ := hrel
    have HG : Hid (k + gk = l.length ∧ Below w.heap.size w wr) := ⟨hkg, hbw⟩
    by_cases hlt : k < l.length
    · have hk' : (k : Int) < (l.length : Int) := by omega
      have hk2 : (k : Int) ≤ 2932031007317 := by omega
      have hx : (iv l)[k]? = some (.int .i64 l[k]) := by rw [List.getElem?_map, List.getElem?_eq_getElem hlt]; rfl
      obtain ⟨g, o, rfl, hg, d0⟩ := (IsVals.below HA.out hbw) k _ hx
      obtain ⟨g', o', rfl, hg', e0⟩ := (IsVals.below HB.out hbw) k _ hx
      clear hx
      generalize l[k] = x at *
      have hxx : (x != x) = false := by simp
      clear hg hg'
      have HLt : Hid (k < l.length) := hlt
      clear hkg hlt hbw
      go_wp2_with fail
      go_quiet (fail)
      go_wp2_with fail
      go_roundg (l.length - (k + 1))
      case measure => have := HG.out.1; have := HLt.out; omega
      case rel => exact ⟨k + 1, by have := HLt.out; omega, by go_num, HG.out.2.trans ((below_drewN _ _).mono HG.out.2.size)⟩
    · have hk' : decide (k < l.length) = false := decide_eq_false hlt
      clear hkg hlt hbw
      go_wp2
      go_ret
      exact ⟨rfl, HG.out.2⟩
theorem qF_at (l : List (ByteArray × Bool)) (k : Nat) (hk : k < l.length) : (qF l)[k * 2]? = some (.string l[k].1) ∧ (qF l)[k * 2 + 1]? = some (.bool l[k].2) := by
  induction l generalizing k with
  | nil => simp at hk
  | cons x l ih =>
    cases k with
    | zero => exact ⟨rfl, rfl⟩
    | succ k =>
      have := ih k (by simpa using hk)
      have e : qF (x :: l) = .string x.1 :: .bool x.2 :: qF l := rfl
      rw [e, show (k + 1) * 2 = k * 2 + 1 + 1 by omega]
      exact ⟨by simpa using this.1, by simpa using this.2⟩
set_option maxHeartbeats 3200000 in
set_option maxRecDepth 100000 in
/-- two lists of the same queues -/
theorem eqQs {w : World} {ao bo : Option Addr} {l : List (ByteArray × Bool)} {ca cb : Nat} (ha : IsVals w ao (qF l)) (hb : IsVals w bo (qF l)) (hn : l.length ≤ 2932031007317) :
    Calls Try.prog 41 #[.slice ao l.length ca, .slice bo l.length cb] w fun e w' => e = .returned (.bool true) ∧ Below w.heap.size w w' := by
  have HA := show Hid _ from ha
  have HB := show Hid _ from hb
  have hn2 : (l.length : Int) ≤ 2932031007317 := by omega
  have hne : ((l.length : Int) != (l.length : Int)) = false := by simp
  clear ha hb
  go_enter Try.func41, Try.ntmps41
  go_wp2_with fail
  go_loopg [13] l.length (fun gq x wr => ∃ k : Nat, k + gq = l.length ∧ x = .int .i64 (k : Int) ∧ Below w.heap.size w wr)
  case atStart => exact ⟨0, by omega, rfl, Below.refl _ _⟩
  case round =>
    obtain ⟨k, hkg, rfl, hbw⟩ := hrel
    have HG : Hid (k + gk = l.length ∧ Below w.heap.size w wr) := ⟨hkg, hbw⟩
    by_cases hlt : k < l.length
    · have hk' : (k : Int) < (l.length : Int) := by omega
      have hk2 : (k : Int) ≤ 2932031007317 := by omega
      obtain ⟨hx, hy⟩ := qF_at l k hlt
      obtain ⟨g, o, rfl, hg, d0⟩ := (IsVals.below HA.out hbw) _ _ hx
      obtain ⟨g', o', rfl, hg', e0⟩ := (IsVals.below HB.out hbw) _ _ hx
      obtain ⟨g2, o2, he2, _, d1⟩ := (IsVals.below HA.out hbw) _ _ hy
      cases he2
      obtain ⟨g3, o3, he3, _, e1⟩ := (IsVals.below HB.out hbw) _ _ hy
      cases he3
      rw [← Nat.add_assoc] at d1 e1
      clear hx hy
      generalize l[k] = x at *
      obtain ⟨x1, x2⟩ := x
      dsimp only at *
      clear hg hg'
      have HLt : Hid (k < l.length) := hlt
      clear hkg hlt hbw
      go_wp2_with fail
      go_quiet (fail)
      go_wp2_with fail
      go_roundg (l.length - (k + 1))
      case measure => have := HG.out.1; have := HLt.out; omega
      case rel => exact ⟨k + 1, by have := HLt.out; omega, by go_num, HG.out.2.trans ((below_drewN _ _).mono HG.out.2.size)⟩
    · have hk' : decide (k < l.length) = false := decide_eq_false hlt
      clear hkg hlt hbw
      go_wp2
      go_ret
      exact ⟨rfl, HG.out.2⟩
end Go.Proofs.Ytjhlfdlamjpdeaa.Nm
