import Derived.Test.YtkekmmomdhdegaaJxFace
namespace Go.Proofs.Ytkekmmomdhdegaa.Ij
open Go.RowKit Go.Proofs.Ytkekmmomdhdegaa.Ix

/-- what at tells of a place -/
def atv (o : Lo) (t : Tb El) (x : Nat) : Value := match t x with
  | none => .pointer none
  | some _ => .pointer (some ⟨(o.ps (x / 32)).getD 0, x % 32 * 3, none⟩)
section
variable {w : World} {g : Nat} {o : Lo} {b most count n : Nat} {t : Tb El}

set_option maxHeartbeats 1600000 in
theorem at_any (h : Mem w g o b most count t) {x : Nat} (hx : x < 8388608) : Calls Try.prog 59 #[.pointer (some ⟨g, 0, none⟩), I x] w fun e w' => e = .returned (atv o t x) ∧ w' = w := by
  obtain ⟨a0, _⟩ := h.cellsX
  have q1 : wrap64 ((x : Int) / 32) = ((x / 32 : Nat) : Int) := by unfold wrap64; omega
  have q2 : wrap64 ((x : Int) % 32) = ((x % 32 : Nat) : Int) := by unfold wrap64; omega
  have q5 : (0 : Int) ≤ ((x / 32 : Nat) : Int) := by omega
  have q6 : (0 : Int) ≤ ((x % 32 : Nat) : Int) := by omega
  have q7 : ((x % 32 : Nat) : Int) < 32 := by omega
  by_cases hk : x / 32 < o.np
  · obtain ⟨e1, e2, _⟩ := h.page hk
    rw [e1] at a0
    have q3 : ((x / 32 : Nat) : Int) < (o.np : Int) := by omega
    have q8 : decide ((o.np : Int) ≤ ((x / 32 : Nat) : Int)) = false := by simp; omega
    cases hp : o.ps (x / 32) with
    | none =>
      have h0 := h.no _ hp (x % 32) (by omega)
      rw [show x / 32 * 32 + x % 32 = x by omega] at h0
      rw [hp] at e2
      unfold ptr at e2
      unfold atv
      rw [h0]
      clear h hk e1 hp h0
      go_enter Try.func59, Try.ntmps59
      go_wp2
      go_ret
      exact ⟨rfl, rfl⟩
    | some p =>
      rw [hp] at e2
      unfold ptr at e2
      obtain ⟨k, v, c, s1, s2, s3, s4, s5⟩ := h.slot hp
      unfold atv
      rw [s4, hp]
      cases c with
      | false =>
        simp only [Bool.false_eq_true, if_false]
        clear h hk e1 hp s4 s5
        go_enter Try.func59, Try.ntmps59
        go_wp2
        go_ret
        exact ⟨rfl, rfl⟩
      | true =>
        simp only [if_true, Option.getD_some]
        clear h hk e1 hp s4 s5
        go_enter Try.func59, Try.ntmps59
        go_wp2
        go_ret
        exact ⟨rfl, rfl⟩
  · have hp : o.ps (x / 32) = none := by
      cases hp : o.ps (x / 32) with
      | none => rfl
      | some p => exact absurd (h.pp _ _ hp).1 hk
    have h0 := h.no _ hp (x % 32) (by omega)
    rw [show x / 32 * 32 + x % 32 = x by omega] at h0
    unfold atv
    rw [h0]
    dsimp only
    by_cases h1 : o.np = 0
    · rw [Lo.pv_nil h1] at a0
      have q8 : decide ((0 : Int) ≤ ((x / 32 : Nat) : Int)) = true := decide_eq_true (by omega)
      clear h hk hp h0 h1
      go_enter Try.func59, Try.ntmps59
      go_wp2
      go_ret
      exact ⟨rfl, rfl⟩
    · obtain ⟨e1, _, _⟩ := h.page (k := 0) (by omega)
      rw [e1] at a0
      have q8 : (o.np : Int) ≤ ((x / 32 : Nat) : Int) := by omega
      have q9 : ¬ ((x / 32 : Nat) : Int) < (o.np : Int) := by omega
      clear h hk e1 hp h0 h1
      go_enter Try.func59, Try.ntmps59
      go_wp2
      go_ret
      exact ⟨rfl, rfl⟩
end

theorem atv_none {o : Lo} {t : Tb El} {x : Nat} (h : t x = none) : atv o t x = .pointer none := by unfold atv; rw [h]
theorem atv_some {o : Lo} {t : Tb El} {x : Nat} {e : Nat × El} {p : Nat} (h : t x = some e) (hp : o.ps (x / 32) = some p) : atv o t x = .pointer (some ⟨p, x % 32 * 3, none⟩) := by unfold atv; rw [h, hp]; rfl
/-- the way of a search -/
theorem find_way {a : Ix El} (hk : Ok a) (k : Nat) : ∃ h F, hm a.b k = h ∧ h < a.n ∧ F < a.n ∧ a.find k = pl a.n h F ∧ (∀ i, i < F → ∃ e, a.t (pl a.n h i) = some e ∧ e.1 ≠ k) ∧ (a.t (pl a.n h F) = none ∨ ∃ e, a.t (pl a.n h F) = some e ∧ e.1 = k) := by
  refine ⟨_, fi a.t a.n (hm a.b k) k, rfl, hk.hm_lt k, fi_lt (hk.hm_lt k) hk.hole, rfl, fun i hi => ?_, hk.find_stops k⟩
  have hb := fi_before hi
  unfold stp at hb
  cases he : a.t (pl a.n (hm a.b k) i) with
  | none => rw [he] at hb; cases hb
  | some e =>
    rw [he] at hb
    exact ⟨e, rfl, by simpa using hb⟩
set_option maxHeartbeats 1600000 in
theorem find_any {w : World} {g : Nat} {o : Lo} {a : Ix El} (h : IsIx w g o a) (k : Nat) : Calls Try.prog 40 #[.pointer (some ⟨g, 0, none⟩), U k] w fun e w' => e = .returned (.tuple #[I (a.find k : Nat), atv o a.t (a.find k)]) ∧ w' = w := by
  obtain ⟨hm, hk⟩ := h
  have hn := Ix.n_le hk.b
  have hH := home_any hm hk.b k
  have HA : Hid (∀ x, x < a.n → Calls Try.prog 59 #[.pointer (some ⟨g, 0, none⟩), I x] w fun e w' => e = .returned (atv o a.t x) ∧ w' = w) := fun x hx => at_any hm (by omega)
  have HN : Hid (∀ x, x < a.n → Calls Try.prog 60 #[.pointer (some ⟨g, 0, none⟩), I x] w fun e w' => e = .returned (I (nx a.n x : Nat)) ∧ w' = w) := fun x hx => after_any hm hk.b rfl hx
  have HT : Hid (∀ x e, a.t x = some e → ∃ p, o.ps (x / 32) = some p ∧ w.cell? ⟨p, x % 32 * 3, none⟩ = some (U e.1)) := fun x e he => by
    obtain ⟨p, h1, h2, _⟩ := hm.taken he
    exact ⟨p, h1, h2⟩
  obtain ⟨h, F, eh, hh, hF, ef, w1, w2⟩ := find_way hk k
  rw [eh] at hH
  rw [ef]
  clear hm hk eh ef
  obtain ⟨b, most, count, t⟩ := a
  generalize Ix.n ⟨b, most, count, t⟩ = n at *
  dsimp only at *
  have HH := show Hid _ from hH
  have W1 := show Hid _ from w1
  have W2 := show Hid _ from w2
  have hF8 : (F : Int) ≤ 8388608 := by omega
  clear hH w1 w2
  go_enter Try.func40, Try.ntmps40
  go_wp2_with fail
  refine Calls.mono HH.out ?_
  rintro e w1 ⟨rfl, rfl⟩
  go_wp2_with fail
  refine Calls.mono (HA.out _ hh) ?_
  rintro e w1 ⟨rfl, rfl⟩
  go_wp2_with fail
  go_loopg [6, 7] F (fun r vi vs wr => ∃ i : Nat, i + r = F ∧ vi = I (pl n h i : Nat) ∧ vs = atv o t (pl n h i) ∧ wr = w1)
  case atStart => exact ⟨0, by omega, by rw [pl_zero hh], by rw [pl_zero hh], rfl⟩
  case round =>
    obtain ⟨i, hi, rfl, rfl, rfl⟩ := hrel
    have hin : i < n := by omega
    have hpl := pl_lt hh hin
    by_cases hlt : i < F
    · obtain ⟨e, he, hne⟩ := W1.out i hlt
      have hne : ((e.1 : Int) != (k : Int)) = true := by simp; omega
      obtain ⟨p, hp, c1⟩ := HT.out _ _ he
      rw [atv_some he hp]
      clear hp he
      go_wp2_with fail
      refine Calls.mono (HN.out _ hpl) ?_
      rintro e w2 ⟨rfl, rfl⟩
      rw [nx_pl hh (by omega)]
      go_wp2_with fail
      refine Calls.mono (HA.out _ (pl_lt hh (by omega))) ?_
      rintro e w2 ⟨rfl, rfl⟩
      go_wp2
      go_roundg (gk - 1)
      case measure => omega
      case rel => exact ⟨i + 1, by omega, rfl, rfl, rfl⟩
    · have : i = F := by omega
      subst this
      rcases W2.out with he | ⟨e, he, hek⟩
      · have E1 : Hid (atv o t (pl n h i) = .pointer none) := atv_none he
        rw [atv_none he]
        clear he
        go_wp2
        go_ret2
        exact ⟨by rw [E1.out]; rfl, rfl⟩
      · obtain ⟨p, hp, c1⟩ := HT.out _ _ he
        have hne : ((e.1 : Int) != (k : Int)) = false := by simp; omega
        have E1 : Hid (atv o t (pl n h i) = .pointer (some ⟨p, pl n h i % 32 * 3, none⟩)) := atv_some he hp
        rw [atv_some he hp]
        clear hp he
        go_wp2
        go_ret2
        exact ⟨by rw [E1.out]; rfl, rfl⟩
end Go.Proofs.Ytkekmmomdhdegaa.Ij
