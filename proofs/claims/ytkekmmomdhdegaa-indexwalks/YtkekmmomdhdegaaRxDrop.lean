import Derived.Test.YtkekmmomdhdegaaRxPut
import Derived.Deep.RegionLaw
namespace Go.Proofs.Ytkekmmomdhdegaa.Rx
open Go.RowKit Go.Proofs.Ytkekmmomdhdegaa.Ix Go.Proofs.Ytkekmmomdhdegaa.Ii

/-- behind, of places -/
def beh (i h k : Nat) : Bool := if i < k then decide (i < h) && decide (h ≤ k) else decide (i < h) || decide (h ≤ k)
theorem beh_mvs {n i h k : Nat} (hi : i < n) (hh : h < n) (hk : k < n) (hik : i ≠ k) : beh i h k = true ↔ ¬ mvs n i h k := by
  unfold beh mvs D
  by_cases h1 : i < k
  · rw [if_pos h1]
    simp only [Bool.and_eq_true, decide_eq_true_eq]
    repeat' split
    all_goals omega
  · rw [if_neg h1]
    simp only [Bool.or_eq_true, decide_eq_true_eq]
    repeat' split
    all_goals omega
set_option maxHeartbeats 1600000 in
theorem behind_any (i h k : Nat) (w : World) : Calls Try.prog 56 #[I i, I h, I k] w fun e w' => e = .returned (.bool (beh i h k)) ∧ w' = w := by
  unfold beh
  by_cases h1 : i < k
  · rw [if_pos h1]
    by_cases h2 : i < h
    · rw [decide_eq_true h2, Bool.true_and]
      go_enter Try.func56, Try.ntmps56
      go_wp2
      go_ret
      exact ⟨rfl, rfl⟩
    · have h2' : decide (i < h) = false := decide_eq_false h2
      rw [h2', Bool.false_and]
      go_enter Try.func56, Try.ntmps56
      go_wp2
      go_ret
      exact ⟨rfl, rfl⟩
  · have h1' : decide (i < k) = false := decide_eq_false h1
    rw [if_neg h1]
    by_cases h2 : i < h
    · rw [decide_eq_true h2, Bool.true_or]
      go_enter Try.func56, Try.ntmps56
      go_wp2
      go_ret
      exact ⟨rfl, rfl⟩
    · have h2' : decide (i < h) = false := decide_eq_false h2
      rw [h2', Bool.false_or]
      go_enter Try.func56, Try.ntmps56
      go_wp2
      go_ret
      exact ⟨rfl, rfl⟩
/-- the mending's state -/
structure Ds (w : World) (q : Ro) (b most len z : Nat) (R : Tb Int) (f : Nat) (t : Tb Int) (gap place : Nat) (S : Nat → Bool) (K : Nat → Nat) (V : Nat → Int) (w0 : World) : Prop where
  rr : Rr w q (2 * 2 ^ b) most (b + 1) len S K V
  tq : Tq (2 * 2 ^ b) t S K V
  v : Ix.V (2 * 2 ^ b) (hm b) t gap place
  z0 : t z = none
  zl : z < 2 * 2 ^ b
  zg : D (2 * 2 ^ b) gap place ≤ D (2 * 2 ^ b) gap z
  fl : D (2 * 2 ^ b) place z < f
  r : vac (2 * 2 ^ b) (hm b) f t gap place = R
  fr : Fr q.foot w0 w
section
variable {w w0 : World} {q : Ro} {b most len z f gap place : Nat} {R t : Tb Int} {S : Nat → Bool} {K : Nat → Nat} {V : Nat → Int}
theorem Ds.ne (h : Ds w q b most len z R f t gap place S K V w0) : place ≠ gap := by
  have := h.v.pg
  rintro rfl
  unfold D at this
  split at this <;> omega
theorem Ds.next (h : Ds w q b most len z R f t gap place S K V w0) {e : Nat × Int} (he : t place = some e) : (nx (2 * 2 ^ b) place < 2 * 2 ^ b) ∧ D (2 * 2 ^ b) (nx (2 * 2 ^ b) place) z < D (2 * 2 ^ b) place z := by
  have hp := h.v.p
  have hz := h.zl
  have hne : z ≠ place := by
    rintro rfl
    rw [h.z0] at he
    cases he
  refine ⟨nx_lt (by omega), ?_⟩
  generalize 2 * 2 ^ b = n at *
  unfold D nx
  repeat' split
  all_goals omega
theorem Ds.stop (h : Ds w q b most len z R f t gap place S K V w0) (h0 : t place = none) : Rm w q (2 * 2 ^ b) most (b + 1) len R ∧ Fr q.foot w0 w := by
  have hr := h.r
  have hf := h.fl
  cases f with
  | zero => omega
  | succ f =>
    unfold vac at hr
    rw [h0] at hr
    dsimp only at hr
    subst hr
    exact ⟨h.rr.rm h.tq, h.fr⟩
theorem Ds.stay (hb : b ≤ 22) (h : Ds w q b most len z R f t gap place S K V w0) {e : Nat × Int} (he : t place = some e) (hmv : ¬ mvs (2 * 2 ^ b) gap (hm b e.1) place) : ∃ f', Ds w q b most len z R f' t gap (nx (2 * 2 ^ b) place) S K V w0 := by
  obtain ⟨h1, h2, h3⟩ := h.v.more he h.zl h.z0 h.zg
  obtain ⟨n1, n2⟩ := h.next he
  have hf := h.fl
  have hr := h.r
  cases f with
  | zero => omega
  | succ f =>
    unfold vac at hr
    rw [he] at hr
    dsimp only at hr
    rw [if_neg hmv] at hr
    exact ⟨f, h.rr, h.tq, h.v.stay (fun k => hm_lt hb) he hmv h1, h.z0, h.zl, h2, by omega, hr, h.fr⟩
theorem Ds.move {w' : World} (hb : b ≤ 22) (h : Ds w q b most len z R f t gap place S K V w0) {e : Nat × Int} (he : t place = some e) (hmv : mvs (2 * 2 ^ b) gap (hm b e.1) place) (hrr : Rr w' q (2 * 2 ^ b) most (b + 1) len (un (un S gap true) place false) (un K gap e.1) (un V gap e.2)) (hfr : Fr q.foot w0 w') : ∃ f' t', Ds w' q b most len z R f' t' place (nx (2 * 2 ^ b) place) (un (un S gap true) place false) (un K gap e.1) (un V gap e.2) w0 := by
  obtain ⟨h1, h2, h3⟩ := h.v.more he h.zl h.z0 h.zg
  obtain ⟨n1, n2⟩ := h.next he
  have hf := h.fl
  have hr := h.r
  have hne := h.ne
  have hzg : z ≠ gap := by
    rintro rfl
    have := h.v.pg
    have := h.zg
    have e0 : D (2 * 2 ^ b) z z = 0 := by unfold D; split <;> omega
    omega
  have hpl := h.v.p
  have hgl := h.v.g
  have hzl := h.zl
  have hzz := h.zg
  cases f with
  | zero => omega
  | succ f =>
    unfold vac at hr
    rw [he] at hr
    dsimp only at hr
    rw [if_pos hmv] at hr
    refine ⟨f, up (up t gap (some e)) place none, hrr, (h.tq.fill gap e.1 e.2).clear place, h.v.move (fun k => hm_lt hb) he hmv h1, ?_, h.zl, ?_, by omega, hr, hfr⟩
    · rw [up_ne h3, up_ne hzg]; exact h.z0
    · generalize 2 * 2 ^ b = n at *
      unfold D nx at *
      repeat' split at h2
      all_goals repeat' split at hzz
      all_goals repeat' split at h1
      all_goals repeat' split
      all_goals omega
end
end Go.Proofs.Ytkekmmomdhdegaa.Rx
