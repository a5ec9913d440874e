import Derived.Test.YtelbakkgobkdaaaDoorVfInv
import Derived.Test.YtelbakkgobkdaaaDoorVfFuel
namespace Go.Proofs.YtelbakkgobkdaaaDoor.Vf
open Go.RowKit Go.Proofs.YtelbakkgobkdaaaDoor.Nm

theorem walk_steps {p : Pg} : ∀ (k i : Nat) (g g' : Nat → Option Sd), walkP p k i g = .ok g' → ∀ m, i ≤ m → m < i + k → ∃ g1 g2, stepP p g1 m = .ok g2
  | 0, _, _, _, _, m, h1, h2 => absurd h2 (by omega)
  | k + 1, i, g, g', h, m, h1, h2 => by
    cases hs : stepP p g i with
    | error e => simp [walkP, hs] at h
    | ok g1 =>
      simp only [walkP, hs] at h
      by_cases hm : m = i
      · subst hm
        exact ⟨g, g1, hs⟩
      · exact walk_steps k (i + 1) g1 g' h m (by omega) (by omega)
theorem step_next {p : Pg} {g g' : Nat → Option Sd} {i : Nat} (h : stepP p g i = .ok g') (h0 : (p.at i).op ≠ 0) (h27 : (p.at i).op ≠ 27) (h22 : (p.at i).op ≠ 22) : ((i : Int) + 1) ≠ (p.cd.length : Int) := by
  unfold stepP at h
  split at h
  · rename_i hl
    obtain ⟨s, hs⟩ := look_some_of hl
    rw [hs] at h
    dsimp only at h
    intro e
    have key : ∀ (s' : Sd) (l : List (Int × Sd)), giveW p.cd.length (((i : Int) + 1, s') :: l) g = .error 98 := fun s' l => by
      unfold giveW
      rw [if_pos e]
    unfold waysL at h
    simp only [h0, h27, h22, decide_false, Bool.or_self, Bool.false_eq_true, if_false] at h
    split at h
    · rw [key] at h; cases h
    · split at h
      · rw [key] at h; cases h
      · split at h
        · rw [key] at h; cases h
        · rw [key] at h; cases h
  · cases h
theorem step_turn {p : Pg} {g g' : Nat → Option Sd} {i : Nat} (h : stepP p g i = .ok g') (h24 : (p.at i).op = 24) : isTurn p ((i : Int) + 1) = true := by
  unfold stepP at h
  split at h
  · rename_i hl
    obtain ⟨s, hs⟩ := look_some_of hl
    obtain ⟨-, hg⟩ := look_fits hs hl
    unfold goB at hg
    dsimp only at hg
    rw [h24] at hg
    simpa using hg
  · cases h
theorem fuOk_of {p : Pg} {g g' : Nat → Option Sd} (h : walkP p p.cd.length 0 g = .ok g') (hk : ∀ i, i < p.cd.length → OkI p (p.at i)) : ∀ i, i < p.cd.length → FuOk p i := by
  have hn : ∀ i, i < p.cd.length → (p.at i).op ≠ 0 → (p.at i).op ≠ 27 → (p.at i).op ≠ 22 → i + 1 < p.cd.length := fun i hi h0 h1 h2 => by
    obtain ⟨g1, g2, hs⟩ := walk_steps _ _ _ _ h i (Nat.zero_le _) (by omega)
    have := step_next hs h0 h1 h2
    omega
  intro i hi
  refine ⟨fun e => (hk i hi).pa (by omega), fun e => ⟨hn i hi (by omega) (by omega) (by omega), (hk i hi).pa (by omega)⟩, fun e => ?_, hn i hi⟩
  obtain ⟨g1, g2, hs⟩ := walk_steps _ _ _ _ h i (Nat.zero_le _) (by omega)
  have ht := step_turn hs e
  unfold isTurn at ht
  simp only [Bool.and_eq_true, decide_eq_true_eq] at ht
  obtain ⟨t1, t2⟩ := ht
  rw [show ((i : Int) + 1).toNat = i + 1 by omega] at t2
  have hi1 : i + 1 < p.cd.length := by omega
  have hi2 := hn (i + 1) hi1 (by omega) (by omega) (by omega)
  obtain ⟨l1, l2⟩ := (hk i hi).la e
  exact ⟨hi2, l1, by omega, (hk (i + 1) hi1).pa (by omega)⟩
/-- what Check's word gives -/
theorem chk_of {p : Pg} (h : chk p = 0) : p.on.length ≤ 16 ∧ p.cd.length ≤ 262144 ∧ (∀ n ∈ evs p, -1 ≤ n ∧ n < (p.cd.length : Int)) ∧ ∀ i, i < p.cd.length → OkI p (p.at i) := by
  unfold chk at h
  split at h
  · rename_i hc
    simp only [Bool.and_eq_true] at hc
    obtain ⟨h1, h2⟩ := hc
    unfold tabF at h1
    unfold plcF at h2
    simp only [Bool.and_eq_true, decide_eq_true_eq, List.all_eq_true] at h1 h2
    have hpl : ∀ n, plcI p n = true → -1 ≤ n ∧ n < (p.cd.length : Int) := fun n hn => by
      unfold plcI at hn
      simpa using hn
    have hfe : ∀ (l : List Ins), firstE (insF p) l = 0 → ∀ x ∈ l, insF p x = 0 := by
      intro l
      induction l with
      | nil => intro _ x hx; cases hx
      | cons y l ih =>
        intro hf x hx
        have hf2 : (if insF p y = 0 then firstE (insF p) l else insF p y) = 0 := hf
        split at hf2
        · rename_i hy
          rcases List.mem_cons.1 hx with rfl | hx
          · exact hy
          · exact ih hf2 x hx
        · rename_i hy; exact absurd hf2 hy
    refine ⟨by rw [h2.1]; exact h1.1, h2.2.1, fun n hn => ?_, fun i hi => ?_⟩
    · unfold evs at hn
      rcases List.mem_append.1 hn with hn | hn
      · exact hpl n (h2.2.2.1 n hn)
      · rw [List.mem_singleton.1 hn]; exact hpl _ h2.2.2.2
    · rw [at_eq hi]
      exact okI_of (hfe p.cd h _ (List.getElem_mem hi))
  · cases h
end Go.Proofs.YtelbakkgobkdaaaDoor.Vf
