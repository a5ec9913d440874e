import Derived.Test.YtkekmmomdhdegaaPureIx2
import Derived.Lib.BitFns
namespace Go.Proofs.Ytkekmmomdhdegaa.Ix

theorem bitLen_ub : ∀ (f x : Nat), x ≤ f → x < 2 ^ 64 → x < 2 ^ Lib.bitLen x ∧ (x ≠ 0 → 2 ^ Lib.bitLen x ≤ 2 * x)
  | f, x, hf, hx => by
    by_cases h0 : x = 0
    · subst h0
      exact ⟨by decide, fun h => absurd rfl h⟩
    · match f with
      | 0 => omega
      | f + 1 =>
        rw [Lib.bitLen_half x h0 hx]
        obtain ⟨h1, h2⟩ := bitLen_ub f (x / 2) (by omega) (by omega)
        rw [Nat.pow_add, Nat.pow_one]
        refine ⟨by omega, fun _ => ?_⟩
        by_cases h3 : x / 2 = 0
        · rw [h3] at h1 ⊢
          have : Lib.bitLen 0 = 0 := by decide
          rw [this]
          omega
        · have := h2 h3
          omega
/-- how often the places are doubled -/
def dbl (m : Nat) : Nat := Lib.bitLen (max m 1 - 1)
theorem dbl_le {m : Nat} (h : m ≤ 4194304) : dbl m ≤ 22 := Lib.bitLen_le _ 22 (by omega) (by omega)
theorem dbl_ub {m : Nat} (h : m ≤ 4194304) : m ≤ 2 ^ dbl m := by
  have := (bitLen_ub _ (max m 1 - 1) (Nat.le_refl _) (by omega)).1
  unfold dbl
  omega
theorem dbl_lb {m i : Nat} (h : m ≤ 4194304) (hi : i < dbl m) : 2 ^ i < m := by
  by_cases h0 : max m 1 - 1 = 0
  · unfold dbl at hi
    rw [h0] at hi
    have : Lib.bitLen 0 = 0 := by decide
    omega
  · have h1 := (bitLen_ub _ (max m 1 - 1) (Nat.le_refl _) (by omega)).2 h0
    have h2 : 2 ^ (i + 1) ≤ 2 ^ Lib.bitLen (max m 1 - 1) := Nat.pow_le_pow_right (by omega) hi
    rw [Nat.pow_succ] at h2
    omega
end Go.Proofs.Ytkekmmomdhdegaa.Ix
