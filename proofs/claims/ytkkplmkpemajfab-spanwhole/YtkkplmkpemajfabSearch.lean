import Derived.Test.YtkkplmkpemajfabBase
namespace Go.Proofs.Ytkkplmkpemajfab.Sp
open Go.RowKit

theorem nan1 (x : Int) (w : World) : Calls Try.prog 38 #[.int .i64 x] w fun e w' => e = .returned (.bool false) ∧ w' = w := by
  go_enter Try.func38, Try.ntmps38
  go_wp2
  go_ret
  exact ⟨by simp, rfl⟩
theorem nan2 (x : Int) (w : World) : Calls Try.prog 33 #[.int .i64 x] w fun e w' => e = .returned (.bool false) ∧ w' = w := by
  go_enter Try.func33, Try.ntmps33
  go_wp2
  go_ret
  exact ⟨by simp, rfl⟩
theorem less_any (x y : Int) (w : World) : Calls Try.prog 32 #[.int .i64 x, .int .i64 y] w fun e w' => e = .returned (.bool (decide (x < y))) ∧ w' = w := by
  go_enter Try.func32, Try.ntmps32
  go_wp2_with (go_at_call 38; refine (nan1 _ _).mono ?_; rintro e w' ⟨rfl, rfl⟩)
  go_ret
  exact ⟨rfl, rfl⟩

set_option maxHeartbeats 800000 in
theorem search_any (ao : Option Addr) (n c k : Nat) (z : Nat → Nat) (x : Int) (w : World) (hn : n ≤ 2097152) (hk : k ≤ n) (hc : ∀ i, i < n → ∃ g, ao = some ⟨g, 0, none⟩ ∧ w.cell? ⟨g, i, none⟩ = some (.int .i64 (z i : Nat)))
    (h1 : ∀ i, i < k → (z i : Int) < x) (h2 : ∀ i, k ≤ i → i < n → x ≤ (z i : Int)) :
    Calls Try.prog 22 #[.slice ao n c, .int .i64 x] w fun e w' => (∃ fb : Value, e = .returned (.tuple #[.int .i64 k, fb])) ∧ w' = w := by
  have HC : Hid (∀ i, i < n → ∃ g, ao = some ⟨g, 0, none⟩ ∧ w.cell? ⟨g, i, none⟩ = some (.int .i64 (z i : Nat))) := hc
  have H1 : Hid (∀ i, i < k → (z i : Int) < x) := h1
  have H2 : Hid (∀ i, k ≤ i → i < n → x ≤ (z i : Int)) := h2
  clear hc h1 h2
  go_enter Try.func22, Try.ntmps22
  go_wp2
  go_loop [7, 8] (fun i j => ∃ lo hi : Nat, i = .int .i64 lo ∧ j = .int .i64 hi ∧ lo ≤ k ∧ k ≤ hi ∧ hi ≤ n) (fun i j => (intOf j - intOf i).toNat)
  case atStart => exact ⟨0, n, rfl, rfl, by omega, by omega, by omega⟩
  case round =>
    obtain ⟨lo, hi, rfl, rfl, hlo, hhi, hin⟩ := hrel
    by_cases hlt : lo < hi
    · obtain ⟨g, rfl, cm⟩ := HC.out ((lo + hi) / 2) (by omega)
      have hm : (lo + hi) / 2 < n := by omega
      by_cases hy : (lo + hi) / 2 < k
      · have hyx := H1.out _ hy
        generalize z ((lo + hi) / 2) = y at *
        go_wp2_with (go_at_call 32; refine (less_any _ _ _).mono ?_; rintro e w' ⟨rfl, rfl⟩)
        go_round
        case rel => exact ⟨(lo + hi) / 2 + 1, hi, by go_num, rfl, by omega, hhi, hin⟩
        case measure => simp [intOf]; omega
      · have hyx := H2.out _ (by omega) hm
        generalize z ((lo + hi) / 2) = y at *
        have hdy : decide ((y : Int) < x) = false := by simp; omega
        go_wp2_with (go_at_call 32; refine (less_any _ _ _).mono ?_; rintro e w' ⟨rfl, rfl⟩)
        go_round
        case rel => exact ⟨lo, (lo + hi) / 2, rfl, by go_num, hlo, by omega, by omega⟩
        case measure => simp [intOf]; omega
    · have hkk : k = lo := by omega
      have hh : hi = lo := by omega
      subst hh hkk
      by_cases hkn : k < n
      · obtain ⟨g, rfl, cm⟩ := HC.out k hkn
        generalize z k = y at *
        have hkn' : (k : Int) < (n : Int) := by omega
        by_cases hy : (y : Int) = x
        · have hq : ((y : Int) == x) = true := by simp [hy]
          clear hy
          go_wp2_with (go_at_call 33; refine (nan2 _ _).mono ?_; rintro e w' ⟨rfl, rfl⟩)
          go_ret2
          exact ⟨⟨_, rfl⟩, rfl⟩
        · have hq : ((y : Int) == x) = false := by simp [hy]
          clear hy
          go_wp2_with (go_at_call 33; refine (nan2 _ _).mono ?_; rintro e w' ⟨rfl, rfl⟩)
          go_ret2
          exact ⟨⟨_, rfl⟩, rfl⟩
      · have hd : decide ((k : Int) < (n : Int)) = false := by simp; omega
        go_wp2_with (go_at_call 33; refine (nan2 _ _).mono ?_; rintro e w' ⟨rfl, rfl⟩)
        go_ret2
        exact ⟨⟨_, rfl⟩, rfl⟩
end Go.Proofs.Ytkkplmkpemajfab.Sp
