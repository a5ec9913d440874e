import Derived.Test.YtenhjebiokegkaaLxBase
namespace Go.Proofs.Ytenhjebiokegkaa.Lx
open Go.RowKit Go.Proofs.Ytenhjebiokegkaa.Sp

theorem beginsWord_any (c : Nat) (w : World) : Calls Try.prog 68 #[.int .u8 c] w fun e w' => e = .returned (.bool (isL c)) ∧ w' = w := by
  have HF : Hid (isL c = ((decide (97 ≤ c) && decide (c ≤ 122)) || (decide (65 ≤ c) && decide (c ≤ 90)) || c == 95)) := rfl
  by_cases h1 : 97 ≤ c
  · by_cases h2 : c ≤ 122
    · go_enter Try.func68, Try.ntmps68
      go_wp2
      go_ret
      exact ⟨ret_b (by rw [HF.out]; simp [h1, h2]), rfl⟩
    · have h3 : ((c : Int) == 95) = false := by simp; omega
      go_enter Try.func68, Try.ntmps68
      go_wp2
      go_ret
      exact ⟨ret_b (by rw [HF.out, Bool.eq_iff_iff]; simp; omega), rfl⟩
  · by_cases h2 : 65 ≤ c
    · by_cases h3 : c ≤ 90
      · go_enter Try.func68, Try.ntmps68
        go_wp2
        go_ret
        exact ⟨ret_b (by rw [HF.out]; simp [h2, h3]), rfl⟩
      · go_enter Try.func68, Try.ntmps68
        go_wp2
        go_ret
        exact ⟨ret_b (by rw [HF.out, Bool.eq_iff_iff]; simp; omega), rfl⟩
    · have h3 : ((c : Int) == 95) = false := by simp; omega
      go_enter Try.func68, Try.ntmps68
      go_wp2
      go_ret
      exact ⟨ret_b (by rw [HF.out, Bool.eq_iff_iff]; simp; omega), rfl⟩

theorem isDigit_any (c : Nat) (w : World) : Calls Try.prog 71 #[.int .u8 c] w fun e w' => e = .returned (.bool (isD c)) ∧ w' = w := by
  have HF : Hid (isD c = (decide (48 ≤ c) && decide (c ≤ 57))) := rfl
  by_cases h1 : 48 ≤ c
  · go_enter Try.func71, Try.ntmps71
    go_wp2
    go_ret
    exact ⟨ret_b (by rw [HF.out, Bool.eq_iff_iff]; simp; omega), rfl⟩
  · go_enter Try.func71, Try.ntmps71
    go_wp2
    go_ret
    exact ⟨ret_b (by rw [HF.out]; simp [h1]), rfl⟩

theorem inWord_any (c : Nat) (w : World) : Calls Try.prog 70 #[.int .u8 c] w fun e w' => e = .returned (.bool (isW c)) ∧ w' = w := by
  have HF : Hid (isW c = (isL c || isD c)) := rfl
  by_cases h1 : isL c = true
  · go_enter Try.func70, Try.ntmps70
    go_wp2_with (first | (go_at_call 68; refine (beginsWord_any c _).mono ?_; rintro e w' ⟨rfl, rfl⟩) | (go_at_call 71; refine (isDigit_any c _).mono ?_; rintro e w' ⟨rfl, rfl⟩))
    go_ret
    exact ⟨ret_b (by rw [HF.out]; simp [h1]), rfl⟩
  · have h1 : isL c = false := by simpa using h1
    go_enter Try.func70, Try.ntmps70
    go_wp2_with (first | (go_at_call 68; refine (beginsWord_any c _).mono ?_; rintro e w' ⟨rfl, rfl⟩) | (go_at_call 71; refine (isDigit_any c _).mono ?_; rintro e w' ⟨rfl, rfl⟩))
    go_ret
    exact ⟨ret_b (by rw [HF.out]; simp [h1]), rfl⟩

end Go.Proofs.Ytenhjebiokegkaa.Lx
