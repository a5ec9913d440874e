import Derived.Test.YtgiilaaoeefpmaaGreatLxBase
namespace Go.Proofs.YtgiilaaoeefpmaaGreat.Lx
open Go.RowKit Go.Proofs.YtgiilaaoeefpmaaGreat.Sp

theorem beginsWord_any (c : Nat) (w : World) : Calls Tryz.prog 107 #[.int .u8 c] w fun e w' => e = .returned (.bool (isL c)) ∧ w' = w := by
  have HF : Hid (isL c = ((decide (97 ≤ c) && decide (c ≤ 122)) || (decide (65 ≤ c) && decide (c ≤ 90)) || c == 95)) := rfl
  by_cases h1 : 97 ≤ c
  · by_cases h2 : c ≤ 122
    · go_enter Tryz.func107, Tryz.ntmps107
      go_wp2
      go_ret
      exact ⟨ret_b (by rw [HF.out]; simp [h1, h2]), rfl⟩
    · have h3 : ((c : Int) == 95) = false := by simp; omega
      go_enter Tryz.func107, Tryz.ntmps107
      go_wp2
      go_ret
      exact ⟨ret_b (by rw [HF.out, Bool.eq_iff_iff]; simp; omega), rfl⟩
  · by_cases h2 : 65 ≤ c
    · by_cases h3 : c ≤ 90
      · go_enter Tryz.func107, Tryz.ntmps107
        go_wp2
        go_ret
        exact ⟨ret_b (by rw [HF.out]; simp [h2, h3]), rfl⟩
      · go_enter Tryz.func107, Tryz.ntmps107
        go_wp2
        go_ret
        exact ⟨ret_b (by rw [HF.out, Bool.eq_iff_iff]; simp; omega), rfl⟩
    · have h3 : ((c : Int) == 95) = false := by simp; omega
      go_enter Tryz.func107, Tryz.ntmps107
      go_wp2
      go_ret
      exact ⟨ret_b (by rw [HF.out, Bool.eq_iff_iff]; simp; omega), rfl⟩

theorem isDigit_any (c : Nat) (w : World) : Calls Tryz.prog 109 #[.int .u8 c] w fun e w' => e = .returned (.bool (isD c)) ∧ w' = w := by
  have HF : Hid (isD c = (decide (48 ≤ c) && decide (c ≤ 57))) := rfl
  by_cases h1 : 48 ≤ c
  · go_enter Tryz.func109, Tryz.ntmps109
    go_wp2
    go_ret
    exact ⟨ret_b (by rw [HF.out, Bool.eq_iff_iff]; simp; omega), rfl⟩
  · go_enter Tryz.func109, Tryz.ntmps109
    go_wp2
    go_ret
    exact ⟨ret_b (by rw [HF.out]; simp [h1]), rfl⟩

theorem inRemark_any (c : Nat) (w : World) : Calls Tryz.prog 115 #[.int .u8 c] w fun e w' => e = .returned (.bool (c != 10)) ∧ w' = w := by
  go_enter Tryz.func115, Tryz.ntmps115
  go_wp2
  go_ret
  exact ⟨ret_b (by rw [Bool.eq_iff_iff]; simp; omega), rfl⟩

theorem inWord_any (c : Nat) (w : World) : Calls Tryz.prog 130 #[.int .u8 c] w fun e w' => e = .returned (.bool (isW c)) ∧ w' = w := by
  have HF : Hid (isW c = (isL c || isD c)) := rfl
  by_cases h1 : isL c = true
  · go_enter Tryz.func130, Tryz.ntmps130
    go_wp2_with (first | (go_at_call 107; refine (beginsWord_any c _).mono ?_; rintro e w' ⟨rfl, rfl⟩) | (go_at_call 109; refine (isDigit_any c _).mono ?_; rintro e w' ⟨rfl, rfl⟩))
    go_ret
    exact ⟨ret_b (by rw [HF.out]; simp [h1]), rfl⟩
  · have h1 : isL c = false := by simpa using h1
    go_enter Tryz.func130, Tryz.ntmps130
    go_wp2_with (first | (go_at_call 107; refine (beginsWord_any c _).mono ?_; rintro e w' ⟨rfl, rfl⟩) | (go_at_call 109; refine (isDigit_any c _).mono ?_; rintro e w' ⟨rfl, rfl⟩))
    go_ret
    exact ⟨ret_b (by rw [HF.out]; simp [h1]), rfl⟩

/-- a sign by itself; two bytes that are one; a kept word -/
def s1 (c : Nat) : Bool := sign1.contains c
def s2 (c d : Nat) : Bool := sign2.contains [c, d]
theorem sign1_iff (c : Nat) : s1 c = decide (c = 123 ∨ c = 125 ∨ c = 40 ∨ c = 41 ∨ c = 59 ∨ c = 44 ∨ c = 61 ∨ c = 60 ∨ c = 62 ∨ c = 43 ∨ c = 45 ∨ c = 42 ∨ c = 47 ∨ c = 33) := by
  rw [Bool.eq_iff_iff]; simp [s1, sign1]
theorem isSingle_any (c : Nat) (w : World) : Calls Tryz.prog 134 #[.int .u8 c] w fun e w' => e = .returned (.bool (s1 c)) ∧ w' = w := by
  have HF := sign1_iff c
  generalize s1 c = z at *
  go_enter Tryz.func134, Tryz.ntmps134
  go_wp2
  all_goals go_ret
  all_goals refine ⟨ret_b ?_, rfl⟩
  all_goals simp only [beq_iff_eq, beq_eq_false_iff_ne, ne_eq] at *
  all_goals (first | (rw [HF]; symm; apply decide_eq_true; omega) | (rw [HF]; symm; apply decide_eq_false; omega))

theorem isS_iff (c : Nat) : isS c = decide (c = 9 ∨ c = 10 ∨ c = 13 ∨ c = 32 ∨ c = 35) := by
  rw [Bool.eq_iff_iff]; simp [isS, isB]; omega
theorem beginsBlank_any (c : Nat) (w : World) : Calls Tryz.prog 113 #[.int .u8 c] w fun e w' => e = .returned (.bool (isS c)) ∧ w' = w := by
  have HF := isS_iff c
  generalize isS c = z at *
  go_enter Tryz.func113, Tryz.ntmps113
  go_wp2
  all_goals go_ret
  all_goals refine ⟨ret_b ?_, rfl⟩
  all_goals simp only [beq_iff_eq, beq_eq_false_iff_ne, ne_eq] at *
  all_goals (first | (rw [HF]; symm; apply decide_eq_true; omega) | (rw [HF]; symm; apply decide_eq_false; omega))

/-- what begins a sign -/
def isG (c : Nat) : Bool := s1 c || c == 46 || c == 38 || c == 124
set_option maxHeartbeats 800000 in
theorem beginsSign_any (c : Nat) (w : World) : Calls Tryz.prog 111 #[.int .u8 c] w fun e w' => e = .returned (.bool (isG c)) ∧ w' = w := by
  have HF : Hid (isG c = (s1 c || c == 46 || c == 38 || c == 124)) := rfl
  by_cases h1 : s1 c = true
  · go_enter Tryz.func111, Tryz.ntmps111
    go_wp2_with (go_at_call 134; refine (isSingle_any c _).mono ?_; rintro e w' ⟨rfl, rfl⟩)
    go_ret
    exact ⟨ret_b (by rw [HF.out]; simp [h1]), rfl⟩
  · have h1 : s1 c = false := by simpa using h1
    by_cases h2 : c = 46
    · have h2' : ((c : Int) == 46) = true := by simp; omega
      have H2 : Hid (c = 46) := h2
      clear h2
      go_enter Tryz.func111, Tryz.ntmps111
      go_wp2_with (go_at_call 134; refine (isSingle_any c _).mono ?_; rintro e w' ⟨rfl, rfl⟩)
      go_ret
      exact ⟨ret_b (by rw [HF.out]; simp [H2.out]), rfl⟩
    · have h2' : ((c : Int) == 46) = false := by simp; omega
      by_cases h3 : c = 38
      · have h3' : ((c : Int) == 38) = true := by simp; omega
        have H3 : Hid (c = 38) := h3
        clear h3 h2
        go_enter Tryz.func111, Tryz.ntmps111
        go_wp2_with (go_at_call 134; refine (isSingle_any c _).mono ?_; rintro e w' ⟨rfl, rfl⟩)
        go_ret
        exact ⟨ret_b (by rw [HF.out]; simp [H3.out]), rfl⟩
      · have h3' : ((c : Int) == 38) = false := by simp; omega
        have H4 : Hid (isG c = ((c : Int) == 124)) := by
          show _ = _
          rw [HF.out, h1, Bool.eq_iff_iff]
          simp [h2, h3]
          omega
        clear h2 h3
        go_enter Tryz.func111, Tryz.ntmps111
        go_wp2_with (go_at_call 134; refine (isSingle_any c _).mono ?_; rintro e w' ⟨rfl, rfl⟩)
        go_ret
        exact ⟨ret_b H4.out.symm, rfl⟩

theorem sign2_iff (c d : Nat) : s2 c d = decide ((c = 46 ∧ d = 46) ∨ (c = 61 ∧ d = 61) ∨ (c = 33 ∧ d = 61) ∨ (c = 60 ∧ d = 61) ∨ (c = 62 ∧ d = 61) ∨ (c = 38 ∧ d = 38) ∨ (c = 124 ∧ d = 124)) := by
  rw [Bool.eq_iff_iff]; simp [s2, sign2]
theorem isPair_any (c d : Nat) (w : World) : Calls Tryz.prog 135 #[.int .u8 c, .int .u8 d] w fun e w' => e = .returned (.bool (s2 c d)) ∧ w' = w := by
  have HF := sign2_iff c d
  generalize s2 c d = z at *
  go_enter Tryz.func135, Tryz.ntmps135
  go_wp2
  all_goals go_ret
  all_goals refine ⟨ret_b ?_, rfl⟩
  all_goals simp only [beq_iff_eq, beq_eq_false_iff_ne, ne_eq] at *
  all_goals (rw [HF, Bool.eq_iff_iff])
  all_goals simp only [decide_eq_true_eq, beq_iff_eq, Bool.false_eq_true, false_iff]
  all_goals omega
end Go.Proofs.YtgiilaaoeefpmaaGreat.Lx
