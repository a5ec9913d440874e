import Derived.Test.YtenhjebiokegkaaGrKind
namespace Go.Proofs.Ytenhjebiokegkaa.Gr
open Go.RowKit Go.Proofs.Ytenhjebiokegkaa.Sp Go.Proofs.Ytenhjebiokegkaa.Lx

def loose (p k d : Int) : Bool :=
  if ruleOf p = 7 then false else if ruleOf p = 6 ∨ ruleOf d ≠ ruleOf p then decide (ruleOf d < ruleOf p) else (k == 1 || ruleOf d == 3)
/-- the reference's -/
def rank (k : Int) : Nat :=
  if k = 54 then 1 else if k = 53 then 2 else if 47 ≤ k ∧ k ≤ 52 then 3 else if k = 45 ∨ k = 46 then 4 else if k = 43 ∨ k = 44 then 5 else if k = 41 ∨ k = 42 then 6 else if 27 ≤ k ∧ k ≤ 54 then 7 else 0
def refLoose (p k d : Int) : Bool :=
  if rank p = 0 ∨ rank d = 0 ∨ rank p = 7 then false else if rank p = 6 then decide (rank d < 6) else (decide (rank d < rank p) || (rank d == rank p && (k == 1 || rank p == 3)))
theorem rank_rule (k : Int) : (rank k = ruleOf k ∧ 1 ≤ ruleOf k ∧ ruleOf k ≤ 7) ∨ (rank k = 0 ∧ ruleOf k = 7) := by
  unfold rank ruleOf
  repeat' split
  all_goals omega
theorem loose_same (p k d : Int) : refLoose p k d = loose p k d := by
  unfold refLoose loose
  rcases rank_rule p with ⟨h1, h2, h3⟩ | ⟨h1, h2⟩ <;> rcases rank_rule d with ⟨g1, g2, g3⟩ | ⟨g1, g2⟩
  · rw [h1, g1]
    generalize ruleOf p = a at *
    generalize ruleOf d = b at *
    by_cases a7 : a = 7
    · simp [a7]
    · by_cases a6 : a = 6
      · subst a6; simp; omega
      · rw [if_neg (by omega), if_neg a6, if_neg a7]
        by_cases hab : b = a
        · subst hab
          simp
          omega
        · rw [if_pos (Or.inr hab)]
          simp [hab]
  · rw [g1, g2]
    generalize ruleOf p = a at *
    by_cases a7 : a = 7
    · simp [a7]
    · rw [if_pos (Or.inr (Or.inl rfl)), if_neg a7, if_pos (Or.inr (by omega))]
      symm
      rw [decide_eq_false_iff_not]
      omega
  · rw [h1, h2]; simp
  · rw [h1, h2]; simp

set_option maxHeartbeats 1600000 in
set_option maxRecDepth 100000 in
theorem loose_any (p k d : Int) (w : World) : Calls Try.prog 52 #[.int .i64 p, .int .i64 k, .int .i64 d] w fun e w' => e = .returned (.bool (loose p k d)) ∧ w' = w := by
  have HL : Hid (loose p k d = if ruleOf p = 7 then false else if ruleOf p = 6 ∨ ruleOf d ≠ ruleOf p then decide (ruleOf d < ruleOf p) else (k == 1 || ruleOf d == 3)) := rfl
  have H1 : Hid (∀ w, Calls Try.prog 63 #[.int .i64 p] w fun e w' => e = .returned (.int .i64 (ruleOf p : Nat)) ∧ w' = w) := fun w => ruleOf_any p w
  have H2 : Hid (∀ w, Calls Try.prog 63 #[.int .i64 d] w fun e w' => e = .returned (.int .i64 (ruleOf d : Nat)) ∧ w' = w) := fun w => ruleOf_any d w
  generalize loose p k d = res at *
  generalize ruleOf p = a at *
  generalize ruleOf d = b at *
  go_enter Try.func52, Try.ntmps52
  go_wp2_with fail
  refine (H1.out _).mono ?_
  rintro e w' ⟨rfl, rfl⟩
  go_wp2_with fail
  refine (H2.out _).mono ?_
  rintro e w' ⟨rfl, rfl⟩
  go_wp2
  all_goals go_ret
  all_goals refine ⟨congrArg (fun b => Ending.returned (Value.bool b)) ?_, rfl⟩
  all_goals rw [HL.out]
  all_goals simp only [beq_iff_eq, beq_eq_false_iff_ne, bne_iff_ne, bne_eq_false_iff_eq, ne_eq] at *
  · rw [if_pos (by omega)]
  · rw [if_neg (by omega), if_pos (by omega)]
    rw [decide_eq_decide]; omega
  · rw [if_neg (by omega), if_pos (by omega)]
  · rw [if_neg (by omega), if_neg (by omega)]
    simp
    omega
  · rw [if_neg (by omega), if_neg (by omega)]
    have e3 : ((b : Int) == 3) = (b == 3) := by rw [Bool.eq_iff_iff]; simp; omega
    first | rw [e3] | (subst_vars; simp_all)

end Go.Proofs.Ytenhjebiokegkaa.Gr
