import Derived.Test.YtenhjebiokegkaaLxBase
namespace Go.Proofs.Ytenhjebiokegkaa.Gr
open Go.RowKit Go.Proofs.Ytenhjebiokegkaa.Sp Go.Proofs.Ytenhjebiokegkaa.Lx

/-- the rule of a kind -/
def ruleOf (k : Int) : Nat :=
  if k = 54 then 1 else if k = 53 then 2 else if k = 47 ∨ k = 48 ∨ k = 49 ∨ k = 50 ∨ k = 51 ∨ k = 52 then 3
  else if k = 45 ∨ k = 46 then 4 else if k = 43 ∨ k = 44 then 5 else if k = 41 ∨ k = 42 then 6 else 7
/-- how many kids a kind has at the least, at the most -/
def least (k : Int) : Nat :=
  if k = 1 ∨ k = 11 then 0 else if k = 20 then 0
  else if k = 5 ∨ k = 6 ∨ k = 7 ∨ k = 8 ∨ k = 9 ∨ k = 10 ∨ k = 14 ∨ k = 19 ∨ k = 38 ∨ k = 41 ∨ k = 42 then 1
  else if k = 12 then 2 else if k = 15 ∨ k = 39 ∨ k = 40 then 2 else if k = 4 ∨ k = 13 then 3 else if ruleOf k < 6 then 2 else 0
def greatest (k : Int) : Int :=
  if k = 1 ∨ k = 11 then 9223372036854775807 else if k = 20 then 1
  else if k = 5 ∨ k = 6 ∨ k = 7 ∨ k = 8 ∨ k = 9 ∨ k = 10 ∨ k = 14 ∨ k = 19 ∨ k = 38 ∨ k = 41 ∨ k = 42 then 1
  else if k = 12 then 3 else if k = 15 ∨ k = 39 ∨ k = 40 then 2 else if k = 4 ∨ k = 13 then 3 else if ruleOf k < 6 then 2 else 0

set_option maxHeartbeats 4000000 in
set_option maxRecDepth 100000 in
theorem ruleOf_any (k : Int) (w : World) : Calls Try.prog 63 #[.int .i64 k] w fun e w' => e = .returned (.int .i64 (ruleOf k : Nat)) ∧ w' = w := by
  go_enter Try.func63, Try.ntmps63
  go_wp2
  all_goals go_ret
  all_goals refine ⟨?_, rfl⟩
  all_goals simp only [beq_iff_eq, beq_eq_false_iff_ne, ne_eq] at *
  all_goals simp [ruleOf, *]

set_option maxHeartbeats 4000000 in
set_option maxRecDepth 100000 in
theorem kidsOf_any (k : Int) (w : World) : Calls Try.prog 58 #[.int .i64 k] w fun e w' => e = .returned (.tuple #[.int .i64 (least k : Nat), .int .i64 (greatest k)]) ∧ w' = w := by
  by_cases hr : ruleOf k < 6
  · have hr2 : decide ((ruleOf k : Int) < 6) = true := by simp; omega
    have HR : Hid (ruleOf k < 6) := hr
    clear hr
    go_enter Try.func58, Try.ntmps58
    go_wp2_with (go_at_call 63; refine (ruleOf_any _ _).mono ?_; rintro e w' ⟨rfl, rfl⟩)
    all_goals go_ret2
    all_goals refine ⟨?_, rfl⟩
    all_goals simp only [beq_iff_eq, beq_eq_false_iff_ne, ne_eq] at *
    all_goals simp [least, greatest, HR.out, *]
  · have hr2 : decide ((ruleOf k : Int) < 6) = false := by simp; omega
    have HR : Hid (¬ ruleOf k < 6) := hr
    clear hr
    go_enter Try.func58, Try.ntmps58
    go_wp2_with (go_at_call 63; refine (ruleOf_any _ _).mono ?_; rintro e w' ⟨rfl, rfl⟩)
    all_goals go_ret2
    all_goals refine ⟨?_, rfl⟩
    all_goals simp only [beq_iff_eq, beq_eq_false_iff_ne, ne_eq] at *
    all_goals simp [least, greatest, HR.out, *]
end Go.Proofs.Ytenhjebiokegkaa.Gr
