import Derived.Test.YtenhjebiokegkaaGrLoose
import Derived.Test.YtenhjebiokegkaaPureTree2
namespace Go.Proofs.Ytenhjebiokegkaa.Gr
open Go.RowKit Go.Proofs.Ytenhjebiokegkaa.Sp Go.Proofs.Ytenhjebiokegkaa.Lx

def wtn (n a b : Int) : Bool := decide (a ≤ n) && decide (n ≤ b)
def isDecl (k : Int) : Bool := wtn k 2 7
def isEvent (k : Int) : Bool := wtn k 8 10
def isDoing (k : Int) : Bool := wtn k 11 23
def isItem (k : Int) : Bool := k == 25 || k == 26
def isEx (k : Int) : Bool := wtn k 27 54
def lastEnd (k : Int) : Int := if k = 16 ∨ k = 17 ∨ k = 21 ∨ k = 19 ∨ k = 20 ∨ k = 24 ∨ k = 26 then 1 else 0
def lastNum (k : Int) : Int := if k = 27 then 1073741824 else 0
def nmd (k : Int) : Bool :=
  k == 1 || k == 2 || k == 3 || k == 4 || k == 5 || k == 7 || k == 8 || k == 9 || k == 14 || k == 15 || k == 22 || k == 28 || k == 38 || k == 31 || k == 32 || k == 35 || k == 36 || k == 37 || decide (0 < lastEnd k)
def opn (k : Int) : Int :=
  if k = 1 ∨ k = 11 ∨ k = 26 ∨ k = 38 ∨ k = 39 ∨ k = 40 ∨ k = 41 ∨ k = 42 ∨ k = 31 ∨ k = 32 ∨ k = 35 ∨ k = 36 ∨ k = 37 then 1 else 0
def mayFollow (d s k : Int) : Bool :=
  if d = 15 ∧ s = 0 then isItem k else if (d = 13 ∧ s = 2) ∨ (d = 12 ∧ s = 1) then k == 11 else if d = 12 ∧ s = 2 then k == 11 || k == 12 else isEx k
def mayStand (d s c k : Int) : Bool :=
  if d = 0 then k == 1 else if d = 1 then isEvent k || (isDecl k && !isEvent c) else if d = 7 ∨ d = 8 ∨ d = 9 ∨ d = 10 then k == 11
  else if d = 11 then isDoing k else if d = 19 ∨ d = 20 then k == 24 else if d = 38 then isItem k else mayFollow d s k

set_option maxHeartbeats 1600000 in
theorem within_any (n a b : Int) (w : World) : Calls Try.prog 60 #[.int .i64 n, .int .i64 a, .int .i64 b] w fun e w' => e = .returned (.bool (wtn n a b)) ∧ w' = w := by
  by_cases h1 : a ≤ n
  · go_enter Try.func60, Try.ntmps60
    go_wp2
    all_goals go_ret
    all_goals exact ⟨by simp [wtn, h1], rfl⟩
  · go_enter Try.func60, Try.ntmps60
    go_wp2
    all_goals go_ret
    all_goals exact ⟨by simp [wtn]; omega, rfl⟩
theorem isDecl_any (k : Int) (w : World) : Calls Try.prog 54 #[.int .i64 k] w fun e w' => e = .returned (.bool (isDecl k)) ∧ w' = w := by
  go_enter Try.func54, Try.ntmps54
  go_wp2_with (go_at_call 60; refine (within_any _ _ _ _).mono ?_; rintro e w' ⟨rfl, rfl⟩)
  go_ret
  exact ⟨rfl, rfl⟩
theorem isEvent_any (k : Int) (w : World) : Calls Try.prog 53 #[.int .i64 k] w fun e w' => e = .returned (.bool (isEvent k)) ∧ w' = w := by
  go_enter Try.func53, Try.ntmps53
  go_wp2_with (go_at_call 60; refine (within_any _ _ _ _).mono ?_; rintro e w' ⟨rfl, rfl⟩)
  go_ret
  exact ⟨rfl, rfl⟩
theorem isDoing_any (k : Int) (w : World) : Calls Try.prog 55 #[.int .i64 k] w fun e w' => e = .returned (.bool (isDoing k)) ∧ w' = w := by
  go_enter Try.func55, Try.ntmps55
  go_wp2_with (go_at_call 60; refine (within_any _ _ _ _).mono ?_; rintro e w' ⟨rfl, rfl⟩)
  go_ret
  exact ⟨rfl, rfl⟩
theorem isEx_any (k : Int) (w : World) : Calls Try.prog 64 #[.int .i64 k] w fun e w' => e = .returned (.bool (isEx k)) ∧ w' = w := by
  go_enter Try.func64, Try.ntmps64
  go_wp2_with (go_at_call 60; refine (within_any _ _ _ _).mono ?_; rintro e w' ⟨rfl, rfl⟩)
  go_ret
  exact ⟨rfl, rfl⟩
theorem isItem_any (k : Int) (w : World) : Calls Try.prog 56 #[.int .i64 k] w fun e w' => e = .returned (.bool (isItem k)) ∧ w' = w := by
  go_enter Try.func56, Try.ntmps56
  go_wp2
  all_goals go_ret
  all_goals exact ⟨by simp [isItem, *], rfl⟩
set_option maxHeartbeats 1600000 in
theorem lastEnd_any (k : Int) (w : World) : Calls Try.prog 61 #[.int .i64 k] w fun e w' => e = .returned (.int .i64 (lastEnd k)) ∧ w' = w := by
  go_enter Try.func61, Try.ntmps61
  go_wp2
  all_goals go_ret
  all_goals refine ⟨?_, rfl⟩
  all_goals simp only [beq_iff_eq, beq_eq_false_iff_ne, ne_eq] at *
  all_goals simp [lastEnd, *]
theorem lastNum_any (k : Int) (w : World) : Calls Try.prog 62 #[.int .i64 k] w fun e w' => e = .returned (.int .i64 (lastNum k)) ∧ w' = w := by
  go_enter Try.func62, Try.ntmps62
  go_wp2
  all_goals go_ret
  all_goals refine ⟨?_, rfl⟩
  all_goals simp only [beq_iff_eq, beq_eq_false_iff_ne, ne_eq] at *
  all_goals simp [lastNum, *]
set_option maxHeartbeats 1600000 in
theorem opn_any (k : Int) (w : World) : Calls Try.prog 51 #[.int .i64 k] w fun e w' => e = .returned (.int .i64 (opn k)) ∧ w' = w := by
  go_enter Try.func51, Try.ntmps51
  go_wp2
  all_goals go_ret
  all_goals refine ⟨?_, rfl⟩
  all_goals simp only [beq_iff_eq, beq_eq_false_iff_ne, ne_eq] at *
  all_goals simp [opn, *]
set_option maxHeartbeats 3200000 in
theorem nmd_any (k : Int) (w : World) : Calls Try.prog 65 #[.int .i64 k] w fun e w' => e = .returned (.bool (nmd k)) ∧ w' = w := by
  have HN : Hid (nmd k = (k == 1 || k == 2 || k == 3 || k == 4 || k == 5 || k == 7 || k == 8 || k == 9 || k == 14 || k == 15 || k == 22 || k == 28 || k == 38 || k == 31 || k == 32 || k == 35 || k == 36 || k == 37 || decide (0 < lastEnd k))) := rfl
  generalize nmd k = R at *
  have HE : Hid (∀ w, Calls Try.prog 61 #[.int .i64 k] w fun e w' => e = .returned (.int .i64 (lastEnd k)) ∧ w' = w) := fun w => lastEnd_any k w
  generalize lastEnd k = E at *
  go_enter Try.func65, Try.ntmps65
  go_wp2_with (go_at_call 61; refine (HE.out _).mono ?_; rintro e w' ⟨rfl, rfl⟩)
  all_goals go_ret
  all_goals refine ⟨?_, rfl⟩
  all_goals rw [HN.out]
  all_goals simp [*]
end Go.Proofs.Ytenhjebiokegkaa.Gr
