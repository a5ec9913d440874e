import Derived.Test.YtenhjebiokegkaaLxBase
namespace Go.Proofs.Ytenhjebiokegkaa.Nm
open Go.RowKit Go.Proofs.Ytenhjebiokegkaa.Sp Go.Proofs.Ytenhjebiokegkaa.Lx

/-- of what kind a thing is that a row declares (1 queue, 2 var, 3 tag, 4 rule; 0 none) -/
def decl (k : Int) : Nat := if k = 2 ∨ k = 3 then 1 else if k = 4 then 2 else if k = 5 then 3 else if k = 7 then 4 else 0
/-- of what kind the thing is that a row names -/
def nmd (k : Int) : Nat :=
  if k = 8 ∨ k = 9 ∨ k = 16 ∨ k = 17 ∨ k = 21 ∨ k = 19 ∨ k = 20 ∨ k = 24 ∨ k = 26 ∨ k = 31 ∨ k = 32 ∨ k = 35 ∨ k = 36 ∨ k = 37 then 1
  else if k = 14 ∨ k = 28 then 2 else if k = 15 ∨ k = 38 then 3 else if k = 22 then 4 else 0
def mst (k : Nat) : Nat := if k = 1 then 16 else if k = 2 then 16 else if k = 3 then 4 else if k = 4 then 64 else 0
theorem nmd_le (k : Int) : nmd k ≤ 4 := by
  unfold nmd
  repeat' split
  all_goals omega
theorem decl_le (k : Int) : decl k ≤ 4 := by
  unfold decl
  repeat' split
  all_goals omega
set_option maxHeartbeats 1600000 in
theorem declared_any (k : Int) (w : World) : Calls Try.prog 32 #[.int .i64 k] w fun e w' => e = .returned (.int .i64 (decl k : Nat)) ∧ w' = w := by
  have HD : Hid (decl k = if k = 2 ∨ k = 3 then 1 else if k = 4 then 2 else if k = 5 then 3 else if k = 7 then 4 else 0) := rfl
  generalize decl k = z at *
  go_enter Try.func32, Try.ntmps32
  go_wp2
  all_goals
    go_ret
    refine ⟨?_, rfl⟩
    rw [HD.out]
    simp_all
set_option maxHeartbeats 3200000 in
theorem named_any (k : Int) (w : World) : Calls Try.prog 37 #[.int .i64 k] w fun e w' => e = .returned (.int .i64 (nmd k : Nat)) ∧ w' = w := by
  have HD : Hid (nmd k = if k = 8 ∨ k = 9 ∨ k = 16 ∨ k = 17 ∨ k = 21 ∨ k = 19 ∨ k = 20 ∨ k = 24 ∨ k = 26 ∨ k = 31 ∨ k = 32 ∨ k = 35 ∨ k = 36 ∨ k = 37 then 1 else if k = 14 ∨ k = 28 then 2 else if k = 15 ∨ k = 38 then 3 else if k = 22 then 4 else 0) := rfl
  generalize nmd k = z at *
  go_enter Try.func37, Try.ntmps37
  go_wp2
  all_goals
    go_ret
    refine ⟨?_, rfl⟩
    rw [HD.out]
    simp_all
/-- sums up to MaxSum -/
def pls (a b : Nat) : Nat := min a (4611686018427387904 - b) + b
set_option maxHeartbeats 800000 in
theorem plus_any (a b : Nat) (ha : a ≤ 4611686018427387904) (hb : b ≤ 4611686018427387904) (w : World) : Calls Try.prog 41 #[.int .i64 a, .int .i64 b] w fun e w' => e = .returned (.int .i64 (pls a b : Nat)) ∧ w' = w := by
  have h1 : (a : Int) ≤ 4611686018427387904 := by omega
  have h2 : (b : Int) ≤ 4611686018427387904 := by omega
  have HP : Hid ((pls a b : Int) = min (a : Int) (4611686018427387904 - (b : Int)) + b) := by
    show _ = _
    unfold pls
    omega
  go_enter Try.func41, Try.ntmps41
  go_wp2
  all_goals
    go_ret
    refine ⟨?_, rfl⟩
    rw [HP.out]
    first | rfl | simp
theorem pls_le (a b : Nat) (hb : b ≤ 4611686018427387904) : pls a b ≤ 4611686018427387904 := by unfold pls; omega
end Go.Proofs.Ytenhjebiokegkaa.Nm
