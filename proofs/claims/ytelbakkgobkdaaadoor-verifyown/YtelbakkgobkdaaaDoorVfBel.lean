import Derived.Test.YtelbakkgobkdaaaDoorVfBits
namespace Go.Proofs.YtelbakkgobkdaaaDoor.Vf
open Go.RowKit

/-- the operands of a standing as a value -/
def opV (ty : List Bool) : List Value := [.int .i64 (ty.length : Int), .int .u64 (wd ty 0 : Int), .int .u64 (wd ty 1 : Int), .int .u64 (wd ty 2 : Int), .int .u64 (wd ty 3 : Int)]
theorem ask_bits {v : Nat} {r : Nat} {b : Bool} (hv : v < 18446744073709551616) (h : ((v / 2 ^ r) &&& 1 : Nat) = b.toNat) : bits .and .u64 ((v : Int) / 2 ^ r) 1 = (b.toNat : Int) := by
  rw [show ((v : Int) / 2 ^ r) = ((v / 2 ^ r : Nat) : Int) by simp, show (1 : Int) = ((1 : Nat) : Int) by rfl, bits_and_u64_nat _ _ (Nat.lt_of_le_of_lt (Nat.div_le_self _ _) hv) (by omega), h]
set_option maxHeartbeats 1600000 in
set_option maxRecDepth 100000 in
theorem below_any (ty : List Bool) (n : Nat) (hn : n < ty.length) (hh : ty.length ≤ 256) (w : World) :
    Calls Tryd.prog 88 #[.agg (opV ty).toArray, .int .i64 (n : Int)] w fun e w' => e = .returned (.int .i64 (knd (blw ty n) : Int)) ∧ Below w.heap.size w w' := by
  obtain ⟨m, hm⟩ : ∃ m, ty.length = n + m + 1 := ⟨ty.length - n - 1, by omega⟩
  have hb : blw ty n = ty.getD m false := by unfold blw; rw [hm]; congr 1; omega
  have ha := ask_bits (wd_lt ty _) (wd_ask ty m)
  obtain ⟨v0, e0⟩ : ∃ v, v = wd ty 0 := ⟨_, rfl⟩
  obtain ⟨v1, e1⟩ : ∃ v, v = wd ty 1 := ⟨_, rfl⟩
  obtain ⟨v2, e2⟩ : ∃ v, v = wd ty 2 := ⟨_, rfl⟩
  obtain ⟨v3, e3⟩ : ∃ v, v = wd ty 3 := ⟨_, rfl⟩
  obtain ⟨r, hr⟩ : ∃ r, r = m % 64 := ⟨_, rfl⟩
  have hr64 : r < 64 := by omega
  rw [hb]
  generalize ty.getD m false = b at *
  rw [← hr] at ha
  unfold opV
  rw [hm, ← e0, ← e1, ← e2, ← e3]
  have hq : m / 64 = 0 ∨ m / 64 = 1 ∨ m / 64 = 2 ∨ m / 64 = 3 := by omega
  have hm1 : (n : Int) + m + 1 ≤ 256 := by omega
  have hr' : m % 64 = r := hr.symm
  clear hr hb
  rcases hq with hq | hq | hq | hq
  all_goals
    rw [hq] at ha
    first | rw [← e0] at ha | rw [← e1] at ha | rw [← e2] at ha | rw [← e3] at ha
    clear e0 e1 e2 e3 hm hh hn
    cases b
    all_goals
      simp only [Bool.toNat_true, Bool.toNat_false] at ha
      go_enter Tryd.func88, Tryd.ntmps88
      go_wp2_with fail
      go_ret
      exact ⟨rfl, (Below.refl _ w).alloc (Nat.le_refl _) _⟩
end Go.Proofs.YtelbakkgobkdaaaDoor.Vf
