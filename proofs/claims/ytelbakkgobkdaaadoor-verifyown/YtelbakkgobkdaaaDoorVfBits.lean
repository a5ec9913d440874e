import Derived.Test.YtelbakkgobkdaaaDoorVfPure
import Derived.Laws.Bits64b
namespace Go.Proofs.YtelbakkgobkdaaaDoor.Vf
open Go.RowKit

/-- the operands' types as words of 64 bits -/
def wd0 : List Bool → Nat
  | [] => 0
  | b :: l => b.toNat + 2 * wd0 l
def wd (ty : List Bool) (j : Nat) : Nat := wd0 ((ty.drop (64 * j)).take 64)
theorem wd0_bit : ∀ (l : List Bool) (i : Nat), (wd0 l).testBit i = l.getD i false
  | [], i => by simp [wd0]
  | b :: l, 0 => by cases b <;> simp [wd0, Nat.testBit_zero] <;> omega
  | b :: l, i + 1 => by
    have e : (wd0 (b :: l)) / 2 = wd0 l := by cases b <;> simp [wd0] <;> omega
    rw [Nat.testBit_succ, e, wd0_bit l i]
    simp
theorem wd0_lt : ∀ l : List Bool, wd0 l < 2 ^ l.length
  | [] => by simp [wd0]
  | b :: l => by
    have h := wd0_lt l
    have e : 2 ^ (b :: l).length = 2 * 2 ^ l.length := by rw [List.length_cons, Nat.pow_succ]; omega
    rw [e]
    cases b <;> simp [wd0] <;> omega
theorem wd_lt (ty : List Bool) (j : Nat) : wd ty j < 18446744073709551616 := by
  have h := wd0_lt ((ty.drop (64 * j)).take 64)
  have h1 : ((ty.drop (64 * j)).take 64).length ≤ 64 := by rw [List.length_take]; omega
  have h2 := Nat.pow_le_pow_right (show 0 < 2 by omega) h1
  have h3 : (2 : Nat) ^ 64 = 18446744073709551616 := by decide
  unfold wd
  omega
theorem wd_bit (ty : List Bool) (j i : Nat) : (wd ty j).testBit i = (decide (i < 64) && ty.getD (64 * j + i) false) := by
  unfold wd
  rw [wd0_bit]
  by_cases h : i < 64
  · simp [h, List.getElem?_drop]
  · simp [h, List.getElem?_take]
theorem wd_snoc_f (ty : List Bool) (j : Nat) : wd (ty ++ [false]) j = wd ty j := by
  refine Nat.eq_of_testBit_eq fun i => ?_
  rw [wd_bit, wd_bit]
  have e : (ty ++ [false]).getD (64 * j + i) false = ty.getD (64 * j + i) false := by
    simp only [List.getD_eq_getElem?_getD]
    by_cases h : 64 * j + i < ty.length
    · rw [List.getElem?_append_left h]
    · rw [List.getElem?_append_right (by omega), List.getElem?_eq_none (l := ty) (by omega)]
      rcases Nat.eq_zero_or_pos (64 * j + i - ty.length) with h0 | h0
      · rw [h0]; rfl
      · rw [List.getElem?_eq_none (by simp; omega)]
  rw [e]
theorem getD_snoc (ty : List Bool) (b : Bool) (k : Nat) : (ty ++ [b]).getD k false = if k = ty.length then b else ty.getD k false := by
  simp only [List.getD_eq_getElem?_getD]
  by_cases h : k < ty.length
  · rw [List.getElem?_append_left h, if_neg (by omega)]
  · rw [List.getElem?_append_right (by omega)]
    by_cases h0 : k = ty.length
    · subst h0; simp
    · rw [if_neg h0, List.getElem?_eq_none (by simp; omega), List.getElem?_eq_none (l := ty) (by omega)]
theorem wd_snoc_ne (ty : List Bool) (b : Bool) (j : Nat) (h : ty.length / 64 ≠ j) : wd (ty ++ [b]) j = wd ty j := by
  refine Nat.eq_of_testBit_eq fun i => ?_
  rw [wd_bit, wd_bit, getD_snoc]
  by_cases hi : i < 64
  · rw [if_neg (by omega)]
  · simp [hi]
theorem wd_snoc_or (ty : List Bool) : wd ty (ty.length / 64) ||| 2 ^ (ty.length % 64) = wd (ty ++ [true]) (ty.length / 64) := by
  refine Nat.eq_of_testBit_eq fun i => ?_
  rw [Nat.testBit_or, wd_bit, wd_bit, getD_snoc, Nat.testBit_two_pow]
  by_cases hi : i < 64
  · by_cases h : i = ty.length % 64
    · subst h; rw [if_pos (by omega)]; simp; omega
    · rw [if_neg (by omega)]
      have : ¬ ty.length % 64 = i := fun e => h e.symm
      simp [hi, this]
  · have : ¬ ty.length % 64 = i := by omega
    simp [hi, this]
theorem bits_andNot_u64_nat (a b : Nat) (ha : a < 18446744073709551616) (hb : b < 18446744073709551616) :
    bits .andNot .u64 (a : Int) (b : Int) = ((a &&& (18446744073709551615 - b) : Nat) : Int) := by
  have h1 : (BitVec.ofInt 64 (a : Int)).toNat = a := by
    rw [BitVec.ofInt_natCast, BitVec.toNat_ofNat]; exact Nat.mod_eq_of_lt (by omega)
  have h2 : (BitVec.ofInt 64 (b : Int)).toNat = b := by
    rw [BitVec.ofInt_natCast, BitVec.toNat_ofNat]; exact Nat.mod_eq_of_lt (by omega)
  have hl : (a &&& (18446744073709551615 - b)) ≤ a := Nat.and_le_left
  show IntKind.u64.wrap ((BitVec.ofInt 64 (a : Int) &&& ~~~ BitVec.ofInt 64 (b : Int)).toNat : Int) = _
  rw [BitVec.toNat_and, BitVec.toNat_not, h1, h2, IntKind.wrap_u64]
  have e : 2 ^ 64 - 1 - b = 18446744073709551615 - b := by omega
  rw [e]
  omega
theorem wd_snoc_not (ty : List Bool) (b : Bool) : wd (ty ++ [b]) (ty.length / 64) &&& (18446744073709551615 - 2 ^ (ty.length % 64)) = wd ty (ty.length / 64) := by
  refine Nat.eq_of_testBit_eq fun i => ?_
  have h3 : (2 : Nat) ^ 64 = 18446744073709551616 := by decide
  have hp : 2 ^ (ty.length % 64) < 2 ^ 64 := Nat.pow_lt_pow_right (by omega) (Nat.mod_lt _ (by omega))
  have e : 18446744073709551615 - 2 ^ (ty.length % 64) = 2 ^ 64 - (2 ^ (ty.length % 64) + 1) := by omega
  rw [Nat.testBit_and, e, Nat.testBit_two_pow_sub_succ hp, wd_bit, wd_bit, getD_snoc, Nat.testBit_two_pow]
  by_cases hi : i < 64
  · by_cases h : ty.length % 64 = i
    · have h1 : ty.length ≤ 64 * (ty.length / 64) + i := by omega
      rw [List.getD_eq_getElem?_getD, List.getElem?_eq_none h1]
      simp [h]
    · rw [if_neg (by omega)]
      simp [hi, h]
  · simp [hi]
/-- a word's bit as Go asks for it -/
theorem wd_ask (ty : List Bool) (m : Nat) : ((wd ty (m / 64) / 2 ^ (m % 64)) &&& 1 : Nat) = (ty.getD m false).toNat := by
  have h := wd_bit ty (m / 64) (m % 64)
  rw [show 64 * (m / 64) + m % 64 = m by omega, decide_eq_true (Nat.mod_lt m (by omega)), Bool.true_and] at h
  rw [← h, Nat.testBit_eq_decide_div_mod_eq, Nat.and_one_is_mod]
  have := Nat.mod_two_eq_zero_or_one (wd ty (m / 64) / 2 ^ (m % 64))
  rcases this with e | e <;> rw [e] <;> rfl
/-- like words of like heights: like types -/
theorem wd_inj {a b : List Bool} (hl : a.length = b.length) (hh : a.length ≤ 256) (h0 : wd a 0 = wd b 0) (h1 : wd a 1 = wd b 1) (h2 : wd a 2 = wd b 2) (h3 : wd a 3 = wd b 3) : a = b := by
  have hj : ∀ j, j < 4 → wd a j = wd b j := fun j hj => by
    have : j = 0 ∨ j = 1 ∨ j = 2 ∨ j = 3 := by omega
    rcases this with rfl | rfl | rfl | rfl <;> assumption
  refine List.ext_getElem hl fun k ka kb => ?_
  have e := congrArg (fun n => n.testBit (k % 64)) (hj (k / 64) (by omega))
  simp only [wd_bit] at e
  rw [show 64 * (k / 64) + k % 64 = k by omega, decide_eq_true (Nat.mod_lt k (by omega)), Bool.true_and, Bool.true_and] at e
  simpa [List.getD_eq_getElem?_getD, ka, kb] using e
end Go.Proofs.YtelbakkgobkdaaaDoor.Vf
