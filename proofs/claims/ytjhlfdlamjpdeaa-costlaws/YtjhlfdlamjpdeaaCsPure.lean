import Derived.Test.YtjhlfdlamjpdeaaPureTree
namespace Go.Proofs.Ytjhlfdlamjpdeaa.Nm
open Go.Proofs.Ytjhlfdlamjpdeaa.Gr

/-- numbers summed up, multiplied: those below 0 count as 0 -/
def tsum : List Int → Nat
  | [] => 0
  | n :: l => n.toNat + tsum l
def tprod : List Int → Nat
  | [] => 1
  | n :: l => n.toNat * tprod l
def capS (n : Nat) : Nat := min n 4611686018427387904
def sumL (l : List Int) : Nat := capS (tsum l)
def timL (l : List Int) : Nat := capS (tprod l)
theorem capS_le (n : Nat) : capS n ≤ 4611686018427387904 := by unfold capS; omega
theorem sumL_le (l : List Int) : sumL l ≤ 4611686018427387904 := capS_le _
theorem timL_le (l : List Int) : timL l ≤ 4611686018427387904 := capS_le _
theorem tsum_app (a b : List Int) : tsum (a ++ b) = tsum a + tsum b := by
  induction a with
  | nil => simp [tsum]
  | cons x a ih => simp only [List.cons_append, tsum, ih]; omega
theorem tprod_app (a b : List Int) : tprod (a ++ b) = tprod a * tprod b := by
  induction a with
  | nil => simp [tprod]
  | cons x a ih => simp only [List.cons_append, tprod, ih, Nat.mul_assoc]
theorem capS_add (a b : Nat) : capS (capS a + capS b) = capS (a + b) := by unfold capS; omega
theorem capS_mul (a b : Nat) : capS (capS a * capS b) = capS (a * b) := by
  unfold capS
  by_cases ha : a ≤ 4611686018427387904
  · by_cases hb : b ≤ 4611686018427387904
    · rw [Nat.min_eq_left ha, Nat.min_eq_left hb]
    · rw [Nat.min_eq_left ha, Nat.min_eq_right (a := b) (by omega)]
      cases a with
      | zero => simp
      | succ a =>
        have h1 : 4611686018427387904 ≤ (a + 1) * 4611686018427387904 := Nat.le_mul_of_pos_left _ (Nat.succ_pos a)
        have h2 : b ≤ (a + 1) * b := Nat.le_mul_of_pos_left _ (Nat.succ_pos a)
        omega
  · rw [Nat.min_eq_right (a := a) (by omega)]
    cases b with
    | zero => simp
    | succ b =>
      have h0 : 1 ≤ min (b + 1) 4611686018427387904 := by omega
      have h1 : 4611686018427387904 ≤ 4611686018427387904 * min (b + 1) 4611686018427387904 := Nat.le_mul_of_pos_right _ h0
      have h2 : a ≤ a * (b + 1) := Nat.le_mul_of_pos_right _ (Nat.succ_pos b)
      omega
theorem capS_one (a : Nat) (h : a ≤ 4611686018427387904) : capS a = a := by unfold capS; omega
theorem capS_idem (a : Nat) : capS (capS a) = capS a := capS_one _ (capS_le a)
theorem sumL_app (a b : List Int) : sumL (a ++ b) = capS (sumL a + sumL b) := by unfold sumL; rw [tsum_app, capS_add]
theorem timL_app (a b : List Int) : timL (a ++ b) = capS (timL a * timL b) := by unfold timL; rw [tprod_app, capS_mul]
theorem take_step {α : Type} {l : List α} {k : Nat} {x : α} (h : l[k]? = some x) : l.take (k + 1) = l.take k ++ [x] := by
  rw [List.take_add_one, h]
  rfl
/-- a step of the sum -/
theorem sumL_step {l : List Int} {k : Nat} {n : Int} (h : l[k]? = some n) : sumL (l.take (k + 1)) = capS (sumL (l.take k) + n.toNat) := by
  rw [take_step h, sumL_app]
  have : sumL [n] = capS n.toNat := by simp [sumL, tsum]
  rw [this]
  unfold capS sumL capS
  omega
theorem timL_step {l : List Int} {k : Nat} {n : Int} (h : l[k]? = some n) : timL (l.take (k + 1)) = capS (timL (l.take k) * n.toNat) := by
  rw [take_step h, timL_app]
  have : timL [n] = capS n.toNat := by simp [timL, tprod]
  rw [this]
  unfold timL
  rw [← capS_mul (capS (tprod (l.take k))) n.toNat, capS_idem]
theorem tprod_zero {l : List Int} {k : Nat} {n : Int} (h : l[k]? = some n) (hn : n ≤ 0) : timL l = 0 := by
  have e : l = l.take k ++ (n :: l.drop (k + 1)) := by
    have hk := (List.getElem?_eq_some_iff.1 h).1
    have hx : l[k] = n := (List.getElem?_eq_some_iff.1 h).2
    conv => lhs; rw [← List.take_append_drop k l, List.drop_eq_getElem_cons hk, hx]
  have hz : tprod l = 0 := by
    rw [e, tprod_app]
    simp only [tprod]
    rw [show n.toNat = 0 by omega]
    simp
  unfold timL
  rw [hz]
  rfl
/-- as the program has it -/
theorem sum_prog (s : Nat) (n : Int) (hs : s ≤ 4611686018427387904) : min (s : Int) (4611686018427387904 - min (max n 0) 4611686018427387904) + min (max n 0) 4611686018427387904 = ((capS (s + n.toNat) : Nat) : Int) := by
  unfold capS
  omega
theorem tim_over {p m : Nat} (h : 4611686018427387904 / m < p) (hm : 0 < m) : capS (p * m) = 4611686018427387904 := by
  have := (Nat.div_lt_iff_lt_mul hm).1 h
  unfold capS
  omega
theorem tim_in {p m : Nat} (h : ¬ 4611686018427387904 / m < p) (hm : 0 < m) : capS (p * m) = p * m ∧ p * m ≤ 4611686018427387904 := by
  have := mt (Nat.div_lt_iff_lt_mul hm).2 h
  unfold capS
  omega
end Go.Proofs.Ytjhlfdlamjpdeaa.Nm
