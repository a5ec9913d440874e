import Derived.Test.YtflcplnmeimbcabLxKeep
import Derived.Test.YtflcplnmeimbcabLxParts
namespace Go.Proofs.Ytflcplnmeimbcab.Lx
open Go.RowKit Go.Proofs.Ytflcplnmeimbcab.Sp

/-- the marks: of list i, its k-th token; behind it, the k-th that is appended -/
def mk (i k : Nat) : List Value := [.int .i64 (500 + (i : Int)), .int .i64 0, .int .i64 0, .int .i64 (k : Int)]
def ap (i k : Nat) : List Value := [.int .i64 (-1 - (i : Int)), .int .i64 0, .int .i64 0, .int .i64 (k : Int)]
def mks (i m : Nat) : List Value := (List.range m).flatMap (mk i)
def aps (i m : Nat) : List Value := (List.range m).flatMap (ap i)
theorem mks_succ (i m : Nat) : mks i (m + 1) = mks i m ++ mk i m := by simp [mks, List.range_succ]
theorem aps_succ (i m : Nat) : aps i (m + 1) = aps i m ++ ap i m := by simp [aps, List.range_succ]
theorem mks_len (i m : Nat) : (mks i m).length = m * 4 := by
  induction m with
  | zero => rfl
  | succ m ih => rw [mks_succ, List.length_append, ih, Nat.add_mul]; rfl
theorem aps_len (i m : Nat) : (aps i m).length = m * 4 := by
  induction m with
  | zero => rfl
  | succ m ih => rw [aps_succ, List.length_append, ih, Nat.add_mul]; rfl
theorem mks_at (i m k : Nat) (hk : k < m) (j : Nat) (hj : j < 4) : (mks i m)[k * 4 + j]? = (mk i k)[j]? := by
  induction m with
  | zero => omega
  | succ m ih =>
    rw [mks_succ]
    by_cases h : k < m
    · rw [List.getElem?_append_left (by rw [mks_len]; omega)]
      exact ih h
    · obtain rfl : k = m := by omega
      rw [List.getElem?_append_right (by rw [mks_len]; omega), mks_len, show k * 4 + j - k * 4 = j by omega]
theorem aps_at (i m k : Nat) (hk : k < m) (j : Nat) (hj : j < 4) : (aps i m)[k * 4 + j]? = (ap i k)[j]? := by
  induction m with
  | zero => omega
  | succ m ih =>
    rw [aps_succ]
    by_cases h : k < m
    · rw [List.getElem?_append_left (by rw [aps_len]; omega)]
      exact ih h
    · obtain rfl : k = m := by omega
      rw [List.getElem?_append_right (by rw [aps_len]; omega), aps_len, show k * 4 + j - k * 4 = j by omega]

/-- four cells more are marked -/
theorem set_four (X : List Value) (k : Nat) (a b c d : Value) (h : k * 4 + 4 ≤ X.length) : ((((X.set (k * 4) a).set (k * 4 + 1) b).set (k * 4 + 2) c).set (k * 4 + 3) d).take ((k + 1) * 4) = X.take (k * 4) ++ [a, b, c, d] := by
  apply List.ext_getElem?
  intro j
  rw [List.getElem?_take]
  by_cases h1 : j < (k + 1) * 4
  · rw [if_pos h1]
    by_cases h2 : j < k * 4
    · rw [List.getElem?_append_left (by simp; omega), List.getElem?_take, if_pos h2]
      rw [List.getElem?_set_ne (by omega), List.getElem?_set_ne (by omega), List.getElem?_set_ne (by omega), List.getElem?_set_ne (by omega)]
    · rw [List.getElem?_append_right (by simp; omega)]
      have hl : (X.take (k * 4)).length = k * 4 := by simp; omega
      rw [hl]
      rcases (show j = k * 4 ∨ j = k * 4 + 1 ∨ j = k * 4 + 2 ∨ j = k * 4 + 3 by omega) with rfl | rfl | rfl | rfl
      · rw [List.getElem?_set_ne (by omega), List.getElem?_set_ne (by omega), List.getElem?_set_ne (by omega), List.getElem?_set_self (by omega)]
        simp
      · rw [List.getElem?_set_ne (by omega), List.getElem?_set_ne (by omega), List.getElem?_set_self (by simp; omega), show k * 4 + 1 - k * 4 = 1 by omega]
        simp
      · rw [List.getElem?_set_ne (by omega), List.getElem?_set_self (by simp; omega), show k * 4 + 2 - k * 4 = 2 by omega]
        simp
      · rw [List.getElem?_set_self (by simp; omega), show k * 4 + 3 - k * 4 = 3 by omega]
        simp
  · rw [if_neg h1, List.getElem?_eq_none]
    simp
    omega

/-- the lists, each in a row of its own, and the list of them at block ga -/
structure Lists (base : Nat) (ga : Nat) (v : Nat → Value) (n : Nat → Nat) (wr : World) (X : Nat → List Value) : Prop where
  own : ∀ j, j < 6 → wr.ownsRow base 37 4 (v j) (n j) (X j)
  apart : ∀ i j g, i < 6 → j < 6 → i ≠ j → (v i).ownBlock = some g → (v j).ownBlock ≠ some g
  all : ∀ j, j < 6 → wr.cell? ⟨ga, j, none⟩ = some (v j)
  gne : ∀ j, j < 6 → (v j).ownBlock ≠ some ga
  lt : ga < wr.heap.size
theorem Lists.write {base ga : Nat} {v : Nat → Value} {n : Nat → Nat} {wr : World} {X : Nat → List Value} (h : Lists base ga v n wr X) {i g cap j : Nat} (hi : i < 6) (hv : v i = .slice (some ⟨g, 0, none⟩) (n i) cap) (u : Value) :
    Lists base ga v n (wr.setCell ⟨g, j, none⟩ u) (fun q => if q = i then (X i).set j u else X q) := by
  have hb : (v i).ownBlock = some g := by rw [hv]; rfl
  refine ⟨fun q hq => ?_, h.apart, fun q hq => ?_, h.gne, by simpa [World.setCell] using h.lt⟩
  · by_cases e : q = i
    · subst e
      rw [if_pos rfl]
      have := h.own q hq
      rw [hv] at this ⊢
      exact (this.stored j u).1
    · rw [if_neg e]
      exact ownsRow_setCell_other (h.own q hq) (fun e2 => h.apart i q g hi hq (fun e3 => e e3.symm) hb e2) u
  · have hne : g ≠ ga := fun e => h.gne i hi (by rw [hb, e])
    rw [World.cell?_setCell_other _ _ _ _ (fun e => hne (congrArg Addr.block e))]
    exact h.all q hq
end Go.Proofs.Ytflcplnmeimbcab.Lx
