import Derived.Test.YtkekmmomdhdegaaRxDrop2
namespace Go.Proofs.Ytkekmmomdhdegaa.Rx
open Go.RowKit Go.Proofs.Ytkekmmomdhdegaa.Ix Go.Proofs.Ytkekmmomdhdegaa.Ii

/-- a row whose end is being moved by one -/
def Xs (l : List Value) (z : Value) (k : Nat) : List Value := (l ++ [z]).take (k + 1) ++ l.drop k
theorem Xs_len (l : List Value) (z : Value) {k : Nat} (hk : k ≤ l.length) : (Xs l z k).length = l.length + 1 := by
  unfold Xs
  simp only [List.length_append, List.length_take, List.length_drop, List.length_cons, List.length_nil]
  omega
theorem Xs_start (l : List Value) (z : Value) : Xs l z l.length = l ++ [z] := by
  unfold Xs
  rw [List.take_of_length_le (by simp), List.drop_length, List.append_nil]
theorem Xs_get {l : List Value} {z : Value} {k j : Nat} (hk : k ≤ l.length) (hj : j < k) : (Xs l z k)[j]? = l[j]? := by
  unfold Xs
  rw [List.getElem?_append_left (by simp; omega), List.getElem?_take, if_pos (by omega), List.getElem?_append_left (by omega)]
theorem Xs_step {l : List Value} {z u : Value} {k : Nat} (hk : k + 1 ≤ l.length) (hu : l[k]? = some u) : (Xs l z (k + 1)).set (k + 1) u = Xs l z k := by
  apply List.ext_getElem?
  intro i
  have hl := Xs_len l z hk
  have hl0 := Xs_len l z (show k ≤ l.length by omega)
  rw [List.getElem?_set]
  by_cases h1 : k + 1 = i
  · subst h1
    rw [if_pos rfl, if_pos (by omega)]
    unfold Xs
    rw [List.getElem?_append_right (by simp; omega)]
    simp only [List.length_take, List.length_append, List.length_cons, List.length_nil, List.getElem?_drop]
    rw [show k + (k + 1 - min (k + 1) (l.length + 1)) = k by omega]
    exact hu.symm
  · rw [if_neg h1]
    unfold Xs
    by_cases h2 : i < k + 1
    · rw [List.getElem?_append_left (by simp; omega), List.getElem?_append_left (by simp; omega), List.getElem?_take, List.getElem?_take, if_pos (by omega), if_pos (by omega)]
    · rw [List.getElem?_append_right (by simp; omega), List.getElem?_append_right (by simp; omega)]
      simp only [List.length_take, List.length_append, List.length_cons, List.length_nil, List.getElem?_drop]
      congr 1
      omega
theorem Xs_end {l : List Value} {z u : Value} {k : Nat} (hk : k ≤ l.length) : (Xs l z k).set k u = l.take k ++ u :: l.drop k := by
  apply List.ext_getElem?
  intro i
  have hl := Xs_len l z hk
  rw [List.getElem?_set]
  by_cases h1 : k = i
  · subst h1
    rw [if_pos rfl, if_pos (by omega), List.getElem?_append_right (by simp; omega)]
    simp [List.length_take, Nat.min_eq_left hk]
  · rw [if_neg h1]
    unfold Xs
    by_cases h2 : i < k
    · rw [List.getElem?_append_left (by simp; omega), List.getElem?_append_left (by simp; omega), List.getElem?_take, List.getElem?_take, if_pos (by omega), if_pos h2, List.getElem?_append_left (by omega)]
    · rw [List.getElem?_append_right (by simp; omega), List.getElem?_append_right (by simp; omega)]
      simp only [List.length_take, List.length_append, List.length_cons, List.length_nil, List.getElem?_drop]
      rw [show i - min k l.length = (i - k - 1) + 1 by omega, List.getElem?_cons_succ, List.getElem?_drop]
      congr 1
      omega
/-- a cell of an owned row is written -/
theorem own_put {W : World} {base g n c j : Nat} {T : TypeId} {xs : List Value} {v : Value} (h : W.ownsRow base T 1 (.slice (some ⟨g, 0, none⟩) n c) n xs) (hj : j < n) : (W.setCell ⟨g, j, none⟩ v).ownsRow base T 1 (.slice (some ⟨g, 0, none⟩) n c) n (xs.set j v) ∧ W.cell? ⟨g, j, none⟩ = xs[j]? ∧ (∀ i, W.frozen? ⟨g, i, none⟩ = false) ∧ base ≤ g ∧ ∃ cur, W.heap[g]? = some (.cells cur T (0, 0)) := by
  rcases h with ⟨h1, ⟨h0, _⟩ | ⟨g', cap, cur, e, hb, hg, hn, hm, hs, ht⟩⟩
  · cases h0
  · cases e
    refine ⟨⟨by simpa using h1, Or.inr ⟨g, c, cur.setIfInBounds j v, rfl, hb, set_blk hg, hn, hm, by simpa using hs, ?_⟩⟩, ?_, fun i => by simp [World.frozen?, hg], hb, cur, hg⟩
    · rw [Array.toList_setIfInBounds, List.take_set, ht]
    · rw [← ht, List.getElem?_take, if_pos (by omega), Array.getElem?_toList]
      simp [World.cell?, hg]
theorem own_at {W : World} {base g n c j : Nat} {T : TypeId} {xs : List Value} (h : W.ownsRow base T 1 (.slice (some ⟨g, 0, none⟩) n c) n xs) (hj : j < n) : W.cell? ⟨g, j, none⟩ = xs[j]? := (own_put (v := .bool true) h hj).2.1
theorem own_keep {W W' : World} {base g n c : Nat} {T : TypeId} {xs : List Value} (h : W.ownsRow base T 1 (.slice (some ⟨g, 0, none⟩) n c) n xs) (hk : W'.heap[g]? = W.heap[g]?) : W'.ownsRow base T 1 (.slice (some ⟨g, 0, none⟩) n c) n xs := by
  rcases h with ⟨h1, ⟨h0, _⟩ | ⟨g', cap, cur, e, hb, hg, hn⟩⟩
  · cases h0
  · cases e
    exact ⟨h1, Or.inr ⟨g, c, cur, rfl, hb, hk.trans hg, hn⟩⟩
/-- where a key goes -/
structure Pos (l : List (Nat × Int)) (k at_ : Nat) : Prop where
  le : at_ ≤ l.length
  gt : ∀ i x, at_ ≤ i → l[i]? = some x → k < x.1
def ins (l : List (Nat × Int)) (at_ : Nat) (e : Nat × Int) : List (Nat × Int) := l.take at_ ++ e :: l.drop at_
theorem ins_perm (l : List (Nat × Int)) (at_ : Nat) (e : Nat × Int) : (ins l at_ e).Perm (l ++ [e]) := by
  unfold ins
  have h := List.perm_middle (l₁ := l.take at_) (a := e) (l₂ := l.drop at_)
  rw [List.take_append_drop] at h
  exact h.trans (List.perm_append_singleton e l).symm
theorem ins_sorted {l : List (Nat × Int)} {at_ : Nat} {e : Nat × Int} (hs : l.Pairwise fun x y => x.1 ≤ y.1) (hp : Pos l e.1 at_) (hl : ∀ x, at_ ≠ 0 → l[at_ - 1]? = some x → x.1 ≤ e.1) : (ins l at_ e).Pairwise fun x y => x.1 ≤ y.1 := by
  unfold ins
  rw [List.pairwise_append, List.pairwise_cons]
  have hs' := hs
  rw [List.pairwise_iff_getElem] at hs'
  have ht : ∀ x ∈ l.take at_, x.1 ≤ e.1 := fun x hx => by
    obtain ⟨i, hi, rfl⟩ := List.getElem_of_mem hx
    simp only [List.length_take] at hi
    rw [List.getElem_take]
    have h1 : at_ - 1 < l.length := by have := hp.le; omega
    have h2 := hl l[at_ - 1] (by omega) (List.getElem?_eq_getElem h1)
    by_cases h3 : i = at_ - 1
    · subst h3; exact h2
    · exact Nat.le_trans (hs' i (at_ - 1) (by omega) h1 (by omega)) h2
  have hd : ∀ x ∈ l.drop at_, e.1 ≤ x.1 := fun x hx => by
    obtain ⟨i, hi, rfl⟩ := List.getElem_of_mem hx
    simp only [List.length_drop] at hi
    rw [List.getElem_drop]
    exact Nat.le_of_lt (hp.gt (at_ + i) _ (by omega) (List.getElem?_eq_getElem (by omega)))
  refine ⟨hs.sublist (List.take_sublist _ _), ⟨hd, hs.sublist (List.drop_sublist _ _)⟩, fun x hx y hy => ?_⟩
  rcases List.mem_cons.1 hy with rfl | hy
  · exact ht x hx
  · exact Nat.le_trans (ht x hx) (hd y hy)
end Go.Proofs.Ytkekmmomdhdegaa.Rx
