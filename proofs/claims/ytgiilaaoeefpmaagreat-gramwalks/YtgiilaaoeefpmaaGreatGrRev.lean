import Derived.Test.YtgiilaaoeefpmaaGreatGrIns
namespace Go.Proofs.YtgiilaaoeefpmaaGreat.Gr
open Go.RowKit Go.Proofs.YtgiilaaoeefpmaaGreat.Sp Go.Proofs.YtgiilaaoeefpmaaGreat.Lx

/-- the first k and the last k have changed places -/
def turned {α : Type} (l : List α) (k : Nat) : List α := l.reverse.take k ++ ((l.drop k).take (l.length - 2 * k) ++ l.reverse.drop (l.length - k))
theorem turned_zero {α : Type} (l : List α) : turned l 0 = l := by simp [turned]
theorem turned_len {α : Type} (l : List α) (k : Nat) (h : 2 * k ≤ l.length) : (turned l k).length = l.length := by simp [turned]; omega
theorem turned_get {α : Type} (l : List α) (k i : Nat) (h : 2 * k ≤ l.length) (hi : i < l.length) : (turned l k)[i]? = if k ≤ i ∧ i < l.length - k then l[i]? else l[l.length - 1 - i]? := by
  unfold turned
  by_cases h1 : i < k
  · rw [List.getElem?_append_left (by simp; omega), List.getElem?_take_of_lt h1, List.getElem?_reverse hi, if_neg (by omega)]
  · rw [List.getElem?_append_right (by simp; omega)]
    have e : (l.reverse.take k).length = k := by simp; omega
    rw [e]
    by_cases h2 : i < l.length - k
    · rw [List.getElem?_append_left (by simp; omega), List.getElem?_take_of_lt (by omega), List.getElem?_drop, if_pos (by omega)]
      congr 1; omega
    · have e2 : ((l.drop k).take (l.length - 2 * k)).length = l.length - 2 * k := by simp; omega
      rw [List.getElem?_append_right (by rw [e2]; omega), e2, List.getElem?_drop, if_neg (by omega), List.getElem?_reverse (by omega)]
      congr 1; omega
theorem turned_full {α : Type} (l : List α) (k : Nat) (h : 2 * k ≤ l.length) (h2 : l.length ≤ 2 * k + 1) : turned l k = l.reverse := by
  apply List.ext_getElem?
  intro i
  by_cases hi : i < l.length
  · rw [turned_get l k i h hi, List.getElem?_reverse hi]
    split
    · congr 1; omega
    · rfl
  · rw [List.getElem?_eq_none (by rw [turned_len l k h]; omega), List.getElem?_eq_none (by simp; omega)]
theorem turned_step {α : Type} (l : List α) (k : Nat) (a b : α) (h : 2 * k + 1 < l.length) (ha : l[k]? = some a) (hb : l[l.length - 1 - k]? = some b) :
    ((turned l k).set k b).set (l.length - 1 - k) a = turned l (k + 1) := by
  apply List.ext_getElem?
  intro i
  by_cases hi : i < l.length
  · rw [turned_get l (k + 1) i (by omega) hi, List.getElem?_set, List.getElem?_set]
    simp only [List.length_set, turned_len l k (show 2 * k ≤ l.length by omega)]
    by_cases e1 : l.length - 1 - k = i
    · rw [if_pos e1, if_pos (by omega), if_neg (by omega), ← ha]
      congr 1; omega
    · rw [if_neg e1]
      by_cases e2 : k = i
      · rw [if_pos e2, if_pos (by omega), if_neg (by omega), ← hb]
        congr 1; omega
      · rw [if_neg e2, turned_get l k i (by omega) hi]
        by_cases h3 : k + 1 ≤ i ∧ i < l.length - (k + 1)
        · rw [if_pos h3, if_pos (by omega)]
        · rw [if_neg h3, if_neg (by omega)]
  · rw [List.getElem?_eq_none (by simp [turned_len l k (show 2 * k ≤ l.length by omega)]; omega), List.getElem?_eq_none (by rw [turned_len l (k + 1) (by omega)]; omega)]

theorem flat_put (l : List Rw) (i : Nat) (r' : Rw) (h : i < l.length) :
    (l.set i r').flatMap rc = (((((l.flatMap rc).set (i * 5) (.int .i64 r'.kind)).set (i * 5 + 1) (.string r'.name)).set (i * 5 + 2) (.int .i64 r'.stop)).set (i * 5 + 3) (.int .i64 r'.n)).set (i * 5 + 4) (.int .i64 r'.kids) := by
  have h0 := get_of_lt h
  generalize l.getD i row00 = r at h0
  have g : ∀ (q : Rw), (l.set i q)[i]? = some q := fun q => by rw [List.getElem?_set_self h]
  have e1 := flat_set l i 0 r ⟨r'.kind, r.name, r.stop, r.n, r.kids⟩ (.int .i64 r'.kind) h0 (by omega) rfl
  have e2 := flat_set (l.set i ⟨r'.kind, r.name, r.stop, r.n, r.kids⟩) i 1 _ ⟨r'.kind, r'.name, r.stop, r.n, r.kids⟩ (.string r'.name) (g _) (by omega) rfl
  have e3 := flat_set (l.set i ⟨r'.kind, r'.name, r.stop, r.n, r.kids⟩) i 2 _ ⟨r'.kind, r'.name, r'.stop, r.n, r.kids⟩ (.int .i64 r'.stop) (g _) (by omega) rfl
  have e4 := flat_set (l.set i ⟨r'.kind, r'.name, r'.stop, r.n, r.kids⟩) i 3 _ ⟨r'.kind, r'.name, r'.stop, r'.n, r.kids⟩ (.int .i64 r'.n) (g _) (by omega) rfl
  have e5 := flat_set (l.set i ⟨r'.kind, r'.name, r'.stop, r'.n, r.kids⟩) i 4 _ r' (.int .i64 r'.kids) (g _) (by omega) rfl
  rw [List.set_set] at e2 e3 e4 e5
  rw [e5, e4, e3, e2, e1]
  rfl
end Go.Proofs.YtgiilaaoeefpmaaGreat.Gr
