import Derived.Test.YtenhjebiokegkaaPureLex
namespace Go.Proofs.Ytenhjebiokegkaa.Lx

theorem takeWhile_all {p : Nat → Bool} {l : List Nat} (h : ∀ c ∈ l, p c = true) : l.takeWhile p = l := by
  induction l with
  | nil => rfl
  | cons c r ih =>
    rw [List.takeWhile_cons, if_pos (h c (by simp)), ih fun x hx => h x (by simp [hx])]
theorem takeWhile_mem {p : Nat → Bool} {l : List Nat} : ∀ c ∈ l.takeWhile p, p c = true := by
  induction l with
  | nil => simp
  | cons c r ih =>
    intro x hx
    rw [List.takeWhile_cons] at hx
    split at hx
    · rcases List.mem_cons.1 hx with rfl | h
      · assumption
      · exact ih x h
    · cases hx
theorem takeWhile_len {p : Nat → Bool} (l : List Nat) : (l.takeWhile p).length ≤ l.length := by
  induction l with
  | nil => simp
  | cons c r ih =>
    rw [List.takeWhile_cons]
    split <;> simp
    exact ih
theorem takeWhile_take {p : Nat → Bool} (l : List Nat) : l.take (l.takeWhile p).length = l.takeWhile p := by
  induction l with
  | nil => simp
  | cons c r ih =>
    rw [List.takeWhile_cons]
    split
    · simp [ih]
    · simp
/-- a front that is longer than the run has the same run; a shorter one is run whole -/
theorem takeWhile_front {p : Nat → Bool} (l : List Nat) (q : Nat) : (l.take q).takeWhile p = (l.takeWhile p).take q := by
  induction l generalizing q with
  | nil => simp
  | cons c r ih =>
    cases q with
    | zero => simp
    | succ q =>
      rw [List.take_succ_cons, List.takeWhile_cons, List.takeWhile_cons]
      split
      · simp [ih]
      · simp
theorem takeWhile_more {p : Nat → Bool} {l r : List Nat} (h : ∀ c ∈ l, p c = true) : (l ++ r).takeWhile p = l ++ r.takeWhile p := by
  induction l with
  | nil => rfl
  | cons c l ih =>
    rw [List.cons_append, List.takeWhile_cons, if_pos (h c (by simp)), ih fun x hx => h x (by simp [hx])]
    rfl

theorem isS_W {c : Nat} (h : isS c = true) : isW c = false := by
  simp [isS, isB, isW, isL, isD] at h ⊢
  omega
theorem isS_D {c : Nat} (h : isS c = true) : isD c = false := by
  simp [isS, isB, isD] at h ⊢
  omega
theorem sign2_mem {c d : Nat} (h : sign2.contains [c, d] = true) : (c = 46 ∧ d = 46) ∨ (c = 61 ∧ d = 61) ∨ (c = 33 ∧ d = 61) ∨ (c = 60 ∧ d = 61) ∨ (c = 62 ∧ d = 61) ∨ (c = 38 ∧ d = 38) ∨ (c = 124 ∧ d = 124) := by
  simp [sign2] at h
  omega
theorem sign2_one (c : Nat) : sign2.contains [c] = false := by simp [sign2]
theorem sign1_mem {c : Nat} (h : sign1.contains c = true) : c = 123 ∨ c = 125 ∨ c = 40 ∨ c = 41 ∨ c = 59 ∨ c = 44 ∨ c = 61 ∨ c = 60 ∨ c = 62 ∨ c = 43 ∨ c = 45 ∨ c = 42 ∨ c = 47 ∨ c = 33 := by
  simp [sign1] at h
  omega

/-- a token's head is no blank, and no remark's -/
theorem piece_head {c : Nat} {r : List Nat} {k n : Nat} (h : piece (c :: r) = some (k, n)) : isS c = false := by
  cases hs : isS c with
  | false => rfl
  | true =>
    have h1 := isS_W hs
    have h2 := isS_D hs
    have h3 : isL c = false := by simp [isW] at h1; exact h1.1
    simp only [piece, h3, h2, Bool.false_eq_true, if_false] at h
    have hc : c = 9 ∨ c = 10 ∨ c = 13 ∨ c = 32 ∨ c = 35 := by simp [isS, isB] at hs; omega
    split at h
    · rename_i h4
      cases r with
      | nil => rw [List.take_nil, sign2_one] at h4; cases h4
      | cons d r => have := sign2_mem (c := c) (d := d) (by simpa using h4); omega
    · split at h
      · rename_i h5; have := sign1_mem h5; omega
      · cases h

theorem blk_head {c : Nat} {r : List Nat} (h : isS c = false) : blk false (c :: r) = c :: r := by
  simp only [isS, Bool.or_eq_false_iff] at h
  simp only [blk, h.1, h.2, Bool.false_eq_true, if_false]

theorem piece_len {l : List Nat} {k n : Nat} (h : piece l = some (k, n)) : n ≤ l.length := by
  cases l with
  | nil => simp [piece] at h
  | cons c r =>
    have h1 := takeWhile_len (p := isW) r
    have h2 := takeWhile_len (p := isD) r
    simp only [piece] at h
    split at h
    · split at h <;> (simp at h; simp; omega)
    · split at h
      · simp at h; simp; omega
      · split at h
        · rename_i h3
          cases r with
          | nil => rw [List.take_nil, sign2_one] at h3; cases h3
          | cons d r => simp at h; simp; omega
        · split at h <;> simp at h
          simp; omega

/-- a front of a text that holds its first token has that token first -/
theorem piece_front {l : List Nat} {k n q : Nat} (h : piece l = some (k, n)) (hq : n ≤ q) : piece (l.take q) = some (k, n) := by
  cases l with
  | nil => simp [piece] at h
  | cons c r =>
    have hn := piece_pos h
    obtain ⟨q, rfl⟩ : ∃ x, q = x + 1 := ⟨q - 1, by omega⟩
    rw [List.take_succ_cons]
    simp only [piece] at h ⊢
    rw [takeWhile_front, takeWhile_front]
    split at h
    · rename_i h1
      rw [if_pos h1]
      have e : (r.takeWhile isW).take q = r.takeWhile isW := List.take_of_length_le (by split at h <;> (simp at h; omega))
      rw [e]; exact h
    · rename_i h1
      rw [if_neg h1]
      split at h
      · rename_i h2
        rw [if_pos h2]
        have e : (r.takeWhile isD).take q = r.takeWhile isD := List.take_of_length_le (by simp at h; omega)
        rw [e]; exact h
      · rename_i h2
        rw [if_neg h2]
        split at h
        · rename_i h3
          simp at h
          have e : (r.take q).take 1 = r.take 1 := by rw [List.take_take]; congr 1; omega
          rw [e, if_pos h3]; simp; omega
        · rename_i h3
          split at h
          · rename_i h4
            simp at h
            have e : ¬ sign2.contains (c :: (r.take q).take 1) = true := by
              cases q with
              | zero => simp [sign2]
              | succ q => rw [List.take_take]; simpa using h3
            rw [if_neg e, if_pos h4]; simp; omega
          · cases h

/-- a token by itself, and ahead of what ends tokens -/
theorem piece_more {t r : List Nat} {k : Nat} (h : piece t = some (k, t.length)) (hr : ∀ c ∈ r.head?, isS c = true) : piece (t ++ r) = some (k, t.length) := by
  cases t with
  | nil => simp [piece] at h
  | cons c t =>
    have hw : r.takeWhile isW = [] := by
      cases r with
      | nil => rfl
      | cons d r => rw [List.takeWhile_cons, isS_W (hr d (by simp))]; rfl
    have hd : r.takeWhile isD = [] := by
      cases r with
      | nil => rfl
      | cons d r => rw [List.takeWhile_cons, isS_D (hr d (by simp))]; rfl
    rw [List.cons_append]
    simp only [piece] at h ⊢
    split at h
    · rename_i h1
      rw [if_pos h1]
      have e : t.takeWhile isW = t := by
        have h2 := takeWhile_take (p := isW) t
        have h3 : (t.takeWhile isW).length = t.length := by split at h <;> (simp at h; omega)
        rw [h3, List.take_length] at h2
        exact h2.symm
      have e2 : (t ++ r).takeWhile isW = t := by
        rw [takeWhile_more (fun x hx => takeWhile_mem x (by rw [e]; exact hx)), hw, List.append_nil]
      rw [e2]; rw [e] at h; exact h
    · rename_i h1
      rw [if_neg h1]
      split at h
      · rename_i h2
        rw [if_pos h2]
        have e : t.takeWhile isD = t := by
          have h2 := takeWhile_take (p := isD) t
          have h3 : (t.takeWhile isD).length = t.length := by simp at h; omega
          rw [h3, List.take_length] at h2
          exact h2.symm
        have e2 : (t ++ r).takeWhile isD = t := by
          rw [takeWhile_more (fun x hx => takeWhile_mem x (by rw [e]; exact hx)), hd, List.append_nil]
        rw [e2]; rw [e] at h; exact h
      · rename_i h2
        rw [if_neg h2]
        split at h
        · rename_i h3
          simp at h
          have e : (t ++ r).take 1 = t.take 1 := by rw [List.take_append_of_le_length (by omega)]
          rw [e, if_pos h3]; simp; omega
        · rename_i h3
          split at h
          · rename_i h4
            simp at h
            obtain rfl : t = [] := by simpa using h.2
            have e : ¬ sign2.contains (c :: ([] ++ r).take 1) = true := by
              cases r with
              | nil => simpa using h3
              | cons d r =>
                intro hx
                have hs := hr d (by simp)
                have := sign2_mem (c := c) (d := d) (by simpa using hx)
                simp [isS, isB] at hs
                omega
            rw [if_neg e, if_pos h4]; simp; omega
          · cases h
end Go.Proofs.Ytenhjebiokegkaa.Lx
