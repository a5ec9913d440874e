import Derived.Laws.RangeAny
import Derived.Lib.SlBytesRow
import Derived.KernelRfl
namespace Go.Proofs.YtnpdblcfhbamiaaGreat.Sp
/-- byte k of a text, as a number -/
def bt (s : ByteArray) (k : Nat) : Int := ((s.data.toList.getD k 0).toNat : Int)
theorem bt_bd (s : ByteArray) (k : Nat) : 0 ≤ bt s k ∧ bt s k ≤ 255 := by
  unfold bt
  have := (s.data.toList.getD k 0).toNat_lt
  omega
/-- the places of the bytes 10 among the first k -/
def brk (s : ByteArray) : Nat → List Nat
  | 0 => []
  | k + 1 => brk s k ++ (if bt s k = 10 then [k] else [])
theorem brk_yes {s : ByteArray} {k : Nat} (h : bt s k = 10) : brk s (k + 1) = brk s k ++ [k] := by simp [brk, h]
theorem brk_no {s : ByteArray} {k : Nat} (h : ¬ bt s k = 10) : brk s (k + 1) = brk s k := by simp [brk, h]
theorem brk_len (s : ByteArray) (k : Nat) : (brk s k).length ≤ k := by
  induction k with
  | zero => simp [brk]
  | succ k ih => by_cases h : bt s k = 10 <;> simp [brk, h] <;> omega
theorem brk_lt (s : ByteArray) (k : Nat) : ∀ x ∈ brk s k, x < k := by
  induction k with
  | zero => simp [brk]
  | succ k ih =>
    intro x hx
    by_cases h : bt s k = 10
    · rw [brk_yes h] at hx
      rcases List.mem_append.1 hx with h1 | h1
      · have := ih x h1; omega
      · simp at h1; omega
    · rw [brk_no h] at hx
      have := ih x hx; omega
theorem brk_sorted (s : ByteArray) (k : Nat) : (brk s k).Pairwise (· < ·) := by
  induction k with
  | zero => simp [brk]
  | succ k ih =>
    by_cases h : bt s k = 10
    · rw [brk_yes h, List.pairwise_append]
      exact ⟨ih, by simp, fun a ha b hb => by simp at hb; have := brk_lt s k a ha; omega⟩
    · rw [brk_no h]; exact ih
/-- a longer front's breaks begin with a shorter one's -/
theorem brk_front (s : ByteArray) (k d : Nat) : ∃ r, brk s (k + d) = brk s k ++ r ∧ ∀ x ∈ r, k ≤ x := by
  induction d with
  | zero => exact ⟨[], by simp, by simp⟩
  | succ d ih =>
    obtain ⟨r, h1, h2⟩ := ih
    by_cases h : bt s (k + d) = 10
    · refine ⟨r ++ [k + d], ?_, ?_⟩
      · rw [show k + (d + 1) = (k + d) + 1 by omega, brk_yes h, h1, List.append_assoc]
      · intro x hx
        rcases List.mem_append.1 hx with h3 | h3
        · exact h2 x h3
        · simp at h3; omega
    · exact ⟨r, by rw [show k + (d + 1) = (k + d) + 1 by omega, brk_no h, h1], h2⟩
def B (s : ByteArray) : List Nat := brk s s.size
/-- how many lines -/
def nl (s : ByteArray) : Nat := (B s).length + 1
/-- where line n begins, where it ends -/
def st (s : ByteArray) (n : Nat) : Nat := if n = 1 then 0 else (B s).getD (n - 2) 0 + 1
def en (s : ByteArray) (n : Nat) : Nat := if n = nl s then s.size else (B s).getD (n - 1) 0
def ln (s : ByteArray) (n : Nat) : ByteArray := s.extract (st s n) (en s n)
theorem B_lt (s : ByteArray) (i : Nat) (h : i < (B s).length) : (B s).getD i 0 < s.size := by
  have := brk_lt s s.size ((B s).getD i 0) (by unfold B at *; simp [List.getD, List.getElem?_eq_getElem h])
  exact this
theorem B_mono (s : ByteArray) (i j : Nat) (hij : i < j) (h : j < (B s).length) : (B s).getD i 0 < (B s).getD j 0 := by
  have hs := brk_sorted s s.size
  have hi : i < (B s).length := by omega
  simp only [List.getD, List.getElem?_eq_getElem h, List.getElem?_eq_getElem hi, Option.getD_some]
  exact List.pairwise_iff_getElem.1 hs i j hi h hij
theorem nl_le (s : ByteArray) : nl s ≤ s.size + 1 := by have := brk_len s s.size; unfold nl B; omega
theorem nl_pos (s : ByteArray) : 1 ≤ nl s := by unfold nl; omega
theorem en_le (s : ByteArray) (n : Nat) (h1 : 1 ≤ n) (h2 : n ≤ nl s) : en s n ≤ s.size := by
  unfold en
  split
  · omega
  · have := B_lt s (n - 1) (by unfold nl at *; omega); omega
theorem st_le (s : ByteArray) (n : Nat) (h1 : 1 ≤ n) (h2 : n ≤ nl s) : st s n ≤ en s n := by
  unfold st en
  split
  · omega
  · split
    · have := B_lt s (n - 2) (by unfold nl at *; omega); omega
    · have := B_mono s (n - 2) (n - 1) (by omega) (by unfold nl at *; omega); omega
theorem ln_size (s : ByteArray) (n : Nat) (h1 : 1 ≤ n) (h2 : n ≤ nl s) : (ln s n).size = en s n - st s n := by
  have := en_le s n h1 h2
  unfold ln
  simp [ByteArray.size_extract]
  omega
end Go.Proofs.YtnpdblcfhbamiaaGreat.Sp
namespace Go.Proofs.YtnpdblcfhbamiaaGreat.Lx
/-- bytes as numbers: letters, digits, both, blanks -/
def isL (c : Nat) : Bool := (decide (97 ≤ c) && decide (c ≤ 122)) || (decide (65 ≤ c) && decide (c ≤ 90)) || c == 95
def isD (c : Nat) : Bool := decide (48 ≤ c) && decide (c ≤ 57)
def isW (c : Nat) : Bool := isL c || isD c
def isB (c : Nat) : Bool := c == 9 || c == 10 || c == 13 || c == 32
/-- what ends any token: a blank, a remark -/
def isS (c : Nat) : Bool := isB c || c == 35
def bytes (s : String) : List Nat := s.toList.map Char.toNat
def kept : List (List Nat) := ["policy", "queue", "resident", "ghost", "var", "in", "tag", "require", "rule", "on", "hit", "miss", "if", "else", "loop", "while", "set", "mark", "insert", "move", "forget", "shift", "evict", "to", "drop", "call", "pass", "front", "back", "x", "true", "false", "len", "cap", "size", "total", "empty", "full", "at", "min", "max"].map bytes
def sign2 : List (List Nat) := [[46, 46], [61, 61], [33, 61], [60, 61], [62, 61], [38, 38], [124, 124]]
def sign1 : List Nat := [123, 125, 40, 41, 59, 44, 61, 60, 62, 43, 45, 42, 47, 33]
/-- what stands behind blanks and remarks (true: within a remark) -/
def blk : Bool → List Nat → List Nat
  | _, [] => []
  | true, c :: r => blk (c != 10) r
  | false, c :: r => if isB c then blk false r else if c == 35 then blk true r else c :: r
/-- blanks and remarks alone -/
def btw : Bool → List Nat → Bool
  | _, [] => true
  | true, c :: r => btw (c != 10) r
  | false, c :: r => if isB c then btw false r else if c == 35 then btw true r else false
/-- the token at a text's head: its kind, its length -/
def piece : List Nat → Option (Nat × Nat)
  | [] => none
  | c :: r =>
    if isL c then (if kept.contains (c :: r.takeWhile isW) then some (5, (r.takeWhile isW).length + 1) else some (2, (r.takeWhile isW).length + 1))
    else if isD c then some (3, (r.takeWhile isD).length + 1)
    else if sign2.contains (c :: r.take 1) then some (4, 2)
    else if sign1.contains c then some (4, 1)
    else none
/-- a number's value; above 2^30: one more than that -/
def capd (x : Nat) : Nat := if 1073741824 < x then 1073741825 else x
def val (n : Nat) (l : List Nat) : Nat := l.foldl (fun n d => capd (10 * n + (d - 48))) n
theorem val_nil (n : Nat) : val n [] = n := by unfold val; rw [List.foldl_nil]
theorem val_cons (n d : Nat) (r : List Nat) : val n (d :: r) = val (capd (10 * n + (d - 48))) r := by unfold val; rw [List.foldl_cons]
structure Tok where
  kind : Nat
  at_ : Nat
  stop : Nat
  n : Nat
  deriving DecidableEq
inductive Res where
  | ok (ts : List Tok)
  | fault (err at_ : Nat)
def Res.cons (t : Tok) : Res → Res
  | .ok ts => .ok (t :: ts)
  | .fault e i => .fault e i
theorem blk_len (f : Bool) (l : List Nat) : (blk f l).length ≤ l.length := by
  induction l generalizing f with
  | nil => cases f <;> simp [blk]
  | cons c r ih =>
    cases f
    · simp only [blk]
      split
      · have := ih false; simp; omega
      · split
        · have := ih true; simp; omega
        · simp
    · simp only [blk]
      have := ih (c != 10); simp; omega
theorem piece_pos {l : List Nat} {k n : Nat} (h : piece l = some (k, n)) : 1 ≤ n := by
  cases l with
  | nil => simp [piece] at h
  | cons c r =>
    simp only [piece] at h
    split at h
    · split at h <;> (simp at h; omega)
    · split at h
      · simp at h; omega
      · split at h
        · simp at h; omega
        · split at h <;> simp at h
          omega
def num (k : Nat) (l : List Nat) : Nat := if k = 3 then val 0 l else 0
/-- a text's tokens, from place p on, where k tokens stand ahead -/
def scan (l : List Nat) (p k : Nat) : Res :=
  match _hm : blk false l with
  | [] => .ok [⟨0, p + l.length, p + l.length, 0⟩]
  | c :: r =>
    if k = 65536 then .fault 3 (p + (l.length - (c :: r).length))
    else match _hp : piece (c :: r) with
      | none => .fault 11 (p + (l.length - (c :: r).length))
      | some (kd, n) =>
        if kd = 2 ∧ 64 < n then .fault 13 (p + (l.length - (c :: r).length))
        else if 1073741824 < num kd ((c :: r).take n) then .fault 12 (p + (l.length - (c :: r).length))
        else (scan ((c :: r).drop n) (p + (l.length - (c :: r).length) + n) (k + 1)).cons ⟨kd, p + (l.length - (c :: r).length), p + (l.length - (c :: r).length) + n, num kd ((c :: r).take n)⟩
  termination_by l.length
  decreasing_by
  have h1 := blk_len false l
  have h2 := piece_pos _hp
  rw [_hm] at h1
  simp only [List.length_cons, List.length_drop] at h1 ⊢
  omega
/-- one step of it, said once -/
theorem scan_nil {l : List Nat} {p k : Nat} (h : blk false l = []) : scan l p k = .ok [⟨0, p + l.length, p + l.length, 0⟩] := by
  rw [scan]
  split
  · rfl
  · rename_i c r hm; rw [h] at hm; cases hm
theorem scan_many {l m : List Nat} {p k : Nat} (h : blk false l = m) (hm : m ≠ []) (hk : k = 65536) : scan l p k = .fault 3 (p + (l.length - m.length)) := by
  rw [scan]
  split
  · rename_i e; rw [h] at e; exact absurd e hm
  · rename_i c r e; rw [h] at e; subst e; simp [hk]
theorem scan_byte {l m : List Nat} {p k : Nat} (h : blk false l = m) (hm : m ≠ []) (hk : k ≠ 65536) (hp : piece m = none) : scan l p k = .fault 11 (p + (l.length - m.length)) := by
  rw [scan]
  split
  · rename_i e; rw [h] at e; exact absurd e hm
  · rename_i c r e; rw [h] at e; subst e
    rw [if_neg hk]
    split
    · rfl
    · rename_i e2; rw [hp] at e2; cases e2
theorem scan_name {l m : List Nat} {p k n : Nat} (h : blk false l = m) (hm : m ≠ []) (hk : k ≠ 65536) (hp : piece m = some (2, n)) (hn : 64 < n) : scan l p k = .fault 13 (p + (l.length - m.length)) := by
  rw [scan]
  split
  · rename_i e; rw [h] at e; exact absurd e hm
  · rename_i c r e; rw [h] at e; subst e
    rw [if_neg hk]
    split
    · rename_i e2; rw [hp] at e2; cases e2
    · rename_i kd n' e2; rw [hp] at e2; cases e2
      rw [if_pos ⟨rfl, hn⟩]
theorem scan_number {l m : List Nat} {p k kd n : Nat} (h : blk false l = m) (hm : m ≠ []) (hk : k ≠ 65536) (hp : piece m = some (kd, n)) (hn : ¬ (kd = 2 ∧ 64 < n)) (hv : 1073741824 < num kd (m.take n)) : scan l p k = .fault 12 (p + (l.length - m.length)) := by
  rw [scan]
  split
  · rename_i e; rw [h] at e; exact absurd e hm
  · rename_i c r e; rw [h] at e; subst e
    rw [if_neg hk]
    split
    · rename_i e2; rw [hp] at e2; cases e2
    · rename_i kd' n' e2; rw [hp] at e2; cases e2
      rw [if_neg hn, if_pos hv]
theorem scan_tok {l m : List Nat} {p k kd n : Nat} (h : blk false l = m) (hm : m ≠ []) (hk : k ≠ 65536) (hp : piece m = some (kd, n)) (hn : ¬ (kd = 2 ∧ 64 < n)) (hv : ¬ 1073741824 < num kd (m.take n)) :
    scan l p k = (scan (m.drop n) (p + (l.length - m.length) + n) (k + 1)).cons ⟨kd, p + (l.length - m.length), p + (l.length - m.length) + n, num kd (m.take n)⟩ := by
  rw [scan]
  split
  · rename_i e; rw [h] at e; exact absurd e hm
  · rename_i c r e; rw [h] at e; subst e
    rw [if_neg hk]
    split
    · rename_i e2; rw [hp] at e2; cases e2
    · rename_i kd' n' e2; rw [hp] at e2; cases e2
      rw [if_neg hn, if_neg hv]
theorem takeWhile_all {p : Nat → Bool} {l : List Nat} (h : ∀ c ∈ l, p c = true) : l.takeWhile p = l := by
  induction l with
  | nil => rfl
  | cons c r ih =>
    rw [List.takeWhile_cons, if_pos (h c (by simp)), ih fun x hx => h x (by simp [hx])]
theorem takeWhile_mem {p : Nat → Bool} {l : List Nat} : ∀ c ∈ l.takeWhile p, p c = true := by
  induction l with
  | nil => simp
  | cons c r ih =>
    intro x hx
    rw [List.takeWhile_cons] at hx
    split at hx
    · rcases List.mem_cons.1 hx with rfl | h
      · assumption
      · exact ih x h
    · cases hx
theorem takeWhile_len {p : Nat → Bool} (l : List Nat) : (l.takeWhile p).length ≤ l.length := by
  induction l with
  | nil => simp
  | cons c r ih =>
    rw [List.takeWhile_cons]
    split <;> simp
    exact ih
theorem takeWhile_take {p : Nat → Bool} (l : List Nat) : l.take (l.takeWhile p).length = l.takeWhile p := by
  induction l with
  | nil => simp
  | cons c r ih =>
    rw [List.takeWhile_cons]
    split
    · simp [ih]
    · simp
/-- a front that is longer than the run has the same run; a shorter one is run whole -/
theorem takeWhile_front {p : Nat → Bool} (l : List Nat) (q : Nat) : (l.take q).takeWhile p = (l.takeWhile p).take q := by
  induction l generalizing q with
  | nil => simp
  | cons c r ih =>
    cases q with
    | zero => simp
    | succ q =>
      rw [List.take_succ_cons, List.takeWhile_cons, List.takeWhile_cons]
      split
      · simp [ih]
      · simp
theorem takeWhile_more {p : Nat → Bool} {l r : List Nat} (h : ∀ c ∈ l, p c = true) : (l ++ r).takeWhile p = l ++ r.takeWhile p := by
  induction l with
  | nil => rfl
  | cons c l ih =>
    rw [List.cons_append, List.takeWhile_cons, if_pos (h c (by simp)), ih fun x hx => h x (by simp [hx])]
    rfl
theorem isS_W {c : Nat} (h : isS c = true) : isW c = false := by
  simp [isS, isB, isW, isL, isD] at h ⊢
  omega
theorem isS_D {c : Nat} (h : isS c = true) : isD c = false := by
  simp [isS, isB, isD] at h ⊢
  omega
theorem sign2_mem {c d : Nat} (h : sign2.contains [c, d] = true) : (c = 46 ∧ d = 46) ∨ (c = 61 ∧ d = 61) ∨ (c = 33 ∧ d = 61) ∨ (c = 60 ∧ d = 61) ∨ (c = 62 ∧ d = 61) ∨ (c = 38 ∧ d = 38) ∨ (c = 124 ∧ d = 124) := by
  simp [sign2] at h
  omega
theorem sign2_one (c : Nat) : sign2.contains [c] = false := by simp [sign2]
theorem sign1_mem {c : Nat} (h : sign1.contains c = true) : c = 123 ∨ c = 125 ∨ c = 40 ∨ c = 41 ∨ c = 59 ∨ c = 44 ∨ c = 61 ∨ c = 60 ∨ c = 62 ∨ c = 43 ∨ c = 45 ∨ c = 42 ∨ c = 47 ∨ c = 33 := by
  simp [sign1] at h
  omega
/-- a token's head is no blank, and no remark's -/
theorem piece_head {c : Nat} {r : List Nat} {k n : Nat} (h : piece (c :: r) = some (k, n)) : isS c = false := by
  cases hs : isS c with
  | false => rfl
  | true =>
    have h1 := isS_W hs
    have h2 := isS_D hs
    have h3 : isL c = false := by simp [isW] at h1; exact h1.1
    simp only [piece, h3, h2, Bool.false_eq_true, if_false] at h
    have hc : c = 9 ∨ c = 10 ∨ c = 13 ∨ c = 32 ∨ c = 35 := by simp [isS, isB] at hs; omega
    split at h
    · rename_i h4
      cases r with
      | nil => rw [List.take_nil, sign2_one] at h4; cases h4
      | cons d r => have := sign2_mem (c := c) (d := d) (by simpa using h4); omega
    · split at h
      · rename_i h5; have := sign1_mem h5; omega
      · cases h
theorem blk_head {c : Nat} {r : List Nat} (h : isS c = false) : blk false (c :: r) = c :: r := by
  simp only [isS, Bool.or_eq_false_iff] at h
  simp only [blk, h.1, h.2, Bool.false_eq_true, if_false]
theorem piece_len {l : List Nat} {k n : Nat} (h : piece l = some (k, n)) : n ≤ l.length := by
  cases l with
  | nil => simp [piece] at h
  | cons c r =>
    have h1 := takeWhile_len (p := isW) r
    have h2 := takeWhile_len (p := isD) r
    simp only [piece] at h
    split at h
    · split at h <;> (simp at h; simp; omega)
    · split at h
      · simp at h; simp; omega
      · split at h
        · rename_i h3
          cases r with
          | nil => rw [List.take_nil, sign2_one] at h3; cases h3
          | cons d r => simp at h; simp; omega
        · split at h <;> simp at h
          simp; omega
/-- a front of a text that holds its first token has that token first -/
theorem piece_front {l : List Nat} {k n q : Nat} (h : piece l = some (k, n)) (hq : n ≤ q) : piece (l.take q) = some (k, n) := by
  cases l with
  | nil => simp [piece] at h
  | cons c r =>
    have hn := piece_pos h
    obtain ⟨q, rfl⟩ : ∃ x, q = x + 1 := ⟨q - 1, by omega⟩
    rw [List.take_succ_cons]
    simp only [piece] at h ⊢
    rw [takeWhile_front, takeWhile_front]
    split at h
    · rename_i h1
      rw [if_pos h1]
      have e : (r.takeWhile isW).take q = r.takeWhile isW := List.take_of_length_le (by split at h <;> (simp at h; omega))
      rw [e]; exact h
    · rename_i h1
      rw [if_neg h1]
      split at h
      · rename_i h2
        rw [if_pos h2]
        have e : (r.takeWhile isD).take q = r.takeWhile isD := List.take_of_length_le (by simp at h; omega)
        rw [e]; exact h
      · rename_i h2
        rw [if_neg h2]
        split at h
        · rename_i h3
          simp at h
          have e : (r.take q).take 1 = r.take 1 := by rw [List.take_take]; congr 1; omega
          rw [e, if_pos h3]; simp; omega
        · rename_i h3
          split at h
          · rename_i h4
            simp at h
            have e : ¬ sign2.contains (c :: (r.take q).take 1) = true := by
              cases q with
              | zero => simp [sign2]
              | succ q => rw [List.take_take]; simpa using h3
            rw [if_neg e, if_pos h4]; simp; omega
          · cases h
/-- a token by itself, and ahead of what ends tokens -/
theorem piece_more {t r : List Nat} {k : Nat} (h : piece t = some (k, t.length)) (hr : ∀ c ∈ r.head?, isS c = true) : piece (t ++ r) = some (k, t.length) := by
  cases t with
  | nil => simp [piece] at h
  | cons c t =>
    have hw : r.takeWhile isW = [] := by
      cases r with
      | nil => rfl
      | cons d r => rw [List.takeWhile_cons, isS_W (hr d (by simp))]; rfl
    have hd : r.takeWhile isD = [] := by
      cases r with
      | nil => rfl
      | cons d r => rw [List.takeWhile_cons, isS_D (hr d (by simp))]; rfl
    rw [List.cons_append]
    simp only [piece] at h ⊢
    split at h
    · rename_i h1
      rw [if_pos h1]
      have e : t.takeWhile isW = t := by
        have h2 := takeWhile_take (p := isW) t
        have h3 : (t.takeWhile isW).length = t.length := by split at h <;> (simp at h; omega)
        rw [h3, List.take_length] at h2
        exact h2.symm
      have e2 : (t ++ r).takeWhile isW = t := by
        rw [takeWhile_more (fun x hx => takeWhile_mem x (by rw [e]; exact hx)), hw, List.append_nil]
      rw [e2]; rw [e] at h; exact h
    · rename_i h1
      rw [if_neg h1]
      split at h
      · rename_i h2
        rw [if_pos h2]
        have e : t.takeWhile isD = t := by
          have h2 := takeWhile_take (p := isD) t
          have h3 : (t.takeWhile isD).length = t.length := by simp at h; omega
          rw [h3, List.take_length] at h2
          exact h2.symm
        have e2 : (t ++ r).takeWhile isD = t := by
          rw [takeWhile_more (fun x hx => takeWhile_mem x (by rw [e]; exact hx)), hd, List.append_nil]
        rw [e2]; rw [e] at h; exact h
      · rename_i h2
        rw [if_neg h2]
        split at h
        · rename_i h3
          simp at h
          have e : (t ++ r).take 1 = t.take 1 := by rw [List.take_append_of_le_length (by omega)]
          rw [e, if_pos h3]; simp; omega
        · rename_i h3
          split at h
          · rename_i h4
            simp at h
            obtain rfl : t = [] := by simpa using h.2
            have e : ¬ sign2.contains (c :: ([] ++ r).take 1) = true := by
              cases r with
              | nil => simpa using h3
              | cons d r =>
                intro hx
                have hs := hr d (by simp)
                have := sign2_mem (c := c) (d := d) (by simpa using hx)
                simp [isS, isB] at hs
                omega
            rw [if_neg e, if_pos h4]; simp; omega
          · cases h
end Go.Proofs.YtnpdblcfhbamiaaGreat.Lx
