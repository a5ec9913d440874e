import Derived.Laws.RangeAny
import Derived.Lib.SlBytesRow
import Derived.KernelRfl
namespace Go.Proofs.Ytjbpbgdhooggeaa.Sp

/-- byte k of a text, as a number -/
def bt (s : ByteArray) (k : Nat) : Int := ((s.data.toList.getD k 0).toNat : Int)
theorem bt_bd (s : ByteArray) (k : Nat) : 0 ≤ bt s k ∧ bt s k ≤ 255 := by
  unfold bt
  have := (s.data.toList.getD k 0).toNat_lt
  omega

/-- the places of the bytes 10 among the first k -/
def brk (s : ByteArray) : Nat → List Nat
  | 0 => []
  | k + 1 => brk s k ++ (if bt s k = 10 then [k] else [])
theorem brk_yes {s : ByteArray} {k : Nat} (h : bt s k = 10) : brk s (k + 1) = brk s k ++ [k] := by simp [brk, h]
theorem brk_no {s : ByteArray} {k : Nat} (h : ¬ bt s k = 10) : brk s (k + 1) = brk s k := by simp [brk, h]
theorem brk_len (s : ByteArray) (k : Nat) : (brk s k).length ≤ k := by
  induction k with
  | zero => simp [brk]
  | succ k ih => by_cases h : bt s k = 10 <;> simp [brk, h] <;> omega
theorem brk_lt (s : ByteArray) (k : Nat) : ∀ x ∈ brk s k, x < k := by
  induction k with
  | zero => simp [brk]
  | succ k ih =>
    intro x hx
    by_cases h : bt s k = 10
    · rw [brk_yes h] at hx
      rcases List.mem_append.1 hx with h1 | h1
      · have := ih x h1; omega
      · simp at h1; omega
    · rw [brk_no h] at hx
      have := ih x hx; omega
theorem brk_sorted (s : ByteArray) (k : Nat) : (brk s k).Pairwise (· < ·) := by
  induction k with
  | zero => simp [brk]
  | succ k ih =>
    by_cases h : bt s k = 10
    · rw [brk_yes h, List.pairwise_append]
      exact ⟨ih, by simp, fun a ha b hb => by simp at hb; have := brk_lt s k a ha; omega⟩
    · rw [brk_no h]; exact ih
/-- a longer front's breaks begin with a shorter one's -/
theorem brk_front (s : ByteArray) (k d : Nat) : ∃ r, brk s (k + d) = brk s k ++ r ∧ ∀ x ∈ r, k ≤ x := by
  induction d with
  | zero => exact ⟨[], by simp, by simp⟩
  | succ d ih =>
    obtain ⟨r, h1, h2⟩ := ih
    by_cases h : bt s (k + d) = 10
    · refine ⟨r ++ [k + d], ?_, ?_⟩
      · rw [show k + (d + 1) = (k + d) + 1 by omega, brk_yes h, h1, List.append_assoc]
      · intro x hx
        rcases List.mem_append.1 hx with h3 | h3
        · exact h2 x h3
        · simp at h3; omega
    · exact ⟨r, by rw [show k + (d + 1) = (k + d) + 1 by omega, brk_no h, h1], h2⟩

def B (s : ByteArray) : List Nat := brk s s.size
/-- how many lines -/
def nl (s : ByteArray) : Nat := (B s).length + 1
/-- where line n begins, where it ends -/
def st (s : ByteArray) (n : Nat) : Nat := if n = 1 then 0 else (B s).getD (n - 2) 0 + 1
def en (s : ByteArray) (n : Nat) : Nat := if n = nl s then s.size else (B s).getD (n - 1) 0
def ln (s : ByteArray) (n : Nat) : ByteArray := s.extract (st s n) (en s n)

theorem B_lt (s : ByteArray) (i : Nat) (h : i < (B s).length) : (B s).getD i 0 < s.size := by
  have := brk_lt s s.size ((B s).getD i 0) (by unfold B at *; simp [List.getD, List.getElem?_eq_getElem h])
  exact this
theorem B_mono (s : ByteArray) (i j : Nat) (hij : i < j) (h : j < (B s).length) : (B s).getD i 0 < (B s).getD j 0 := by
  have hs := brk_sorted s s.size
  have hi : i < (B s).length := by omega
  simp only [List.getD, List.getElem?_eq_getElem h, List.getElem?_eq_getElem hi, Option.getD_some]
  exact List.pairwise_iff_getElem.1 hs i j hi h hij
theorem nl_le (s : ByteArray) : nl s ≤ s.size + 1 := by have := brk_len s s.size; unfold nl B; omega
theorem nl_pos (s : ByteArray) : 1 ≤ nl s := by unfold nl; omega
theorem en_le (s : ByteArray) (n : Nat) (h1 : 1 ≤ n) (h2 : n ≤ nl s) : en s n ≤ s.size := by
  unfold en
  split
  · omega
  · have := B_lt s (n - 1) (by unfold nl at *; omega); omega
theorem st_le (s : ByteArray) (n : Nat) (h1 : 1 ≤ n) (h2 : n ≤ nl s) : st s n ≤ en s n := by
  unfold st en
  split
  · omega
  · split
    · have := B_lt s (n - 2) (by unfold nl at *; omega); omega
    · have := B_mono s (n - 2) (n - 1) (by omega) (by unfold nl at *; omega); omega
theorem ln_size (s : ByteArray) (n : Nat) (h1 : 1 ≤ n) (h2 : n ≤ nl s) : (ln s n).size = en s n - st s n := by
  have := en_le s n h1 h2
  unfold ln
  simp [ByteArray.size_extract]
  omega
end Go.Proofs.Ytjbpbgdhooggeaa.Sp

namespace Go.Proofs.Ytjbpbgdhooggeaa.Lx

/-- bytes as numbers: letters, digits, both, blanks -/
def isL (c : Nat) : Bool := (decide (97 ≤ c) && decide (c ≤ 122)) || (decide (65 ≤ c) && decide (c ≤ 90)) || c == 95
def isD (c : Nat) : Bool := decide (48 ≤ c) && decide (c ≤ 57)
def isW (c : Nat) : Bool := isL c || isD c
def isB (c : Nat) : Bool := c == 9 || c == 10 || c == 13 || c == 32
/-- what ends any token: a blank, a remark -/
def isS (c : Nat) : Bool := isB c || c == 35

def bytes (s : String) : List Nat := s.toList.map Char.toNat
def kept : List (List Nat) := ["policy", "queue", "resident", "ghost", "var", "in", "tag", "require", "rule", "on", "hit", "miss", "if", "else", "loop", "while", "set", "mark", "insert", "move", "forget", "shift", "evict", "to", "drop", "call", "pass", "front", "back", "x", "true", "false", "len", "cap", "size", "total", "empty", "full", "at", "min", "max"].map bytes
def sign2 : List (List Nat) := [[46, 46], [61, 61], [33, 61], [60, 61], [62, 61], [38, 38], [124, 124]]
def sign1 : List Nat := [123, 125, 40, 41, 59, 44, 61, 60, 62, 43, 45, 42, 47, 33]

/-- what stands behind blanks and remarks (true: within a remark) -/
def blk : Bool → List Nat → List Nat
  | _, [] => []
  | true, c :: r => blk (c != 10) r
  | false, c :: r => if isB c then blk false r else if c == 35 then blk true r else c :: r
/-- blanks and remarks alone -/
def btw : Bool → List Nat → Bool
  | _, [] => true
  | true, c :: r => btw (c != 10) r
  | false, c :: r => if isB c then btw false r else if c == 35 then btw true r else false

/-- the token at a text's head: its kind, its length -/
def piece : List Nat → Option (Nat × Nat)
  | [] => none
  | c :: r =>
    if isL c then (if kept.contains (c :: r.takeWhile isW) then some (5, (r.takeWhile isW).length + 1) else some (2, (r.takeWhile isW).length + 1))
    else if isD c then some (3, (r.takeWhile isD).length + 1)
    else if sign2.contains (c :: r.take 1) then some (4, 2)
    else if sign1.contains c then some (4, 1)
    else none

/-- a number's value; above 2^30: one more than that -/
def capd (x : Nat) : Nat := if 1073741824 < x then 1073741825 else x
def val (n : Nat) (l : List Nat) : Nat := l.foldl (fun n d => capd (10 * n + (d - 48))) n
theorem val_nil (n : Nat) : val n [] = n := by unfold val; rw [List.foldl_nil]
theorem val_cons (n d : Nat) (r : List Nat) : val n (d :: r) = val (capd (10 * n + (d - 48))) r := by unfold val; rw [List.foldl_cons]

structure Tok where
  kind : Nat
  at_ : Nat
  stop : Nat
  n : Nat
  deriving DecidableEq

inductive Res where
  | ok (ts : List Tok)
  | fault (err at_ : Nat)

def Res.cons (t : Tok) : Res → Res
  | .ok ts => .ok (t :: ts)
  | .fault e i => .fault e i

theorem blk_len (f : Bool) (l : List Nat) : (blk f l).length ≤ l.length := by
  induction l generalizing f with
  | nil => cases f <;> simp [blk]
  | cons c r ih =>
    cases f
    · simp only [blk]
      split
      · have := ih false; simp; omega
      · split
        · have := ih true; simp; omega
        · simp
    · simp only [blk]
      have := ih (c != 10); simp; omega

theorem piece_pos {l : List Nat} {k n : Nat} (h : piece l = some (k, n)) : 1 ≤ n := by
  cases l with
  | nil => simp [piece] at h
  | cons c r =>
    simp only [piece] at h
    split at h
    · split at h <;> (simp at h; omega)
    · split at h
      · simp at h; omega
      · split at h
        · simp at h; omega
        · split at h <;> simp at h
          omega

def num (k : Nat) (l : List Nat) : Nat := if k = 3 then val 0 l else 0

/-- a text's tokens, from place p on, where k tokens stand ahead -/
def scan (l : List Nat) (p k : Nat) : Res :=
  match _hm : blk false l with
  | [] => .ok [⟨0, p + l.length, p + l.length, 0⟩]
  | c :: r =>
    if k = 65536 then .fault 3 (p + (l.length - (c :: r).length))
    else match _hp : piece (c :: r) with
      | none => .fault 11 (p + (l.length - (c :: r).length))
      | some (kd, n) =>
        if kd = 2 ∧ 64 < n then .fault 13 (p + (l.length - (c :: r).length))
        else if 1073741824 < num kd ((c :: r).take n) then .fault 12 (p + (l.length - (c :: r).length))
        else (scan ((c :: r).drop n) (p + (l.length - (c :: r).length) + n) (k + 1)).cons ⟨kd, p + (l.length - (c :: r).length), p + (l.length - (c :: r).length) + n, num kd ((c :: r).take n)⟩
  termination_by l.length
  decreasing_by
  have h1 := blk_len false l
  have h2 := piece_pos _hp
  rw [_hm] at h1
  simp only [List.length_cons, List.length_drop] at h1 ⊢
  omega

/-- one step of it, said once -/
theorem scan_nil {l : List Nat} {p k : Nat} (h : blk false l = []) : scan l p k = .ok [⟨0, p + l.length, p + l.length, 0⟩] := by
  rw [scan]
  split
  · rfl
  · rename_i c r hm; rw [h] at hm; cases hm
theorem scan_many {l m : List Nat} {p k : Nat} (h : blk false l = m) (hm : m ≠ []) (hk : k = 65536) : scan l p k = .fault 3 (p + (l.length - m.length)) := by
  rw [scan]
  split
  · rename_i e; rw [h] at e; exact absurd e hm
  · rename_i c r e; rw [h] at e; subst e; simp [hk]
theorem scan_byte {l m : List Nat} {p k : Nat} (h : blk false l = m) (hm : m ≠ []) (hk : k ≠ 65536) (hp : piece m = none) : scan l p k = .fault 11 (p + (l.length - m.length)) := by
  rw [scan]
  split
  · rename_i e; rw [h] at e; exact absurd e hm
  · rename_i c r e; rw [h] at e; subst e
    rw [if_neg hk]
    split
    · rfl
    · rename_i e2; rw [hp] at e2; cases e2
theorem scan_name {l m : List Nat} {p k n : Nat} (h : blk false l = m) (hm : m ≠ []) (hk : k ≠ 65536) (hp : piece m = some (2, n)) (hn : 64 < n) : scan l p k = .fault 13 (p + (l.length - m.length)) := by
  rw [scan]
  split
  · rename_i e; rw [h] at e; exact absurd e hm
  · rename_i c r e; rw [h] at e; subst e
    rw [if_neg hk]
    split
    · rename_i e2; rw [hp] at e2; cases e2
    · rename_i kd n' e2; rw [hp] at e2; cases e2
      rw [if_pos ⟨rfl, hn⟩]
theorem scan_number {l m : List Nat} {p k kd n : Nat} (h : blk false l = m) (hm : m ≠ []) (hk : k ≠ 65536) (hp : piece m = some (kd, n)) (hn : ¬ (kd = 2 ∧ 64 < n)) (hv : 1073741824 < num kd (m.take n)) : scan l p k = .fault 12 (p + (l.length - m.length)) := by
  rw [scan]
  split
  · rename_i e; rw [h] at e; exact absurd e hm
  · rename_i c r e; rw [h] at e; subst e
    rw [if_neg hk]
    split
    · rename_i e2; rw [hp] at e2; cases e2
    · rename_i kd' n' e2; rw [hp] at e2; cases e2
      rw [if_neg hn, if_pos hv]
theorem scan_tok {l m : List Nat} {p k kd n : Nat} (h : blk false l = m) (hm : m ≠ []) (hk : k ≠ 65536) (hp : piece m = some (kd, n)) (hn : ¬ (kd = 2 ∧ 64 < n)) (hv : ¬ 1073741824 < num kd (m.take n)) :
    scan l p k = (scan (m.drop n) (p + (l.length - m.length) + n) (k + 1)).cons ⟨kd, p + (l.length - m.length), p + (l.length - m.length) + n, num kd (m.take n)⟩ := by
  rw [scan]
  split
  · rename_i e; rw [h] at e; exact absurd e hm
  · rename_i c r e; rw [h] at e; subst e
    rw [if_neg hk]
    split
    · rename_i e2; rw [hp] at e2; cases e2
    · rename_i kd' n' e2; rw [hp] at e2; cases e2
      rw [if_neg hn, if_neg hv]
end Go.Proofs.Ytjbpbgdhooggeaa.Lx

namespace Go.Proofs.Ytjbpbgdhooggeaa.Lx

theorem takeWhile_all {p : Nat → Bool} {l : List Nat} (h : ∀ c ∈ l, p c = true) : l.takeWhile p = l := by
  induction l with
  | nil => rfl
  | cons c r ih =>
    rw [List.takeWhile_cons, if_pos (h c (by simp)), ih fun x hx => h x (by simp [hx])]
theorem takeWhile_mem {p : Nat → Bool} {l : List Nat} : ∀ c ∈ l.takeWhile p, p c = true := by
  induction l with
  | nil => simp
  | cons c r ih =>
    intro x hx
    rw [List.takeWhile_cons] at hx
    split at hx
    · rcases List.mem_cons.1 hx with rfl | h
      · assumption
      · exact ih x h
    · cases hx
theorem takeWhile_len {p : Nat → Bool} (l : List Nat) : (l.takeWhile p).length ≤ l.length := by
  induction l with
  | nil => simp
  | cons c r ih =>
    rw [List.takeWhile_cons]
    split <;> simp
    exact ih
theorem takeWhile_take {p : Nat → Bool} (l : List Nat) : l.take (l.takeWhile p).length = l.takeWhile p := by
  induction l with
  | nil => simp
  | cons c r ih =>
    rw [List.takeWhile_cons]
    split
    · simp [ih]
    · simp
/-- a front that is longer than the run has the same run; a shorter one is run whole -/
theorem takeWhile_front {p : Nat → Bool} (l : List Nat) (q : Nat) : (l.take q).takeWhile p = (l.takeWhile p).take q := by
  induction l generalizing q with
  | nil => simp
  | cons c r ih =>
    cases q with
    | zero => simp
    | succ q =>
      rw [List.take_succ_cons, List.takeWhile_cons, List.takeWhile_cons]
      split
      · simp [ih]
      · simp
theorem takeWhile_more {p : Nat → Bool} {l r : List Nat} (h : ∀ c ∈ l, p c = true) : (l ++ r).takeWhile p = l ++ r.takeWhile p := by
  induction l with
  | nil => rfl
  | cons c l ih =>
    rw [List.cons_append, List.takeWhile_cons, if_pos (h c (by simp)), ih fun x hx => h x (by simp [hx])]
    rfl

theorem isS_W {c : Nat} (h : isS c = true) : isW c = false := by
  simp [isS, isB, isW, isL, isD] at h ⊢
  omega
theorem isS_D {c : Nat} (h : isS c = true) : isD c = false := by
  simp [isS, isB, isD] at h ⊢
  omega
theorem sign2_mem {c d : Nat} (h : sign2.contains [c, d] = true) : (c = 46 ∧ d = 46) ∨ (c = 61 ∧ d = 61) ∨ (c = 33 ∧ d = 61) ∨ (c = 60 ∧ d = 61) ∨ (c = 62 ∧ d = 61) ∨ (c = 38 ∧ d = 38) ∨ (c = 124 ∧ d = 124) := by
  simp [sign2] at h
  omega
theorem sign2_one (c : Nat) : sign2.contains [c] = false := by simp [sign2]
theorem sign1_mem {c : Nat} (h : sign1.contains c = true) : c = 123 ∨ c = 125 ∨ c = 40 ∨ c = 41 ∨ c = 59 ∨ c = 44 ∨ c = 61 ∨ c = 60 ∨ c = 62 ∨ c = 43 ∨ c = 45 ∨ c = 42 ∨ c = 47 ∨ c = 33 := by
  simp [sign1] at h
  omega

/-- a token's head is no blank, and no remark's -/
theorem piece_head {c : Nat} {r : List Nat} {k n : Nat} (h : piece (c :: r) = some (k, n)) : isS c = false := by
  cases hs : isS c with
  | false => rfl
  | true =>
    have h1 := isS_W hs
    have h2 := isS_D hs
    have h3 : isL c = false := by simp [isW] at h1; exact h1.1
    simp only [piece, h3, h2, Bool.false_eq_true, if_false] at h
    have hc : c = 9 ∨ c = 10 ∨ c = 13 ∨ c = 32 ∨ c = 35 := by simp [isS, isB] at hs; omega
    split at h
    · rename_i h4
      cases r with
      | nil => rw [List.take_nil, sign2_one] at h4; cases h4
      | cons d r => have := sign2_mem (c := c) (d := d) (by simpa using h4); omega
    · split at h
      · rename_i h5; have := sign1_mem h5; omega
      · cases h

theorem blk_head {c : Nat} {r : List Nat} (h : isS c = false) : blk false (c :: r) = c :: r := by
  simp only [isS, Bool.or_eq_false_iff] at h
  simp only [blk, h.1, h.2, Bool.false_eq_true, if_false]

theorem piece_len {l : List Nat} {k n : Nat} (h : piece l = some (k, n)) : n ≤ l.length := by
  cases l with
  | nil => simp [piece] at h
  | cons c r =>
    have h1 := takeWhile_len (p := isW) r
    have h2 := takeWhile_len (p := isD) r
    simp only [piece] at h
    split at h
    · split at h <;> (simp at h; simp; omega)
    · split at h
      · simp at h; simp; omega
      · split at h
        · rename_i h3
          cases r with
          | nil => rw [List.take_nil, sign2_one] at h3; cases h3
          | cons d r => simp at h; simp; omega
        · split at h <;> simp at h
          simp; omega

/-- a front of a text that holds its first token has that token first -/
theorem piece_front {l : List Nat} {k n q : Nat} (h : piece l = some (k, n)) (hq : n ≤ q) : piece (l.take q) = some (k, n) := by
  cases l with
  | nil => simp [piece] at h
  | cons c r =>
    have hn := piece_pos h
    obtain ⟨q, rfl⟩ : ∃ x, q = x + 1 := ⟨q - 1, by omega⟩
    rw [List.take_succ_cons]
    simp only [piece] at h ⊢
    rw [takeWhile_front, takeWhile_front]
    split at h
    · rename_i h1
      rw [if_pos h1]
      have e : (r.takeWhile isW).take q = r.takeWhile isW := List.take_of_length_le (by split at h <;> (simp at h; omega))
      rw [e]; exact h
    · rename_i h1
      rw [if_neg h1]
      split at h
      · rename_i h2
        rw [if_pos h2]
        have e : (r.takeWhile isD).take q = r.takeWhile isD := List.take_of_length_le (by simp at h; omega)
        rw [e]; exact h
      · rename_i h2
        rw [if_neg h2]
        split at h
        · rename_i h3
          simp at h
          have e : (r.take q).take 1 = r.take 1 := by rw [List.take_take]; congr 1; omega
          rw [e, if_pos h3]; simp; omega
        · rename_i h3
          split at h
          · rename_i h4
            simp at h
            have e : ¬ sign2.contains (c :: (r.take q).take 1) = true := by
              cases q with
              | zero => simp [sign2]
              | succ q => rw [List.take_take]; simpa using h3
            rw [if_neg e, if_pos h4]; simp; omega
          · cases h

/-- a token by itself, and ahead of what ends tokens -/
theorem piece_more {t r : List Nat} {k : Nat} (h : piece t = some (k, t.length)) (hr : ∀ c ∈ r.head?, isS c = true) : piece (t ++ r) = some (k, t.length) := by
  cases t with
  | nil => simp [piece] at h
  | cons c t =>
    have hw : r.takeWhile isW = [] := by
      cases r with
      | nil => rfl
      | cons d r => rw [List.takeWhile_cons, isS_W (hr d (by simp))]; rfl
    have hd : r.takeWhile isD = [] := by
      cases r with
      | nil => rfl
      | cons d r => rw [List.takeWhile_cons, isS_D (hr d (by simp))]; rfl
    rw [List.cons_append]
    simp only [piece] at h ⊢
    split at h
    · rename_i h1
      rw [if_pos h1]
      have e : t.takeWhile isW = t := by
        have h2 := takeWhile_take (p := isW) t
        have h3 : (t.takeWhile isW).length = t.length := by split at h <;> (simp at h; omega)
        rw [h3, List.take_length] at h2
        exact h2.symm
      have e2 : (t ++ r).takeWhile isW = t := by
        rw [takeWhile_more (fun x hx => takeWhile_mem x (by rw [e]; exact hx)), hw, List.append_nil]
      rw [e2]; rw [e] at h; exact h
    · rename_i h1
      rw [if_neg h1]
      split at h
      · rename_i h2
        rw [if_pos h2]
        have e : t.takeWhile isD = t := by
          have h2 := takeWhile_take (p := isD) t
          have h3 : (t.takeWhile isD).length = t.length := by simp at h; omega
          rw [h3, List.take_length] at h2
          exact h2.symm
        have e2 : (t ++ r).takeWhile isD = t := by
          rw [takeWhile_more (fun x hx => takeWhile_mem x (by rw [e]; exact hx)), hd, List.append_nil]
        rw [e2]; rw [e] at h; exact h
      · rename_i h2
        rw [if_neg h2]
        split at h
        · rename_i h3
          simp at h
          have e : (t ++ r).take 1 = t.take 1 := by rw [List.take_append_of_le_length (by omega)]
          rw [e, if_pos h3]; simp; omega
        · rename_i h3
          split at h
          · rename_i h4
            simp at h
            obtain rfl : t = [] := by simpa using h.2
            have e : ¬ sign2.contains (c :: ([] ++ r).take 1) = true := by
              cases r with
              | nil => simpa using h3
              | cons d r =>
                intro hx
                have hs := hr d (by simp)
                have := sign2_mem (c := c) (d := d) (by simpa using hx)
                simp [isS, isB] at hs
                omega
            rw [if_neg e, if_pos h4]; simp; omega
          · cases h
end Go.Proofs.Ytjbpbgdhooggeaa.Lx

namespace Go.Proofs.Ytjbpbgdhooggeaa.Lx

theorem blk_split (f : Bool) (l : List Nat) : ∃ p, l = p ++ blk f l ∧ btw f p = true := by
  induction l generalizing f with
  | nil => exact ⟨[], by cases f <;> simp [blk], by cases f <;> rfl⟩
  | cons c r ih =>
    cases f
    · simp only [blk]
      split
      · rename_i h
        obtain ⟨p, h1, h2⟩ := ih false
        exact ⟨c :: p, by rw [List.cons_append, ← h1], by simp [btw, h, h2]⟩
      · rename_i h
        split
        · rename_i h3
          obtain ⟨p, h1, h2⟩ := ih true
          exact ⟨c :: p, by rw [List.cons_append, ← h1], by simp only [btw, if_neg h, if_pos h3, h2]⟩
        · exact ⟨[], rfl, rfl⟩
    · simp only [blk]
      obtain ⟨p, h1, h2⟩ := ih (c != 10)
      exact ⟨c :: p, by rw [List.cons_append, ← h1], by simp only [btw, h2]⟩

theorem blk_front (f : Bool) (l : List Nat) (q : Nat) : blk f (l.take q) = (blk f l).take (q - (l.length - (blk f l).length)) := by
  induction l generalizing f q with
  | nil => simp [blk]
  | cons c r ih =>
    cases q with
    | zero => simp [blk]
    | succ q =>
      rw [List.take_succ_cons]
      cases f
      · simp only [blk]
        split
        · have hl := blk_len false r
          rw [ih, List.length_cons]; congr 1; omega
        · split
          · have hl := blk_len true r
            rw [ih, List.length_cons]; congr 1; omega
          · simp
      · simp only [blk]
        have hl := blk_len (c != 10) r
        rw [ih, List.length_cons]; congr 1; omega

def shaped : List Nat → Bool
  | [] => false
  | c :: r => isL c && r.all isW
def isName (t : List Nat) : Bool := decide (t.length ≤ 64) && shaped t && !kept.contains t
theorem kept_shaped : kept.all (fun t => shaped t && decide (t.length ≤ 20)) = true := by decide +kernel
theorem shaped_of_kept {t : List Nat} (h : kept.contains t = true) : shaped t = true ∧ t.length ≤ 20 := by
  have h1 := List.all_eq_true.1 kept_shaped t (by simpa using h)
  simpa using h1

/-- what is known of a token by its bytes -/
structure Alone (t : List Nat) (x : Tok) : Prop where
  first : piece t = some (x.kind, t.length)
  short : ¬ (x.kind = 2 ∧ 64 < t.length)
  value : num x.kind t = x.n
  small : ¬ 1073741824 < x.n
  word : (x.kind = 5) ↔ kept.contains t = true
  name : (x.kind = 2) ↔ isName t = true

theorem piece_kinds {c : Nat} {r : List Nat} {k n : Nat} (h : piece (c :: r) = some (k, n)) :
    (isL c = true ∧ n = (r.takeWhile isW).length + 1 ∧ ((k = 5 ∧ kept.contains (c :: r.takeWhile isW) = true) ∨ (k = 2 ∧ kept.contains (c :: r.takeWhile isW) = false))) ∨ (isL c = false ∧ (k = 3 ∨ k = 4)) := by
  simp only [piece] at h
  split at h
  · rename_i h1
    refine Or.inl ⟨h1, ?_⟩
    split at h
    · rename_i h2; simp only [Option.some.injEq, Prod.mk.injEq] at h; exact ⟨h.2.symm, Or.inl ⟨h.1.symm, h2⟩⟩
    · rename_i h2; simp only [Option.some.injEq, Prod.mk.injEq] at h; exact ⟨h.2.symm, Or.inr ⟨h.1.symm, by simpa using h2⟩⟩
  · rename_i h1
    refine Or.inr ⟨by simpa using h1, ?_⟩
    split at h
    · simp at h; omega
    · split at h
      · simp at h; omega
      · split at h <;> simp at h
        omega

theorem alone_of {m : List Nat} {p k n : Nat} (h : piece m = some (k, n)) (hn : ¬ (k = 2 ∧ 64 < n)) (hv : ¬ 1073741824 < num k (m.take n)) : Alone (m.take n) ⟨k, p, p + n, num k (m.take n)⟩ := by
  have hl := piece_len h
  have hp := piece_pos h
  have e : (m.take n).length = n := by simp; omega
  cases m with
  | nil => simp [piece] at h
  | cons c r =>
    have hk := piece_kinds h
    obtain ⟨n, rfl⟩ : ∃ x, n = x + 1 := ⟨n - 1, by omega⟩
    have et : (c :: r).take (n + 1) = c :: r.take n := rfl
    refine ⟨by rw [e]; exact piece_front h (Nat.le_refl _), by rw [e]; exact hn, rfl, hv, ?_, ?_⟩
    · rcases hk with ⟨h1, h2, h3⟩ | ⟨h1, h2⟩
      · have e2 : r.take n = r.takeWhile isW := by
          have := takeWhile_take (p := isW) r
          rw [← this]; congr 1; omega
        rw [et, e2]
        rcases h3 with ⟨h3, h4⟩ | ⟨h3, h4⟩
        · simp only [h3, h4]
        · subst h3; rw [h4]; simp
      · rw [et]
        constructor
        · intro hx; simp only at hx; omega
        · intro hx
          have := (shaped_of_kept hx).1
          simp [shaped, h1] at this
    · rcases hk with ⟨h1, h2, h3⟩ | ⟨h1, h2⟩
      · have e2 : r.take n = r.takeWhile isW := by
          have := takeWhile_take (p := isW) r
          rw [← this]; congr 1; omega
        have e3 : shaped (c :: r.takeWhile isW) = true := by
          simp only [shaped, h1, Bool.true_and, List.all_eq_true]
          exact fun x hx => takeWhile_mem x hx
        rw [et, e2]
        rcases h3 with ⟨h3, h4⟩ | ⟨h3, h4⟩
        · subst h3; simp only [isName, e3, h4]; simp
        · subst h3
          have h5 : (c :: r.takeWhile isW).length ≤ 64 := by simp; omega
          simp only [isName, e3, h4, decide_eq_true h5]; simp
      · rw [et]
        constructor
        · intro hx; simp only at hx; omega
        · intro hx
          simp [isName, shaped, h1] at hx

theorem Alone.scanned {t : List Nat} {x : Tok} (h : Alone t x) : scan t 0 0 = .ok [⟨x.kind, 0, t.length, x.n⟩, ⟨0, t.length, t.length, 0⟩] := by
  have h1 := h.first
  cases t with
  | nil => simp [piece] at h1
  | cons c r =>
    have hb := blk_head (r := r) (piece_head h1)
    have hv := h.small
    rw [← h.value] at hv
    rw [scan_tok hb (by simp) (by decide) h1 h.short (by rw [List.take_length]; exact hv), List.take_length, List.drop_length, scan_nil (by rfl)]
    simp [Res.cons, h.value]

def slice (w : List Nat) (a b : Nat) : List Nat := (w.drop a).take (b - a)

inductive Cov (w : List Nat) : Nat → List Tok → Prop
  | last (a : Nat) : a ≤ w.length → btw false (w.drop a) = true → Cov w a [⟨0, w.length, w.length, 0⟩]
  | tok (a : Nat) (x : Tok) (ts : List Tok) : a ≤ x.at_ → x.at_ < x.stop → x.stop ≤ w.length → btw false (slice w a x.at_) = true → Alone (slice w x.at_ x.stop) x → Cov w x.stop ts → Cov w a (x :: ts)

theorem Cov.pos {w : List Nat} {a : Nat} {ts : List Tok} (h : Cov w a ts) : ts ≠ [] := by cases h <;> simp

theorem covers (w : List Nat) : ∀ (N : Nat) (l : List Nat) (p k : Nat) (ts : List Tok), l.length ≤ N → w.drop p = l → p ≤ w.length → scan l p k = .ok ts → Cov w p ts := by
  intro N
  induction N with
  | zero =>
    intro l p k ts hN hw hp hs
    obtain rfl : l = [] := List.length_eq_zero_iff.1 (by omega)
    have e : p = w.length := by have := congrArg List.length hw; simp at this; omega
    rw [scan_nil rfl] at hs
    injection hs with hs
    subst hs
    simp only [List.length_nil, Nat.add_zero]
    rw [e]
    exact Cov.last _ (Nat.le_refl _) (by rw [List.drop_length]; rfl)
  | succ N ih =>
    intro l p k ts hN hw hp hs
    have hlen : l.length = w.length - p := by rw [← hw]; simp
    obtain ⟨b, hb1, hb2⟩ := blk_split false l
    by_cases hm : blk false l = []
    · rw [scan_nil hm] at hs
      injection hs with hs
      subst hs
      have e : p + l.length = w.length := by omega
      rw [e]
      refine Cov.last _ hp ?_
      rw [hw, hb1, hm, List.append_nil]; exact hb2
    · by_cases hk : k = 65536
      · rw [scan_many rfl hm hk] at hs; cases hs
      · cases hpc : piece (blk false l) with
        | none => rw [scan_byte rfl hm hk hpc] at hs; cases hs
        | some y =>
          obtain ⟨kd, n⟩ := y
          by_cases hn : kd = 2 ∧ 64 < n
          · obtain ⟨rfl, hn⟩ := hn
            rw [scan_name rfl hm hk hpc hn] at hs; cases hs
          · by_cases hv : 1073741824 < num kd ((blk false l).take n)
            · rw [scan_number rfl hm hk hpc hn hv] at hs; cases hs
            · rw [scan_tok rfl hm hk hpc hn hv] at hs
              have h1 := piece_pos hpc
              have h2 := piece_len hpc
              have h3 := blk_len false l
              have hbl : b.length = l.length - (blk false l).length := by have := congrArg List.length hb1; simp at this; omega
              have e1 : w.drop (p + b.length) = blk false l := by
                rw [← List.drop_drop, hw, hb1]
                have : (b ++ blk false l).drop b.length = blk false l := by simp
                rw [← hb1]
                rw [← hb1] at this
                exact this
              cases hr : scan ((blk false l).drop n) (p + (l.length - (blk false l).length) + n) (k + 1) with
              | fault e i => rw [hr] at hs; cases hs
              | ok ts' =>
                rw [hr] at hs
                injection hs with hs
                subst hs
                rw [← hbl] at hr ⊢
                refine Cov.tok _ _ _ (by simp) (by simp; omega) (by simp; omega) ?_ ?_ ?_
                · simp only [slice]
                  rw [hw, show p + b.length - p = b.length by omega, hb1]
                  have : (b ++ blk false l).take b.length = b := by simp
                  rw [← hb1]
                  rw [← hb1] at this
                  rw [this]; exact hb2
                · simp only [slice]
                  rw [e1, show p + b.length + n - (p + b.length) = n by omega]
                  exact alone_of hpc hn hv
                · exact ih _ _ (k + 1) _ (by simp; omega) (by rw [← List.drop_drop, e1]) (by simp; omega) hr

theorem count : ∀ (N : Nat) (l : List Nat) (p k : Nat) (ts : List Tok), l.length ≤ N → k ≤ 65536 → scan l p k = .ok ts → ts.length + k ≤ 65537 := by
  intro N
  induction N with
  | zero =>
    intro l p k ts hN hk hs
    obtain rfl : l = [] := List.length_eq_zero_iff.1 (by omega)
    rw [scan_nil rfl] at hs
    injection hs with hs
    subst hs; simp; omega
  | succ N ih =>
    intro l p k ts hN hk0 hs
    by_cases hm : blk false l = []
    · rw [scan_nil hm] at hs
      injection hs with hs
      subst hs; simp; omega
    · by_cases hk : k = 65536
      · rw [scan_many rfl hm hk] at hs; cases hs
      · cases hpc : piece (blk false l) with
        | none => rw [scan_byte rfl hm hk hpc] at hs; cases hs
        | some y =>
          obtain ⟨kd, n⟩ := y
          by_cases hn : kd = 2 ∧ 64 < n
          · obtain ⟨rfl, hn⟩ := hn
            rw [scan_name rfl hm hk hpc hn] at hs; cases hs
          · by_cases hv : 1073741824 < num kd ((blk false l).take n)
            · rw [scan_number rfl hm hk hpc hn hv] at hs; cases hs
            · rw [scan_tok rfl hm hk hpc hn hv] at hs
              have h1 := piece_pos hpc
              have h3 := blk_len false l
              have h4 : (blk false l).length ≠ 0 := fun h => hm (List.length_eq_zero_iff.1 h)
              cases hr : scan ((blk false l).drop n) (p + (l.length - (blk false l).length) + n) (k + 1) with
              | fault e i => rw [hr] at hs; cases hs
              | ok ts' =>
                rw [hr] at hs
                injection hs with hs
                subst hs
                have := ih _ _ (k + 1) _ (by simp; omega) (by omega) hr
                simp; omega

/-- tokens' bytes, a filling ahead of each -/
def weave (F : Nat → List Nat) (w : List Nat) : Nat → List Tok → List Nat
  | _, [] => []
  | i, x :: ts => F i ++ (slice w x.at_ x.stop ++ weave F w (i + 1) ts)
def wants (F : Nat → List Nat) : Nat → Nat → List Tok → List Tok
  | _, _, [] => []
  | i, q, x :: ts => ⟨x.kind, q + (F i).length, q + (F i).length + (x.stop - x.at_), x.n⟩ :: wants F (i + 1) (q + (F i).length + (x.stop - x.at_)) ts
/-- a filling: blanks and remarks that end, at least one byte -/
structure Fills (f : List Nat) : Prop where
  skip : ∀ m, blk false (f ++ m) = blk false m
  head : ∃ c r, f = c :: r ∧ isS c = true

theorem blanks {F : Nat → List Nat} (hF : ∀ i, Fills (F i)) {w : List Nat} {a : Nat} {ts : List Tok} (h : Cov w a ts) : ∀ (i q k : Nat), ts.length + k ≤ 65537 → scan (weave F w i ts) q k = .ok (wants F i q ts) := by
  induction h with
  | last a h1 h2 =>
    intro i q k hk
    have e : weave F w i [⟨0, w.length, w.length, 0⟩] = F i := by simp [weave, slice]
    have hb : blk false (F i) = [] := by have := (hF i).skip []; rw [List.append_nil] at this; rw [this]; rfl
    rw [e, scan_nil hb]
    simp [wants]
  | tok a x ts h1 h2 h3 h4 h5 h6 ih =>
    intro i q k hk
    have hl : (slice w x.at_ x.stop).length = x.stop - x.at_ := by simp [slice]; omega
    have hne : ts.length ≠ 0 := fun h => h6.pos (List.length_eq_zero_iff.1 h)
    simp only [List.length_cons] at hk
    have hr : ∀ c ∈ (weave F w (i + 1) ts).head?, isS c = true := by
      cases ts with
      | nil => simp [weave]
      | cons y ts =>
        obtain ⟨c, r, e, hc⟩ := (hF (i + 1)).head
        simp [weave, e, hc]
    have hp := piece_more h5.first hr
    have hm : blk false (F i ++ (slice w x.at_ x.stop ++ weave F w (i + 1) ts)) = slice w x.at_ x.stop ++ weave F w (i + 1) ts := by
      rw [(hF i).skip]
      cases hs : slice w x.at_ x.stop with
      | nil => rw [hs] at hl; simp at hl; omega
      | cons c r =>
        rw [hs, List.cons_append] at hp
        rw [List.cons_append, blk_head (piece_head hp)]
    have ht : (slice w x.at_ x.stop ++ weave F w (i + 1) ts).take (slice w x.at_ x.stop).length = slice w x.at_ x.stop := by simp
    have hd : (slice w x.at_ x.stop ++ weave F w (i + 1) ts).drop (slice w x.at_ x.stop).length = weave F w (i + 1) ts := by simp
    simp only [weave, wants]
    rw [scan_tok hm (by intro h; rw [(List.append_eq_nil_iff.1 h).1] at hl; simp at hl; omega) (by omega) hp h5.short (by rw [ht, h5.value]; exact h5.small), hd, ht, h5.value]
    have e : q + ((F i ++ (slice w x.at_ x.stop ++ weave F w (i + 1) ts)).length - (slice w x.at_ x.stop ++ weave F w (i + 1) ts).length) = q + (F i).length := by simp
    rw [e, hl, ih (i + 1) _ (k + 1) (by omega)]
    rfl

theorem fills_of {f : List Nat} (h : f ∈ [[32], [9], [10], [13, 10], [32, 32, 9], [32, 35, 32, 120, 32, 125, 32, 34, 10], [35, 10]]) : Fills f := by
  simp only [List.mem_cons, List.not_mem_nil, or_false] at h
  rcases h with rfl | rfl | rfl | rfl | rfl | rfl | rfl <;> exact ⟨fun m => by simp [blk, isB], _, _, rfl, by decide⟩

theorem val_over (n : Nat) (h : 1073741824 < n) (l : List Nat) : 1073741824 < val n l := by
  induction l generalizing n with
  | nil => rw [val_nil]; exact h
  | cons d r ih =>
    rw [val_cons]
    refine ih _ ?_
    unfold capd
    split
    · omega
    · omega
theorem val_append (n : Nat) (a b : List Nat) : val n (a ++ b) = val (val n a) b := by
  induction a generalizing n with
  | nil => rw [List.nil_append, val_nil]
  | cons d r ih => rw [List.cons_append, val_cons, val_cons, ih]
theorem val_front {l : List Nat} (q : Nat) (h : ¬ 1073741824 < val 0 l) : ¬ 1073741824 < val 0 (l.take q) := by
  intro h1
  have e := val_append 0 (l.take q) (l.drop q)
  rw [List.take_append_drop] at e
  have := val_over _ h1 (l.drop q)
  rw [← e] at this
  exact h this

/-- a token that is cut: what stands there then is a token that has no fault, or no token (half a sign) -/
theorem piece_cut {m : List Nat} {kd n q : Nat} (h : piece m = some (kd, n)) (hn : ¬ (kd = 2 ∧ 64 < n)) (hv : ¬ 1073741824 < num kd (m.take n)) (h1 : 1 ≤ q) (hq : q < n) :
    (piece (m.take q) = none ∧ q = 1) ∨ ∃ kd', piece (m.take q) = some (kd', q) ∧ ¬ (kd' = 2 ∧ 64 < q) ∧ ¬ 1073741824 < num kd' (m.take q) := by
  have hl := piece_len h
  cases m with
  | nil => simp [piece] at h
  | cons c r =>
    obtain ⟨q, rfl⟩ : ∃ x, q = x + 1 := ⟨q - 1, by omega⟩
    have e0 : (c :: r).take (q + 1) = c :: r.take q := rfl
    have hs := h
    simp only [piece] at h
    split at h
    · rename_i h2
      have hlen : n = (r.takeWhile isW).length + 1 := by split at h <;> (simp at h; omega)
      have e1 : ((r.take q).takeWhile isW).length = q := by rw [takeWhile_front, List.length_take]; omega
      have h64 : n ≤ 64 := by
        split at h
        · rename_i h3
          have := (shaped_of_kept h3).2
          simp at this; omega
        · simp at h; omega
      refine Or.inr ?_
      rw [e0]
      simp only [piece]
      rw [if_pos h2, e1]
      split
      · exact ⟨5, rfl, by omega, by simp [num]⟩
      · exact ⟨2, rfl, by omega, by simp [num]⟩
    · rename_i h2
      split at h
      · rename_i h3
        simp only [Option.some.injEq, Prod.mk.injEq] at h
        have e1 : ((r.take q).takeWhile isD).length = q := by rw [takeWhile_front, List.length_take]; omega
        refine Or.inr ⟨3, ?_, by omega, ?_⟩
        · rw [e0]
          simp only [piece]
          rw [if_neg h2, if_pos h3, e1]
        · obtain ⟨rfl, rfl⟩ := h
          simp only [num, if_true] at hv ⊢
          have := val_front (q + 1) hv
          rw [List.take_take, Nat.min_eq_left (by omega)] at this
          exact this
      · rename_i h3
        have hn2 : n ≤ 2 := by
          split at h
          · simp at h; omega
          · split at h <;> simp at h
            omega
        obtain rfl : q = 0 := by omega
        rw [e0]
        simp only [piece, List.take_zero, List.take_nil]
        rw [if_neg h2, if_neg h3, if_neg (by rw [sign2_one]; decide)]
        split
        · exact Or.inr ⟨4, rfl, by omega, by simp [num]⟩
        · exact Or.inl (by simp)

def Res.upTo (q p len : Nat) : Res → Prop
  | .ok _ => q ≤ len
  | .fault _ e => p + q ≤ e

theorem fronts : ∀ (N : Nat) (l : List Nat) (p k q : Nat), l.length ≤ N → (scan l p k).upTo q p l.length → (∃ ts, scan (l.take q) p k = .ok ts) ∨ (1 ≤ q ∧ scan (l.take q) p k = .fault 11 (p + q - 1)) := by
  intro N
  induction N with
  | zero =>
    intro l p k q hN _
    obtain rfl : l = [] := List.length_eq_zero_iff.1 (by omega)
    exact Or.inl ⟨_, by rw [List.take_nil]; exact scan_nil rfl⟩
  | succ N ih =>
    intro l p k q hN hq
    have h3 := blk_len false l
    have hbf := blk_front false l q
    by_cases hd : q ≤ l.length - (blk false l).length
    · rw [Nat.sub_eq_zero_of_le hd, List.take_zero] at hbf
      exact Or.inl ⟨_, scan_nil hbf⟩
    · have hne : blk false l ≠ [] := by
        intro hm
        rw [scan_nil hm] at hq
        rw [hm] at hd
        simp only [Res.upTo, List.length_nil] at hq hd
        omega
      by_cases hk : k = 65536
      · rw [scan_many rfl hne hk] at hq; simp only [Res.upTo] at hq; omega
      · cases hpc : piece (blk false l) with
        | none => rw [scan_byte rfl hne hk hpc] at hq; simp only [Res.upTo] at hq; omega
        | some y =>
          obtain ⟨kd, n⟩ := y
          by_cases hn : kd = 2 ∧ 64 < n
          · obtain ⟨rfl, hn⟩ := hn
            rw [scan_name rfl hne hk hpc hn] at hq; simp only [Res.upTo] at hq; omega
          · by_cases hv : 1073741824 < num kd ((blk false l).take n)
            · rw [scan_number rfl hne hk hpc hn hv] at hq; simp only [Res.upTo] at hq; omega
            · rw [scan_tok rfl hne hk hpc hn hv] at hq
              have h1 := piece_pos hpc
              have h2 := piece_len hpc
              have hll : (l.take q).length - ((blk false l).take (q - (l.length - (blk false l).length))).length = l.length - (blk false l).length := by
                simp only [List.length_take]; omega
              have hne2 : (blk false l).take (q - (l.length - (blk false l).length)) ≠ [] := by
                intro h
                have := congrArg List.length h
                simp only [List.length_take, List.length_nil] at this
                omega
              by_cases hc : n ≤ q - (l.length - (blk false l).length)
              · have hp2 := piece_front hpc hc
                have ht : ((blk false l).take (q - (l.length - (blk false l).length))).take n = (blk false l).take n := by rw [List.take_take]; congr 1; omega
                have hdr : ((blk false l).take (q - (l.length - (blk false l).length))).drop n = ((blk false l).drop n).take (q - (l.length - (blk false l).length) - n) := by rw [List.drop_take]
                rw [scan_tok hbf hne2 hk hp2 hn (by rw [ht]; exact hv), hll, hdr, ht]
                have hq2 : (scan ((blk false l).drop n) (p + (l.length - (blk false l).length) + n) (k + 1)).upTo (q - (l.length - (blk false l).length) - n) (p + (l.length - (blk false l).length) + n) ((blk false l).drop n).length := by
                  cases hr : scan ((blk false l).drop n) (p + (l.length - (blk false l).length) + n) (k + 1) with
                  | ok ts => rw [hr] at hq; simp only [Res.cons, Res.upTo, List.length_drop] at hq ⊢; omega
                  | fault e i => rw [hr] at hq; simp only [Res.cons, Res.upTo] at hq ⊢; omega
                rcases ih _ _ (k + 1) _ (by simp only [List.length_drop]; omega) hq2 with ⟨ts, hts⟩ | ⟨g1, g2⟩
                · exact Or.inl ⟨_, by rw [hts]; rfl⟩
                · refine Or.inr ⟨by omega, ?_⟩
                  rw [g2]
                  simp only [Res.cons]
                  congr 1
                  omega
              · rcases piece_cut hpc hn hv (by omega) (Nat.lt_of_not_le hc) with ⟨g1, g2⟩ | ⟨kd', g1, g2, g3⟩
                · refine Or.inr ⟨by omega, ?_⟩
                  rw [scan_byte hbf hne2 hk g1, hll]
                  congr 1
                  omega
                · have ht : ((blk false l).take (q - (l.length - (blk false l).length))).take (q - (l.length - (blk false l).length)) = (blk false l).take (q - (l.length - (blk false l).length)) := by rw [List.take_take, Nat.min_self]
                  left
                  rw [scan_tok hbf hne2 hk g1 g2 (by rw [ht]; exact g3), scan_nil (by rw [List.drop_eq_nil_of_le (by simp only [List.length_take]; omega)]; rfl)]
                  exact ⟨_, rfl⟩

theorem front_ok : ∀ (N : Nat) (l : List Nat) (p k e i : Nat), l.length ≤ N → scan l p k = .fault e i → p ≤ i ∧ i < p + l.length ∧ ∃ ts, scan (l.take (i - p)) p k = .ok ts := by
  intro N
  induction N with
  | zero =>
    intro l p k e i hN hs
    obtain rfl : l = [] := List.length_eq_zero_iff.1 (by omega)
    rw [scan_nil rfl] at hs
    cases hs
  | succ N ih =>
    intro l p k e i hN hs
    have h3 := blk_len false l
    by_cases hm : blk false l = []
    · rw [scan_nil hm] at hs; cases hs
    · have h4 : (blk false l).length ≠ 0 := fun h => hm (List.length_eq_zero_iff.1 h)
      have here : ∀ j, j = p + (l.length - (blk false l).length) → p ≤ j ∧ j < p + l.length ∧ ∃ ts, scan (l.take (j - p)) p k = .ok ts := by
        intro j hj
        refine ⟨by omega, by omega, _, scan_nil ?_⟩
        rw [blk_front, Nat.sub_eq_zero_of_le (by omega), List.take_zero]
      by_cases hk : k = 65536
      · rw [scan_many rfl hm hk] at hs; injection hs with _ h; exact here i h.symm
      · cases hpc : piece (blk false l) with
        | none => rw [scan_byte rfl hm hk hpc] at hs; injection hs with _ h; exact here i h.symm
        | some y =>
          obtain ⟨kd, n⟩ := y
          by_cases hn : kd = 2 ∧ 64 < n
          · obtain ⟨rfl, hn⟩ := hn
            rw [scan_name rfl hm hk hpc hn] at hs; injection hs with _ h; exact here i h.symm
          · by_cases hv : 1073741824 < num kd ((blk false l).take n)
            · rw [scan_number rfl hm hk hpc hn hv] at hs; injection hs with _ h; exact here i h.symm
            · rw [scan_tok rfl hm hk hpc hn hv] at hs
              have h1 := piece_pos hpc
              have h2 := piece_len hpc
              cases hr : scan ((blk false l).drop n) (p + (l.length - (blk false l).length) + n) (k + 1) with
              | ok ts => rw [hr] at hs; cases hs
              | fault e' i' =>
                rw [hr] at hs
                injection hs with hs1 hs2
                subst hs1; subst hs2
                obtain ⟨g1, g2, ts, g3⟩ := ih _ _ (k + 1) _ _ (by simp only [List.length_drop]; omega) hr
                simp only [List.length_drop] at g2
                refine ⟨by omega, by omega, ?_⟩
                have hbf := blk_front false l (i' - p)
                have hll : (l.take (i' - p)).length - ((blk false l).take (i' - p - (l.length - (blk false l).length))).length = l.length - (blk false l).length := by
                  simp only [List.length_take]; omega
                have hne2 : (blk false l).take (i' - p - (l.length - (blk false l).length)) ≠ [] := by
                  intro h
                  have := congrArg List.length h
                  simp only [List.length_take, List.length_nil] at this
                  omega
                have hp2 := piece_front (q := i' - p - (l.length - (blk false l).length)) hpc (by omega)
                have ht : ((blk false l).take (i' - p - (l.length - (blk false l).length))).take n = (blk false l).take n := by rw [List.take_take]; congr 1; omega
                have hdr : ((blk false l).take (i' - p - (l.length - (blk false l).length))).drop n = ((blk false l).drop n).take (i' - (p + (l.length - (blk false l).length) + n)) := by rw [List.drop_take]; congr 1; omega
                rw [scan_tok hbf hne2 hk hp2 hn (by rw [ht]; exact hv), hll, hdr, ht, g3]
                exact ⟨_, rfl⟩
end Go.Proofs.Ytjbpbgdhooggeaa.Lx

namespace Go.Proofs.Ytjbpbgdhooggeaa.Lx
open Go.Proofs.Ytjbpbgdhooggeaa.Sp

/-- a text's bytes as numbers -/
def tx (s : ByteArray) : List Nat := s.data.toList.map UInt8.toNat
theorem tx_len (s : ByteArray) : (tx s).length = s.size := by rw [tx, List.length_map]; rfl
/-- byte k, as a number -/
def nb (s : ByteArray) (k : Nat) : Nat := (tx s).getD k 0
theorem nb_bt (s : ByteArray) (k : Nat) : (nb s k : Int) = bt s k := by
  unfold nb bt tx
  rw [List.getD, List.getD, List.getElem?_map]
  cases s.data.toList[k]? <;> rfl
theorem tx_drop {s : ByteArray} {i : Nat} (h : i < s.size) : (tx s).drop i = nb s i :: (tx s).drop (i + 1) := by
  have h1 : i < (tx s).length := by rw [tx_len]; exact h
  rw [List.drop_eq_getElem_cons h1]
  simp [nb, List.getD, h1]
theorem tx_drop_end {s : ByteArray} {i : Nat} (h : s.size ≤ i) : (tx s).drop i = [] := List.drop_eq_nil_of_le (by rw [tx_len]; exact h)

/-- the place behind blanks and remarks; behind a remark -/
def bl (s : ByteArray) (i : Nat) : Nat := s.size - (blk false ((tx s).drop i)).length
def rl (s : ByteArray) (i : Nat) : Nat := s.size - (blk true ((tx s).drop i)).length
theorem bl_end {s : ByteArray} {i : Nat} (h : s.size ≤ i) : bl s i = s.size := by simp [bl, tx_drop_end h, blk]
theorem rl_end {s : ByteArray} {i : Nat} (h : s.size ≤ i) : rl s i = s.size := by simp [rl, tx_drop_end h, blk]
theorem bl_blank {s : ByteArray} {i : Nat} (h : i < s.size) (hb : isB (nb s i) = true) : bl s i = bl s (i + 1) := by
  unfold bl; rw [tx_drop h]; simp only [blk, hb, if_true]
theorem bl_hash {s : ByteArray} {i : Nat} (h : i < s.size) (hb : nb s i = 35) : bl s i = rl s i := by
  unfold bl rl; rw [tx_drop h, hb]
  simp [blk, isB]
theorem rl_nl {s : ByteArray} {i : Nat} (h : i < s.size) (hb : nb s i = 10) : rl s i = bl s i := by
  unfold bl rl; rw [tx_drop h, hb]
  simp [blk, isB]
theorem rl_other {s : ByteArray} {i : Nat} (h : i < s.size) (hb : nb s i ≠ 10) : rl s i = rl s (i + 1) := by
  unfold rl; rw [tx_drop h]
  have : (nb s i != 10) = true := by simpa using hb
  simp only [blk, this]
theorem bl_stop {s : ByteArray} {i : Nat} (h : i < s.size) (hb : isS (nb s i) = false) : bl s i = i := by
  unfold bl; rw [tx_drop h, blk_head hb, ← tx_drop h, List.length_drop, tx_len]; omega
theorem bl_le (s : ByteArray) (i : Nat) : bl s i ≤ s.size := by unfold bl; omega
theorem bl_ge {s : ByteArray} {i : Nat} (h : i ≤ s.size) : i ≤ bl s i := by
  have h1 := blk_len false ((tx s).drop i)
  rw [List.length_drop, tx_len] at h1
  unfold bl; omega
/-- what stands there -/
theorem bl_drop {s : ByteArray} {i : Nat} (h : i ≤ s.size) : (tx s).drop (bl s i) = blk false ((tx s).drop i) := by
  obtain ⟨p, h1, _⟩ := blk_split false ((tx s).drop i)
  have h2 := congrArg List.length h1
  simp only [List.length_drop, List.length_append, tx_len] at h2
  have h3 := blk_len false ((tx s).drop i)
  rw [List.length_drop, tx_len] at h3
  have e : bl s i = i + p.length := by unfold bl; omega
  rw [e, ← List.drop_drop]
  have h4 : (p ++ blk false ((tx s).drop i)).drop p.length = blk false ((tx s).drop i) := by simp
  rw [← h1] at h4
  exact h4

/-- where a run of bytes ends -/
def ru (p : Nat → Bool) (s : ByteArray) (i : Nat) : Nat := i + (((tx s).drop i).takeWhile p).length
theorem ru_in {p : Nat → Bool} {s : ByteArray} {i : Nat} (h : i < s.size) (hp : p (nb s i) = true) : ru p s i = ru p s (i + 1) := by
  unfold ru; rw [tx_drop h, List.takeWhile_cons, if_pos hp, List.length_cons]; omega
theorem ru_out {p : Nat → Bool} {s : ByteArray} {i : Nat} (h : i < s.size) (hp : p (nb s i) = false) : ru p s i = i := by
  unfold ru; rw [tx_drop h, List.takeWhile_cons, hp]; rfl
theorem ru_end {p : Nat → Bool} {s : ByteArray} {i : Nat} (h : s.size ≤ i) : ru p s i = i := by
  unfold ru; rw [tx_drop_end h]; rfl
theorem ru_le {p : Nat → Bool} {s : ByteArray} {i : Nat} (h : i ≤ s.size) : i ≤ ru p s i ∧ ru p s i ≤ s.size := by
  have h1 := takeWhile_len (p := p) ((tx s).drop i)
  rw [List.length_drop, tx_len] at h1
  unfold ru; omega

/-- what stands in a list between two bytes 32 that have no other between -/
def inner : List Nat → List (List Nat)
  | [] => []
  | c :: r => if c = 32 then (if (r.dropWhile (· != 32)).isEmpty then [] else [r.takeWhile (· != 32)]) ++ inner r else inner r
def Occurs (K t : List Nat) (i : Nat) : Prop := ∃ a b, K = a ++ 32 :: (t ++ 32 :: b) ∧ a.length = i

theorem take_drop_while (p : Nat → Bool) (l : List Nat) : l = l.takeWhile p ++ l.dropWhile p := (List.takeWhile_append_dropWhile).symm
theorem while_of {t b : List Nat} (ht : ∀ c ∈ t, c ≠ 32) : (t ++ 32 :: b).takeWhile (· != 32) = t ∧ (t ++ 32 :: b).dropWhile (· != 32) = 32 :: b := by
  induction t with
  | nil => simp
  | cons c t ih =>
    have h1 : (c != 32) = true := by simpa using ht c (by simp)
    have h2 := ih fun x hx => ht x (by simp [hx])
    rw [List.cons_append, List.takeWhile_cons, List.dropWhile_cons, if_pos h1, if_pos h1, h2.1, h2.2]
    exact ⟨rfl, rfl⟩
theorem dropWhile_head {l : List Nat} (h : (l.dropWhile (· != 32)).isEmpty = false) : ∃ b, l.dropWhile (· != 32) = 32 :: b := by
  induction l with
  | nil => simp at h
  | cons c r ih =>
    rw [List.dropWhile_cons] at h ⊢
    split
    · rename_i h1; rw [if_pos h1] at h; exact ih h
    · rename_i h1
      have : c = 32 := by simpa using h1
      exact ⟨r, by rw [this]⟩

theorem inner_iff {K t : List Nat} (ht : ∀ c ∈ t, c ≠ 32) : t ∈ inner K ↔ ∃ i, Occurs K t i := by
  induction K with
  | nil =>
    constructor
    · intro h; cases h
    · rintro ⟨i, a, b, h, _⟩; simp at h
  | cons c r ih =>
    constructor
    · intro h
      have up : t ∈ inner r → ∃ i, Occurs (c :: r) t i := by
        intro h1
        obtain ⟨i, a, b, e, hl⟩ := ih.1 h1
        exact ⟨i + 1, c :: a, b, by rw [e]; rfl, by simp [hl]⟩
      simp only [inner] at h
      split at h
      · rename_i hc
        rcases List.mem_append.1 h with h1 | h1
        · split at h1
          · cases h1
          · rename_i h2
            obtain ⟨b, hb⟩ := dropWhile_head (by simpa using h2)
            have h3 : t = r.takeWhile (· != 32) := by simpa using h1
            refine ⟨0, [], b, ?_, rfl⟩
            rw [List.nil_append, hc, h3, ← hb, ← take_drop_while]
        · exact up h1
      · exact up h
    · rintro ⟨i, a, b, e, hl⟩
      simp only [inner]
      cases a with
      | nil =>
        rw [List.nil_append] at e
        injection e with e1 e2
        have hw := while_of (b := b) ht
        rw [if_pos e1, e2, hw.1, hw.2]
        simp
      | cons x a =>
        rw [List.cons_append] at e
        injection e with e1 e2
        have h1 := ih.2 ⟨a.length, a, b, e2, rfl⟩
        split
        · exact List.mem_append.2 (Or.inr h1)
        · exact h1

def keptText : List Nat := bytes " policy queue resident ghost var in tag require rule on hit miss if else loop while set mark insert move forget shift evict to drop call pass front back x true false len cap size total empty full at min max "
def signs : List (List Nat) := [[123], [125], [40], [41], [59], [44], [46, 46], [61], [61, 61], [33, 61], [60], [60, 61], [62], [62, 61], [43], [45], [42], [47], [38, 38], [124, 124], [33]]
def signText : List Nat := 32 :: signs.flatMap fun t => t ++ [32]
theorem inner_kept : inner keptText = kept := by decide +kernel
theorem inner_signs : inner signText = signs := by decide +kernel
theorem signs_two (c d : Nat) : [c, d] ∈ signs ↔ sign2.contains [c, d] = true := by simp [signs, sign2]
theorem signs_one (c : Nat) : [c] ∈ signs ↔ sign1.contains c = true := by simp [signs, sign1]
end Go.Proofs.Ytjbpbgdhooggeaa.Lx
