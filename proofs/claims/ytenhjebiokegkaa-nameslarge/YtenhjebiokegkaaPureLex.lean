import Derived.KernelRfl
namespace Go.Proofs.Ytenhjebiokegkaa.Lx

/-- bytes as numbers: letters, digits, both, blanks -/
def isL (c : Nat) : Bool := (decide (97 ≤ c) && decide (c ≤ 122)) || (decide (65 ≤ c) && decide (c ≤ 90)) || c == 95
def isD (c : Nat) : Bool := decide (48 ≤ c) && decide (c ≤ 57)
def isW (c : Nat) : Bool := isL c || isD c
def isB (c : Nat) : Bool := c == 9 || c == 10 || c == 13 || c == 32
/-- what ends any token: a blank, a remark -/
def isS (c : Nat) : Bool := isB c || c == 35

def bytes (s : String) : List Nat := s.toList.map Char.toNat
def kept : List (List Nat) := ["policy", "queue", "resident", "ghost", "var", "in", "tag", "require", "rule", "on", "hit", "miss", "if", "else", "loop", "while", "set", "mark", "insert", "move", "forget", "shift", "evict", "to", "drop", "call", "pass", "front", "back", "x", "true", "false", "len", "cap", "size", "total", "empty", "full", "at", "min", "max"].map bytes
def sign2 : List (List Nat) := [[46, 46], [61, 61], [33, 61], [60, 61], [62, 61], [38, 38], [124, 124]]
def sign1 : List Nat := [123, 125, 40, 41, 59, 44, 61, 60, 62, 43, 45, 42, 47, 33]

/-- what stands behind blanks and remarks (true: within a remark) -/
def blk : Bool → List Nat → List Nat
  | _, [] => []
  | true, c :: r => blk (c != 10) r
  | false, c :: r => if isB c then blk false r else if c == 35 then blk true r else c :: r
/-- blanks and remarks alone -/
def btw : Bool → List Nat → Bool
  | _, [] => true
  | true, c :: r => btw (c != 10) r
  | false, c :: r => if isB c then btw false r else if c == 35 then btw true r else false

/-- the token at a text's head: its kind, its length -/
def piece : List Nat → Option (Nat × Nat)
  | [] => none
  | c :: r =>
    if isL c then (if kept.contains (c :: r.takeWhile isW) then some (5, (r.takeWhile isW).length + 1) else some (2, (r.takeWhile isW).length + 1))
    else if isD c then some (3, (r.takeWhile isD).length + 1)
    else if sign2.contains (c :: r.take 1) then some (4, 2)
    else if sign1.contains c then some (4, 1)
    else none

/-- a number's value; above 2^30: one more than that -/
def capd (x : Nat) : Nat := if 1073741824 < x then 1073741825 else x
def val (n : Nat) (l : List Nat) : Nat := l.foldl (fun n d => capd (10 * n + (d - 48))) n
theorem val_nil (n : Nat) : val n [] = n := by unfold val; rw [List.foldl_nil]
theorem val_cons (n d : Nat) (r : List Nat) : val n (d :: r) = val (capd (10 * n + (d - 48))) r := by unfold val; rw [List.foldl_cons]

structure Tok where
  kind : Nat
  at_ : Nat
  stop : Nat
  n : Nat
  deriving DecidableEq

inductive Res where
  | ok (ts : List Tok)
  | fault (err at_ : Nat)

def Res.cons (t : Tok) : Res → Res
  | .ok ts => .ok (t :: ts)
  | .fault e i => .fault e i

theorem blk_len (f : Bool) (l : List Nat) : (blk f l).length ≤ l.length := by
  induction l generalizing f with
  | nil => cases f <;> simp [blk]
  | cons c r ih =>
    cases f
    · simp only [blk]
      split
      · have := ih false; simp; omega
      · split
        · have := ih true; simp; omega
        · simp
    · simp only [blk]
      have := ih (c != 10); simp; omega

theorem piece_pos {l : List Nat} {k n : Nat} (h : piece l = some (k, n)) : 1 ≤ n := by
  cases l with
  | nil => simp [piece] at h
  | cons c r =>
    simp only [piece] at h
    split at h
    · split at h <;> (simp at h; omega)
    · split at h
      · simp at h; omega
      · split at h
        · simp at h; omega
        · split at h <;> simp at h
          omega

def num (k : Nat) (l : List Nat) : Nat := if k = 3 then val 0 l else 0

/-- a text's tokens, from place p on, where k tokens stand ahead -/
def scan (l : List Nat) (p k : Nat) : Res :=
  match _hm : blk false l with
  | [] => .ok [⟨0, p + l.length, p + l.length, 0⟩]
  | c :: r =>
    if k = 65536 then .fault 3 (p + (l.length - (c :: r).length))
    else match _hp : piece (c :: r) with
      | none => .fault 11 (p + (l.length - (c :: r).length))
      | some (kd, n) =>
        if kd = 2 ∧ 64 < n then .fault 13 (p + (l.length - (c :: r).length))
        else if 1073741824 < num kd ((c :: r).take n) then .fault 12 (p + (l.length - (c :: r).length))
        else (scan ((c :: r).drop n) (p + (l.length - (c :: r).length) + n) (k + 1)).cons ⟨kd, p + (l.length - (c :: r).length), p + (l.length - (c :: r).length) + n, num kd ((c :: r).take n)⟩
  termination_by l.length
  decreasing_by
  have h1 := blk_len false l
  have h2 := piece_pos _hp
  rw [_hm] at h1
  simp only [List.length_cons, List.length_drop] at h1 ⊢
  omega

/-- one step of it, said once -/
theorem scan_nil {l : List Nat} {p k : Nat} (h : blk false l = []) : scan l p k = .ok [⟨0, p + l.length, p + l.length, 0⟩] := by
  rw [scan]
  split
  · rfl
  · rename_i c r hm; rw [h] at hm; cases hm
theorem scan_many {l m : List Nat} {p k : Nat} (h : blk false l = m) (hm : m ≠ []) (hk : k = 65536) : scan l p k = .fault 3 (p + (l.length - m.length)) := by
  rw [scan]
  split
  · rename_i e; rw [h] at e; exact absurd e hm
  · rename_i c r e; rw [h] at e; subst e; simp [hk]
theorem scan_byte {l m : List Nat} {p k : Nat} (h : blk false l = m) (hm : m ≠ []) (hk : k ≠ 65536) (hp : piece m = none) : scan l p k = .fault 11 (p + (l.length - m.length)) := by
  rw [scan]
  split
  · rename_i e; rw [h] at e; exact absurd e hm
  · rename_i c r e; rw [h] at e; subst e
    rw [if_neg hk]
    split
    · rfl
    · rename_i e2; rw [hp] at e2; cases e2
theorem scan_name {l m : List Nat} {p k n : Nat} (h : blk false l = m) (hm : m ≠ []) (hk : k ≠ 65536) (hp : piece m = some (2, n)) (hn : 64 < n) : scan l p k = .fault 13 (p + (l.length - m.length)) := by
  rw [scan]
  split
  · rename_i e; rw [h] at e; exact absurd e hm
  · rename_i c r e; rw [h] at e; subst e
    rw [if_neg hk]
    split
    · rename_i e2; rw [hp] at e2; cases e2
    · rename_i kd n' e2; rw [hp] at e2; cases e2
      rw [if_pos ⟨rfl, hn⟩]
theorem scan_number {l m : List Nat} {p k kd n : Nat} (h : blk false l = m) (hm : m ≠ []) (hk : k ≠ 65536) (hp : piece m = some (kd, n)) (hn : ¬ (kd = 2 ∧ 64 < n)) (hv : 1073741824 < num kd (m.take n)) : scan l p k = .fault 12 (p + (l.length - m.length)) := by
  rw [scan]
  split
  · rename_i e; rw [h] at e; exact absurd e hm
  · rename_i c r e; rw [h] at e; subst e
    rw [if_neg hk]
    split
    · rename_i e2; rw [hp] at e2; cases e2
    · rename_i kd' n' e2; rw [hp] at e2; cases e2
      rw [if_neg hn, if_pos hv]
theorem scan_tok {l m : List Nat} {p k kd n : Nat} (h : blk false l = m) (hm : m ≠ []) (hk : k ≠ 65536) (hp : piece m = some (kd, n)) (hn : ¬ (kd = 2 ∧ 64 < n)) (hv : ¬ 1073741824 < num kd (m.take n)) :
    scan l p k = (scan (m.drop n) (p + (l.length - m.length) + n) (k + 1)).cons ⟨kd, p + (l.length - m.length), p + (l.length - m.length) + n, num kd (m.take n)⟩ := by
  rw [scan]
  split
  · rename_i e; rw [h] at e; exact absurd e hm
  · rename_i c r e; rw [h] at e; subst e
    rw [if_neg hk]
    split
    · rename_i e2; rw [hp] at e2; cases e2
    · rename_i kd' n' e2; rw [hp] at e2; cases e2
      rw [if_neg hn, if_neg hv]
end Go.Proofs.Ytenhjebiokegkaa.Lx
