import Derived.Test.YtkkplmkpemajfabPure
namespace Go.Proofs.Ytkkplmkpemajfab.Sp

/-- how long the piece at pos is -/
def wd (t : ByteArray) (pos : Nat) : Nat := (Utf8.decode t pos).2
theorem wd_pos (t : ByteArray) (pos : Nat) (h : pos < t.size) : 1 ≤ wd t pos := by
  unfold wd
  by_cases ha : (t[pos]'h).toNat < 128
  · rw [decode_ascii t pos h ha]
    exact Nat.le_refl _
  · exact (decode_high t pos h (by omega)).2
/-- how many pieces from pos on begin at off or ahead -/
def nbF (t : ByteArray) (off : Int) : Nat → Nat → Nat
  | 0, _ => 0
  | f + 1, pos => if pos < t.size then (if (pos : Int) ≤ off then 1 else 0) + nbF t off f (pos + wd t pos) else 0
theorem nbF_end {t : ByteArray} {off : Int} {f pos : Nat} (h : ¬ pos < t.size) : nbF t off f pos = 0 := by
  cases f <;> simp [nbF, h]
theorem nbF_past {t : ByteArray} {off : Int} (f : Nat) : ∀ pos : Nat, off < (pos : Int) → nbF t off f pos = 0 := by
  induction f with
  | zero => intro pos _; rfl
  | succ f ih =>
    intro pos h
    by_cases hp : pos < t.size
    · simp only [nbF, hp, if_true]
      rw [if_neg (by omega), ih _ (by omega)]
    · exact nbF_end hp
theorem nbF_le (t : ByteArray) (off : Int) (f : Nat) : ∀ pos : Nat, nbF t off f pos ≤ t.size - pos := by
  induction f with
  | zero => intro pos; simp [nbF]
  | succ f ih =>
    intro pos
    by_cases hp : pos < t.size
    · have h1 := ih (pos + wd t pos)
      have h2 := wd_pos t pos hp
      simp only [nbF, hp, if_true]
      split <;> omega
    · rw [nbF_end hp]; omega
/-- the column of the place off of a line -/
def colN (t : ByteArray) (off : Int) : Nat := nbF t off t.size 0 + (if off = (t.size : Int) then 1 else 0)
theorem colN_le (t : ByteArray) (off : Int) : colN t off ≤ t.size + 1 := by
  have := nbF_le t off t.size 0
  unfold colN
  split <;> omega

/-- the place of a column -/
def plF (t : ByteArray) : Nat → Nat → Int → Option Nat
  | 0, _, c => if c = 1 then some t.size else none
  | f + 1, pos, c => if pos < t.size then (if c = 1 then some pos else plF t f (pos + wd t pos) (c - 1)) else (if c = 1 then some t.size else none)
theorem plF_end {t : ByteArray} {f pos : Nat} {c : Int} (h : ¬ pos < t.size) : plF t f pos c = if c = 1 then some t.size else none := by
  cases f <;> simp [plF, h]
theorem plF_yes {t : ByteArray} {f pos : Nat} {c : Int} (h : pos < t.size) (hc : c = 1) : plF t (f + 1) pos c = some pos := by simp [plF, h, hc]
theorem plF_no {t : ByteArray} {f pos : Nat} {c : Int} (h : pos < t.size) (hc : ¬ c = 1) : plF t (f + 1) pos c = plF t f (pos + wd t pos) (c - 1) := by simp [plF, h, hc]
theorem plF_low {t : ByteArray} (f : Nat) : ∀ (pos : Nat) (c : Int), c < 1 → plF t f pos c = none := by
  induction f with
  | zero => intro pos c h; simp [plF]; omega
  | succ f ih =>
    intro pos c h
    by_cases hp : pos < t.size
    · rw [plF_no hp (by omega)]; exact ih _ _ (by omega)
    · rw [plF_end hp, if_neg (by omega)]
theorem plF_le {t : ByteArray} (f : Nat) : ∀ (pos : Nat) (c : Int) (p : Nat), plF t f pos c = some p → p ≤ t.size := by
  induction f with
  | zero => intro pos c p h; simp [plF] at h; omega
  | succ f ih =>
    intro pos c p h
    by_cases hp : pos < t.size
    · by_cases hc : c = 1
      · rw [plF_yes hp hc] at h; simp at h; omega
      · rw [plF_no hp hc] at h; exact ih _ _ _ h
    · rw [plF_end hp] at h
      by_cases hc : c = 1
      · simp [hc] at h; omega
      · simp [hc] at h
def pl (t : ByteArray) (c : Int) : Option Nat := plF t t.size 0 c
def plV (t : ByteArray) (c : Int) : Nat := (pl t c).getD 0
def plB (t : ByteArray) (c : Int) : Bool := (pl t c).isSome
theorem plV_le (t : ByteArray) (c : Int) : plV t c ≤ t.size := by
  unfold plV
  cases h : pl t c with
  | none => simp
  | some p => simpa using plF_le _ _ _ _ h

end Go.Proofs.Ytkkplmkpemajfab.Sp
