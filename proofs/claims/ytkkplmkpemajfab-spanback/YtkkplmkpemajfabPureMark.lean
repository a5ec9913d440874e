import Derived.Test.YtkkplmkpemajfabPureSpot
import Derived.Lib.UnsafeStr
namespace Go.Proofs.Ytkkplmkpemajfab.Sp

/-- the rune of the piece at pos -/
def rn (t : ByteArray) (pos : Nat) : Int := ((Utf8.decode t pos).1 : Int)
/-- the mark's byte beneath a piece -/
def mkb (t : ByteArray) (pos : Nat) : UInt8 := if rn t pos = 9 then 9 else 32
/-- the mark's bytes beneath the pieces from pos on, which has column a, up to column c -/
def inF (t : ByteArray) (c : Int) : Nat → Nat → Int → List UInt8
  | 0, _, _ => []
  | f + 1, pos, a => if pos < t.size then (if a = c then [] else mkb t pos :: inF t c f (pos + wd t pos) (a + 1)) else []
theorem inF_end {t : ByteArray} {c a : Int} {f pos : Nat} (h : ¬ pos < t.size) : inF t c f pos a = [] := by cases f <;> simp [inF, h]
theorem inF_stop {t : ByteArray} {c a : Int} {f pos : Nat} (h : a = c) : inF t c f pos a = [] := by cases f <;> simp [inF, h]
theorem inF_on {t : ByteArray} {c a : Int} {f pos : Nat} (h : pos < t.size) (ha : ¬ a = c) : inF t c (f + 1) pos a = mkb t pos :: inF t c f (pos + wd t pos) (a + 1) := by simp [inF, h, ha]
theorem inF_len (t : ByteArray) (c : Int) (f : Nat) : ∀ (pos : Nat) (a : Int), (inF t c f pos a).length ≤ t.size - pos := by
  induction f with
  | zero => intro pos a; simp [inF]
  | succ f ih =>
    intro pos a
    by_cases hp : pos < t.size
    · by_cases ha : a = c
      · rw [inF_stop ha]; simp
      · rw [inF_on hp ha, List.length_cons]
        have h1 := ih (pos + wd t pos) (a + 1)
        have h2 := wd_pos t pos hp
        omega
    · rw [inF_end hp]; simp
def ind (t : ByteArray) (c : Int) : List UInt8 := inF t c t.size 0 1
theorem ind_len (t : ByteArray) (c : Int) : (ind t c).length ≤ t.size := by have := inF_len t c t.size 0 1; unfold ind; omega
def MB (s : ByteArray) (a : Nat) : List UInt8 := (ln s (spL s a)).data.toList ++ [10] ++ ind (ln s (spL s a)) (spC s a : Nat) ++ [94]
def MV (s : ByteArray) (a : Int) : ByteArray := if inB s a then ⟨(MB s a.toNat).toArray⟩ else ByteArray.empty
end Go.Proofs.Ytkkplmkpemajfab.Sp
