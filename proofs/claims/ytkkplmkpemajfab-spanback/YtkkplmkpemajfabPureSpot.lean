import Derived.Test.YtkkplmkpemajfabPureCol
namespace Go.Proofs.Ytkkplmkpemajfab.Sp

/-- the line of a place of the text -/
def spL (s : ByteArray) (a : Nat) : Nat := (brk s a).length + 1
theorem spL_le (s : ByteArray) (a : Nat) (h : a ≤ s.size) : spL s a ≤ nl s := by
  obtain ⟨r, hr, _⟩ := brk_front s a (s.size - a)
  rw [show a + (s.size - a) = s.size by omega] at hr
  unfold spL nl B
  rw [hr, List.length_append]
  omega
theorem B_below (s : ByteArray) (a : Nat) (h : a ≤ s.size) (i : Nat) (hi : i < (brk s a).length) : (B s).getD i 0 = (brk s a).getD i 0 := by
  obtain ⟨r, hr, _⟩ := brk_front s a (s.size - a)
  rw [show a + (s.size - a) = s.size by omega] at hr
  unfold B
  rw [hr]
  simp only [List.getD, List.getElem?_append_left hi]
theorem B_ahead (s : ByteArray) (a : Nat) (h : a ≤ s.size) (i : Nat) (hi : i < (brk s a).length) : (B s).getD i 0 < a := by
  rw [B_below s a h i hi]
  exact brk_lt s a _ (by simp [List.getD, List.getElem?_eq_getElem hi])
theorem B_behind (s : ByteArray) (a : Nat) (h : a ≤ s.size) (i : Nat) (hi : (brk s a).length ≤ i) (hb : i < (B s).length) : a ≤ (B s).getD i 0 := by
  obtain ⟨r, hr, hx⟩ := brk_front s a (s.size - a)
  rw [show a + (s.size - a) = s.size by omega] at hr
  unfold B at *
  rw [hr] at hb ⊢
  rw [List.length_append] at hb
  apply hx
  simp only [List.getD, List.getElem?_append_right hi]
  have : i - (brk s a).length < r.length := by omega
  simp [List.getElem?_eq_getElem this]
theorem st_spL (s : ByteArray) (a : Nat) (h : a ≤ s.size) : st s (spL s a) ≤ a := by
  unfold st spL
  split
  · omega
  · have := B_ahead s a h ((brk s a).length + 1 - 2) (by omega); omega
theorem en_spL (s : ByteArray) (a : Nat) (h : a ≤ s.size) : a ≤ en s (spL s a) := by
  have hle := spL_le s a h
  unfold en
  split
  · exact h
  · exact B_behind s a h _ (by unfold spL; omega) (by unfold spL nl at *; omega)
/-- its column -/
def spC (s : ByteArray) (a : Nat) : Nat := colN (ln s (spL s a)) ((a : Int) - (st s (spL s a) : Nat))
def inB (s : ByteArray) (a : Int) : Bool := decide (0 ≤ a ∧ a ≤ (s.size : Int))
def SL (s : ByteArray) (a : Int) : Int := if inB s a then (spL s a.toNat : Nat) else 0
def SC (s : ByteArray) (a : Int) : Int := if inB s a then (spC s a.toNat : Nat) else 0
def SE (s : ByteArray) (a : Int) : Int := if inB s a then 0 else 1
/-- the place of a line and a column -/
def hasB (s : ByteArray) (n : Int) : Bool := decide (1 ≤ n ∧ n ≤ (nl s : Int))
def PB (s : ByteArray) (l c : Int) : Bool := hasB s l && plB (ln s l.toNat) c
def PV (s : ByteArray) (l c : Int) : Int := if PB s l c then ((st s l.toNat + plV (ln s l.toNat) c : Nat) : Int) else 0
def PE (s : ByteArray) (l c : Int) : Int := if PB s l c then 0 else 1
/-- a line -/
def LV (s : ByteArray) (n : Int) : ByteArray := if hasB s n then ln s n.toNat else ByteArray.empty
def LE (s : ByteArray) (n : Int) : Int := if hasB s n then 0 else 1
end Go.Proofs.Ytkkplmkpemajfab.Sp
