import Derived.Laws.RangeAny
import Derived.Lib.SlBytesRow
namespace Go.Proofs.Ytenhjebiokegkaa.Sp

/-- byte k of a text, as a number -/
def bt (s : ByteArray) (k : Nat) : Int := ((s.data.toList.getD k 0).toNat : Int)
theorem bt_bd (s : ByteArray) (k : Nat) : 0 ≤ bt s k ∧ bt s k ≤ 255 := by
  unfold bt
  have := (s.data.toList.getD k 0).toNat_lt
  omega

/-- the places of the bytes 10 among the first k -/
def brk (s : ByteArray) : Nat → List Nat
  | 0 => []
  | k + 1 => brk s k ++ (if bt s k = 10 then [k] else [])
theorem brk_yes {s : ByteArray} {k : Nat} (h : bt s k = 10) : brk s (k + 1) = brk s k ++ [k] := by simp [brk, h]
theorem brk_no {s : ByteArray} {k : Nat} (h : ¬ bt s k = 10) : brk s (k + 1) = brk s k := by simp [brk, h]
theorem brk_len (s : ByteArray) (k : Nat) : (brk s k).length ≤ k := by
  induction k with
  | zero => simp [brk]
  | succ k ih => by_cases h : bt s k = 10 <;> simp [brk, h] <;> omega
theorem brk_lt (s : ByteArray) (k : Nat) : ∀ x ∈ brk s k, x < k := by
  induction k with
  | zero => simp [brk]
  | succ k ih =>
    intro x hx
    by_cases h : bt s k = 10
    · rw [brk_yes h] at hx
      rcases List.mem_append.1 hx with h1 | h1
      · have := ih x h1; omega
      · simp at h1; omega
    · rw [brk_no h] at hx
      have := ih x hx; omega
theorem brk_sorted (s : ByteArray) (k : Nat) : (brk s k).Pairwise (· < ·) := by
  induction k with
  | zero => simp [brk]
  | succ k ih =>
    by_cases h : bt s k = 10
    · rw [brk_yes h, List.pairwise_append]
      exact ⟨ih, by simp, fun a ha b hb => by simp at hb; have := brk_lt s k a ha; omega⟩
    · rw [brk_no h]; exact ih
/-- a longer front's breaks begin with a shorter one's -/
theorem brk_front (s : ByteArray) (k d : Nat) : ∃ r, brk s (k + d) = brk s k ++ r ∧ ∀ x ∈ r, k ≤ x := by
  induction d with
  | zero => exact ⟨[], by simp, by simp⟩
  | succ d ih =>
    obtain ⟨r, h1, h2⟩ := ih
    by_cases h : bt s (k + d) = 10
    · refine ⟨r ++ [k + d], ?_, ?_⟩
      · rw [show k + (d + 1) = (k + d) + 1 by omega, brk_yes h, h1, List.append_assoc]
      · intro x hx
        rcases List.mem_append.1 hx with h3 | h3
        · exact h2 x h3
        · simp at h3; omega
    · exact ⟨r, by rw [show k + (d + 1) = (k + d) + 1 by omega, brk_no h, h1], h2⟩

def B (s : ByteArray) : List Nat := brk s s.size
/-- how many lines -/
def nl (s : ByteArray) : Nat := (B s).length + 1
/-- where line n begins, where it ends -/
def st (s : ByteArray) (n : Nat) : Nat := if n = 1 then 0 else (B s).getD (n - 2) 0 + 1
def en (s : ByteArray) (n : Nat) : Nat := if n = nl s then s.size else (B s).getD (n - 1) 0
def ln (s : ByteArray) (n : Nat) : ByteArray := s.extract (st s n) (en s n)

theorem B_lt (s : ByteArray) (i : Nat) (h : i < (B s).length) : (B s).getD i 0 < s.size := by
  have := brk_lt s s.size ((B s).getD i 0) (by unfold B at *; simp [List.getD, List.getElem?_eq_getElem h])
  exact this
theorem B_mono (s : ByteArray) (i j : Nat) (hij : i < j) (h : j < (B s).length) : (B s).getD i 0 < (B s).getD j 0 := by
  have hs := brk_sorted s s.size
  have hi : i < (B s).length := by omega
  simp only [List.getD, List.getElem?_eq_getElem h, List.getElem?_eq_getElem hi, Option.getD_some]
  exact List.pairwise_iff_getElem.1 hs i j hi h hij
theorem nl_le (s : ByteArray) : nl s ≤ s.size + 1 := by have := brk_len s s.size; unfold nl B; omega
theorem nl_pos (s : ByteArray) : 1 ≤ nl s := by unfold nl; omega
theorem en_le (s : ByteArray) (n : Nat) (h1 : 1 ≤ n) (h2 : n ≤ nl s) : en s n ≤ s.size := by
  unfold en
  split
  · omega
  · have := B_lt s (n - 1) (by unfold nl at *; omega); omega
theorem st_le (s : ByteArray) (n : Nat) (h1 : 1 ≤ n) (h2 : n ≤ nl s) : st s n ≤ en s n := by
  unfold st en
  split
  · omega
  · split
    · have := B_lt s (n - 2) (by unfold nl at *; omega); omega
    · have := B_mono s (n - 2) (n - 1) (by omega) (by unfold nl at *; omega); omega
theorem ln_size (s : ByteArray) (n : Nat) (h1 : 1 ≤ n) (h2 : n ≤ nl s) : (ln s n).size = en s n - st s n := by
  have := en_le s n h1 h2
  unfold ln
  simp [ByteArray.size_extract]
  omega
end Go.Proofs.Ytenhjebiokegkaa.Sp
