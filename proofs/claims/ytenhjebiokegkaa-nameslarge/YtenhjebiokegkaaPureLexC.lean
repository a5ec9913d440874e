import Derived.Test.YtenhjebiokegkaaPure
import Derived.Test.YtenhjebiokegkaaPureLexB
namespace Go.Proofs.Ytenhjebiokegkaa.Lx
open Go.Proofs.Ytenhjebiokegkaa.Sp

/-- a text's bytes as numbers -/
def tx (s : ByteArray) : List Nat := s.data.toList.map UInt8.toNat
theorem tx_len (s : ByteArray) : (tx s).length = s.size := by rw [tx, List.length_map]; rfl
/-- byte k, as a number -/
def nb (s : ByteArray) (k : Nat) : Nat := (tx s).getD k 0
theorem nb_bt (s : ByteArray) (k : Nat) : (nb s k : Int) = bt s k := by
  unfold nb bt tx
  rw [List.getD, List.getD, List.getElem?_map]
  cases s.data.toList[k]? <;> rfl
theorem tx_drop {s : ByteArray} {i : Nat} (h : i < s.size) : (tx s).drop i = nb s i :: (tx s).drop (i + 1) := by
  have h1 : i < (tx s).length := by rw [tx_len]; exact h
  rw [List.drop_eq_getElem_cons h1]
  simp [nb, List.getD, h1]
theorem tx_drop_end {s : ByteArray} {i : Nat} (h : s.size ≤ i) : (tx s).drop i = [] := List.drop_eq_nil_of_le (by rw [tx_len]; exact h)

/-- the place behind blanks and remarks; behind a remark -/
def bl (s : ByteArray) (i : Nat) : Nat := s.size - (blk false ((tx s).drop i)).length
def rl (s : ByteArray) (i : Nat) : Nat := s.size - (blk true ((tx s).drop i)).length
theorem bl_end {s : ByteArray} {i : Nat} (h : s.size ≤ i) : bl s i = s.size := by simp [bl, tx_drop_end h, blk]
theorem rl_end {s : ByteArray} {i : Nat} (h : s.size ≤ i) : rl s i = s.size := by simp [rl, tx_drop_end h, blk]
theorem bl_blank {s : ByteArray} {i : Nat} (h : i < s.size) (hb : isB (nb s i) = true) : bl s i = bl s (i + 1) := by
  unfold bl; rw [tx_drop h]; simp only [blk, hb, if_true]
theorem bl_hash {s : ByteArray} {i : Nat} (h : i < s.size) (hb : nb s i = 35) : bl s i = rl s i := by
  unfold bl rl; rw [tx_drop h, hb]
  simp [blk, isB]
theorem rl_nl {s : ByteArray} {i : Nat} (h : i < s.size) (hb : nb s i = 10) : rl s i = bl s i := by
  unfold bl rl; rw [tx_drop h, hb]
  simp [blk, isB]
theorem rl_other {s : ByteArray} {i : Nat} (h : i < s.size) (hb : nb s i ≠ 10) : rl s i = rl s (i + 1) := by
  unfold rl; rw [tx_drop h]
  have : (nb s i != 10) = true := by simpa using hb
  simp only [blk, this]
theorem bl_stop {s : ByteArray} {i : Nat} (h : i < s.size) (hb : isS (nb s i) = false) : bl s i = i := by
  unfold bl; rw [tx_drop h, blk_head hb, ← tx_drop h, List.length_drop, tx_len]; omega
theorem bl_le (s : ByteArray) (i : Nat) : bl s i ≤ s.size := by unfold bl; omega
theorem bl_ge {s : ByteArray} {i : Nat} (h : i ≤ s.size) : i ≤ bl s i := by
  have h1 := blk_len false ((tx s).drop i)
  rw [List.length_drop, tx_len] at h1
  unfold bl; omega
/-- what stands there -/
theorem bl_drop {s : ByteArray} {i : Nat} (h : i ≤ s.size) : (tx s).drop (bl s i) = blk false ((tx s).drop i) := by
  obtain ⟨p, h1, _⟩ := blk_split false ((tx s).drop i)
  have h2 := congrArg List.length h1
  simp only [List.length_drop, List.length_append, tx_len] at h2
  have h3 := blk_len false ((tx s).drop i)
  rw [List.length_drop, tx_len] at h3
  have e : bl s i = i + p.length := by unfold bl; omega
  rw [e, ← List.drop_drop]
  have h4 : (p ++ blk false ((tx s).drop i)).drop p.length = blk false ((tx s).drop i) := by simp
  rw [← h1] at h4
  exact h4

/-- where a run of bytes ends -/
def ru (p : Nat → Bool) (s : ByteArray) (i : Nat) : Nat := i + (((tx s).drop i).takeWhile p).length
theorem ru_in {p : Nat → Bool} {s : ByteArray} {i : Nat} (h : i < s.size) (hp : p (nb s i) = true) : ru p s i = ru p s (i + 1) := by
  unfold ru; rw [tx_drop h, List.takeWhile_cons, if_pos hp, List.length_cons]; omega
theorem ru_out {p : Nat → Bool} {s : ByteArray} {i : Nat} (h : i < s.size) (hp : p (nb s i) = false) : ru p s i = i := by
  unfold ru; rw [tx_drop h, List.takeWhile_cons, hp]; rfl
theorem ru_end {p : Nat → Bool} {s : ByteArray} {i : Nat} (h : s.size ≤ i) : ru p s i = i := by
  unfold ru; rw [tx_drop_end h]; rfl
theorem ru_le {p : Nat → Bool} {s : ByteArray} {i : Nat} (h : i ≤ s.size) : i ≤ ru p s i ∧ ru p s i ≤ s.size := by
  have h1 := takeWhile_len (p := p) ((tx s).drop i)
  rw [List.length_drop, tx_len] at h1
  unfold ru; omega

/-- what stands in a list between two bytes 32 that have no other between -/
def inner : List Nat → List (List Nat)
  | [] => []
  | c :: r => if c = 32 then (if (r.dropWhile (· != 32)).isEmpty then [] else [r.takeWhile (· != 32)]) ++ inner r else inner r
def Occurs (K t : List Nat) (i : Nat) : Prop := ∃ a b, K = a ++ 32 :: (t ++ 32 :: b) ∧ a.length = i

theorem take_drop_while (p : Nat → Bool) (l : List Nat) : l = l.takeWhile p ++ l.dropWhile p := (List.takeWhile_append_dropWhile).symm
theorem while_of {t b : List Nat} (ht : ∀ c ∈ t, c ≠ 32) : (t ++ 32 :: b).takeWhile (· != 32) = t ∧ (t ++ 32 :: b).dropWhile (· != 32) = 32 :: b := by
  induction t with
  | nil => simp
  | cons c t ih =>
    have h1 : (c != 32) = true := by simpa using ht c (by simp)
    have h2 := ih fun x hx => ht x (by simp [hx])
    rw [List.cons_append, List.takeWhile_cons, List.dropWhile_cons, if_pos h1, if_pos h1, h2.1, h2.2]
    exact ⟨rfl, rfl⟩
theorem dropWhile_head {l : List Nat} (h : (l.dropWhile (· != 32)).isEmpty = false) : ∃ b, l.dropWhile (· != 32) = 32 :: b := by
  induction l with
  | nil => simp at h
  | cons c r ih =>
    rw [List.dropWhile_cons] at h ⊢
    split
    · rename_i h1; rw [if_pos h1] at h; exact ih h
    · rename_i h1
      have : c = 32 := by simpa using h1
      exact ⟨r, by rw [this]⟩

theorem inner_iff {K t : List Nat} (ht : ∀ c ∈ t, c ≠ 32) : t ∈ inner K ↔ ∃ i, Occurs K t i := by
  induction K with
  | nil =>
    constructor
    · intro h; cases h
    · rintro ⟨i, a, b, h, _⟩; simp at h
  | cons c r ih =>
    constructor
    · intro h
      have up : t ∈ inner r → ∃ i, Occurs (c :: r) t i := by
        intro h1
        obtain ⟨i, a, b, e, hl⟩ := ih.1 h1
        exact ⟨i + 1, c :: a, b, by rw [e]; rfl, by simp [hl]⟩
      simp only [inner] at h
      split at h
      · rename_i hc
        rcases List.mem_append.1 h with h1 | h1
        · split at h1
          · cases h1
          · rename_i h2
            obtain ⟨b, hb⟩ := dropWhile_head (by simpa using h2)
            have h3 : t = r.takeWhile (· != 32) := by simpa using h1
            refine ⟨0, [], b, ?_, rfl⟩
            rw [List.nil_append, hc, h3, ← hb, ← take_drop_while]
        · exact up h1
      · exact up h
    · rintro ⟨i, a, b, e, hl⟩
      simp only [inner]
      cases a with
      | nil =>
        rw [List.nil_append] at e
        injection e with e1 e2
        have hw := while_of (b := b) ht
        rw [if_pos e1, e2, hw.1, hw.2]
        simp
      | cons x a =>
        rw [List.cons_append] at e
        injection e with e1 e2
        have h1 := ih.2 ⟨a.length, a, b, e2, rfl⟩
        split
        · exact List.mem_append.2 (Or.inr h1)
        · exact h1

def keptText : List Nat := bytes " policy queue resident ghost var in tag require rule on hit miss if else loop while set mark insert move forget shift evict to drop call pass front back x true false len cap size total empty full at min max "
def signs : List (List Nat) := [[123], [125], [40], [41], [59], [44], [46, 46], [61], [61, 61], [33, 61], [60], [60, 61], [62], [62, 61], [43], [45], [42], [47], [38, 38], [124, 124], [33]]
def signText : List Nat := 32 :: signs.flatMap fun t => t ++ [32]
theorem inner_kept : inner keptText = kept := by decide +kernel
theorem inner_signs : inner signText = signs := by decide +kernel
theorem signs_two (c d : Nat) : [c, d] ∈ signs ↔ sign2.contains [c, d] = true := by simp [signs, sign2]
theorem signs_one (c : Nat) : [c] ∈ signs ↔ sign1.contains c = true := by simp [signs, sign1]
end Go.Proofs.Ytenhjebiokegkaa.Lx
