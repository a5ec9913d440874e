import Derived.Test.YtjcbpejplnaakaaGreatMdAre
namespace Go.Proofs.YtjcbpejplnaakaaGreat.Md
open Go.RowKit Go.Maps Go.Proofs.YtjcbpejplnaakaaGreat.Nm

/-- how often a stands in l -/
def ct (a : Nat) (l : List Nat) : Nat := l.count a
def one (a k : Nat) : Nat := if k = a then 1 else 0
section
variable {a k x size p : Nat} {l m k1 k2 k3 k4 j1 j2 j3 j4 out was now : List Nat}
theorem ct_nil : ct a [] = 0 := rfl
theorem ct_cons : ct a (k :: l) = ct a l + one a k := by
  unfold ct one
  rw [List.count_cons]
  by_cases h : k = a <;> simp [h]
theorem ct_app : ct a (l ++ m) = ct a l + ct a m := List.count_append
theorem ct_erase : ct a (l.erase k) = ct a l - one a k := by
  unfold ct one
  rw [List.count_erase]
  by_cases h : k = a <;> simp [h]
theorem ct_pos (h : k ∈ l) : 0 < ct k l := List.count_pos_iff.2 h
theorem ct_zero (h : k ∉ l) : ct k l = 0 := List.count_eq_zero.2 h
theorem ct_mem (h : 0 < ct k l) : k ∈ l := List.count_pos_iff.1 h
theorem ct_no (h : ct k l = 0) : k ∉ l := List.count_eq_zero.1 h
theorem one_same : one k k = 1 := if_pos rfl
theorem one_ne (h : k ≠ a) : one a k = 0 := if_neg h
/-- what any cache does at an Access, told of its keys -/
structure Snd (s3 : Bool) (size k : Nat) (was now out : List Nat) : Prop where
  sum : ∀ a, ct a now + ct a out = ct a was + (if k ∈ was then 0 else one a k)
  hit : k ∈ was → out = []
  isin : k ∈ now
  le : now.length ≤ size
  full : s3 = false → was.length < size → out = []
/-- an ARC's rows -/
structure Ark (size p : Nat) (k1 k2 k3 k4 : List Nat) : Prop where
  nd : ∀ a, ct a k1 + ct a k2 + ct a k3 + ct a k4 ≤ 1
  first : k1.length + k3.length ≤ size
  held : k1.length + k2.length ≤ size
  all : k1.length + k2.length + k3.length + k4.length ≤ 2 * size
  pLe : p ≤ size
  ghost : 0 < k3.length + k4.length → k1.length + k2.length = size
theorem Ark.hit1 (h : Ark size p k1 k2 k3 k4) (hk : k ∈ k1) : Ark size p (k1.erase k) (k :: k2) k3 k4 ∧ Snd false size k (k1 ++ k2) (k1.erase k ++ k :: k2) [] := by
  have hl := List.length_erase_of_mem hk
  have hp := List.length_pos_of_mem hk
  obtain ⟨nd, h1, h2, h3, h4, h5⟩ := h
  have hs : ∀ a, ct a (k1.erase k) + one a k = ct a k1 := fun a => by
    rw [ct_erase]
    by_cases e : k = a
    · subst e
      have := ct_pos hk
      rw [one_same]
      omega
    · rw [one_ne e]
      omega
  refine ⟨⟨fun a => ?_, by omega, by simp; omega, by simp; omega, h4, fun q => by have := h5 q; simp; omega⟩, ⟨fun a => ?_, fun _ => rfl, by simp, by simp; omega, fun _ _ => rfl⟩⟩
  · have := nd a
    have := hs a
    rw [ct_cons]
    omega
  · have := hs a
    rw [if_pos (by simp [hk]), ct_app, ct_app, ct_cons, ct_nil]
    omega
theorem Ark.hit2 (h : Ark size p k1 k2 k3 k4) (hk : k ∈ k2) : Ark size p k1 (k :: k2.erase k) k3 k4 ∧ Snd false size k (k1 ++ k2) (k1 ++ k :: k2.erase k) [] := by
  have hl := List.length_erase_of_mem hk
  have hp := List.length_pos_of_mem hk
  obtain ⟨nd, h1, h2, h3, h4, h5⟩ := h
  have hs : ∀ a, ct a (k2.erase k) + one a k = ct a k2 := fun a => by
    rw [ct_erase]
    by_cases e : k = a
    · subst e
      have := ct_pos hk
      rw [one_same]
      omega
    · rw [one_ne e]
      omega
  refine ⟨⟨fun a => ?_, by omega, by simp; omega, by simp; omega, h4, fun q => by have := h5 q; simp; omega⟩, ⟨fun a => ?_, fun _ => rfl, by simp, by simp; omega, fun _ _ => rfl⟩⟩
  · have := nd a
    have := hs a
    rw [ct_cons]
    omega
  · have := hs a
    rw [if_pos (by simp [hk]), ct_app, ct_app, ct_cons, ct_nil]
    omega
/-- replace, in counts -/
theorem Rep.cts {bb : Bool} (h : Rep p bb k1 k2 k3 k4 x j1 j2 j3 j4) : (∀ a, ct a j1 + ct a j2 + one a x = ct a k1 + ct a k2) ∧ (∀ a, ct a j3 + ct a j4 = ct a k3 + ct a k4 + one a x) ∧ j1.length + j2.length + 1 = k1.length + k2.length ∧ j3.length + j4.length = k3.length + k4.length + 1 ∧ j1.length + j3.length ≤ k1.length + k3.length ∧ j2.length ≤ k2.length ∧ (∀ a, ct a k3 ≤ ct a j3) ∧ (∀ a, ct a k4 ≤ ct a j4) := by
  rcases h with ⟨_, rfl, rfl, rfl, rfl⟩ | ⟨_, rfl, rfl, rfl, rfl⟩
  · refine ⟨fun a => ?_, fun a => ?_, by simp; omega, by simp; omega, by simp; omega, by omega, fun a => ?_, fun a => Nat.le_refl _⟩
    · rw [ct_app, ct_cons, ct_nil]; omega
    · rw [ct_cons]; omega
    · rw [ct_cons]; omega
  · refine ⟨fun a => ?_, fun a => ?_, by simp; omega, by simp; omega, by omega, by simp, fun a => Nat.le_refl _, fun a => ?_⟩
    · rw [ct_app, ct_cons, ct_nil]; omega
    · rw [ct_cons]; omega
    · rw [ct_cons]; omega
theorem er_ct {l : List Nat} (hk : k ∈ l) (a : Nat) : ct a (l.erase k) + one a k = ct a l := by
  rw [ct_erase]
  by_cases e : k = a
  · subst e
    have := ct_pos hk
    rw [one_same]
    omega
  · rw [one_ne e]
    omega
/-- a key of B1 or B2 comes back -/
theorem Ark.back3 {p' : Nat} {bb : Bool} (h : Ark size p k1 k2 k3 k4) (h1k : k ∉ k1) (h2k : k ∉ k2) (hk : k ∈ k3) (hp : p' ≤ size) (hr : Rep p' bb k1 k2 k3 k4 x j1 j2 j3 j4) : Ark size p' j1 (k :: j2) (j3.erase k) j4 ∧ Snd false size k (k1 ++ k2) (j1 ++ k :: j2) [x] := by
  obtain ⟨r1, r2, r3, r4, r5, r6, r7, r8⟩ := hr.cts
  obtain ⟨nd, h1, h2, h3, h4, h5⟩ := h
  have hk3 := List.length_pos_of_mem hk
  have hg := h5 (by omega)
  have hj : k ∈ j3 := ct_mem (by have := ct_pos hk; have := r7 k; omega)
  have hl := List.length_erase_of_mem hj
  have hlp := List.length_pos_of_mem hj
  refine ⟨⟨fun a => ?_, by omega, by simp; omega, by simp; omega, hp, fun _ => by simp; omega⟩, ⟨fun a => ?_, fun e => absurd e (by simp [h1k, h2k]), by simp, by simp; omega, fun _ q => by simp at q; omega⟩⟩
  · have := nd a
    have := r1 a
    have := r2 a
    have := er_ct hj a
    rw [ct_cons]
    omega
  · have := r1 a
    rw [if_neg (by simp [h1k, h2k]), ct_app, ct_app, ct_cons, ct_cons, ct_nil]
    omega
theorem Ark.back4 {p' : Nat} {bb : Bool} (h : Ark size p k1 k2 k3 k4) (h1k : k ∉ k1) (h2k : k ∉ k2) (hk : k ∈ k4) (hp : p' ≤ size) (hr : Rep p' bb k1 k2 k3 k4 x j1 j2 j3 j4) : Ark size p' j1 (k :: j2) j3 (j4.erase k) ∧ Snd false size k (k1 ++ k2) (j1 ++ k :: j2) [x] := by
  obtain ⟨r1, r2, r3, r4, r5, r6, r7, r8⟩ := hr.cts
  obtain ⟨nd, h1, h2, h3, h4, h5⟩ := h
  have hk3 := List.length_pos_of_mem hk
  have hg := h5 (by omega)
  have hj : k ∈ j4 := ct_mem (by have := ct_pos hk; have := r8 k; omega)
  have hl := List.length_erase_of_mem hj
  have hlp := List.length_pos_of_mem hj
  refine ⟨⟨fun a => ?_, by omega, by simp; omega, by simp; omega, hp, fun _ => by simp; omega⟩, ⟨fun a => ?_, fun e => absurd e (by simp [h1k, h2k]), by simp, by simp; omega, fun _ q => by simp at q; omega⟩⟩
  · have := nd a
    have := r1 a
    have := r2 a
    have := er_ct hj a
    rw [ct_cons]
    omega
  · have := r1 a
    rw [if_neg (by simp [h1k, h2k]), ct_app, ct_app, ct_cons, ct_cons, ct_nil]
    omega
/-- a new key -/
theorem Ark.new_ (h : Ark size p k1 k2 k3 k4) (h0 : 0 < size) (n1 : k ∉ k1) (n2 : k ∉ k2) (n3 : k ∉ k3) (n4 : k ∉ k4) (hm : Mkr size p k1 k2 k3 k4 out j1 j2 j3 j4) : Ark size p (k :: j1) j2 j3 j4 ∧ Snd false size k (k1 ++ k2) (k :: j1 ++ j2) out ∧ k ∉ j1 ∧ j1.length ≤ size := by
  have c1 := ct_zero n1
  have c2 := ct_zero n2
  have c3 := ct_zero n3
  have c4 := ct_zero n4
  have hw : ¬ k ∈ k1 ++ k2 := by simp [n1, n2]
  obtain ⟨nd, h1, h2, h3, h4, h5⟩ := h
  have key : ∀ a, ct a k1 + ct a k2 + ct a k3 + ct a k4 + one a k ≤ 1 := fun a => by
    by_cases e : k = a
    · subst e; rw [one_same]; omega
    · rw [one_ne e]; exact nd a
  cases hm with
  | a x j1 e1 e2 =>
    subst e2
    simp at e1
    simp at h1 h2 h3
    have hk3 : k3.length = 0 := by omega
    have hk2 : k2.length = 0 := by omega
    refine ⟨⟨fun a => ?_, by simp; omega, by simp; omega, by simp; omega, h4, fun _ => by simp; omega⟩, ⟨fun a => ?_, fun e => absurd e hw, by simp, by simp; omega, fun _ q => by simp at q; omega⟩, fun e => n1 (by simp [e]), by omega⟩
    · have := key a
      rw [ct_app, ct_cons, ct_nil] at this
      rw [ct_cons]
      omega
    · rw [if_neg hw, ct_app, ct_app, ct_app, ct_cons, ct_cons, ct_nil]
      omega
  | b x y c _ _ _ _ e1 e2 e3 hr =>
    subst e3
    obtain ⟨r1, r2, r3, r4, r5, r6, r7, r8⟩ := hr.cts
    simp at h1 h2 h3 h5 e2
    refine ⟨⟨fun a => ?_, by simp; omega, by simp; omega, by simp; omega, h4, fun _ => by simp; omega⟩, ⟨fun a => ?_, fun e => absurd e hw, by simp, by simp; omega, fun _ q => by simp at q; omega⟩, ct_no ?_, by omega⟩
    · have := key a
      have := r1 a
      have := r2 a
      rw [ct_app, ct_cons, ct_nil] at *
      omega
    · have := r1 a
      rw [if_neg hw, ct_app, ct_app, ct_cons, ct_cons, ct_nil]
      omega
    · have := r1 k
      omega
  | c e1 e2 =>
    refine ⟨⟨fun a => ?_, by simp; omega, by simp; omega, by simp; omega, h4, fun q => by have := h5 q; omega⟩, ⟨fun a => ?_, fun e => absurd e hw, by simp, by simp; omega, fun _ _ => rfl⟩, n1, by omega⟩
    · have := key a
      rw [ct_cons]
      omega
    · rw [if_neg hw, ct_app, ct_app, ct_cons, ct_nil]
      omega
  | d x y c _ _ _ _ e1 e2 e3 e4 hr =>
    subst e4
    obtain ⟨r1, r2, r3, r4, r5, r6, r7, r8⟩ := hr.cts
    simp at h3 h5 e2 e3
    have hful : k1.length + k2.length = size := h5 (by omega)
    refine ⟨⟨fun a => ?_, by simp; omega, by simp; omega, by simp; omega, h4, fun _ => by simp; omega⟩, ⟨fun a => ?_, fun e => absurd e hw, by simp, by simp; omega, fun _ q => by simp at q; omega⟩, ct_no ?_, by omega⟩
    · have := key a
      have := r1 a
      have := r2 a
      rw [ct_app, ct_cons, ct_nil] at *
      omega
    · have := r1 a
      rw [if_neg hw, ct_app, ct_app, ct_cons, ct_cons, ct_nil]
      omega
    · have := r1 k
      omega
  | e x _ _ _ _ e1 e2 e3 hr =>
    obtain ⟨r1, r2, r3, r4, r5, r6, r7, r8⟩ := hr.cts
    have hful : k1.length + k2.length = size := by
      by_cases q : 0 < k3.length + k4.length
      · exact h5 q
      · omega
    refine ⟨⟨fun a => ?_, by simp; omega, by simp; omega, by simp; omega, h4, fun _ => by simp; omega⟩, ⟨fun a => ?_, fun e => absurd e hw, by simp, by simp; omega, fun _ q => by simp at q; omega⟩, ct_no ?_, by omega⟩
    · have := key a
      have := r1 a
      have := r2 a
      rw [ct_cons]
      omega
    · have := r1 a
      rw [if_neg hw, ct_app, ct_app, ct_cons, ct_cons, ct_nil]
      omega
    · have := r1 k
      omega
end
end Go.Proofs.YtjcbpejplnaakaaGreat.Md
