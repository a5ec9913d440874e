import Derived.Test.YtoeioppmlnognaaPureAr2
namespace Go.Proofs.Ytoeioppmlnognaa.Ar

/-- the list of a node -/
def As.wh (a : As) (x : Nat) : Option Nat := (List.range a.nl).find? fun i => decide (x ∈ a.L i)
theorem As.wh_some {a : As} {x i : Nat} (h : a.wh x = some i) : i < a.nl ∧ x ∈ a.L i := by
  have h1 := List.find?_some h
  have h2 := List.mem_of_find?_eq_some h
  exact ⟨by simpa using h2, by simpa using h1⟩
theorem As.wh_none {a : As} {x : Nat} (h : a.wh x = none) : ∀ i, i < a.nl → x ∉ a.L i := by
  intro i hi hm
  have := List.find?_eq_none.1 h i (by simpa using hi)
  simp [hm] at this
/-- what may not be done with a node; a list and an end -/
def As.bad (a : As) (n : Int) : Int := if 0 ≤ n ∧ n < a.size then (if (a.wh n.toNat).isSome then 0 else 53) else 1
def As.okL (a : As) (l e : Int) : Prop := (0 ≤ l ∧ l < a.nl) ∧ (e = 0 ∨ e = 1)
instance (a : As) (l e : Int) : Decidable (a.okL l e) := by unfold As.okL; exact inferInstance
def As.take (a : As) : Nat × As := match a.fr with
  | x :: t => (x, { a with fr := t })
  | [] => (a.used, { a with used := a.used + 1 })
def As.push (a : As) (l e v : Int) : Int × Int × As :=
  if a.okL l e then (if a.free = 0 then (0, 51, a) else (a.take.1, 0, As.link { a.take.2 with val := up a.take.2.val a.take.1 v } a.take.1 l.toNat e.toNat)) else (0, 1, a)
def As.peek (a : As) (l e : Int) : Option Nat := if a.okL l e then (dir e.toNat (a.L l.toNat)).head? else none
def As.cut (a : As) (x : Nat) : As := { a.unlink x ((a.wh x).getD 0) with fr := x :: a.fr }
def As.unl (a : As) (n : Int) : Int × Int × As := if a.bad n = 0 then (a.val n.toNat, 0, a.cut n.toNat) else (0, a.bad n, a)
def As.pop (a : As) (l e : Int) : Int × Int × As :=
  if a.okL l e then (match a.peek l e with | none => (0, 52, a) | some x => a.unl x) else (0, 1, a)
def As.move (a : As) (n l e : Int) : Int × As :=
  if (0 ≤ n ∧ n < a.size) ∧ a.okL l e then (match a.wh n.toNat with | none => (53, a) | some i => (0, (a.unlink n.toNat i).link n.toNat l.toNat e.toNat)) else (1, a)
def As.get (a : As) (n : Int) : Int × Int := if a.bad n = 0 then (a.val n.toNat, 0) else (0, a.bad n)
def As.set (a : As) (n v : Int) : Int × As := (a.bad n, if a.bad n = 0 then { a with val := up a.val n.toNat v } else a)
def As.list (a : As) (n : Int) : Option Nat := if 0 ≤ n then a.wh n.toNat else none

section
variable {c : Cs} {a : As} {aw : List Nat}
theorem Inv.wh (h : Inv c a aw) {x i : Nat} (hi : i < a.nl) (hm : x ∈ a.L i) : a.wh x = some i := by
  cases hw : a.wh x with
  | none => exact absurd hm (As.wh_none hw i hi)
  | some j =>
    obtain ⟨hj, hm'⟩ := As.wh_some hw
    rw [h.one hj hi hm' hm]
theorem Inv.linked (h : Inv c a []) (n : Int) : (0 ≤ n ∧ n < a.used ∧ c.li n.toNat ≠ -1) ↔ (0 ≤ n ∧ (a.wh n.toNat).isSome = true) := by
  constructor
  · rintro ⟨h0, h1, h2⟩
    obtain ⟨i, hi, hm, _⟩ := h.listed (x := n.toNat) (by omega) (by simp) h2
    exact ⟨h0, by rw [h.wh hi hm]; rfl⟩
  · rintro ⟨h0, h1⟩
    cases hw : a.wh n.toNat with
    | none => rw [hw] at h1; cases h1
    | some i =>
      obtain ⟨hi, hm⟩ := As.wh_some hw
      obtain ⟨k1, k2, _⟩ := h.lt i hi _ hm
      exact ⟨h0, by omega, by omega⟩
theorem Inv.ct_le (h : Inv c a aw) {i : Nat} (hi : i < a.nl) : c.ct i ≤ a.used := by
  have h1 := h.ct i hi
  have h2 := tl_le a.L i a.nl hi
  have := h.tot
  omega
theorem Inv.la_ok (h : Inv c a aw) {i e : Nat} (hi : i < a.nl) (he : e < 2) : c.la i e = -1 ∨ ∃ z : Nat, c.la i e = z ∧ z < a.used := by
  have h1 := h.la i hi e he
  cases hd : dir e (a.L i) with
  | nil => left; rw [h1, hd]; rfl
  | cons z t =>
    right
    refine ⟨z, by rw [h1, hd]; rfl, (h.lt i hi z ?_).1⟩
    have : z ∈ dir e (a.L i) := by rw [hd]; simp
    exact (mem_dir e _ z).1 this
theorem Inv.bs_ok (h : Inv c a aw) {i x : Nat} (hi : i < a.nl) (hm : x ∈ a.L i) : ∀ e, e < 2 → c.bs x e = -1 ∨ ∃ z : Nat, c.bs x e = z ∧ z < a.used ∧ x ≠ z := by
  obtain ⟨p, q, hpq⟩ := List.append_of_mem hm
  have hnd := h.nd i hi
  rw [hpq, List.nodup_append] at hnd
  obtain ⟨b0, b1⟩ := h.sp i hi p x q hpq
  intro e he
  have he' : e = 0 ∨ e = 1 := by omega
  rcases he' with rfl | rfl
  · by_cases h0 : lst p = -1
    · exact Or.inl (b0.trans h0)
    · obtain ⟨z, t, h1, h2⟩ := lst_eq h0
      refine Or.inr ⟨z, b0.trans h2, (h.lt i hi z (by rw [hpq, h1]; simp)).1, ?_⟩
      rintro rfl
      exact hnd.2.2 x (by rw [h1]; simp) x (by simp) rfl
  · by_cases h0 : hd q = -1
    · exact Or.inl (b1.trans h0)
    · obtain ⟨z, t, h1, h2⟩ := hd_eq h0
      refine Or.inr ⟨z, b1.trans h2, (h.lt i hi z (by rw [hpq, h1]; simp)).1, ?_⟩
      rintro rfl
      exact (List.nodup_cons.1 hnd.2.1).1 (by rw [h1]; simp)
theorem Inv.ct_pos (h : Inv c a aw) {i x : Nat} (hi : i < a.nl) (hm : x ∈ a.L i) : 0 < c.ct i := by
  rw [h.ct i hi]
  exact List.length_pos_of_mem hm
theorem Inv.free_le (h : Inv c a aw) : a.free ≤ a.size := by
  have := h.tot
  have := h.used
  unfold As.free
  omega
end
theorem As.link_nl (a : As) (x i e : Nat) : (a.link x i e).nl = a.nl ∧ (a.link x i e).size = a.size ∧ (a.link x i e).used = a.used ∧ (a.link x i e).fr = a.fr ∧ (a.link x i e).val = a.val := ⟨rfl, rfl, rfl, rfl, rfl⟩
theorem As.push_nl (a : As) (l e v : Int) : (a.push l e v).2.2.nl = a.nl ∧ (a.push l e v).2.2.size = a.size := by
  unfold As.push As.take
  split
  · split
    · exact ⟨rfl, rfl⟩
    · split <;> exact ⟨rfl, rfl⟩
  · exact ⟨rfl, rfl⟩
theorem As.unl_nl (a : As) (n : Int) : (a.unl n).2.2.nl = a.nl ∧ (a.unl n).2.2.size = a.size := by
  unfold As.unl
  split <;> exact ⟨rfl, rfl⟩
theorem As.pop_nl (a : As) (l e : Int) : (a.pop l e).2.2.nl = a.nl ∧ (a.pop l e).2.2.size = a.size := by
  unfold As.pop
  split
  · split
    · exact ⟨rfl, rfl⟩
    · exact a.unl_nl _
  · exact ⟨rfl, rfl⟩
theorem As.move_nl (a : As) (n l e : Int) : (a.move n l e).2.nl = a.nl ∧ (a.move n l e).2.size = a.size := by
  unfold As.move
  split
  · split <;> exact ⟨rfl, rfl⟩
  · exact ⟨rfl, rfl⟩
theorem As.set_nl (a : As) (n v : Int) : (a.set n v).2.nl = a.nl ∧ (a.set n v).2.size = a.size := by
  unfold As.set
  dsimp only
  split <;> exact ⟨rfl, rfl⟩
end Go.Proofs.Ytoeioppmlnognaa.Ar
