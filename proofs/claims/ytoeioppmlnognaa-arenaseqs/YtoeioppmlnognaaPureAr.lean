import Derived.KernelRfl
namespace Go.Proofs.Ytoeioppmlnognaa.Ar

/-- a node's number, or -1 -/
def enc : Option Nat → Int
  | none => -1
  | some x => x
def hd (d : List Nat) : Int := enc d.head?
def lst (d : List Nat) : Int := enc d.getLast?
/-- a list from an end on -/
def dir (e : Nat) (l : List Nat) : List Nat := if e = 0 then l else l.reverse

@[simp] theorem hd_nil : hd [] = -1 := rfl
@[simp] theorem lst_nil : lst [] = -1 := rfl
@[simp] theorem hd_cons (x : Nat) (l : List Nat) : hd (x :: l) = x := rfl
@[simp] theorem lst_snoc (x : Nat) (l : List Nat) : lst (l ++ [x]) = x := by simp [lst, enc]
@[simp] theorem hd_rev (l : List Nat) : hd l.reverse = lst l := by simp [hd, lst]
@[simp] theorem lst_rev (l : List Nat) : lst l.reverse = hd l := by simp [hd, lst]
@[simp] theorem dir_nil (e : Nat) : dir e [] = [] := by unfold dir; split <;> rfl
theorem dir_len (e : Nat) (l : List Nat) : (dir e l).length = l.length := by unfold dir; split <;> simp
theorem mem_dir (e : Nat) (l : List Nat) (x : Nat) : x ∈ dir e l ↔ x ∈ l := by unfold dir; split <;> simp
theorem nodup_rev {l : List Nat} (h : l.Nodup) : l.reverse.Nodup := by
  unfold List.Nodup at *
  rw [List.pairwise_reverse]
  exact h.imp fun h => h.symm
theorem nodup_dir {e : Nat} {l : List Nat} (h : l.Nodup) : (dir e l).Nodup := by
  unfold dir; split
  · exact h
  · exact nodup_rev h
theorem dir_dir (e : Nat) (l : List Nat) : dir e (dir e l) = l := by unfold dir; split <;> simp_all
theorem hd_ne {l : List Nat} (h : hd l = -1) : l = [] := by
  cases l with
  | nil => rfl
  | cons x t => rw [hd_cons] at h; omega
theorem hd_eq {l : List Nat} (h : hd l ≠ -1) : ∃ x t, l = x :: t ∧ hd l = x := by
  cases l with
  | nil => exact absurd rfl h
  | cons x t => exact ⟨x, t, rfl, rfl⟩
theorem lst_eq {l : List Nat} (h : lst l ≠ -1) : ∃ (x : Nat) (t : List Nat), l = t ++ [x] ∧ lst l = x := by
  obtain ⟨x, t, h1, h2⟩ := hd_eq (l := l.reverse) (by rwa [hd_rev])
  refine ⟨x, t.reverse, ?_, by rw [← hd_rev, h2]⟩
  have := congrArg List.reverse h1
  simpa using this
theorem lst_ne {l : List Nat} (h : lst l = -1) : l = [] := by
  have := hd_ne (l := l.reverse) (by rwa [hd_rev])
  simpa using this

def up {α : Type} (f : Nat → α) (i : Nat) (v : α) : Nat → α := fun j => if j = i then v else f j
def up2 (f : Nat → Nat → Int) (i j : Nat) (v : Int) : Nat → Nat → Int := fun a b => if a = i ∧ b = j then v else f a b
@[simp] theorem up_self {α : Type} (f : Nat → α) (i : Nat) (v : α) : up f i v i = v := by simp [up]
theorem up_ne {α : Type} (f : Nat → α) {i j : Nat} (v : α) (h : j ≠ i) : up f i v j = f j := by simp [up, h]
@[simp] theorem up2_self (f : Nat → Nat → Int) (i j : Nat) (v : Int) : up2 f i j v i j = v := by simp [up2]
theorem up2_ne (f : Nat → Nat → Int) {i j a b : Nat} (v : Int) (h : ¬ (a = i ∧ b = j)) : up2 f i j v a b = f a b := by
  unfold up2; rw [if_neg h]

/-- neighbours: of a list from an end on -/
def Sp (bs : Nat → Nat → Int) (e : Nat) (d : List Nat) : Prop := ∀ p x q, d = p ++ x :: q → bs x e = lst p ∧ bs x (1 - e) = hd q
theorem Sp.rev {bs : Nat → Nat → Int} {e : Nat} {d : List Nat} (he : e < 2) (h : Sp bs e d) : Sp bs (1 - e) d.reverse := by
  intro p x q hs
  have := congrArg List.reverse hs
  simp only [List.reverse_reverse, List.reverse_append, List.reverse_cons, List.append_assoc, List.singleton_append] at this
  obtain ⟨h1, h2⟩ := h _ _ _ this
  rw [lst_rev] at h1
  rw [hd_rev] at h2
  have : 1 - (1 - e) = e := by omega
  rw [this]
  exact ⟨h2, h1⟩
theorem Sp.dir {bs : Nat → Nat → Int} {e : Nat} {d : List Nat} (he : e < 2) (h : Sp bs 0 d) : Sp bs e (dir e d) := by
  unfold Ar.dir
  split
  · rename_i h0; rw [h0]; exact h
  · have : e = 1 := by omega
    rw [this]
    exact h.rev (by omega)
theorem Sp.undir {bs : Nat → Nat → Int} {e : Nat} {d : List Nat} (he : e < 2) (h : Sp bs e (Ar.dir e d)) : Sp bs 0 d := by
  unfold Ar.dir at h
  split at h
  · rename_i h0; rwa [h0] at h
  · have h1 : e = 1 := by omega
    have := h.rev he
    rw [List.reverse_reverse, h1] at this
    exact this
theorem Sp.agree {bs bs' : Nat → Nat → Int} {e : Nat} {d : List Nat} (he : e < 2) (h : Sp bs e d) (ha : ∀ x ∈ d, ∀ k, k < 2 → bs' x k = bs x k) : Sp bs' e d := by
  intro p x q hs
  obtain ⟨h1, h2⟩ := h p x q hs
  have hx : x ∈ d := by rw [hs]; simp
  exact ⟨(ha x hx e he).trans h1, (ha x hx (1 - e) (by omega)).trans h2⟩
/-- a node ahead of all -/
theorem Sp.cons {bs bs' : Nat → Nat → Int} {e x : Nat} {d : List Nat} (he : e < 2) (h : Sp bs e d) (hn : (x :: d).Nodup)
    (h0 : bs' x e = -1) (h1 : bs' x (1 - e) = hd d)
    (hb : ∀ y q, d = y :: q → bs' y e = x ∧ bs' y (1 - e) = bs y (1 - e))
    (ha : ∀ y, y ≠ x → (y : Int) ≠ hd d → ∀ k, k < 2 → bs' y k = bs y k) : Sp bs' e (x :: d) := by
  intro p y q hs
  cases p with
  | nil =>
    simp only [List.nil_append, List.cons.injEq] at hs
    obtain ⟨rfl, rfl⟩ := hs
    exact ⟨h0, h1⟩
  | cons z p =>
    simp only [List.cons_append, List.cons.injEq] at hs
    obtain ⟨rfl, hs⟩ := hs
    obtain ⟨k1, k2⟩ := h p y q hs
    have hne : y ≠ x := by
      rintro rfl
      have := (List.nodup_cons.1 hn).1
      exact this (by rw [hs]; simp)
    cases p with
    | nil =>
      simp only [List.nil_append] at hs
      obtain ⟨m1, m2⟩ := hb y q hs
      exact ⟨by rw [m1]; rfl, by rw [m2]; exact k2⟩
    | cons u p =>
      have hd' : (y : Int) ≠ hd d := by
        rw [hs, List.cons_append, hd_cons]
        intro e
        have e' : y = u := by omega
        subst e'
        have := (List.nodup_cons.1 hn).2
        rw [hs, List.cons_append] at this
        exact (List.nodup_cons.1 this).1 (by simp)
      refine ⟨(ha y hne hd' e he).trans ?_, (ha y hne hd' (1 - e) (by omega)).trans k2⟩
      rw [k1]
      simp [lst, List.getLast?_cons]
/-- a node out of it -/
theorem Sp.out {bs bs' : Nat → Nat → Int} {x : Nat} {p q : List Nat} (h : Sp bs 0 (p ++ x :: q)) (hn : (p ++ x :: q).Nodup)
    (h0 : ∀ y t, p = t ++ [y] → bs' y 0 = bs y 0 ∧ bs' y 1 = hd q)
    (h1 : ∀ y t, q = y :: t → bs' y 1 = bs y 1 ∧ bs' y 0 = lst p)
    (ha : ∀ y : Nat, (y : Int) ≠ lst p → (y : Int) ≠ hd q → ∀ k, k < 2 → bs' y k = bs y k) : Sp bs' 0 (p ++ q) := by
  intro u y v hs
  rw [List.nodup_append] at hn
  obtain ⟨n1, n2, n3⟩ := hn
  have n4 := (List.nodup_cons.1 n2).2
  rcases List.append_eq_append_iff.1 hs with ⟨z, rfl, hq⟩ | ⟨z, rfl, hv⟩
  · -- y in q
    obtain ⟨k1, k2⟩ := h (p ++ x :: z) y v (by rw [hq]; simp)
    have hyp : (y : Int) ≠ lst p := by
      intro e
      obtain ⟨t, tl, e1, e2⟩ := lst_eq (l := p) (by omega)
      have : y = t := by omega
      subst this
      exact n3 y (by rw [e1]; simp) y (by rw [hq]; simp) rfl
    cases z with
    | nil =>
      simp only [List.nil_append] at hq
      obtain ⟨m1, m2⟩ := h1 y v hq
      exact ⟨by rw [m2]; simp, m1.trans k2⟩
    | cons a z =>
      have hyq : (y : Int) ≠ hd q := by
        rw [hq, List.cons_append, hd_cons]
        intro e
        have : y = a := by omega
        subst this
        rw [hq, List.cons_append] at n4
        exact (List.nodup_cons.1 n4).1 (by simp)
      refine ⟨(ha y hyp hyq 0 (by omega)).trans (k1.trans ?_), (ha y hyp hyq 1 (by omega)).trans k2⟩
      simp [lst, List.getLast?_append, List.getLast?_cons]
  · -- y in p, or q's first
    cases z with
    | nil =>
      simp only [List.nil_append] at hv
      simp only [List.append_nil] at *
      obtain ⟨k1, k2⟩ := h (u ++ [x]) y v (by rw [← hv]; simp)
      obtain ⟨m1, m2⟩ := h1 y v hv.symm
      exact ⟨m2, m1.trans k2⟩
    | cons a z =>
      simp only [List.cons_append, List.cons.injEq] at hv
      obtain ⟨rfl, rfl⟩ := hv
      obtain ⟨k1, k2⟩ := h u y (z ++ x :: q) (by simp)
      have hyq : (y : Int) ≠ hd q := by
        intro e
        obtain ⟨t, tl, e1, e2⟩ := hd_eq (l := q) (by omega)
        have : y = t := by omega
        subst this
        exact n3 y (by simp) y (by rw [e1]; simp) rfl
      cases hz : z with
      | nil =>
        subst hz
        obtain ⟨m1, m2⟩ := h0 y u rfl
        exact ⟨m1.trans k1, m2⟩
      | cons b z' =>
        subst hz
        have hyp : (y : Int) ≠ lst (u ++ y :: b :: z') := by
          intro e
          obtain ⟨t, tl, e1, e2⟩ := lst_eq (l := b :: z') (by
            intro e; have := lst_ne e; cases this)
          have e3 : lst (u ++ y :: b :: z') = t := by
            rw [show u ++ y :: b :: z' = (u ++ y :: tl) ++ [t] by rw [e1]; simp, lst_snoc]
          have : y = t := by omega
          subst this
          rw [e1] at n1
          rw [List.nodup_append] at n1
          exact (List.nodup_cons.1 n1.2.1).1 (by simp)
        exact ⟨(ha y hyp hyq 0 (by omega)).trans k1, (ha y hyp hyq 1 (by omega)).trans k2⟩
end Go.Proofs.Ytoeioppmlnognaa.Ar
