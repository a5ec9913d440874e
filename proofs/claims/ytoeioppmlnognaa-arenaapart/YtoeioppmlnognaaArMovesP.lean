import Derived.Test.YtoeioppmlnognaaArMany
namespace Go.Proofs.Ytoeioppmlnognaa.Ar

theorem As.wh_iff (a : As) (y : Nat) : (a.wh y).isSome = true ↔ ∃ i, i < a.nl ∧ y ∈ a.L i := by
  cases h : a.wh y with
  | none =>
    simp only [Option.isSome_none, Bool.false_eq_true, false_iff]
    rintro ⟨i, hi, hm⟩
    exact As.wh_none h i hi hm
  | some i =>
    simp only [Option.isSome_some, true_iff]
    exact ⟨i, As.wh_some h⟩
section
variable {c : Cs} {a : As} {n l e : Int}
theorem move_parts (hm : (a.move n l e).1 = 0) : ∃ x i k j : Nat, n = x ∧ l = i ∧ e = k ∧ x < a.size ∧ i < a.nl ∧ k < 2 ∧ a.wh x = some j ∧ (a.move n l e).2 = (a.unlink x j).link x i k := by
  unfold As.move at hm ⊢
  split at hm
  · rename_i hc
    rw [if_pos hc]
    split at hm
    · cases hm
    · rename_i j hj
      obtain ⟨⟨h1, h2⟩, ⟨h3, h4⟩, h5⟩ := hc
      refine ⟨n.toNat, l.toNat, e.toNat, j, by omega, by omega, by omega, by omega, by omega, by omega, hj, rfl⟩
  · cases hm
theorem moves_same (hm : (a.move n l e).1 = 0) : (a.unl n).2.1 = 0 ∧ ((a.unl n).2.2.push l e (a.unl n).1).1 = n ∧ ((a.unl n).2.2.push l e (a.unl n).1).2.1 = 0 ∧ ((a.unl n).2.2.push l e (a.unl n).1).2.2 = (a.move n l e).2 := by
  obtain ⟨x, i, k, j, rfl, rfl, rfl, h1, h2, h3, h4, h5⟩ := move_parts hm
  have hb : a.bad (x : Int) = 0 := by
    unfold As.bad
    rw [if_pos ⟨by omega, by omega⟩, Int.toNat_natCast, h4]
    rfl
  have hu : a.unl (x : Int) = (a.val x, 0, { a.unlink x j with fr := x :: a.fr }) := by
    unfold As.unl
    rw [if_pos hb, Int.toNat_natCast]
    unfold As.cut
    rw [h4]
    rfl
  have hok : As.okL { a.unlink x j with fr := x :: a.fr } i k := ⟨⟨by omega, by show (i : Int) < (a.nl : Int); omega⟩, by omega⟩
  have hf : As.free { a.unlink x j with fr := x :: a.fr } ≠ 0 := by simp [As.free]
  rw [hu, h5]
  dsimp only
  unfold As.push
  rw [if_pos hok, if_neg hf]
  have ht : As.take { a.unlink x j with fr := x :: a.fr } = (x, a.unlink x j) := rfl
  rw [ht]
  dsimp only
  have hv : up (a.unlink x j).val x (a.val x) = (a.unlink x j).val := by
    funext y
    unfold up
    split
    · rename_i e; rw [e]; rfl
    · rfl
  rw [hv, Int.toNat_natCast, Int.toNat_natCast]
  exact ⟨rfl, rfl, rfl, rfl⟩
theorem wo_erase (l : List Nat) (x : Nat) : wo (l.erase x) x = wo l x := by
  unfold wo
  induction l with
  | nil => rfl
  | cons y t ih =>
    by_cases h : y = x
    · subst h
      rw [List.erase_cons_head]
      simp
    · rw [List.erase_cons_tail (by simpa using h), List.filter_cons, List.filter_cons, ih]
theorem wo_dir (k : Nat) (l : List Nat) (x : Nat) : wo (dir k (x :: dir k l)) x = wo l x := by
  unfold wo dir
  split
  · simp
  · simp
theorem moves_wo (hm : (a.move n l e).1 = 0) (m : Nat) : wo ((a.move n l e).2.L m) n = wo (a.L m) n := by
  obtain ⟨x, i, k, j, rfl, rfl, rfl, h1, h2, h3, h4, h5⟩ := move_parts hm
  rw [h5]
  have e1 : ∀ m, wo ((a.unlink x j).L m) x = wo (a.L m) x := fun m => by
    simp only [As.unlink]
    unfold up
    split
    · rename_i e; rw [wo_erase, e]
    · rfl
  simp only [As.link]
  unfold up
  split
  · rename_i e
    rw [wo_dir, e1, e]
  · exact e1 m
theorem mem_erase_nodup {l : List Nat} {x y : Nat} (h : y ≠ x) : y ∈ l.erase x ↔ y ∈ l := List.mem_erase_of_ne h
theorem moves_get (h : Inv c a []) (hm : (a.move n l e).1 = 0) (k : Int) : (a.move n l e).2.get k = a.get k := by
  obtain ⟨x, i, d, j, rfl, rfl, rfl, h1, h2, h3, h4, h5⟩ := move_parts hm
  obtain ⟨hj, hx⟩ := As.wh_some h4
  rw [h5]
  have hs : ∀ y, (((a.unlink x j).link x i d).wh y).isSome = (a.wh y).isSome := fun y => by
    rw [Bool.eq_iff_iff, As.wh_iff, As.wh_iff]
    have hmem : ∀ m, y ∈ ((a.unlink x j).link x i d).L m ↔ (if m = i then y = x ∨ y ∈ (a.unlink x j).L i else y ∈ (a.unlink x j).L m) := fun m => by
      simp only [As.link]
      unfold up
      split
      · rw [mem_dir, List.mem_cons, mem_dir]
      · rfl
    have hun : ∀ m, y ≠ x → (y ∈ (a.unlink x j).L m ↔ y ∈ a.L m) := fun m hy => by
      simp only [As.unlink]
      unfold up
      split
      · rename_i e; rw [mem_erase_nodup hy, e]
      · rfl
    constructor
    · rintro ⟨m, hm, hy⟩
      by_cases hyx : y = x
      · exact ⟨j, hj, hyx ▸ hx⟩
      · rw [hmem] at hy
        split at hy
        · rcases hy with hy | hy
          · exact absurd hy hyx
          · exact ⟨i, h2, (hun i hyx).1 hy⟩
        · exact ⟨m, hm, (hun m hyx).1 hy⟩
    · rintro ⟨m, hm, hy⟩
      by_cases hyx : y = x
      · exact ⟨i, h2, by rw [hmem, if_pos rfl]; exact Or.inl hyx⟩
      · refine ⟨m, hm, ?_⟩
        rw [hmem]
        split
        · rename_i e
          exact Or.inr ((hun i hyx).2 (e ▸ hy))
        · exact (hun m hyx).2 hy
  have hb : ((a.unlink x j).link x i d).bad k = a.bad k := by
    unfold As.bad
    rw [hs]
    rfl
  have _ := h
  unfold As.get
  rw [hb]
  rfl
end
theorem Ms.congr {n n0 : Nat} {w W : World} {gs gs' : Nat → Nat} {A A' : Nat → As} (h : Ms n n0 w W gs A) (hg : ∀ i, i < n → gs' i = gs i ∧ A' i = A i) : Ms n n0 w W gs' A' := by
  obtain ⟨os, h1, h2, h3, h4, h5⟩ := h
  refine ⟨os, fun i hi => ?_, fun i hi => ?_, fun i j hi hj => ?_, h4, h5⟩
  · rw [(hg i hi).1, (hg i hi).2]; exact h1 i hi
  · rw [(hg i hi).1, (hg i hi).2]; exact h2 i hi
  · rw [(hg i hi).1, (hg i hi).2, (hg j hj).1, (hg j hj).2]; exact h3 i j hi hj
def G4 {α : Type} (a b c d : α) : Nat → α := fun i => if i = 0 then a else if i = 1 then b else if i = 2 then c else d
theorem Ms.one' {w W : World} {a : As} {g : Nat} (h : Born w a g W) (g1 g2 g3 : Nat) (b c d : As) : Ms 1 w.heap.size w W (G4 g g1 g2 g3) (G4 a b c d) := (Ms.one h).congr fun i hi => by
  have : i = 0 := by omega
  subst this
  exact ⟨rfl, rfl⟩
section
variable {n n0 : Nat} {w W W' : World} {g0 g1 g2 g3 : Nat} {a b c d : As}
theorem Ms.step0 (h : Ms n n0 w W (G4 g0 g1 g2 g3) (G4 a b c d)) (hn : 0 < n) : ∃ o, IsAr W g0 o a ∧ ∀ a' W', Goes W g0 o a' W' → a'.nl = a.nl → Ms n n0 w W' (G4 g0 g1 g2 g3) (G4 a' b c d) := by
  obtain ⟨o, h1, h2⟩ := h.step hn
  refine ⟨o, h1, fun a' W' hG hl => (h2 a' W' hG hl).congr fun i _ => ⟨rfl, ?_⟩⟩
  unfold up G4
  split <;> rfl
theorem Ms.step1 (h : Ms n n0 w W (G4 g0 g1 g2 g3) (G4 a b c d)) (hn : 1 < n) : ∃ o, IsAr W g1 o b ∧ ∀ a' W', Goes W g1 o a' W' → a'.nl = b.nl → Ms n n0 w W' (G4 g0 g1 g2 g3) (G4 a a' c d) := by
  obtain ⟨o, h1, h2⟩ := h.step hn
  refine ⟨o, h1, fun a' W' hG hl => (h2 a' W' hG hl).congr fun i _ => ⟨rfl, ?_⟩⟩
  unfold up G4
  by_cases e0 : i = 0
  · simp [e0]
  · by_cases e1 : i = 1 <;> simp [e1, e0]
theorem Ms.step2 (h : Ms n n0 w W (G4 g0 g1 g2 g3) (G4 a b c d)) (hn : 2 < n) : ∃ o, IsAr W g2 o c ∧ ∀ a' W', Goes W g2 o a' W' → a'.nl = c.nl → Ms n n0 w W' (G4 g0 g1 g2 g3) (G4 a b a' d) := by
  obtain ⟨o, h1, h2⟩ := h.step hn
  refine ⟨o, h1, fun a' W' hG hl => (h2 a' W' hG hl).congr fun i _ => ⟨rfl, ?_⟩⟩
  unfold up G4
  by_cases e0 : i = 0
  · simp [e0]
  · by_cases e1 : i = 1
    · simp [e1]
    · by_cases e2 : i = 2 <;> simp [e2, e1, e0]
theorem Ms.step3 (h : Ms 4 n0 w W (G4 g0 g1 g2 g3) (G4 a b c d)) : ∃ o, IsAr W g3 o d ∧ ∀ a' W', Goes W g3 o a' W' → a'.nl = d.nl → Ms 4 n0 w W' (G4 g0 g1 g2 g3) (G4 a b c a') := by
  obtain ⟨o, h1, h2⟩ := h.step (show 3 < 4 by omega)
  refine ⟨o, h1, fun a' W' hG hl => (h2 a' W' hG hl).congr fun i hi => ⟨rfl, ?_⟩⟩
  unfold up G4
  by_cases e0 : i = 0
  · simp [e0]
  · by_cases e1 : i = 1
    · simp [e1]
    · by_cases e2 : i = 2
      · simp [e2]
      · have : i = 3 := by omega
        simp [this]
theorem Ms.add1 (h : Ms 1 n0 w W (G4 g0 g1 g2 g3) (G4 a b c d)) {x : As} {g : Nat} (hB : Born W x g W') : Ms 2 n0 w W' (G4 g0 g g2 g3) (G4 a x c d) := (h.add hB).congr fun i hi => by
  have : i = 0 ∨ i = 1 := by omega
  rcases this with rfl | rfl <;> exact ⟨rfl, rfl⟩
theorem Ms.add2 (h : Ms 2 n0 w W (G4 g0 g1 g2 g3) (G4 a b c d)) {x : As} {g : Nat} (hB : Born W x g W') : Ms 3 n0 w W' (G4 g0 g1 g g3) (G4 a b x d) := (h.add hB).congr fun i hi => by
  have : i = 0 ∨ i = 1 ∨ i = 2 := by omega
  rcases this with rfl | rfl | rfl <;> exact ⟨rfl, rfl⟩
theorem Ms.add3 (h : Ms 3 n0 w W (G4 g0 g1 g2 g3) (G4 a b c d)) {x : As} {g : Nat} (hB : Born W x g W') : Ms 4 n0 w W' (G4 g0 g1 g2 g) (G4 a b c x) := (h.add hB).congr fun i hi => by
  have : i = 0 ∨ i = 1 ∨ i = 2 ∨ i = 3 := by omega
  rcases this with rfl | rfl | rfl | rfl <;> exact ⟨rfl, rfl⟩
end
end Go.Proofs.Ytoeioppmlnognaa.Ar
