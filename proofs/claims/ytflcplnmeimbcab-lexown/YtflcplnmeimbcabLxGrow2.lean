import Derived.Test.YtflcplnmeimbcabLxGrown
namespace Go.Proofs.Ytflcplnmeimbcab.Lx
open Go.RowKit Go.Proofs.Ytflcplnmeimbcab.Sp

/-- the lists (v) and what has been appended to them (u), J so often -/
structure Grow (base ga gm : Nat) (v : Nat → Value) (n : Nat → Nat) (u : Nat → Value) (J : Nat → Nat) (wr : World) : Prop where
  form : ∀ i, i < 6 → (v i = .slice none 0 0 ∧ n i = 0) ∨ ∃ g cap, v i = .slice (some ⟨g, 0, none⟩) (n i) cap ∧ g < wr.heap.size
  marks : ∀ i g, i < 6 → (v i).ownBlock = some g → ∀ j, j < n i * 4 → wr.cell? ⟨g, j, none⟩ = (mks i (n i))[j]?
  own : ∀ i, i < 6 → wr.ownsRow base 37 4 (u i) (n i + J i) (mks i (n i) ++ aps i (J i))
  uu : ∀ i j g, i < 6 → j < 6 → i ≠ j → (u i).ownBlock = some g → (u j).ownBlock ≠ some g
  uv : ∀ i j g, i < 6 → j < 6 → i ≠ j → (u i).ownBlock = some g → (v j).ownBlock ≠ some g
  all : ∀ j, j < 6 → wr.cell? ⟨ga, j, none⟩ = some (v j)
  more : ∀ j, j < 6 → wr.cell? ⟨gm, j, none⟩ = some (u j) ∧ wr.frozen? ⟨gm, j, none⟩ = false
  une : ∀ j, j < 6 → (u j).ownBlock ≠ some ga ∧ (u j).ownBlock ≠ some gm
  vne : ∀ j, j < 6 → (v j).ownBlock ≠ some gm
  ne : ga ≠ gm
  lt : ga < wr.heap.size ∧ gm < wr.heap.size
theorem Grow.vlt {base ga gm : Nat} {v : Nat → Value} {n : Nat → Nat} {u : Nat → Value} {J : Nat → Nat} {wr : World} (h : Grow base ga gm v n u J wr) {i g : Nat} (hi : i < 6) (hg : (v i).ownBlock = some g) : g < wr.heap.size := by
  rcases h.form i hi with ⟨e, _⟩ | ⟨g', cap, e, hl⟩
  · rw [e] at hg; cases hg
  · rw [e] at hg
    simp only [Value.ownBlock, Option.some.injEq] at hg
    omega
theorem Grow.below {base ga gm : Nat} {v : Nat → Value} {n : Nat → Nat} {u : Nat → Value} {J : Nat → Nat} {wr w1 : World} (h : Grow base ga gm v n u J wr) (hb : Below wr.heap.size wr w1) : Grow base ga gm v n u J w1 := by
  have hz := hb.size
  have hl := h.lt
  have hgr : wr.grownBy w1 none := ⟨hb.os, hb.tape, hb.output, hb.size, fun k hk _ => hb.block k hk⟩
  refine ⟨fun i hi => ?_, fun i g hi hg j hj => ?_, fun i hi => ?_, h.uu, h.uv, fun j hj => ?_, fun j hj => ⟨?_, ?_⟩, h.une, h.vne, h.ne, by omega, by omega⟩
  · rcases h.form i hi with e | ⟨g, cap, e, hg⟩
    · exact Or.inl e
    · exact Or.inr ⟨g, cap, e, by omega⟩
  · rw [hb.cell (p := ⟨g, j, none⟩) (h.vlt hi hg)]
    exact h.marks i g hi hg j hj
  · refine (h.own i hi).kept hgr ?_
    cases (u i).ownBlock with
    | none => exact Or.inl rfl
    | some k => exact Or.inr (by simp)
  · rw [hb.cell (p := ⟨ga, j, none⟩) hl.1]; exact h.all j hj
  · rw [hb.cell (p := ⟨gm, j, none⟩) hl.2]; exact (h.more j hj).1
  · rw [World.frozen?_of_block (a := ⟨gm, j, none⟩) (hb.block gm hl.2)]; exact (h.more j hj).2

theorem Grow.step {base ga gm : Nat} {v : Nat → Value} {n : Nat → Nat} {u : Nat → Value} {J : Nat → Nat} {wr w1 : World} (h0 : Grow base ga gm v n u J wr) {o : Obj} {q : Nat} {u' : Value} (hq : q < 6)
    (ho : w1.ownsRow base 37 4 u' (n q + J q + 1) (mks q (n q) ++ aps q (J q) ++ ap q (J q))) (hg : (wr.alloc o).grownBy w1 (u q).ownBlock)
    (hk : (∃ g, (u q).ownBlock = some g ∧ u'.ownBlock = some g) ∨ ((∀ k, k < (wr.alloc o).heap.size → w1.heap[k]? = (wr.alloc o).heap[k]?) ∧ ∀ g, u'.ownBlock = some g → (wr.alloc o).heap.size ≤ g)) :
    Grow base ga gm v n (fun j => if j = q then u' else u j) (fun j => if j = q then J q + 1 else J j) (w1.setCell ⟨gm, q, none⟩ u') := by
  have h := h0.below (((Below.refl _ wr).alloc (Nat.le_refl _) o))
  generalize wr.alloc o = W at *
  clear h0
  have hz := hg.size
  have hl := h.lt
  have hult : ∀ i g, i < 6 → (u i).ownBlock = some g → g < W.heap.size := fun i g hi hg => (World.ownsRow.lt (h.own i hi) g hg).2
  -- where the new one may lie
  have hu' : ∀ g, u'.ownBlock = some g → (u q).ownBlock = some g ∨ W.heap.size ≤ g := fun g hg' => by
    rcases hk with ⟨g1, e1, e2⟩ | ⟨_, h2⟩
    · rw [e2] at hg'; cases hg'; exact Or.inl e1
    · exact Or.inr (h2 g hg')
  have hne' : ∀ b, b < W.heap.size → (u q).ownBlock ≠ some b → u'.ownBlock ≠ some b := fun b hb h1 h2 => by
    rcases hu' b h2 with h3 | h3
    · exact h1 h3
    · omega
  -- a block that is none of the list's
  have hold : ∀ b, b < W.heap.size → (u q).ownBlock ≠ some b → w1.heap[b]? = W.heap[b]? := fun b hb h1 => hg.block b hb (fun e => h1 e.symm)
  have hset : ∀ b j, b ≠ gm → (w1.setCell ⟨gm, q, none⟩ u').cell? ⟨b, j, none⟩ = w1.cell? ⟨b, j, none⟩ := fun b j hb => World.cell?_setCell_other _ _ _ _ (fun e => hb (congrArg Addr.block e).symm)
  have hmore : ∀ j, j < 6 → w1.cell? ⟨gm, j, none⟩ = some (u j) ∧ w1.frozen? ⟨gm, j, none⟩ = false := fun j hj => by
    have hb := hold gm hl.2 (h.une q hq).2
    exact ⟨(World.cell?_of_block (a := ⟨gm, j, none⟩) hb).trans (h.more j hj).1, (World.frozen?_of_block (a := ⟨gm, j, none⟩) hb).trans (h.more j hj).2⟩
  refine ⟨fun i hi => ?_, fun i g hi hgi j hj => ?_, fun i hi => ?_, fun i j g hi hj hij => ?_, fun i j g hi hj hij => ?_, fun j hj => ?_, fun j hj => ?_, fun j hj => ?_, h.vne, h.ne, ?_⟩
  · rcases h.form i hi with e | ⟨g, cap, e, hgl⟩
    · exact Or.inl e
    · exact Or.inr ⟨g, cap, e, by simp [World.setCell]; omega⟩
  · have hgl := h.vlt hi hgi
    have hgm : g ≠ gm := fun e => h.vne i hi (by rw [hgi, e])
    rw [hset g j hgm]
    by_cases hblk : (u q).ownBlock = some g
    · have hiq : i = q := by
        by_cases e : i = q
        · exact e
        · exact absurd hgi (h.uv q i g hq hi (fun e2 => e e2.symm) hblk)
      subst hiq
      rcases hk with ⟨g1, e1, e2⟩ | ⟨h1, _⟩
      · have e3 : g1 = g := by rw [e1] at hblk; exact Option.some.inj hblk
        subst e3
        have hj2 : (mks i (n i) ++ aps i (J i) ++ ap i (J i))[j]? = (mks i (n i))[j]? := by
          rw [List.append_assoc, List.getElem?_append_left (by rw [mks_len]; exact hj)]
        have hj3 : j < (mks i (n i)).length := by rw [mks_len]; exact hj
        rw [← hj2]
        have := ho.cells (g := g1) e2 j
        rw [hj2] at this ⊢
        rw [List.getElem?_eq_getElem hj3] at this ⊢
        have := this _ rfl
        rw [Lib.addr_add] at this
        simpa using this
      · rw [World.cell?_of_block (a := ⟨g, j, none⟩) (h1 g hgl)]
        exact h.marks i g hi hgi j hj
    · rw [World.cell?_of_block (a := ⟨g, j, none⟩) (hold g hgl hblk)]
      exact h.marks i g hi hgi j hj
  · by_cases e : i = q
    · subst e
      simp only [if_true]
      rw [aps_succ, ← List.append_assoc, ← Nat.add_assoc]
      exact ownsRow_setCell_other ho (hne' gm hl.2 (h.une i hi).2) u'
    · simp only [if_neg e]
      refine ownsRow_setCell_other ((h.own i hi).kept hg ?_) (h.une i hi).2 u'
      cases hb : (u i).ownBlock with
      | none => exact Or.inl rfl
      | some g => exact Or.inr fun e2 => h.uu i q g hi hq e hb e2.symm
  · by_cases e1 : i = q
    · subst e1
      have e2 : ¬ j = i := fun e => hij e.symm
      simp only [if_true, if_neg e2]
      intro hb
      rcases hu' g hb with h1 | h1
      · exact h.uu i j g hi hj hij h1
      · intro h2
        have := hult j g hj h2
        omega
    · by_cases e2 : j = q
      · subst e2
        simp only [if_true, if_neg e1]
        intro hb
        exact hne' g (hult i g hi hb) (h.uu i j g hi hj hij hb)
      · simp only [if_neg e1, if_neg e2]
        exact h.uu i j g hi hj hij
  · by_cases e1 : i = q
    · subst e1
      simp only [if_true]
      intro hb
      rcases hu' g hb with h1 | h1
      · exact h.uv i j g hi hj hij h1
      · intro h2
        have := h.vlt hj h2
        omega
    · simp only [if_neg e1]
      exact h.uv i j g hi hj hij
  · rw [hset ga j h.ne, World.cell?_of_block (a := ⟨ga, j, none⟩) (hold ga hl.1 (h.une q hq).1)]
    exact h.all j hj
  · by_cases e : j = q
    · subst e
      simp only [if_true]
      refine ⟨World.cell?_setCell_same _ _ _ (hmore j hj).1, ?_⟩
      rw [← (hmore j hj).2]
      simp
    · simp only [if_neg e]
      refine ⟨?_, ?_⟩
      · rw [World.cell?_setCell_other _ _ _ _ (fun e2 => e (congrArg Addr.off e2).symm)]
        exact (hmore j hj).1
      · rw [← (hmore j hj).2]
        simp
  · by_cases e : j = q
    · subst e
      simp only [if_true]
      exact ⟨hne' ga hl.1 (h.une j hj).1, hne' gm hl.2 (h.une j hj).2⟩
    · simp only [if_neg e]
      exact h.une j hj
  · simp only [World.setCell, Array.size_modify]
    omega
end Go.Proofs.Ytflcplnmeimbcab.Lx
