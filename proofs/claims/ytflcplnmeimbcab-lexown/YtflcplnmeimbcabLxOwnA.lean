import Derived.Test.YtflcplnmeimbcabLxGrow2
import Derived.Lib.OwnKind
namespace Go.Proofs.Ytflcplnmeimbcab.Lx
open Go.RowKit Go.Proofs.Ytflcplnmeimbcab.Sp

theorem kinds_apart {w : World} {b1 b2 n1 n2 : Nat} {v1 v2 : Value} {x1 x2 : List Value} (h1 : w.ownsRow b1 25 1 v1 n1 x1) (h2 : w.ownsRow b2 37 4 v2 n2 x2) {g : Nat} (e1 : v1.ownBlock = some g) : v2.ownBlock ≠ some g := by
  intro e2
  obtain ⟨c, f, e3⟩ := Lib.ownsRow_kind h1 g e1
  obtain ⟨c', f', e4⟩ := Lib.ownsRow_kind h2 g e2
  rw [e3] at e4
  simp at e4

/-- the answers so far, and the list of them -/
structure St (W0 wr : World) (ta tb : List Tok) (t : Nat) (vs : List Value) (va : Value) : Prop where
  all : wr.ownsRow W0.heap.size 25 1 va (3 * t) vs
  row : ∀ (j : Nat) (x : Value), vs[j]? = some x → TokRow wr W0.heap.size x (if j % 3 = 2 then tb else ta)
  ap : ∀ (i j : Nat) (x y : Value) (g : Nat), vs[i]? = some x → vs[j]? = some y → i ≠ j → x.ownBlock = some g → y.ownBlock ≠ some g
  bel : Below W0.heap.size W0 wr
theorem St.first (w : World) (ta tb : List Tok) : St w w ta tb 0 [] (.slice none 0 0) :=
  ⟨World.ownsRow_nil _ _ _ _, fun j x h => by simp at h, fun i j x y g h => by simp at h, Below.refl _ _⟩
theorem St.len {W0 wr : World} {ta tb : List Tok} {t : Nat} {vs : List Value} {va : Value} (h : St W0 wr ta tb t vs va) : vs.length = 3 * t := by have := h.all.1; omega
theorem St.below {W0 wr w1 : World} {ta tb : List Tok} {t : Nat} {vs : List Value} {va : Value} (h : St W0 wr ta tb t vs va) (hb : Below wr.heap.size wr w1) : St W0 w1 ta tb t vs va := by
  have hg : wr.grownBy w1 none := ⟨hb.os, hb.tape, hb.output, hb.size, fun k hk _ => hb.block k hk⟩
  refine ⟨h.all.kept hg ?_, fun j x hx => (h.row j x hx).below hb, h.ap, h.bel.trans (hb.mono h.bel.size)⟩
  cases va.ownBlock with
  | none => exact Or.inl rfl
  | some k => exact Or.inr (by simp)
theorem St.push {W0 w0 wr w8 : World} {ta tb : List Tok} {t : Nat} {vs : List Value} {va va' x1 x2 x3 : Value} {b1 b2 b3 : Nat} {o : Obj} (h0 : St W0 w0 ta tb t vs va) (hb : Below w0.heap.size w0 wr)
    (r1 : TokRow wr b1 x1 ta) (r2 : TokRow wr b2 x2 ta) (r3 : TokRow wr b3 x3 tb) (o1 : w0.heap.size ≤ b1) (u1 : ∀ g, x1.ownBlock = some g → g < b2) (u2 : ∀ g, x2.ownBlock = some g → g < b3) (o12 : b1 ≤ b2) (o23 : b2 ≤ b3)
    (ho : w8.ownsRow W0.heap.size 25 1 va' (3 * t + 3) (vs ++ [x1, x2, x3])) (hg : (wr.alloc o).grownBy w8 va.ownBlock) : St W0 w8 ta tb (t + 1) (vs ++ [x1, x2, x3]) va' := by
  have h := h0.below hb
  have hW : W0.heap.size ≤ b1 := Nat.le_trans h0.bel.size o1
  have old : ∀ (i : Nat) (x : Value) (g : Nat), vs[i]? = some x → x.ownBlock = some g → g < w0.heap.size := fun i x g hx hgx => (World.ownsRow.lt (h0.row i x hx) g hgx).2
  have g1 : ∀ g, x1.ownBlock = some g → b1 ≤ g := fun g e => (World.ownsRow.lt r1 g e).1
  have g2 : ∀ g, x2.ownBlock = some g → b2 ≤ g := fun g e => (World.ownsRow.lt r2 g e).1
  have g3 : ∀ g, x3.ownBlock = some g → b3 ≤ g := fun g e => (World.ownsRow.lt r3 g e).1
  have keep : ∀ {b : Nat} {x : Value} {ts : List Tok}, TokRow wr b x ts → W0.heap.size ≤ b → TokRow w8 W0.heap.size x ts := fun {b x ts} r hbb => by
    have r' : wr.ownsRow W0.heap.size 37 4 x ts.length (ts.flatMap tc) := Go.Joins.ownsRow_le r hbb
    refine World.ownsRow.kept (r'.alloc o) hg ?_
    cases e : va.ownBlock with
    | none =>
      cases e2 : x.ownBlock with
      | none => exact Or.inl rfl
      | some g => exact Or.inr (by simp)
    | some g => exact Or.inr fun e2 => kinds_apart h.all r' e e2
  have hl := h0.len
  have new : ∀ (j : Nat) (x : Value), (vs ++ [x1, x2, x3])[j]? = some x → (vs[j]? = some x ∧ j < 3 * t) ∨ (j = 3 * t ∧ x = x1) ∨ (j = 3 * t + 1 ∧ x = x2) ∨ (j = 3 * t + 2 ∧ x = x3) := fun j x hx => by
    by_cases hj : j < 3 * t
    · rw [List.getElem?_append_left (by omega)] at hx
      exact Or.inl ⟨hx, hj⟩
    · rw [List.getElem?_append_right (by omega), hl] at hx
      have hj3 : j - 3 * t < 3 := (List.getElem?_eq_some_iff.1 hx).1
      rcases (show j = 3 * t ∨ j = 3 * t + 1 ∨ j = 3 * t + 2 by omega) with e | e | e <;> subst e
      · simp at hx; exact Or.inr (Or.inl ⟨rfl, hx.symm⟩)
      · rw [show 3 * t + 1 - 3 * t = 1 by omega] at hx; simp at hx; exact Or.inr (Or.inr (Or.inl ⟨rfl, hx.symm⟩))
      · rw [show 3 * t + 2 - 3 * t = 2 by omega] at hx; simp at hx; exact Or.inr (Or.inr (Or.inr ⟨rfl, hx.symm⟩))
  refine ⟨by rw [show 3 * (t + 1) = 3 * t + 3 by omega]; exact ho, fun j x hx => ?_, fun i j x y g hx hy hij e1 e2 => ?_, (h.bel.alloc h.bel.size o).grown hg (Nat.le_trans h.bel.size (by simp)) (fun j hj => (World.ownsRow.lt h.all j hj).1)⟩
  · rcases new j x hx with ⟨h1, _⟩ | ⟨e, rfl⟩ | ⟨e, rfl⟩ | ⟨e, rfl⟩
    · exact keep (h.row j x h1) (Nat.le_refl _)
    · rw [if_neg (by omega)]; exact keep r1 hW
    · rw [if_neg (by omega)]; exact keep r2 (by omega)
    · rw [if_pos (by omega)]; exact keep r3 (by omega)
  · rcases new i x hx with ⟨h1, _⟩ | ⟨ei, rfl⟩ | ⟨ei, rfl⟩ | ⟨ei, rfl⟩ <;> rcases new j y hy with ⟨h2, _⟩ | ⟨ej, rfl⟩ | ⟨ej, rfl⟩ | ⟨ej, rfl⟩
    · exact h.ap i j x y g h1 h2 hij e1 e2
    · have := old i x g h1 e1; have := g1 g e2; omega
    · have := old i x g h1 e1; have := g2 g e2; omega
    · have := old i x g h1 e1; have := g3 g e2; omega
    · have := old j y g h2 e2; have := g1 g e1; omega
    · omega
    · have := u1 g e1; have := g2 g e2; omega
    · have := u1 g e1; have := g3 g e2; omega
    · have := old j y g h2 e2; have := g2 g e1; omega
    · have := u1 g e2; have := g2 g e1; omega
    · omega
    · have := u2 g e1; have := g3 g e2; omega
    · have := old j y g h2 e2; have := g3 g e1; omega
    · have := u1 g e2; have := g3 g e1; omega
    · have := u2 g e2; have := g3 g e1; omega
    · omega
/-- all six -/
theorem St.lists {W0 wr : World} {ta tb : List Tok} {vs : List Value} {ga ca : Nat} (h : St W0 wr ta tb 2 vs (.slice (some ⟨ga, 0, none⟩) 6 ca)) :
    ∃ (v : Nat → Value) (n : Nat → Nat) (X : Nat → List Value), Lists W0.heap.size ga v n wr X ∧ (∀ j, n j = (if j % 3 = 2 then tb else ta).length) ∧ (∀ j, j < 6 → vs[j]? = some (v j)) := by
  have hl := h.len
  have hv : ∀ j, j < 6 → vs[j]? = some (vs.getD j (.slice none 0 0)) := fun j hj => by
    rw [List.getElem?_eq_getElem (by omega)]
    simp [List.getD, show j < vs.length by omega]
  refine ⟨fun j => vs.getD j (.slice none 0 0), fun j => (if j % 3 = 2 then tb else ta).length, fun j => (if j % 3 = 2 then tb else ta).flatMap tc, ⟨fun j hj => h.row j _ (hv j hj), fun i j g hi hj hij e => h.ap i j _ _ g (hv i hi) (hv j hj) hij e, fun j hj => ?_, fun j hj => kinds_apart h.all (h.row j _ (hv j hj)) rfl, (World.ownsRow.lt h.all ga rfl).2⟩, fun j => rfl, hv⟩
  have := h.all.cellAt j (by omega)
  rw [this]
  exact hv j hj
end Go.Proofs.Ytflcplnmeimbcab.Lx
