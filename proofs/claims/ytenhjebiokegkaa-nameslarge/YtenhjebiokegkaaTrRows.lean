import Derived.Test.YtenhjebiokegkaaTrPast3
import Derived.Test.YtenhjebiokegkaaTrFill
namespace Go.Proofs.Ytenhjebiokegkaa.Gr
open Go.RowKit Go.Proofs.Ytenhjebiokegkaa.Sp Go.Proofs.Ytenhjebiokegkaa.Lx

/-- rows that are read -/
def IsRz (w : World) (ao : Option Addr) (l : List Rz) : Prop := ∀ (i : Nat) (x : Rz), l[i]? = some x → ∃ g o, ao = some ⟨g, o, none⟩ ∧ g < w.heap.size ∧
  w.cell? ⟨g, o + i * 5, none⟩ = some (.int .i64 x.kind) ∧ w.cell? ⟨g, o + i * 5 + 1, none⟩ = some (.string x.name) ∧ w.cell? ⟨g, o + i * 5 + 2, none⟩ = some (.int .i64 x.stop) ∧ w.cell? ⟨g, o + i * 5 + 3, none⟩ = some (.int .i64 x.n) ∧ w.cell? ⟨g, o + i * 5 + 4, none⟩ = some (.int .i64 x.kids)
theorem IsRz.below {w w' : World} {ao : Option Addr} {l : List Rz} (h : IsRz w ao l) (hb : Below w.heap.size w w') : IsRz w' ao l := by
  intro i x hx
  obtain ⟨g, o, e, hg, h1, h2, h3, h4, h5⟩ := h i x hx
  have hc : ∀ j, w'.cell? ⟨g, j, none⟩ = w.cell? ⟨g, j, none⟩ := fun j => hb.cell (p := ⟨g, j, none⟩) hg
  exact ⟨g, o, e, Nat.lt_of_lt_of_le hg hb.size, (hc _).trans h1, (hc _).trans h2, (hc _).trans h3, (hc _).trans h4, (hc _).trans h5⟩

/-- the first row that is not as it must be -/
def wrong : List Ab → Nat → List Rz → Nat × Bool
  | t, i, [] => (i, !t.isEmpty)
  | t, i, r :: l => if t.isEmpty || !(mayStand (top t).kind (top t).seen (top t).kid r.kind && filled r) then (i, true) else wrong (past t r 0) (i + 1) l
def ab1 : Ab := ⟨0, 1, 0, 0, 0⟩
end Go.Proofs.Ytenhjebiokegkaa.Gr
