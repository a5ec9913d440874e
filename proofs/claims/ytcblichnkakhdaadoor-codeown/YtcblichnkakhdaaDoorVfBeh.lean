import Derived.Test.YtcblichnkakhdaaDoorVfRd
import Derived.Laws.Tables
namespace Go.Proofs.YtcblichnkakhdaaDoor.Vf
open Go.RowKit Go.Proofs.YtcblichnkakhdaaDoor.Nm

theorem cells3 {W : World} {B : Nat} {v0 v1 v2 : Value} {T : TypeId} (h : W.heap[B]? = some (.cells #[v0, v1, v2] T (0, 0))) : W.cell? ⟨B, 0, none⟩ = some v0 ∧ W.cell? ⟨B, 1, none⟩ = some v1 ∧ W.cell? ⟨B, 2, none⟩ = some v2 :=
  ⟨cell_of (cs := [v0, v1, v2]) h rfl, cell_of (cs := [v0, v1, v2]) h rfl, cell_of (cs := [v0, v1, v2]) h rfl⟩
theorem cells5 {W : World} {B : Nat} {v0 v1 v2 v3 v4 : Value} {T : TypeId} (h : W.heap[B]? = some (.cells #[v0, v1, v2, v3, v4] T (0, 0))) : W.cell? ⟨B, 0, none⟩ = some v0 ∧ W.cell? ⟨B, 1, none⟩ = some v1 ∧ W.cell? ⟨B, 2, none⟩ = some v2 ∧ W.cell? ⟨B, 3, none⟩ = some v3 ∧ W.cell? ⟨B, 4, none⟩ = some v4 :=
  ⟨cell_of (cs := [v0, v1, v2, v3, v4]) h rfl, cell_of (cs := [v0, v1, v2, v3, v4]) h rfl, cell_of (cs := [v0, v1, v2, v3, v4]) h rfl, cell_of (cs := [v0, v1, v2, v3, v4]) h rfl, cell_of (cs := [v0, v1, v2, v3, v4]) h rfl⟩
theorem below_setRow {n : Nat} {w w' : World} {g : Nat} {cs : Array Value} (h : Below n w w') (hg : n ≤ g) : Below n w (w'.setRow g cs) := by
  refine ⟨h.os, h.tape, h.output, by simpa using h.size, fun k hk => ?_⟩
  have e : (w'.setRow g cs).heap[k]? = w'.heap[k]? := by
    unfold World.setRow
    simp only [Array.getElem?_modify]
    rw [if_neg (by omega)]
  exact e.trans (h.block k hk)
end Go.Proofs.YtcblichnkakhdaaDoor.Vf
