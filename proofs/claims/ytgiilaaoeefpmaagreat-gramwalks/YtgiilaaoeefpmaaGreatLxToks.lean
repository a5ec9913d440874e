import Derived.Test.YtgiilaaoeefpmaaGreatLxTok
namespace Go.Proofs.YtgiilaaoeefpmaaGreat.Lx
open Go.RowKit Go.Proofs.YtgiilaaoeefpmaaGreat.Sp

/-- a slice of tokens, to be read -/
def IsToks (w : World) (ao : Option Addr) (ts : List Tok) : Prop := ∀ i x, ts[i]? = some x → ∃ g o, ao = some ⟨g, o, none⟩ ∧ g < w.heap.size ∧
  w.cell? ⟨g, o + i * 4, none⟩ = some (.int .i64 x.kind) ∧ w.cell? ⟨g, o + i * 4 + 1, none⟩ = some (.int .i64 x.at_) ∧ w.cell? ⟨g, o + i * 4 + 2, none⟩ = some (.int .i64 x.stop) ∧ w.cell? ⟨g, o + i * 4 + 3, none⟩ = some (.int .i64 x.n)
theorem IsToks.below {w w' : World} {ao : Option Addr} {ts : List Tok} (h : IsToks w ao ts) (hb : Below w.heap.size w w') : IsToks w' ao ts := by
  intro i x hx
  obtain ⟨g, o, e, hg, h1, h2, h3, h4⟩ := h i x hx
  have hc : ∀ j, w'.cell? ⟨g, j, none⟩ = w.cell? ⟨g, j, none⟩ := fun j => hb.cell (p := ⟨g, j, none⟩) hg
  exact ⟨g, o, e, Nat.lt_of_lt_of_le hg hb.size, (hc _).trans h1, (hc _).trans h2, (hc _).trans h3, (hc _).trans h4⟩
theorem flat_at (ts : List Tok) (i : Nat) (x : Tok) (h : ts[i]? = some x) (j : Nat) (hj : j < 4) : (ts.flatMap tc)[i * 4 + j]? = (tc x)[j]? := by
  induction ts generalizing i with
  | nil => simp at h
  | cons y r ih =>
    rw [List.flatMap_cons]
    have hl : (tc y).length = 4 := rfl
    cases i with
    | zero =>
      simp at h
      subst h
      rw [List.getElem?_append_left (by omega)]
      simp
    | succ i =>
      rw [List.getElem?_append_right (by omega), show (i + 1) * 4 + j - (tc y).length = i * 4 + j by omega]
      exact ih i (by simpa using h)
theorem TokRow.toks {w : World} {base : Nat} {v : Value} {ts : List Tok} (h : TokRow w base v ts) : ∃ ao cap, v = .slice ao ts.length cap ∧ IsToks w ao ts ∧ ts.length ≤ cap := by
  rcases h.2 with ⟨rfl, h0⟩ | ⟨g, cap, cur, rfl, hb, hg, h3, h4, h5, h6⟩
  · refine ⟨none, 0, by rw [h0], fun i x hx => ?_, by omega⟩
    have := (List.getElem?_eq_some_iff.1 hx).1
    omega
  · refine ⟨some ⟨g, 0, none⟩, cap, rfl, fun i x hx => ?_, h3⟩
    have hlt := (List.getElem?_eq_some_iff.1 hx).1
    have hc : ∀ j, j < 4 → w.cell? ⟨g, i * 4 + j, none⟩ = (tc x)[j]? := fun j hj => by
      have e := flat_at ts i x hx j hj
      rw [← h6] at e
      have hj4 : j < (tc x).length := hj
      rw [List.getElem?_eq_getElem hj4] at e ⊢
      have := Lib.cells_of_row hg (ts.length * 4) (i * 4 + j) _ e
      rw [Lib.addr_add] at this
      simpa using this
    refine ⟨g, 0, rfl, (Array.getElem?_eq_some_iff.1 hg).1, ?_, ?_, ?_, ?_⟩
    · simpa [tc] using hc 0 (by omega)
    · simpa [Nat.add_assoc, tc] using hc 1 (by omega)
    · simpa [Nat.add_assoc, tc] using hc 2 (by omega)
    · simpa [Nat.add_assoc, tc] using hc 3 (by omega)
end Go.Proofs.YtgiilaaoeefpmaaGreat.Lx
