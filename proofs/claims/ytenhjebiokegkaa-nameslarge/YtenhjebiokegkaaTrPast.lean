import Derived.Test.YtenhjebiokegkaaTrOwn
import Derived.Test.YtenhjebiokegkaaTrKind
namespace Go.Proofs.Ytenhjebiokegkaa.Gr
open Go.RowKit Go.Proofs.Ytenhjebiokegkaa.Sp Go.Proofs.Ytenhjebiokegkaa.Lx

/-- a trail's cells -/
def ac (a : Ab) : List Value := [.int .i64 a.kind, .int .i64 a.kids, .int .i64 a.seen, .int .i64 a.kid, .int .i64 a.levels]
def tc (t : List Ab) : List Value := t.reverse.flatMap ac
theorem tc_cons (a : Ab) (t : List Ab) : tc (a :: t) = tc t ++ ac a := by simp [tc]
theorem tc_len (t : List Ab) : (tc t).length = t.length * 5 := by
  induction t with
  | nil => rfl
  | cons a t ih => rw [tc_cons, List.length_append, ih, List.length_cons]; show _ + 5 = _; omega
theorem tc_top (a : Ab) (t : List Ab) (j : Nat) : (tc (a :: t))[t.length * 5 + j]? = (ac a)[j]? := by
  rw [tc_cons, List.getElem?_append_right (by rw [tc_len]; omega), tc_len]
  congr 1
  omega
abbrev OwnT (w : World) (base : Nat) (v : Value) (t : List Ab) : Prop := w.ownsRow base 84 5 v t.length (tc t)
abbrev agb (a : Ab) : Value := .agg #[.int .i64 a.kind, .int .i64 a.kids, .int .i64 a.seen, .int .i64 a.kid, .int .i64 a.levels]
/-- its last row, in any later world -/
theorem own_top {w : World} {base : Nat} {v : Value} {a : Ab} {t : List Ab} (h : OwnT w base v (a :: t)) : ∃ g cap, v = .slice (some ⟨g, 0, none⟩) (t.length + 1) cap ∧ base ≤ g ∧ g < w.heap.size ∧ (∀ j, w.frozen? ⟨g, j, none⟩ = false) ∧
    ∀ W : World, W.heap[g]? = w.heap[g]? → W.cell? ⟨g, t.length * 5, none⟩ = some (.int .i64 a.kind) ∧ W.cell? ⟨g, t.length * 5 + 1, none⟩ = some (.int .i64 a.kids) ∧ W.cell? ⟨g, t.length * 5 + 2, none⟩ = some (.int .i64 a.seen) ∧ W.cell? ⟨g, t.length * 5 + 3, none⟩ = some (.int .i64 a.kid) ∧ W.cell? ⟨g, t.length * 5 + 4, none⟩ = some (.int .i64 a.levels) := by
  obtain ⟨g, cap, cur, rfl, h2, h3, h4, h5, h6, h7⟩ := own_block h (by simp)
  have hlt := (Array.getElem?_eq_some_iff.1 h3).1
  refine ⟨g, cap, rfl, h2, hlt, fun j => h.frozenAt j, fun W hW => ?_⟩
  have hc : ∀ j, j < 5 → W.cell? ⟨g, t.length * 5 + j, none⟩ = (ac a)[j]? := fun j hj => by
    rw [World.cell?_of_block (w := w) (w' := W) (a := ⟨g, t.length * 5 + j, none⟩) hW, ← tc_top a t j]
    exact h.cellAt _ (by simp only [List.length_cons]; omega)
  exact ⟨hc 0 (by omega), hc 1 (by omega), hc 2 (by omega), hc 3 (by omega), hc 4 (by omega)⟩

set_option maxHeartbeats 1600000 in
theorem last_any (t : List Ab) (base : Nat) (v : Value) (w : World) (h : OwnT w base v t) (hn : t.length ≤ 4611686018427387904) : Calls Try.prog 48 #[v] w fun e w' => e = .returned (agb (top t)) ∧ Below w.heap.size w w' := by
  cases t with
  | nil =>
    obtain ⟨bo, bc, rfl⟩ := own_form h
    clear h
    go_enter Try.func48, Try.ntmps48
    go_wp2
    exact bodyPost_ret (v := agb ab0) (by simp [results, Try.results48, go_sem, ab0]) rfl ⟨rfl, (Below.refl _ w).alloc (Nat.le_refl _) _⟩
  | cons a t =>
    obtain ⟨g, cap, rfl, hb, hg, hf, hW⟩ := own_top h
    obtain ⟨c0, c1, c2, c3, c4⟩ := hW (w.alloc (.cells #[.int .i64 0, .int .i64 0, .int .i64 0, .int .i64 0, .int .i64 0] 84)) (Below.heap_alloc _ _ _ hg)
    have h1 : (t.length : Int) ≤ 4611686018427387904 := by simp only [List.length_cons] at hn; omega
    clear h hW hf hn
    go_enter Try.func48, Try.ntmps48
    go_wp2
    exact bodyPost_ret (v := agb a) (by simp [results, Try.results48, go_sem]) rfl ⟨rfl, (Below.refl _ w).alloc (Nat.le_refl _) _⟩
end Go.Proofs.Ytenhjebiokegkaa.Gr
