import Derived.Test.YtenhjebiokegkaaTrRows
import Derived.Test.YtenhjebiokegkaaTrWrong
namespace Go.Proofs.Ytenhjebiokegkaa.Gr
open Go.RowKit Go.Proofs.Ytenhjebiokegkaa.Sp Go.Proofs.Ytenhjebiokegkaa.Lx

/-- bounds of a trail behind k rows -/
def LvLe (n : Nat) (t : List Ab) : Prop := ∀ a ∈ t, 0 ≤ a.levels ∧ a.levels ≤ n
theorem lv_pop {n : Nat} {t : List Ab} (h : LvLe n t) : LvLe n (pop t) := by
  induction t with
  | nil => exact h
  | cons a t ih =>
    simp only [pop]
    split
    · exact ih fun b hb => h b (List.mem_cons_of_mem _ hb)
    · exact h
theorem lv_past {n : Nat} {t : List Ab} (h : LvLe n t) (r : Rz) (v : Int) (h0 : 0 ≤ v) (h1 : v ≤ n + 2) : LvLe (n + 2) (past t r v) := by
  refine lv_pop fun a ha => ?_
  rcases List.mem_cons.1 ha with rfl | ha
  · exact ⟨h0, h1⟩
  · cases t with
    | nil => cases ha
    | cons b t =>
      rcases List.mem_cons.1 ha with rfl | ha
      · have := h b (List.mem_cons_self ..); exact ⟨this.1, by show b.levels ≤ _; omega⟩
      · have := h a (List.mem_cons_of_mem _ ha); omega
theorem opn_two (k : Int) : 0 ≤ opn k ∧ opn k ≤ 1 := by unfold opn; split <;> simp
def Fits (l : List Rz) (k : Nat) : Prop := (ast opn loose l k).length ≤ k ∧ SeenLe k (ast opn loose l k) ∧ LvLe (2 * k) (ast opn loose l k) ∧ 0 ≤ mx opn loose l k ∧ mx opn loose l k ≤ 2 * k
theorem top_lv {n : Nat} {t : List Ab} (h : LvLe n t) : 0 ≤ (top t).levels ∧ (top t).levels ≤ n := by
  cases t with
  | nil => exact ⟨Int.le_refl _, by show (0 : Int) ≤ _; omega⟩
  | cons a t => exact h a (List.mem_cons_self ..)
theorem lev_le {l : List Rz} {k : Nat} (h : Fits l k) : 0 ≤ lev opn loose l k ∧ lev opn loose l k ≤ 2 * k + 2 := by
  have h1 := top_lv h.2.2.1
  have h2 := opn_two (rat l k).kind
  show 0 ≤ (top (ast opn loose l k)).levels + opn (rat l k).kind + _ ∧ (top (ast opn loose l k)).levels + opn (rat l k).kind + _ ≤ _
  split <;> omega
theorem fits_zero (l : List Rz) : Fits l 0 := ⟨Nat.le_refl _, fun _ h => (by cases h), fun _ h => (by cases h), Int.le_refl _, (by show (0 : Int) ≤ _; omega)⟩
theorem fits_succ (l : List Rz) {k : Nat} (h : Fits l k) : Fits l (k + 1) := by
  have h1 := lev_le h
  obtain ⟨a1, a2, a3, a4, a5⟩ := h
  refine ⟨?_, seen_past a2 _ _, ?_, ?_⟩
  · have := past_len (ast opn loose l k) (rat l k) (lvl opn loose (ast opn loose l k) (rat l k))
    show (past _ _ _).length ≤ _
    omega
  · have := lv_past a3 (rat l k) (lev opn loose l k) h1.1 (by omega)
    rw [show 2 * (k + 1) = 2 * k + 2 by omega]
    exact this
  · show 0 ≤ (if mx opn loose l k < lev opn loose l k then lev opn loose l k else mx opn loose l k) ∧ (if mx opn loose l k < lev opn loose l k then lev opn loose l k else mx opn loose l k) ≤ _
    split <;> omega
theorem mx_succ (l : List Rz) (k : Nat) : mx opn loose l (k + 1) = if mx opn loose l k < lev opn loose l k then lev opn loose l k else mx opn loose l k := rfl
theorem ast_succ (l : List Rz) (k : Nat) : ast opn loose l (k + 1) = past (ast opn loose l k) (rat l k) (lev opn loose l k) := rfl
theorem lev_max (a b : Int) : Value.int .i64 (max a b) = Value.int .i64 (if a < b then b else a) := by
  congr 1
  split <;> omega

end Go.Proofs.Ytenhjebiokegkaa.Gr
