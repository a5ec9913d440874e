import Derived.Test.YtenhjebiokegkaaPureTree
namespace Go.Proofs.Ytenhjebiokegkaa.Gr

def rz0 : Rz := ⟨0, ⟨#[]⟩, 0, 0, 0⟩
abbrev rat (l : List Rz) (i : Nat) : Rz := l.getD i rz0
theorem rat_some {l : List Rz} {i : Nat} {r : Rz} (h : l[i]? = some r) : rat l i = r := by simp [rat, List.getD_eq_getElem?_getD, h]
theorem some_rat {l : List Rz} {i : Nat} (h : i < l.length) : l[i]? = some (rat l i) := by simp [rat, List.getD_eq_getElem?_getD, List.getElem?_eq_getElem h]
theorem km_rat (l : List Rz) (i : Nat) : km l i = (rat l i).m := by
  unfold km rat
  rw [List.getD_eq_getElem?_getD]
  cases l[i]? <;> rfl

/-- a trail and the way to a row -/
def Like (l : List Rz) (f : Nat → Int) (a : Ab) (x : Nat × Nat) : Prop := a.kind = (rat l x.1).kind ∧ a.kids = (rat l x.1).kids ∧ a.seen = x.2 ∧ a.levels = f x.1
inductive Sim (l : List Rz) (f : Nat → Int) : List Ab → List (Nat × Nat) → Prop
  | nil : Sim l f [] []
  | cons {a x t g} : Like l f a x → Sim l f t g → Sim l f (a :: t) (x :: g)
theorem Sim.len {l : List Rz} {f : Nat → Int} {t : List Ab} {g : List (Nat × Nat)} (h : Sim l f t g) : t.length = g.length := by
  induction h with
  | nil => rfl
  | cons _ _ ih => simp [ih]
theorem Sim.pop {l : List Rz} {f : Nat → Int} {t : List Ab} {g : List (Nat × Nat)} (h : Sim l f t g) : Sim l f (pop t) (gpop l g) := by
  induction h with
  | nil => exact .nil
  | @cons a x t g h1 h2 ih =>
    simp only [Gr.pop, gpop]
    have ⟨_, k2, k3, _⟩ := h1
    have e : (a.kids ≤ (a.seen : Int)) ↔ km l x.1 ≤ x.2 := by rw [k2, k3, km_rat]; unfold Rz.m; omega
    by_cases hc : a.kids ≤ (a.seen : Int)
    · rw [if_pos hc, if_pos (e.1 hc)]; exact ih
    · rw [if_neg hc, if_neg (fun h => hc (e.2 h))]; exact .cons h1 h2
theorem Sim.bump {l : List Rz} {f : Nat → Int} {t : List Ab} {g : List (Nat × Nat)} (h : Sim l f t g) (k : Int) : Sim l f (bump k t) (gbump g) := by
  cases h with
  | nil => exact .nil
  | cons h1 h2 => exact .cons ⟨h1.1, h1.2.1, by show _ + 1 = _ + 1; rw [h1.2.2.1], h1.2.2.2⟩ h2
def rst (f : Nat → Int) (l : List Rz) : Nat → List Ab
  | 0 => []
  | i + 1 => past (rst f l i) (rat l i) (f i)
theorem rst_sim (f : Nat → Int) (l : List Rz) (i : Nat) : Sim l f (rst f l i) (gst l i) := by
  induction i with
  | zero => exact .nil
  | succ i ih => exact Sim.pop (.cons ⟨rfl, rfl, rfl, rfl⟩ (ih.bump _))
theorem rst_len (f : Nat → Int) (l : List Rz) (i : Nat) : (rst f l i).length = dep l i := (rst_sim f l i).len

section
variable (opn : Int → Int) (lz : Int → Int → Int → Bool)
/-- the levels that are open within a row -/
def lvl (t : List Ab) (r : Rz) : Int := (top t).levels + opn r.kind + if lz (top t).kind (top t).seen r.kind then 1 else 0
def ast (l : List Rz) : Nat → List Ab
  | 0 => []
  | i + 1 => past (ast l i) (rat l i) (lvl opn lz (ast l i) (rat l i))
def lev (l : List Rz) (i : Nat) : Int := lvl opn lz (ast opn lz l i) (rat l i)
def mx (l : List Rz) : Nat → Int
  | 0 => 0
  | i + 1 => if mx l i < lev opn lz l i then lev opn lz l i else mx l i
theorem ast_rst (l : List Rz) (i : Nat) : ast opn lz l i = rst (lev opn lz l) l i := by
  induction i with
  | zero => rfl
  | succ i ih => show past _ _ _ = past _ _ _; rw [← ih]; rfl
theorem lev_zero (l : List Rz) : lev opn lz l 0 = opn (rat l 0).kind + if lz 0 0 (rat l 0).kind then 1 else 0 := by
  show (0 : Int) + _ + _ = _
  rw [Int.zero_add]; rfl
theorem lev_up {l : List Rz} (h : Whole l) {p : Nat} (h0 : 0 < p) (hp : p < l.length) :
    lev opn lz l p = lev opn lz l (up l p) + opn (rat l p).kind + if lz (rat l (up l p)).kind (wh l p) (rat l p).kind then 1 else 0 := by
  have h1 := rst_sim (lev opn lz l) l p
  rw [(up_at h h0 hp).2.2.2, ← ast_rst] at h1
  cases h2 : ast opn lz l p with
  | nil => rw [h2] at h1; cases h1
  | cons a t =>
    rw [h2] at h1
    cases h1 with
    | cons h3 h4 =>
      obtain ⟨k1, _, k3, k4⟩ := h3
      show (top (ast opn lz l p)).levels + _ + (if lz (top (ast opn lz l p)).kind (top (ast opn lz l p)).seen _ then 1 else 0) = _
      rw [h2]
      show a.levels + _ + (if lz a.kind a.seen _ then 1 else 0) = _
      rw [k1, k3, k4]
end
/-- bounds, for the walks: no trail is longer than the rows ahead, none has seen more -/
theorem past_len (t : List Ab) (r : Rz) (v : Int) : (past t r v).length ≤ t.length + 1 := by
  have hp : ∀ t : List Ab, (pop t).length ≤ t.length := by
    intro t
    induction t with
    | nil => exact Nat.le_refl _
    | cons a t ih =>
      simp only [pop]
      split
      · exact Nat.le_succ_of_le ih
      · exact Nat.le_refl _
  have hb : (bump r.kind t).length = t.length := by cases t <;> rfl
  have := hp (⟨r.kind, r.kids, 0, 0, v⟩ :: bump r.kind t)
  simp only [List.length_cons] at this
  unfold past
  omega
def SeenLe (n : Nat) (t : List Ab) : Prop := ∀ a ∈ t, a.seen ≤ n
theorem seen_pop {n : Nat} {t : List Ab} (h : SeenLe n t) : SeenLe n (pop t) := by
  induction t with
  | nil => exact h
  | cons a t ih =>
    simp only [pop]
    split
    · exact ih fun b hb => h b (List.mem_cons_of_mem _ hb)
    · exact h
theorem seen_past {n : Nat} {t : List Ab} (h : SeenLe n t) (r : Rz) (v : Int) : SeenLe (n + 1) (past t r v) := by
  refine seen_pop fun a ha => ?_
  rcases List.mem_cons.1 ha with rfl | ha
  · exact Nat.zero_le _
  · cases t with
    | nil => cases ha
    | cons b t =>
      rcases List.mem_cons.1 ha with rfl | ha
      · show b.seen + 1 ≤ n + 1; have := h b (List.mem_cons_self ..); omega
      · have := h a (List.mem_cons_of_mem _ ha); omega
end Go.Proofs.Ytenhjebiokegkaa.Gr
