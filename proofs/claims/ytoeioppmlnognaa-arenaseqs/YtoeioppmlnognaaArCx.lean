import Derived.Test.YtoeioppmlnognaaArListed
import Derived.Test.YtoeioppmlnognaaArKnown
import Derived.Test.YtoeioppmlnognaaArMany
namespace Go.Proofs.Ytoeioppmlnognaa.Ar
open Go.RowKit Go.Shelf

theorem Mem.foot_cells {w : World} {g : Nat} {o : Lo} {c : Cs} {size nl used free : Nat} {freed : Int} (h : Mem w g o c size nl used free freed) : ∀ k ∈ o.foot g nl, ∃ cs T f, w.heap[k]? = some (.cells cs T f) := by
  intro k hk
  simp only [Lo.foot, List.mem_cons, List.mem_append, Option.mem_toList] at hk
  rcases hk with rfl | hk | hk | hk
  · exact ⟨_, _, _, h.blk⟩
  · split at hk
    · rename_i h0
      obtain ⟨cs, h1, _⟩ := h.li h0
      have : k = o.lb := by simpa using hk
      rw [this]
      exact ⟨_, _, _, h1⟩
    · cases hk
  · rcases h.own.2 with ⟨e1, _⟩ | ⟨g', cap, cur, e1, _, e3, _⟩
    · rw [e1] at hk; cases hk
    · rw [e1] at hk
      simp only [Value.ownBlock, Option.some.injEq] at hk
      subst hk
      exact ⟨_, _, _, e3⟩
  · obtain ⟨i, hi⟩ := List.getElem?_of_mem hk
    obtain ⟨cs, h1, _⟩ := h.pg i k hi
    exact ⟨_, _, _, h1⟩
theorem IsAr.foot_cells {W : World} {g : Nat} {o : Lo} {a : As} (h : IsAr W g o a) : ∀ k ∈ o.foot g a.nl, ∃ cs T f, W.heap[k]? = some (.cells cs T f) := by
  obtain ⟨c, hm, _⟩ := h
  exact hm.foot_cells

/-- an arena in memory made since w, apart from so many blocks -/
def Arx (K : List Nat) (n0 : Nat) (w W : World) (g : Nat) (a : As) : Prop := ∃ o, Mine n0 w W g o a ∧ (∀ k ∈ o.foot g a.nl, k ∉ K) ∧ ∀ k ∈ K, ∃ cs T f, W.heap[k]? = some (.cells cs T f)
section
variable {K : List Nat} {n0 : Nat} {w W W' : World} {g : Nat} {a : As}
theorem Arx.lt (h : Arx K n0 w W g a) : ∀ k ∈ K, k < W.heap.size := by
  obtain ⟨o, _, _, h3⟩ := h
  intro k hk
  obtain ⟨cs, T, f, e⟩ := h3 k hk
  exact (Array.getElem?_eq_some_iff.1 e).1
theorem Arx.be (h : Arx K n0 w W g a) : Below n0 w W := by
  obtain ⟨o, h1, _⟩ := h
  exact h1.2.1
theorem Arx.base (h : Arx K n0 w W g a) : n0 ≤ w.heap.size := by
  obtain ⟨o, h1, _⟩ := h
  exact h1.2.2.2
theorem Arx.step (h : Arx K n0 w W g a) : ∃ o, IsAr W g o a ∧ ∀ a' W', Goes W g o a' W' → a'.nl = a.nl → Arx K n0 w W' g a' ∧ Kq K W W' ∧ ∀ B, KeepsFrom B W W' := by
  have hlt := h.lt
  obtain ⟨o, h1, h2, h3⟩ := h
  refine ⟨o, h1.1, fun a' W' hG hl => ?_⟩
  have hG' := hG
  obtain ⟨o', k1, k2, k3⟩ := hG
  rw [hl] at k2 k3
  have hK : Kq K W W' := ⟨k2.size, fun k hk => k2.block k (hlt k hk) (fun hm => h2 k hm hk)⟩
  refine ⟨⟨o', ⟨k1, k2.below h1.2.1 h1.2.2.1 h1.2.2.2, fun k hk => ?_, h1.2.2.2⟩, fun k hk hkK => ?_, fun k hk => ?_⟩, hK, fun B => ⟨k2.size, fun i ob _ hi hc => ?_⟩⟩
  · rw [hl] at hk
    rcases k3 k hk with e | e
    · exact h1.2.2.1 k e
    · exact Nat.le_trans h1.2.2.2 (Nat.le_trans h1.2.1.size e)
  · rw [hl] at hk
    rcases k3 k hk with e | e
    · exact h2 k e hkK
    · have := hlt k hkK
      omega
  · rw [hK.2 k hk]
    exact h3 k hk
  · rw [k2.block i (Array.getElem?_eq_some_iff.1 hi).1 (fun hm => ?_)]
    · exact hi
    · obtain ⟨cs, T, f, e⟩ := h1.1.foot_cells i hm
      rw [hi] at e
      cases e
      cases hc
theorem Arx.below (h : Arx K n0 w W g a) (hb : Below W.heap.size W W') : Arx K n0 w W' g a := by
  have hlt := h.lt
  obtain ⟨o, h1, h2, h3⟩ := h
  refine ⟨o, h1.below hb, h2, fun k hk => ?_⟩
  rw [hb.block k (hlt k hk)]
  exact h3 k hk
theorem Arx.own (h : Arx K n0 w W g a) {row : Option Nat} (hg : W.grownBy W' row) (hr : ∀ r, row = some r → n0 ≤ r ∧ ∃ ob : Obj, W.heap[r]? = some ob ∧ ob.isCells = false) : Arx K n0 w W' g a ∧ Kq K W W' := by
  have hlt := h.lt
  obtain ⟨o, h1, h2, h3⟩ := h
  have hne : ∀ k, (∃ cs T f, W.heap[k]? = some (.cells cs T f)) → row ≠ some k := fun k ⟨cs, T, f, e⟩ er => by
    obtain ⟨_, ob, ho, hc⟩ := hr k er
    rw [e] at ho
    cases ho
    cases hc
  have hK : Kq K W W' := ⟨hg.size, fun k hk => hg.block k (hlt k hk) (fun e => hne k (h3 k hk) e.symm)⟩
  have hf : Fr row.toList W W' := ⟨hg.os, hg.tape, hg.output, hg.size, fun k hk hn => hg.block k hk (fun e => hn (by simp [← e]))⟩
  refine ⟨⟨o, ⟨h1.1.kept hf (fun k hk hm => hne k (h1.1.foot_cells k hk) (by simpa using hm)), h1.2.1.grown hg (Nat.le_trans h1.2.2.2 h1.2.1.size) (fun k e => (hr k e).1), h1.2.2.1, h1.2.2.2⟩, h2, fun k hk => ?_⟩, hK⟩
  rw [hK.2 k hk]
  exact h3 k hk
theorem Arx.set (h : Arx K n0 w W g a) {k : Nat} (hk : k ∈ K) (hn : n0 ≤ k) (i : Nat) (v : Value) : Arx K n0 w (W.setCell ⟨k, i, none⟩ v) g a := by
  obtain ⟨o, h1, h2, h3⟩ := h
  refine ⟨o, ⟨h1.1.kept (Fr.set W i v (F := [k]) (by simp)) (fun m hm hmk => ?_), h1.2.1.setCell hn _, h1.2.2.1, h1.2.2.2⟩, h2, fun m hm => ?_⟩
  · have : m = k := by simpa using hmk
    subst this
    exact h2 m hm hk
  · by_cases e : m = k
    · subst e
      obtain ⟨cs, T, f, e⟩ := h3 m hm
      exact ⟨_, _, _, set_blk e⟩
    · rw [set_other e]
      exact h3 m hm
/-- blocks that are new -/
theorem Arx.more (h : Arx K n0 w W g a) (hb : Below W.heap.size W W') {S : List Nat} (hS : ∀ k ∈ S, W.heap.size ≤ k ∧ ∃ cs T f, W'.heap[k]? = some (.cells cs T f)) : Arx (S ++ K) n0 w W' g a := by
  have hb' := h.below hb
  obtain ⟨o, h1, h2, h3⟩ := h
  have hlt := h1.1.foot_lt
  obtain ⟨o', h1', h2', h3'⟩ := hb'
  refine ⟨o, h1.below hb, fun k hk hm => ?_, fun k hk => ?_⟩
  · rcases List.mem_append.1 hm with hm | hm
    · have := (hS k hm).1
      have := hlt k hk
      omega
    · exact h2 k hk hm
  · rcases List.mem_append.1 hk with hm | hm
    · exact (hS k hm).2
    · exact h3' k hm
theorem Arx.mono (h : Arx K n0 w W g a) {K' : List Nat} (hK : ∀ k ∈ K', k ∈ K) : Arx K' n0 w W g a := by
  obtain ⟨o, h1, h2, h3⟩ := h
  exact ⟨o, h1, fun k hk hm => h2 k hk (hK k hm), fun k hk => h3 k (hK k hk)⟩
end
theorem cells_cell {W : World} {b i : Nat} {v : Value} (h : W.cell? ⟨b, i, none⟩ = some v) : ∃ cs T f, W.heap[b]? = some (.cells cs T f) := by
  obtain ⟨o, h1, h2⟩ := cells_of_cell h
  cases o with
  | cells cs T f => exact ⟨cs, T, f, h1⟩
  | _ => cases h2
theorem Sq.cells {w : World} {q : Sqv} {d : List (Nat × Int)} (h : Sq w q d) (hd : d ≠ [] ∨ (q.bn = q.A ∧ q.bh = q.B)) : ∀ k ∈ q.S, ∃ cs T f, w.heap[k]? = some (.cells cs T f) := by
  have cA := cells_cell h.cA
  have cB := cells_cell h.cB
  have hbn : (∃ cs T f, w.heap[q.bn]? = some (.cells cs T f)) ∧ ∃ cs T f, w.heap[q.bh]? = some (.cells cs T f) := by
    rcases hd with hd | ⟨e1, e2⟩
    · cases d with
      | nil => exact absurd rfl hd
      | cons x t =>
        obtain ⟨_, _, h3, h4⟩ := h.at_ 0 x rfl
        exact ⟨cells_cell h3, cells_cell h4⟩
    · rw [e1, e2]
      exact ⟨cA, cB⟩
  intro k hk
  simp only [Sqv.S, List.mem_cons, List.not_mem_nil, or_false] at hk
  rcases hk with rfl | rfl | rfl | rfl
  · exact cA
  · exact cB
  · exact hbn.1
  · exact hbn.2

/-- where the law's things lie -/
structure Cx where
  g : Nat
  n : Nat
  l : Nat
  b11 : Nat
  b15 : Nat
  b16 : Nat
  b17 : Nat
  b18 : Nat
  b19 : Nat
  r1 : Nat
  r2 : Nat
  q1 : Sqv
  q2 : Sqv
  d1 : List (Nat × Int)
  d2 : List (Nat × Int)
  o17 : Option Addr
  o18 : Option Addr
  c17 : Nat
  c18 : Nat
abbrev clo (q : Sqv) : Value := .func (.func 59) #[] #[.pointer (some ⟨q.A, 0, none⟩), .pointer (some ⟨q.B, 0, none⟩)]
def Cx.K' (C : Cx) : List Nat := [C.b11, C.b15, C.b16, C.b17, C.b18, C.r1, C.r2] ++ (C.q1.S ++ C.q2.S)
def Cx.K (C : Cx) : List Nat := C.b19 :: C.K'
/-- what stays -/
structure Cx.Sta (C : Cx) (W : World) : Prop where
  x11 : W.cell? ⟨C.b11, 0, none⟩ = some (.pointer (some ⟨C.g, 0, none⟩))
  x15 : W.cell? ⟨C.b15, 0, none⟩ = some (clo C.q1)
  x16 : W.cell? ⟨C.b16, 0, none⟩ = some (clo C.q2)
  x17 : W.cell? ⟨C.b17, 0, none⟩ = some (.slice C.o17 (2 * C.d1.length) C.c17)
  x18 : W.cell? ⟨C.b18, 0, none⟩ = some (.slice C.o18 (2 * C.d2.length) C.c18)
  s1 : Sq W C.q1 C.d1
  s2 : Sq W C.q2 C.d2
  w1 : ∀ (j : Nat) (x : Nat × Int), C.d1[j]? = some x → C.o17 = some ⟨C.r1, 0, none⟩ ∧ W.cell? ⟨C.r1, 2 * j, none⟩ = some (I (x.1 : Nat)) ∧ W.cell? ⟨C.r1, 2 * j + 1, none⟩ = some (I x.2)
  w2 : ∀ (j : Nat) (x : Nat × Int), C.d2[j]? = some x → C.o18 = some ⟨C.r2, 0, none⟩ ∧ W.cell? ⟨C.r2, 2 * j, none⟩ = some (I (x.1 : Nat)) ∧ W.cell? ⟨C.r2, 2 * j + 1, none⟩ = some (I x.2)
theorem Cx.Sta.keep {C : Cx} {W W' : World} (h : C.Sta W) (k : Kq C.K' W W') : C.Sta W' := by
  have e : ∀ b i, b ∈ C.K' → W'.cell? ⟨b, i, none⟩ = W.cell? ⟨b, i, none⟩ := fun b i hb => World.cell?_of_block (a := ⟨b, i, none⟩) (k.2 b hb)
  refine ⟨(e _ _ (by simp [Cx.K'])).trans h.x11, (e _ _ (by simp [Cx.K'])).trans h.x15, (e _ _ (by simp [Cx.K'])).trans h.x16, (e _ _ (by simp [Cx.K'])).trans h.x17, (e _ _ (by simp [Cx.K'])).trans h.x18, h.s1.keep ⟨k.1, fun b hb => k.2 b (by simp [Cx.K', hb])⟩, h.s2.keep ⟨k.1, fun b hb => k.2 b (by simp [Cx.K', hb])⟩, fun j x hx => ?_, fun j x hx => ?_⟩
  · obtain ⟨a1, a2, a3⟩ := h.w1 j x hx
    exact ⟨a1, (e _ _ (by simp [Cx.K'])).trans a2, (e _ _ (by simp [Cx.K'])).trans a3⟩
  · obtain ⟨a1, a2, a3⟩ := h.w2 j x hx
    exact ⟨a1, (e _ _ (by simp [Cx.K'])).trans a2, (e _ _ (by simp [Cx.K'])).trans a3⟩
/-- the law at work: k stands in the counter's box -/
def Cx.Live (C : Cx) (n0 : Nat) (w : World) (Ds : List Nat) (k : Nat) (W : World) : Prop :=
  C.Sta W ∧ (∃ a, Arx C.K n0 w W C.g a ∧ a.size = C.n ∧ a.nl = C.l) ∧ (∀ D ∈ Ds, W.heap[D]? = some (.deferred (some []))) ∧ C.b19 ∉ C.K' ∧ n0 ≤ C.b19 ∧ W.cell? ⟨C.b19, 0, none⟩ = some (I k) ∧ W.frozen? ⟨C.b19, 0, none⟩ = false
section
variable {C : Cx} {n0 : Nat} {w W W' : World} {Ds : List Nat} {k : Nat}
theorem Cx.Live.lt (h : C.Live n0 w Ds k W) : ∀ x ∈ C.K, x < W.heap.size := by
  obtain ⟨_, ⟨a, h1, _⟩, _⟩ := h
  exact h1.lt
theorem Cx.Live.keep19 (h : C.Live n0 w Ds k W) (hk : Kq C.K W W') : W'.cell? ⟨C.b19, 0, none⟩ = some (I k) ∧ W'.frozen? ⟨C.b19, 0, none⟩ = false := by
  obtain ⟨_, _, _, _, _, h1, h2⟩ := h
  have e := hk.2 C.b19 (by simp [Cx.K])
  exact ⟨(World.cell?_of_block (a := ⟨C.b19, 0, none⟩) e).trans h1, by rw [World.frozen?, e]; exact h2⟩
theorem Cx.Live.below (h : C.Live n0 w Ds k W) (hb : Below W.heap.size W W') : C.Live n0 w Ds k W' := by
  have hlt := h.lt
  have hk : Kq C.K W W' := Kq.below hb hlt
  have h19 := h.keep19 hk
  obtain ⟨h1, ⟨a, h2, h3⟩, h4, h5, h6, _⟩ := h
  exact ⟨h1.keep ⟨hk.1, fun b hb => hk.2 b (by simp [Cx.K, hb])⟩, ⟨a, h2.below hb, h3⟩, fun D hD => (hb.block D (Array.getElem?_eq_some_iff.1 (h4 D hD)).1).trans (h4 D hD), h5, h6, h19⟩
theorem Cx.Live.own (h : C.Live n0 w Ds k W) {row : Option Nat} (hg : W.grownBy W' row) (hr : ∀ r, row = some r → (n0 ≤ r ∧ r ∉ Ds) ∧ ∃ ob : Obj, W.heap[r]? = some ob ∧ ob.isCells = false) : C.Live n0 w Ds k W' := by
  have h' := h
  obtain ⟨h1, ⟨a, h2, h3⟩, h4, h5, h6, _⟩ := h
  obtain ⟨k1, k2⟩ := h2.own hg (fun r e => ⟨(hr r e).1.1, (hr r e).2⟩)
  exact ⟨h1.keep ⟨k2.1, fun b hb => k2.2 b (by simp [Cx.K, hb])⟩, ⟨a, k1, h3⟩, fun D hD => (hg.block D (Array.getElem?_eq_some_iff.1 (h4 D hD)).1 (fun e => (hr D e.symm).1.2 hD)).trans (h4 D hD), h5, h6, h'.keep19 k2⟩
theorem Cx.Live.set (h : C.Live n0 w Ds k W) (m : Nat) : C.Live n0 w Ds m (W.setCell ⟨C.b19, 0, none⟩ (I m)) := by
  obtain ⟨h1, ⟨a, h2, h3⟩, h4, h5, h6, h7, h8⟩ := h
  refine ⟨h1.keep ⟨by simp [World.setCell], fun b hb => set_other (fun e => h5 (e ▸ hb))⟩, ⟨a, h2.set (by simp [Cx.K]) h6 0 _, h3⟩, fun D hD => ?_, h5, h6, World.cell?_setCell_same' _ _ _ (by rw [h7]; rfl), by rw [World.frozen?_setCell]; exact h8⟩
  rw [set_other (fun e => ?_)]
  · exact h4 D hD
  · subst e
    obtain ⟨cs, T, f, e⟩ := cells_cell h7
    have := h4 _ hD
    rw [e] at this
    cases this
theorem Cx.Live.step (h : C.Live n0 w Ds k W) : ∃ o a, IsAr W C.g o a ∧ a.size = C.n ∧ a.nl = C.l ∧ ∀ a' W', Goes W C.g o a' W' → a'.nl = a.nl → a'.size = a.size → C.Live n0 w Ds k W' ∧ Kq C.K W W' ∧ ∀ B, KeepsFrom B W W' := by
  have h' := h
  obtain ⟨h1, ⟨a, h2, h3, h3'⟩, h4, h5, h6, h7, h8⟩ := h
  obtain ⟨o, k1, k2⟩ := h2.step
  refine ⟨o, a, k1, h3, h3', fun a' W' hG hl hs => ?_⟩
  obtain ⟨m1, m2, m3⟩ := k2 a' W' hG hl
  exact ⟨⟨h1.keep ⟨m2.1, fun b hb => m2.2 b (by simp [Cx.K, hb])⟩, ⟨a', m1, hs.trans h3, hl.trans h3'⟩, fun D hD => (m3 0).same D _ (Nat.zero_le _) (h4 D hD) rfl, h5, h6, h'.keep19 m2⟩, m2, m3⟩
theorem Cx.Live.be (h : C.Live n0 w Ds k W) : Below n0 w W := by
  obtain ⟨_, ⟨a, h2, _⟩, _⟩ := h
  exact h2.be
theorem Cx.Live.from {B : Nat} (hB : n0 ≤ B) (hD : ∀ D ∈ Ds, D < B) {β : Type} (f : β → Nat) : OwnFrom B (fun (s : β) W => C.Live n0 w Ds (f s) W) := by
  intro s W W' row hs hg hr
  exact hs.own hg (fun r e => ⟨⟨Nat.le_trans hB (hr r e).1, fun hm => by have := hD r hm; have := (hr r e).1; omega⟩, (hr r e).2⟩)
theorem Cx.Live.defer (h : C.Live n0 w Ds k W) {D : Nat} (hD : W.heap[D]? = some (.deferred (some []))) : C.Live n0 w (D :: Ds) k W := by
  obtain ⟨h1, h2, h4, h5⟩ := h
  refine ⟨h1, h2, fun E hE => ?_, h5⟩
  rcases List.mem_cons.1 hE with rfl | hE
  · exact hD
  · exact h4 E hE
end
theorem Sq.norm {w : World} {q : Sqv} {d : List (Nat × Int)} (h : Sq w q d) : ∃ q' : Sqv, q'.A = q.A ∧ q'.B = q.B ∧ Sq w q' d ∧ (∀ k ∈ q'.S, k ∈ q.S) ∧ ∀ k ∈ q'.S, ∃ cs T f, w.heap[k]? = some (.cells cs T f) := by
  cases d with
  | nil =>
    have h' : Sq w { q with bn := q.A, bh := q.B } [] := ⟨h.cA, h.cB, fun j x hx => (by simp at hx), fun k hk => by
      simp only [Sqv.S, List.mem_cons, List.not_mem_nil, or_false] at hk
      rcases hk with rfl | rfl | rfl | rfl
      · exact h.lt _ (by simp [Sqv.S])
      · exact h.lt _ (by simp [Sqv.S])
      · exact h.lt _ (by simp [Sqv.S])
      · exact h.lt _ (by simp [Sqv.S]), h.len⟩
    refine ⟨{ q with bn := q.A, bh := q.B }, rfl, rfl, h', fun k hk => ?_, h'.cells (Or.inr ⟨rfl, rfl⟩)⟩
    simp only [Sqv.S, List.mem_cons, List.not_mem_nil, or_false] at hk ⊢
    rcases hk with h | h | h | h
    · exact Or.inl h
    · exact Or.inr (Or.inl h)
    · exact Or.inl h
    · exact Or.inr (Or.inl h)
  | cons x t => exact ⟨q, rfl, rfl, h, fun k hk => hk, h.cells (Or.inl (by simp))⟩
/-- All, its blocks -/
theorem all_cells {w : World} {g : Nat} {o : Lo} {a : As} (h : IsAr w g o a) (l e : Int) : Calls Try.prog 26 #[.pointer (some ⟨g, 0, none⟩), I l, I e] w fun r w' =>
    ∃ q : Sqv, r = .returned (clo q) ∧ Sq w' q ((a.seq l e).map fun x => (x, a.val x)) ∧ (∀ k ∈ q.S, w.heap.size ≤ k ∧ ∃ cs T f, w'.heap[k]? = some (.cells cs T f)) ∧ Below w.heap.size w w' := by
  refine (all_seq h l e).mono ?_
  rintro r w' ⟨q, rfl, h1, h2, h3⟩
  obtain ⟨q', e1, e2, k1, k2, k3⟩ := h1.norm
  exact ⟨q', by rw [clo, e1, e2], k1, fun k hk => ⟨h2 k (k2 k hk), k3 k hk⟩, h3⟩
theorem listed_row {W : World} {base : Nat} {v : Value} {d : List (Nat × Int)} (h : W.ownsRow base 3 1 v (2 * d.length) (lsF d)) (b : Nat) : ∃ ao c r, v = .slice ao (2 * d.length) c ∧ (r = b ∨ (base ≤ r ∧ ∃ cs T f, W.heap[r]? = some (.cells cs T f))) ∧ ∀ (j : Nat) (x : Nat × Int), d[j]? = some x → ao = some ⟨r, 0, none⟩ ∧ W.cell? ⟨r, 2 * j, none⟩ = some (I (x.1 : Nat)) ∧ W.cell? ⟨r, 2 * j + 1, none⟩ = some (I x.2) := by
  obtain ⟨ao, c, e⟩ := own_form h
  by_cases h0 : 0 < d.length
  · obtain ⟨r, c', cur, e1, hb, hh, _⟩ := own_block h (by omega)
    rw [e] at e1
    cases e1
    refine ⟨_, _, r, e, Or.inr ⟨hb, _, _, _, hh⟩, fun j x hx => ?_⟩
    subst e
    have hj := (List.getElem?_eq_some_iff.1 hx).1
    obtain ⟨k1, k2⟩ := lsF_at hx
    refine ⟨rfl, ?_, ?_⟩
    · rw [h.cellAt _ (by omega)]; exact k1
    · rw [h.cellAt _ (by omega)]; exact k2
  · have : d = [] := by
      cases d with
      | nil => rfl
      | cons x t => exact absurd (by simp) h0
    subst this
    exact ⟨ao, c, b, e, Or.inl rfl, fun j x hx => (by simp at hx)⟩
theorem alloc_facts (w : World) (cs : Array Value) (T : TypeId) : (w.alloc (.cells cs T)).heap.size = w.heap.size + 1 ∧ Below w.heap.size w (w.alloc (.cells cs T)) ∧ (w.alloc (.cells cs T)).heap[w.heap.size]? = some (.cells cs T (0, 0)) := ⟨by simp, (Below.refl _ w).alloc (Nat.le_refl _) _, heap_alloc_new w _⟩
theorem box_cell {W : World} {b : Nat} {v : Value} {T : TypeId} (h : W.heap[b]? = some (.cells #[v] T (0, 0))) : W.cell? ⟨b, 0, none⟩ = some v ∧ W.frozen? ⟨b, 0, none⟩ = false := ⟨by simp [World.cell?, h], by simp [World.frozen?, h]⟩
end Go.Proofs.Ytoeioppmlnognaa.Ar
