import Derived.Test.YtkekmmomdhdegaaIxCx
import Derived.Test.YtkekmmomdhdegaaRxAllW
namespace Go.Proofs.Ytkekmmomdhdegaa.Ii
open Go.RowKit Go.Shelf Go.Proofs.Ytkekmmomdhdegaa.Ix Go.Proofs.Ytkekmmomdhdegaa.Rx

theorem own_cells {W : World} {base : Nat} {e : TypeId} {sz : Nat} {v : Value} {n : Nat} {xs : List Value} (h : W.ownsRow base e sz v n xs) (j : Nat) (o : Obj) (hj : v.ownBlock = some j) (ho : W.heap[j]? = some o) : o.isCells = true := by
  rcases h.2 with ⟨e1, _⟩ | ⟨g', cap, cur, e1, _, e3, _⟩
  · rw [e1] at hj; cases hj
  · rw [e1] at hj
    simp only [Value.ownBlock, Option.some.injEq] at hj
    subst hj
    rw [e3] at ho
    cases ho
    rfl
theorem own_keepB {W W' : World} {base n : Nat} {T : TypeId} {v : Value} {xs : List Value} (h : W.ownsRow base T 1 v n xs) (hk : ∀ k, v.ownBlock = some k → W'.heap[k]? = W.heap[k]?) : W'.ownsRow base T 1 v n xs := by
  rcases h with ⟨h1, h2 | ⟨g, cap, cur, rfl, h3, h4, h5⟩⟩
  · exact ⟨h1, Or.inl h2⟩
  · exact ⟨h1, Or.inr ⟨g, cap, cur, rfl, h3, (hk g rfl).trans h4, h5⟩⟩
/-- two rows in boxes, all else as it was -/
structure Kv (w5 : World) (A B : Nat) (W : World) (v1 v2 : Value) (xs ys : List Value) : Prop where
  bA : W.heap[A]? = some (.cells #[v1] 30 (0, 0))
  bB : W.heap[B]? = some (.cells #[v2] 31 (0, 0))
  o1 : W.ownsRow w5.heap.size 22 1 v1 xs.length xs
  o2 : W.ownsRow w5.heap.size 3 1 v2 ys.length ys
  fr : Fr [A, B] w5 W
  hA : A < w5.heap.size
  hB : B < w5.heap.size
section
variable {w5 W W2 : World} {A B : Nat} {v1 v2 v' u : Value} {xs ys : List Value}
theorem Kv.ab (h : Kv w5 A B W v1 v2 xs ys) : A ≠ B := ne_of_type h.bA h.bB (by decide)
theorem Kv.below (h : Kv w5 A B W v1 v2 xs ys) (hb : Below W.heap.size W W2) : Kv w5 A B W2 v1 v2 xs ys :=
  ⟨(hb.block A (Array.getElem?_eq_some_iff.1 h.bA).1).trans h.bA, (hb.block B (Array.getElem?_eq_some_iff.1 h.bB).1).trans h.bB, own_below h.o1 hb, own_below h.o2 hb, h.fr.trans (Fr.of_below (F := []) hb) (fun _ hx => (by cases hx)), h.hA, h.hB⟩
theorem Kv.put1 (h : Kv w5 A B W v1 v2 xs ys) (hg : W.grownBy W2 v1.ownBlock) (ho : W2.ownsRow w5.heap.size 22 1 v' (xs.length + 1) (xs ++ [u])) : W2.heap[A]? = some (.cells #[v1] 30 (0, 0)) ∧ Kv w5 A B (W2.setCell ⟨A, 0, none⟩ v') v' v2 (xs ++ [u]) ys := by
  have hlt : ∀ k, v1.ownBlock = some k → w5.heap.size ≤ k := fun k e => (World.ownsRow.lt h.o1 k e).1
  have eA : W2.heap[A]? = some (.cells #[v1] 30 (0, 0)) := (hg.block A (Array.getElem?_eq_some_iff.1 h.bA).1 (fun e => by have := hlt A e.symm; have := h.hA; omega)).trans h.bA
  have eB : W2.heap[B]? = some (.cells #[v2] 31 (0, 0)) := (hg.block B (Array.getElem?_eq_some_iff.1 h.bB).1 (fun e => by have := hlt B e.symm; have := h.hB; omega)).trans h.bB
  have o2 : W2.ownsRow w5.heap.size 3 1 v2 ys.length ys := own_keepB h.o2 (fun k hk => hg.block k (World.ownsRow.lt h.o2 k hk).2 (fun e => by
    rcases rows_ne h.o1 h.o2 (by decide) with h1 | h1
    · rw [h1] at e; cases e
    · exact h1 (e.symm.trans hk.symm)))
  refine ⟨eA, by rw [set_blk eA]; rfl, by rw [set_other h.ab.symm]; exact eB, own_keepB (by simpa using ho) (fun k hk => set_other (fun e => by have := (World.ownsRow.lt ho k hk).1; have := h.hA; omega)), own_keepB o2 (fun k hk => set_other (fun e => by have := (World.ownsRow.lt o2 k hk).1; have := h.hA; omega)), ?_, h.hA, h.hB⟩
  have f1 : Fr [A, B] w5 W2 := ⟨hg.os.trans h.fr.os, hg.tape.trans h.fr.tape, hg.output.trans h.fr.output, Nat.le_trans h.fr.size hg.size, fun k hk hn => (hg.block k (Nat.lt_of_lt_of_le hk h.fr.size) (fun e => by have := hlt k e.symm; omega)).trans (h.fr.block k hk hn)⟩
  exact f1.trans (Fr.set (F := [A, B]) _ _ _ (by simp)) (fun _ hx => Or.inl hx)
theorem Kv.put2 (h : Kv w5 A B W v1 v2 xs ys) (hg : W.grownBy W2 v2.ownBlock) (ho : W2.ownsRow w5.heap.size 3 1 v' (ys.length + 1) (ys ++ [u])) : W2.heap[B]? = some (.cells #[v2] 31 (0, 0)) ∧ Kv w5 A B (W2.setCell ⟨B, 0, none⟩ v') v1 v' xs (ys ++ [u]) := by
  have hlt : ∀ k, v2.ownBlock = some k → w5.heap.size ≤ k := fun k e => (World.ownsRow.lt h.o2 k e).1
  have eA : W2.heap[A]? = some (.cells #[v1] 30 (0, 0)) := (hg.block A (Array.getElem?_eq_some_iff.1 h.bA).1 (fun e => by have := hlt A e.symm; have := h.hA; omega)).trans h.bA
  have eB : W2.heap[B]? = some (.cells #[v2] 31 (0, 0)) := (hg.block B (Array.getElem?_eq_some_iff.1 h.bB).1 (fun e => by have := hlt B e.symm; have := h.hB; omega)).trans h.bB
  have o1 : W2.ownsRow w5.heap.size 22 1 v1 xs.length xs := own_keepB h.o1 (fun k hk => hg.block k (World.ownsRow.lt h.o1 k hk).2 (fun e => by
    rcases rows_ne h.o2 h.o1 (by decide) with h1 | h1
    · rw [h1] at e; cases e
    · exact h1 (e.symm.trans hk.symm)))
  refine ⟨eB, by rw [set_other h.ab]; exact eA, by rw [set_blk eB]; rfl, own_keepB o1 (fun k hk => set_other (fun e => by have := (World.ownsRow.lt o1 k hk).1; have := h.hB; omega)), own_keepB (by simpa using ho) (fun k hk => set_other (fun e => by have := (World.ownsRow.lt ho k hk).1; have := h.hB; omega)), ?_, h.hA, h.hB⟩
  have f1 : Fr [A, B] w5 W2 := ⟨hg.os.trans h.fr.os, hg.tape.trans h.fr.tape, hg.output.trans h.fr.output, Nat.le_trans h.fr.size hg.size, fun k hk hn => (hg.block k (Nat.lt_of_lt_of_le hk h.fr.size) (fun e => by have := hlt k e.symm; omega)).trans (h.fr.block k hk hn)⟩
  exact f1.trans (Fr.set (F := [A, B]) _ _ _ (by simp)) (fun _ hx => Or.inl hx)
theorem Kv.cells (h : Kv w5 A B W v1 v2 xs ys) : W.cell? ⟨A, 0, none⟩ = some v1 ∧ W.frozen? ⟨A, 0, none⟩ = false ∧ W.cell? ⟨B, 0, none⟩ = some v2 ∧ W.frozen? ⟨B, 0, none⟩ = false := ⟨(box_cell h.bA).1, (box_cell h.bA).2, (box_cell h.bB).1, (box_cell h.bB).2⟩
theorem Kv.kq (h : Kv w5 A B W v1 v2 xs ys) {v1' v2' : Value} {xs' ys' : List Value} (h' : Kv w5 A B W2 v1' v2' xs' ys') (hs : W.heap.size ≤ W2.heap.size) {S : List Nat} (hS : ∀ k ∈ S, k < w5.heap.size ∧ k ≠ A ∧ k ≠ B) : Kq S W W2 :=
  ⟨hs, fun k hk => by
    obtain ⟨h1, h2, h3⟩ := hS k hk
    rw [h'.fr.block k h1 (by simp [h2, h3]), h.fr.block k h1 (by simp [h2, h3])]⟩
end
/-- the rows so far -/
def Kw (w5 : World) (A B : Nat) (l : List (Nat × Int)) (W : World) : Prop := ∃ v1 v2, Kv w5 A B W v1 v2 (kU l) (vI l)
theorem Kw.from {w5 : World} {A B Bn : Nat} (hB : w5.heap.size ≤ Bn) : OwnFrom Bn (fun (s : List (Nat × Int)) W => Kw w5 A B s W) := by
  rintro s W W' row ⟨v1, v2, h⟩ hg hr
  have hne : ∀ k cs T ff, W.heap[k]? = some (.cells cs T ff) → row ≠ some k := fun k cs T ff hk e => by
    obtain ⟨_, o, ho, hc⟩ := hr k e
    rw [hk] at ho
    cases ho
    cases hc
  have hown : ∀ {T : TypeId} {v : Value} {n : Nat} {xs : List Value}, W.ownsRow w5.heap.size T 1 v n xs → W'.ownsRow w5.heap.size T 1 v n xs := fun ho => own_keepB ho (fun k hk => hg.block k (World.ownsRow.lt ho k hk).2 (fun e => by
    obtain ⟨_, o, h1, h2⟩ := hr k e.symm
    have := own_cells ho k o hk h1
    rw [h2] at this
    cases this))
  exact ⟨v1, v2, (hg.block A (Array.getElem?_eq_some_iff.1 h.bA).1 (fun e => hne _ _ _ _ h.bA e.symm)).trans h.bA, (hg.block B (Array.getElem?_eq_some_iff.1 h.bB).1 (fun e => hne _ _ _ _ h.bB e.symm)).trans h.bB, hown h.o1, hown h.o2, ⟨hg.os.trans h.fr.os, hg.tape.trans h.fr.tape, hg.output.trans h.fr.output, Nat.le_trans h.fr.size hg.size, fun k hk hn => (hg.block k (Nat.lt_of_lt_of_le hk h.fr.size) (fun e => by have := (hr k e.symm).1; omega)).trans (h.fr.block k hk hn)⟩, h.hA, h.hB⟩

/-- where the law's things lie -/
structure Cy where
  g : Nat
  bx : Nat
  bk : Nat
  bv : Nat
  bq : Nat
  rk : Nat
  rv : Nat
  q : Sqv
  d : List (Nat × Int)
  pk : Option Addr
  ck : Nat
  pv : Option Addr
  cv : Nat
def Cy.K (C : Cy) : List Nat := [C.bx, C.bk, C.bv, C.bq, C.rk, C.rv] ++ C.q.S
/-- what stays -/
structure Cy.Sta (C : Cy) (W : World) : Prop where
  xx : W.cell? ⟨C.bx, 0, none⟩ = some (.pointer (some ⟨C.g, 0, none⟩))
  xk : W.cell? ⟨C.bk, 0, none⟩ = some (.slice C.pk C.d.length C.ck)
  xv : W.cell? ⟨C.bv, 0, none⟩ = some (.slice C.pv C.d.length C.cv)
  xq : W.cell? ⟨C.bq, 0, none⟩ = some (clo C.q)
  sq : Sq W C.q C.d
  at_ : ∀ (j : Nat) (x : Nat × Int), C.d[j]? = some x → C.pk = some ⟨C.rk, 0, none⟩ ∧ C.pv = some ⟨C.rv, 0, none⟩ ∧ W.cell? ⟨C.rk, j, none⟩ = some (U x.1) ∧ W.cell? ⟨C.rv, j, none⟩ = some (I x.2)
theorem Cy.Sta.keep {C : Cy} {W W' : World} (h : C.Sta W) (k : Kq C.K W W') : C.Sta W' := by
  have e : ∀ b i, b ∈ C.K → W'.cell? ⟨b, i, none⟩ = W.cell? ⟨b, i, none⟩ := fun b i hb => World.cell?_of_block (a := ⟨b, i, none⟩) (k.2 b hb)
  refine ⟨(e _ _ (by simp [Cy.K])).trans h.xx, (e _ _ (by simp [Cy.K])).trans h.xk, (e _ _ (by simp [Cy.K])).trans h.xv, (e _ _ (by simp [Cy.K])).trans h.xq, h.sq.keep ⟨k.1, fun b hb => k.2 b (by simp [Cy.K, hb])⟩, fun j x hx => ?_⟩
  obtain ⟨a1, a2, a3, a4⟩ := h.at_ j x hx
  exact ⟨a1, a2, (e _ _ (by simp [Cy.K])).trans a3, (e _ _ (by simp [Cy.K])).trans a4⟩
/-- the law at work: boxes that count -/
structure Cy.Live (C : Cy) (n0 : Nat) (w : World) (L : List (Nat × Nat)) (Ds : List Nat) (W : World) : Prop where
  sta : C.Sta W
  ix : ∃ a, Ixx (L.map (·.1) ++ C.K) n0 w W C.g a
  ds : ∀ D ∈ Ds, W.heap[D]? = some (.deferred (some []))
  nd : (L.map (·.1)).Nodup
  nk : ∀ x ∈ L, x.1 ∉ C.K ∧ n0 ≤ x.1
  bx : ∀ x ∈ L, W.cell? ⟨x.1, 0, none⟩ = some (I x.2) ∧ W.frozen? ⟨x.1, 0, none⟩ = false
section
variable {C : Cy} {n0 : Nat} {w W W' : World} {Ds : List Nat} {L : List (Nat × Nat)}
theorem Cy.Live.lt (h : C.Live n0 w L Ds W) : ∀ x ∈ L.map (·.1) ++ C.K, x < W.heap.size := by
  obtain ⟨a, h1⟩ := h.ix
  exact h1.lt
theorem Cy.Live.be (h : C.Live n0 w L Ds W) : Below n0 w W := by
  obtain ⟨a, h1⟩ := h.ix
  exact h1.be
theorem Cy.Live.base (h : C.Live n0 w L Ds W) : n0 ≤ w.heap.size := by
  obtain ⟨a, h1⟩ := h.ix
  exact h1.base
theorem Cy.Live.boxes (h : C.Live n0 w L Ds W) (hk : Kq (L.map (·.1) ++ C.K) W W') : C.Sta W' ∧ ∀ x ∈ L, W'.cell? ⟨x.1, 0, none⟩ = some (I x.2) ∧ W'.frozen? ⟨x.1, 0, none⟩ = false := by
  refine ⟨h.sta.keep ⟨hk.1, fun b hb => hk.2 b (List.mem_append.2 (Or.inr hb))⟩, fun x hx => ?_⟩
  have e := hk.2 x.1 (List.mem_append.2 (Or.inl (List.mem_map.2 ⟨x, hx, rfl⟩)))
  obtain ⟨h1, h2⟩ := h.bx x hx
  exact ⟨(World.cell?_of_block (a := ⟨x.1, 0, none⟩) e).trans h1, by rw [World.frozen?, e]; exact h2⟩
theorem Cy.Live.below (h : C.Live n0 w L Ds W) (hb : Below W.heap.size W W') : C.Live n0 w L Ds W' := by
  have hk : Kq (L.map (·.1) ++ C.K) W W' := Kq.below hb h.lt
  obtain ⟨s, b⟩ := h.boxes hk
  obtain ⟨a, h1⟩ := h.ix
  exact ⟨s, ⟨a, h1.below hb⟩, fun D hD => (hb.block D (Array.getElem?_eq_some_iff.1 (h.ds D hD)).1).trans (h.ds D hD), h.nd, h.nk, b⟩
theorem Cy.Live.own (h : C.Live n0 w L Ds W) {row : Option Nat} (hg : W.grownBy W' row) (hr : ∀ r, row = some r → (n0 ≤ r ∧ r ∉ Ds) ∧ ∃ ob : Obj, W.heap[r]? = some ob ∧ ob.isCells = false) : C.Live n0 w L Ds W' := by
  obtain ⟨a, h1⟩ := h.ix
  obtain ⟨k1, k2⟩ := h1.own hg (fun r e => ⟨(hr r e).1.1, (hr r e).2⟩)
  obtain ⟨s, b⟩ := h.boxes k2
  exact ⟨s, ⟨a, k1⟩, fun D hD => (hg.block D (Array.getElem?_eq_some_iff.1 (h.ds D hD)).1 (fun e => (hr D e.symm).1.2 hD)).trans (h.ds D hD), h.nd, h.nk, b⟩
theorem Cy.Live.step (h : C.Live n0 w L Ds W) : ∃ o a, IsIx W C.g o a ∧ ∀ a' W', Goes W C.g o a' W' → C.Live n0 w L Ds W' ∧ Kq (L.map (·.1) ++ C.K) W W' ∧ ∀ B, KeepsFrom B W W' := by
  obtain ⟨a, h1⟩ := h.ix
  obtain ⟨o, k1, k2⟩ := h1.step
  refine ⟨o, a, k1, fun a' W' hG => ?_⟩
  obtain ⟨m1, m2, m3⟩ := k2 a' W' hG
  obtain ⟨s, b⟩ := h.boxes m2
  exact ⟨⟨s, ⟨a', m1⟩, fun D hD => (m3 0).same D _ (Nat.zero_le _) (h.ds D hD) rfl, h.nd, h.nk, b⟩, m2, m3⟩
theorem Cy.Live.from {B : Nat} (hB : n0 ≤ B) (hD : ∀ D ∈ Ds, D < B) {β : Type} (f : β → List (Nat × Nat)) : OwnFrom B (fun (s : β) W => C.Live n0 w (f s) Ds W) := by
  intro s W W' row hs hg hr
  exact hs.own hg (fun r e => ⟨⟨Nat.le_trans hB (hr r e).1, fun hm => by have := hD r hm; have := (hr r e).1; omega⟩, (hr r e).2⟩)
theorem Cy.Live.defer (h : C.Live n0 w L Ds W) {D : Nat} (hD : W.heap[D]? = some (.deferred (some []))) : C.Live n0 w L (D :: Ds) W :=
  ⟨h.sta, h.ix, fun E hE => by
    rcases List.mem_cons.1 hE with rfl | hE
    · exact hD
    · exact h.ds E hE, h.nd, h.nk, h.bx⟩
/-- a new box -/
theorem Cy.Live.more (h : C.Live n0 w L Ds W) (v : Nat) : C.Live n0 w ((W.heap.size, v) :: L) Ds (W.alloc (.cells #[I v] 3)) := by
  obtain ⟨z, b, n⟩ := alloc_facts W #[I v] 3
  have h' := h.below b
  have hlt := h.lt
  obtain ⟨a, h1⟩ := h.ix
  refine ⟨h'.sta, ⟨a, (h1.more b (S := [W.heap.size]) (fun k hk => ?_))⟩, h'.ds, ?_, fun x hx => ?_, fun x hx => ?_⟩
  · have : k = W.heap.size := by simpa using hk
    subst this
    exact ⟨Nat.le_refl _, _, _, _, n⟩
  · rw [List.map_cons, List.nodup_cons]
    exact ⟨fun hm => by have := hlt _ (List.mem_append.2 (Or.inl hm)); dsimp at this; omega, h.nd⟩
  · rcases List.mem_cons.1 hx with rfl | hx
    · exact ⟨fun hm => by have := hlt _ (List.mem_append.2 (Or.inr hm)); dsimp at this; omega, Nat.le_trans h.base h.be.size⟩
    · exact h.nk x hx
  · rcases List.mem_cons.1 hx with rfl | hx
    · exact box_cell n
    · exact h'.bx x hx
/-- the first box is written -/
theorem Cy.Live.set {b k : Nat} (h : C.Live n0 w ((b, k) :: L) Ds W) (m : Nat) : C.Live n0 w ((b, m) :: L) Ds (W.setCell ⟨b, 0, none⟩ (I m)) := by
  obtain ⟨hc, hf⟩ := h.bx (b, k) (by simp)
  obtain ⟨n1, n2⟩ := h.nk (b, k) (by simp)
  obtain ⟨a, h1⟩ := h.ix
  have hnd := h.nd
  rw [List.map_cons, List.nodup_cons] at hnd
  dsimp only at hc hf n1 n2 hnd
  have ho : ∀ x, x ≠ b → (W.setCell ⟨b, 0, none⟩ (I m)).heap[x]? = W.heap[x]? := fun x hx => set_other hx
  refine ⟨h.sta.keep ⟨by simp [World.setCell], fun x hx => ho x (fun e => n1 (e ▸ hx))⟩, ⟨a, h1.set (by simp) n2 0 _⟩, fun D hD => ?_, h.nd, fun x hx => ?_, fun x hx => ?_⟩
  · rw [ho D (fun e => ?_)]
    · exact h.ds D hD
    · subst e
      obtain ⟨cs, T, f, e⟩ := cells_cell hc
      have := h.ds _ hD
      rw [e] at this
      cases this
  · rcases List.mem_cons.1 hx with rfl | hx
    · exact ⟨n1, n2⟩
    · exact h.nk x (by simp [hx])
  · rcases List.mem_cons.1 hx with rfl | hx
    · exact ⟨World.cell?_setCell_same' _ _ _ (by rw [hc]; rfl), by rw [World.frozen?_setCell]; exact hf⟩
    · have hne : x.1 ≠ b := fun e => hnd.1 (e ▸ List.mem_map.2 ⟨x, hx, rfl⟩)
      obtain ⟨a1, a2⟩ := h.bx x (by simp [hx])
      exact ⟨(World.cell?_of_block (a := ⟨x.1, 0, none⟩) (ho _ hne)).trans a1, by rw [World.frozen?, ho _ hne]; exact a2⟩
/-- a box is left -/
theorem Cy.Live.drop {x : Nat × Nat} (h : C.Live n0 w (x :: L) Ds W) : C.Live n0 w L Ds W := by
  obtain ⟨a, h1⟩ := h.ix
  refine ⟨h.sta, ⟨a, h1.mono (fun k hk => by simp at hk ⊢; exact Or.inr hk)⟩, h.ds, ?_, fun y hy => h.nk y (by simp [hy]), fun y hy => h.bx y (by simp [hy])⟩
  have hnd := h.nd
  rw [List.map_cons, List.nodup_cons] at hnd
  exact hnd.2
theorem Cy.Live.round {b k : Nat} {V : World} {B : Nat} (h : C.Live n0 w ((b, k) :: L) Ds W) (F : KeepsFrom B V W) (K : Kq C.q.S V W) :
    KeepsFrom B V (W.setCell ⟨b, 0, none⟩ (.int .i64 ((k : Int) + 1))) ∧ Kq C.q.S V (W.setCell ⟨b, 0, none⟩ (.int .i64 ((k : Int) + 1))) ∧ C.Live n0 w ((b, k + 1) :: L) Ds (W.setCell ⟨b, 0, none⟩ (.int .i64 ((k : Int) + 1))) := by
  have n1 := (h.nk (b, k) (by simp)).1
  dsimp only at n1
  refine ⟨F.trans ((KeepsOthers.setCell _ _ _).from _), ⟨by have := K.1; simpa [World.setCell] using this, fun x hx => ?_⟩, h.set (k + 1)⟩
  rw [set_other (fun e => n1 (by rw [← e]; simp [Cy.K, hx]))]
  exact K.2 x hx
end
theorem row_at {W : World} {base : Nat} {T : TypeId} {v : Value} {xs : List Value} (h : W.ownsRow base T 1 v xs.length xs) (b : Nat) : ∃ ao c r, v = .slice ao xs.length c ∧ (r = b ∨ (base ≤ r ∧ ∃ cs T f, W.heap[r]? = some (.cells cs T f))) ∧ ∀ (j : Nat) (x : Value), xs[j]? = some x → ao = some ⟨r, 0, none⟩ ∧ W.cell? ⟨r, j, none⟩ = some x := by
  obtain ⟨p, c, rfl, hp⟩ := own_form h
  by_cases h0 : 0 < xs.length
  · obtain ⟨g, rfl⟩ := hp h0
    obtain ⟨_, _, _, hb, cur, hg⟩ := own_put (j := 0) (v := .bool true) h h0
    exact ⟨_, c, g, rfl, Or.inr ⟨hb, _, _, _, hg⟩, fun j x hx => ⟨rfl, (own_at h (List.getElem?_eq_some_iff.1 hx).1).trans hx⟩⟩
  · exact ⟨p, c, b, rfl, Or.inl rfl, fun j x hx => absurd (List.getElem?_eq_some_iff.1 hx).1 (by omega)⟩
theorem setup {g n0 bx A B bq : Nat} {a : Ix El} {w1 wc w7 W : World} {q : Sqv} {d : List (Nat × Int)} {v1 v2 : Value}
    (hA : Ixx [bx] n0 w1 wc g a) (hx : wc.cell? ⟨bx, 0, none⟩ = some (.pointer (some ⟨g, 0, none⟩))) (b7 : Below wc.heap.size wc w7) (hq : Sq w7 q d)
    (hS : ∀ k ∈ q.S, wc.heap.size ≤ k ∧ k ≠ A ∧ k ≠ B ∧ ∃ cs T f, w7.heap[k]? = some (.cells cs T f)) (hbq : w7.heap[bq]? = some (.cells #[clo q] 59 (0, 0))) (hq0 : wc.heap.size ≤ bq) (hqA : bq ≠ A) (hqB : bq ≠ B)
    (hAw : wc.heap.size ≤ A) (hBw : wc.heap.size ≤ B) (hK : Kv w7 A B W v1 v2 (kU d) (vI d)) :
    ∃ C : Cy, g = C.g ∧ bx = C.bx ∧ A = C.bk ∧ B = C.bv ∧ bq = C.bq ∧ q = C.q ∧ d = C.d ∧ v1 = .slice C.pk d.length C.ck ∧ v2 = .slice C.pv d.length C.cv ∧ C.Live n0 w1 [] [] W ∧ ∃ o, IsIx W g o a := by
  obtain ⟨pk, ck, rk, e1, hr1, hw1⟩ := row_at hK.o1 A
  obtain ⟨pv, cv, rv, e2, hr2, hw2⟩ := row_at hK.o2 A
  have hfr : Fr [A, B] wc W := (Fr.of_below b7).trans hK.fr (fun _ hx => Or.inl hx)
  have hlt := hA.lt bx (by simp)
  have hs7 := b7.size
  obtain ⟨o, hM, hf, hcl⟩ := hA
  have hfl := hM.1.1.foot_lt
  have hk7 : ∀ k, k < w7.heap.size → k ≠ A → k ≠ B → W.heap[k]? = w7.heap[k]? := fun k hk h1 h2 => hK.fr.block k hk (by simp [h1, h2])
  have hbx : W.heap[bx]? = wc.heap[bx]? := hfr.block bx hlt (by simp; omega)
  have hAc : ∃ cs T f, W.heap[A]? = some (.cells cs T f) := ⟨_, _, _, hK.bA⟩
  have hn : n0 ≤ wc.heap.size := Nat.le_trans hM.2.2.2 hM.2.1.size
  have hql := (Array.getElem?_eq_some_iff.1 hbq).1
  have hI : IsIx W g o a := hM.1.kept hfr (fun k hk => by have := hfl k hk; simp; omega)
  refine ⟨⟨g, bx, A, B, bq, rk, rv, q, d, pk, ck, pv, cv⟩, rfl, rfl, rfl, rfl, rfl, rfl, rfl, by simpa using e1, by simpa using e2, ⟨⟨?_, ?_, ?_, ?_, ?_, fun j x hx => ?_⟩, ⟨a, o, ⟨hI, fr_below hfr hM.2.1 (fun k hk => ?_) hM.2.2.2, hM.2.2.1, hM.2.2.2⟩, fun k hk hm => ?_, fun k hk => ?_⟩, fun D hD => (by cases hD), by simp, fun x hx => (by cases hx), fun x hx => (by cases hx)⟩, o, hI⟩
  · exact (World.cell?_of_block (a := ⟨bx, 0, none⟩) hbx).trans hx
  · have := hK.cells.1
    rw [e1] at this
    simpa using this
  · have := hK.cells.2.2.1
    rw [e2] at this
    simpa using this
  · exact (box_cell ((hk7 bq hql hqA hqB).trans hbq)).1
  · exact hq.keep ⟨hK.fr.size, fun k hk => hk7 k (hq.lt k hk) (hS k hk).2.1 (hS k hk).2.2.1⟩
  · have k1 := hw1 j (U x.1) (by rw [List.getElem?_map]; dsimp only at hx; rw [hx]; rfl)
    have k2 := hw2 j (I x.2) (by rw [List.getElem?_map]; dsimp only at hx; rw [hx]; rfl)
    exact ⟨k1.1, k2.1, k1.2, k2.2⟩
  · have : k = A ∨ k = B := by simpa using hk
    omega
  · have hkl := hfl k hk
    simp only [Cy.K, List.map_nil, List.nil_append, List.mem_append, List.mem_cons, List.not_mem_nil, or_false] at hm
    rcases hm with (h | h | h | h | h | h) | h
    · exact hf k hk (by simp [h])
    · omega
    · omega
    · omega
    · rcases hr1 with h1 | ⟨h1, _⟩ <;> omega
    · rcases hr2 with h1 | ⟨h1, _⟩ <;> omega
    · have := (hS k h).1
      omega
  · simp only [Cy.K, List.map_nil, List.nil_append, List.mem_append, List.mem_cons, List.not_mem_nil, or_false] at hk
    rcases hk with (h | h | h | h | h | h) | h
    · obtain ⟨cs, T, f, e⟩ := hcl bx (by simp)
      rw [h]
      exact ⟨cs, T, f, hbx.trans e⟩
    · rw [h]; exact hAc
    · rw [h]; exact ⟨_, _, _, hK.bB⟩
    · rw [h]; exact ⟨_, _, _, (hk7 bq hql hqA hqB).trans hbq⟩
    · rw [h]
      rcases hr1 with h1 | ⟨_, h1⟩
      · rw [h1]; exact hAc
      · exact h1
    · rw [h]
      rcases hr2 with h1 | ⟨_, h1⟩
      · rw [h1]; exact hAc
      · exact h1
    · obtain ⟨_, h2, h3, cs, T, f, e⟩ := hS k h
      exact ⟨cs, T, f, (hk7 k (hq.lt k h) h2 h3).trans e⟩
/-- what a round of the outer range may have turned -/
def Cy.Aft (C : Cy) (n0 : Nat) (w : World) (L : List (Nat × Nat)) (Ds : List Nat) (B : Nat) (W V : World) : Prop := C.Live n0 w L Ds V ∧ KeepsFrom B W V ∧ Kq C.q.S W V
section
variable {C : Cy} {n0 B : Nat} {w W V V' : World} {Ds : List Nat} {L : List (Nat × Nat)}
theorem Cy.Aft.below (h : C.Aft n0 w L Ds B W V) (hb : Below V.heap.size V V') (hf : KeepsFrom B V V') : C.Aft n0 w L Ds B W V' := by
  obtain ⟨h1, h2, h3⟩ := h
  exact ⟨h1.below hb, h2.trans hf, h3.trans (Kq.below hb (fun k hk => h1.lt k (List.mem_append.2 (Or.inr (by simp [Cy.K, hk])))))⟩
theorem Cy.Aft.step (h : C.Aft n0 w L Ds B W V) : ∃ o a, IsIx V C.g o a ∧ ∀ a' V', Goes V C.g o a' V' → C.Aft n0 w L Ds B W V' := by
  obtain ⟨h1, h2, h3⟩ := h
  obtain ⟨o, a, k1, k2⟩ := h1.step
  refine ⟨o, a, k1, fun a' V' hG => ?_⟩
  obtain ⟨m1, m2, m3⟩ := k2 a' V' hG
  exact ⟨m1, h2.trans (m3 B), h3.trans ⟨m2.1, fun k hk => m2.2 k (List.mem_append.2 (Or.inr (by simp [Cy.K, hk])))⟩⟩
end
theorem loop_by {F : Fence} {n : Nat} {P : Program} {c : Code} {Q : Exit → Act → World → Prop} (m : Nat) (I : Nat → Act → World → Prop) (h : ∀ k a w, I k a w → k < m → c.wpIn F n P (Exit.then (fun a' w' => I (k + 1) a' w' ∧ k + 1 < m) Q) a w) (a : Act) (w : World) (h0 : I 0 a w) (hm : 0 < m) :
    (Code.loop c).wpIn F n P Q a w := by
  have key : ∀ j k a w, k + j + 1 = m → I k a w → Code.roundsIn F n P c Q (j + 1) a w := by
    intro j
    induction j with
    | zero =>
      intro k a w e hi
      rw [roundsIn_succ]
      refine wpIn_mono (h k a w hi (by omega)) ?_
      intro e a w hp
      cases e with
      | normal => exact absurd hp.2 (by omega)
      | _ => exact hp
    | succ j ih =>
      intro k a w e hi
      rw [roundsIn_succ]
      refine wpIn_mono (h k a w hi (by omega)) ?_
      intro e a w hp
      cases e with
      | normal => exact ih (k + 1) a w (by omega) hp.1
      | _ => exact hp
  exact wpIn_loop_rounds (m - 1 + 1) (key (m - 1) 0 a w (by omega) h0)
/-- a mark of a range -/
abbrev mk (D : Nat) : Deferred := { target := .collected D, args := #[] }
/-- the marks of the ranges so far -/
structure Marks (n0 k : Nat) (Ds : List Nat) (W : World) : Prop where
  len : Ds.length = k + 1
  srt : Ds.Pairwise (· > ·)
  at_ : ∀ D ∈ Ds, n0 ≤ D ∧ D < W.heap.size
theorem Marks.next {n0 k D : Nat} {Ds : List Nat} {W V : World} (h : Marks n0 k Ds W) (hD : W.heap.size ≤ D) (hn : n0 ≤ W.heap.size) (hV : D < V.heap.size) : Marks n0 (k + 1) (D :: Ds) V :=
  ⟨by simp [h.len], List.pairwise_cons.2 ⟨fun E hE => by have := (h.at_ E hE).2; omega, h.srt⟩, fun E hE => by
    rcases List.mem_cons.1 hE with rfl | hE
    · exact ⟨by omega, hV⟩
    · have := h.at_ E hE
      exact ⟨this.1, by omega⟩⟩
theorem Marks.size {n0 k : Nat} {Ds : List Nat} {W V : World} (h : Marks n0 k Ds W) (hs : W.heap.size ≤ V.heap.size) : Marks n0 k Ds V :=
  ⟨h.len, h.srt, fun D hD => ⟨(h.at_ D hD).1, Nat.lt_of_lt_of_le (h.at_ D hD).2 hs⟩⟩
theorem Cy.Live.drop2 {C : Cy} {n0 : Nat} {w W : World} {Ds : List Nat} {L : List (Nat × Nat)} {x y : Nat × Nat} (h : C.Live n0 w (x :: y :: L) Ds W) : C.Live n0 w (x :: L) Ds W := by
  obtain ⟨a, h1⟩ := h.ix
  have hs : ∀ z, z ∈ x :: L → z ∈ x :: y :: L := fun z hz => by simp at hz ⊢; rcases hz with h | h <;> simp [h]
  refine ⟨h.sta, ⟨a, h1.mono (fun k hk => by simp at hk ⊢; rcases hk with h | h | h <;> simp [h])⟩, h.ds, ?_, fun z hz => h.nk z (hs z hz), fun z hz => h.bx z (hs z hz)⟩
  have hnd := h.nd
  simp only [List.map_cons, List.nodup_cons, List.mem_cons, not_or] at hnd ⊢
  exact ⟨hnd.1.2, hnd.2.2⟩
end Go.Proofs.Ytkekmmomdhdegaa.Ii
