import Derived.Test.YtjcbpejplnaakaaGreatMdPush
namespace Go.Proofs.YtjcbpejplnaakaaGreat.Mb
open Go.RowKit Go.Maps Go.Proofs.YtjcbpejplnaakaaGreat.Nm Go.Proofs.YtjcbpejplnaakaaGreat.Md

def upH (f : Nat → Bool) (i : Nat) (v : Bool) : Nat → Bool := fun j => if j = i then v else f j
theorem upH_same (f : Nat → Bool) (i : Nat) (v : Bool) : upH f i v i = v := by simp [upH]
theorem upH_ne {f : Nat → Bool} {i j : Nat} {v : Bool} (h : j ≠ i) : upH f i v j = f j := by simp [upH, h]
/-- a row in memory, at place o of block g -/
structure Mem (w : World) (g o : Nat) (L : Lo) (c : Rs) (hd : Nat → Bool) (m : Nat → Option Int) (k : Nat) : Prop where
  row : ∃ cs T, w.heap[g]? = some (.cells cs T (0, 0)) ∧ cs[o]? = some (.slice (some ⟨L.nb, 0, none⟩) c.n L.cap) ∧ cs[o + 1]? = some (.map (some L.mb)) ∧ cs[o + 2]? = some (I c.freed)
  nds : ∃ cs, w.heap[L.nb]? = some (.cells cs 124 (0, 0)) ∧ cs.size = L.cap * 4 ∧ ∀ j, j < c.n → cs[j * 4]? = some (U (c.key j)) ∧ cs[j * 4 + 1]? = some (Value.bool (hd j)) ∧ cs[j * 4 + 2]? = some (I (c.ah j)) ∧ cs[j * 4 + 3]? = some (I (c.be j))
  book : IsBk w L.mb m k
  ne : g ≠ L.nb
  cap : c.n ≤ L.cap
  capm : L.cap ≤ maxLen
/-- a row at work: since w0 only blocks of F have turned, and of g only the row's own cells -/
structure Mf (w0 w : World) (g o : Nat) (F : List Nat) (L : Lo) (c : Rs) (hd : Nat → Bool) (m : Nat → Option Int) (k : Nat) : Prop where
  mem : Mem w g o L c hd m k
  fr : Fr F w0 w
  rest : ∀ j, (j < o ∨ o + 3 ≤ j) → w.cell? ⟨g, j, none⟩ = w0.cell? ⟨g, j, none⟩
  inF : ∀ x ∈ foot g L, x ∈ F ∨ w0.heap.size ≤ x

section
variable {w w' w0 : World} {g o : Nat} {F G : List Nat} {L : Lo} {c : Rs} {hd : Nat → Bool} {m : Nat → Option Int} {k : Nat}
theorem Mem.gm (h : Mem w g o L c hd m k) : g ≠ L.mb := by
  obtain ⟨cs, T, h1, _⟩ := h.row
  exact h.book.ne_cells h1
theorem Mem.nm (h : Mem w g o L c hd m k) : L.nb ≠ L.mb := by
  obtain ⟨cs, h1, _⟩ := h.nds
  exact h.book.ne_cells h1
theorem Mem.lt (h : Mem w g o L c hd m k) : ∀ x ∈ foot g L, x < w.heap.size := by
  intro x hx
  obtain ⟨cs, T, h1, _⟩ := h.row
  obtain ⟨cs2, h2, _⟩ := h.nds
  simp only [foot, List.mem_cons, List.not_mem_nil, or_false] at hx
  rcases hx with rfl | rfl | rfl
  · exact blk_lt h1
  · exact blk_lt h2
  · exact h.book.lt
theorem Mem.same (h : Mem w g o L c hd m k) (hb : ∀ x ∈ foot g L, w'.heap[x]? = w.heap[x]?) : Mem w' g o L c hd m k := by
  obtain ⟨cs, T, h1, h2⟩ := h.row
  obtain ⟨cs2, h3, h4⟩ := h.nds
  exact ⟨⟨cs, T, (hb g (by simp [foot])).trans h1, h2⟩, ⟨cs2, (hb L.nb (by simp [foot])).trans h3, h4⟩, h.book.same (hb L.mb (by simp [foot])), h.ne, h.cap, h.capm⟩
theorem Mem.kept (h : Mem w g o L c hd m k) (hf : Fr G w w') (hdj : ∀ x ∈ foot g L, x ∉ G) : Mem w' g o L c hd m k := h.same fun x hx => hf.block x (h.lt x hx) (hdj x hx)
theorem Mem.below (h : Mem w g o L c hd m k) (hb : Below w.heap.size w w') : Mem w' g o L c hd m k := h.same fun x hx => hb.block x (h.lt x hx)
theorem Mem.cellsR (h : Mem w g o L c hd m k) : w.cell? ⟨g, o, none⟩ = some (.slice (some ⟨L.nb, 0, none⟩) c.n L.cap) ∧ w.cell? ⟨g, o + 1, none⟩ = some (.map (some L.mb)) ∧ w.cell? ⟨g, o + 2, none⟩ = some (I c.freed) ∧ ∀ j, w.frozen? ⟨g, j, none⟩ = false := by
  obtain ⟨cs, T, h1, h2, h3, h4⟩ := h.row
  exact ⟨by simp [World.cell?, h1, h2], by simp [World.cell?, h1, h3], by simp [World.cell?, h1, h4], fun j => by simp [World.frozen?, h1]⟩
theorem Mem.cellsN (h : Mem w g o L c hd m k) {x : Nat} (hx : x < c.n) : w.cell? ⟨L.nb, x * 4, none⟩ = some (U (c.key x)) ∧ w.cell? ⟨L.nb, x * 4 + 1, none⟩ = some (Value.bool (hd x)) ∧ w.cell? ⟨L.nb, x * 4 + 2, none⟩ = some (I (c.ah x)) ∧ w.cell? ⟨L.nb, x * 4 + 3, none⟩ = some (I (c.be x)) ∧ ∀ j, w.frozen? ⟨L.nb, j, none⟩ = false := by
  obtain ⟨cs, h1, _, h2⟩ := h.nds
  obtain ⟨k1, kh, k2, k3⟩ := h2 x hx
  exact ⟨by simp [World.cell?, h1, k1], by simp [World.cell?, h1, kh], by simp [World.cell?, h1, k2], by simp [World.cell?, h1, k3], fun j => by simp [World.frozen?, h1]⟩
/-- a node's cell is written -/
theorem Mem.putN (h : Mem w g o L c hd m k) {x f : Nat} (v : Value) (c' : Rs) (hd' : Nat → Bool) (hn : c'.n = c.n) (hfr : c'.freed = c.freed)
    (h4 : ∀ y, y < c.n → U (c'.key y) = (if x * 4 + f = y * 4 then v else U (c.key y)) ∧ (Value.bool (hd' y)) = (if x * 4 + f = y * 4 + 1 then v else (Value.bool (hd y))) ∧ I (c'.ah y) = (if x * 4 + f = y * 4 + 2 then v else I (c.ah y)) ∧ I (c'.be y) = (if x * 4 + f = y * 4 + 3 then v else I (c.be y))) : Mem (w.setCell ⟨L.nb, x * 4 + f, none⟩ v) g o L c' hd' m k := by
  obtain ⟨cs, T, h1, h2⟩ := h.row
  obtain ⟨cs2, h3, h5, h6⟩ := h.nds
  refine ⟨⟨cs, T, by rw [set_other h.ne]; exact h1, by rw [hn, hfr]; exact h2⟩, ⟨_, set_blk h3, by simpa using h5, fun j hj => ?_⟩, h.book.same (set_other h.nm.symm), h.ne, by rw [hn]; exact h.cap, h.capm⟩
  rw [hn] at hj
  obtain ⟨q1, qh, q2, q3⟩ := h6 j hj
  obtain ⟨p1, ph, p2, p3⟩ := h4 j hj
  rw [set_get q1, set_get qh, set_get q2, set_get q3, p1, ph, p2, p3]
  exact ⟨rfl, rfl, rfl, rfl⟩
/-- a cell of the row itself -/
theorem Mem.putR (h : Mem w g o L c hd m k) {i : Nat} (v : Value) (c' : Rs) (L' : Lo) (hk : c'.key = c.key) (ha : c'.ah = c.ah) (hb : c'.be = c.be) (hn : c'.n = c.n) (hL : L' = L)
    (h1 : (.slice (some ⟨L.nb, 0, none⟩) c.n L.cap : Value) = (if i = 0 then v else .slice (some ⟨L.nb, 0, none⟩) c.n L.cap)) (h2 : (.map (some L.mb) : Value) = if i = 1 then v else .map (some L.mb)) (h3 : I c'.freed = if i = 2 then v else I c.freed) : Mem (w.setCell ⟨g, o + i, none⟩ v) g o L' c' hd m k := by
  subst hL
  obtain ⟨cs, T, q1, q2, q3, q4⟩ := h.row
  obtain ⟨cs2, p3, p5, p6⟩ := h.nds
  refine ⟨⟨_, T, set_blk q1, ?_, ?_, ?_⟩, ⟨cs2, by rw [set_other h.ne.symm]; exact p3, p5, by rw [hk, ha, hb, hn]; exact p6⟩, h.book.same (set_other h.gm.symm), h.ne, by rw [hn]; exact h.cap, h.capm⟩
  · rw [set_get q2, hn, h1]
    have : (o + i = o) = (i = 0) := by simp
    simp only [this]
    split <;> rfl
  · rw [set_get q3, h2]
    have : (o + i = o + 1) = (i = 1) := by simp
    simp only [this]
    split <;> rfl
  · rw [set_get q4, h3]
    have : (o + i = o + 2) = (i = 2) := by simp
    simp only [this]
theorem Mf.base (h : Mem w g o L c hd m k) : Mf w w g o (foot g L) L c hd m k := ⟨h, Fr.refl _ _, fun _ _ => rfl, fun _ hx => Or.inl hx⟩
theorem Mf.below (h : Mf w0 w g o F L c hd m k) (hb : Below w.heap.size w w') : Mf w0 w' g o F L c hd m k :=
  ⟨h.mem.below hb, h.fr.trans (F' := []) (Fr.of_below hb) (by simp), fun j hj => (cell_blk (hb.block g (h.mem.lt g (by simp [foot]))) j).trans (h.rest j hj), h.inF⟩
theorem Mf.drewN (h : Mf w0 w g o F L c hd m k) (n : Nat) : Mf w0 (w.drewN n) g o F L c hd m k := h.below (Go.Proofs.YtjcbpejplnaakaaGreat.Nm.below_drewN w n)
theorem Mf.drew (h : Mf w0 w g o F L c hd m k) : Mf w0 w.drew g o F L c hd m k := h.below (Below.refl _ w).drew
theorem Mf.setFr (h : Mf w0 w g o F L c hd m k) {b : Nat} (hb : b ∈ foot g L) (i : Nat) (v : Value) : Fr F w0 (w.setCell ⟨b, i, none⟩ v) := by
  refine ⟨h.fr.os, h.fr.tape, h.fr.output, by simpa [World.setCell] using h.fr.size, fun x hx hF => ?_⟩
  rw [set_other ?_]
  · exact h.fr.block x hx hF
  · rintro rfl
    rcases h.inF x hb with e | e
    · exact hF e
    · omega
theorem Mf.putN (h : Mf w0 w g o F L c hd m k) {x f : Nat} (v : Value) (c' : Rs) (hd' : Nat → Bool) (hn : c'.n = c.n) (hfr : c'.freed = c.freed)
    (h4 : ∀ y, y < c.n → U (c'.key y) = (if x * 4 + f = y * 4 then v else U (c.key y)) ∧ (Value.bool (hd' y)) = (if x * 4 + f = y * 4 + 1 then v else (Value.bool (hd y))) ∧ I (c'.ah y) = (if x * 4 + f = y * 4 + 2 then v else I (c.ah y)) ∧ I (c'.be y) = (if x * 4 + f = y * 4 + 3 then v else I (c.be y))) : Mf w0 (w.setCell ⟨L.nb, x * 4 + f, none⟩ v) g o F L c' hd' m k :=
  ⟨h.mem.putN v c' hd' hn hfr h4, h.setFr (by simp [foot]) _ _, fun j hj => (cell_blk (set_other h.mem.ne) j).trans (h.rest j hj), h.inF⟩
theorem ite_upH {f : Nat → Bool} {x y : Nat} {v : Bool} {p : Prop} [Decidable p] (h : p ↔ y = x) : (Value.bool (upH f x v y)) = if p then (Value.bool (v)) else (Value.bool (f y)) := by
  unfold upH
  by_cases e : y = x
  · rw [if_pos e, if_pos (h.2 e)]
  · rw [if_neg e, if_neg (fun q => e (h.1 q))]
theorem Mf.putKey (h : Mf w0 w g o F L c hd m k) (x v : Nat) : Mf w0 (w.setCell ⟨L.nb, x * 4, none⟩ (U v)) g o F L { c with key := up c.key x v } hd m k :=
  h.putN (f := 0) _ _ _ rfl rfl fun y _ => ⟨ite_upU (by omega), by rw [if_neg (by omega)], by rw [if_neg (by omega)], by rw [if_neg (by omega)]⟩
theorem Mf.putHd (h : Mf w0 w g o F L c hd m k) (x : Nat) (v : Bool) : Mf w0 (w.setCell ⟨L.nb, x * 4 + 1, none⟩ (Value.bool (v))) g o F L c (upH hd x v) m k :=
  h.putN (f := 1) _ _ _ rfl rfl fun y _ => ⟨by rw [if_neg (by omega)], ite_upH (by omega), by rw [if_neg (by omega)], by rw [if_neg (by omega)]⟩
theorem Mf.putAh (h : Mf w0 w g o F L c hd m k) (x v : Nat) : Mf w0 (w.setCell ⟨L.nb, x * 4 + 2, none⟩ (I v)) g o F L { c with ah := up c.ah x v } hd m k :=
  h.putN (f := 2) _ _ _ rfl rfl fun y _ => ⟨by rw [if_neg (by omega)], by rw [if_neg (by omega)], ite_up (by omega), by rw [if_neg (by omega)]⟩
theorem Mf.putBe (h : Mf w0 w g o F L c hd m k) (x v : Nat) : Mf w0 (w.setCell ⟨L.nb, x * 4 + 3, none⟩ (I v)) g o F L { c with be := up c.be x v } hd m k :=
  h.putN (f := 3) _ _ _ rfl rfl fun y _ => ⟨by rw [if_neg (by omega)], by rw [if_neg (by omega)], by rw [if_neg (by omega)], ite_up (by omega)⟩
theorem Mf.putFreed (h : Mf w0 w g o F L c hd m k) (v : Nat) : Mf w0 (w.setCell ⟨g, o + 2, none⟩ (I v)) g o F L { c with freed := v } hd m k :=
  ⟨h.mem.putR (i := 2) _ _ _ rfl rfl rfl rfl rfl (by simp) (by simp) (by simp), h.setFr (by simp [foot]) _ _, fun j hj => (set_cell_ne (by omega)).trans (h.rest j hj), h.inF⟩
end
end Go.Proofs.YtjcbpejplnaakaaGreat.Mb
