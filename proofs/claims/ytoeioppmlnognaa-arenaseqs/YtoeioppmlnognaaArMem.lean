import Derived.Test.YtoeioppmlnognaaArOwn
namespace Go.Proofs.Ytoeioppmlnognaa.Ar
open Go.RowKit

abbrev I (n : Int) : Value := .int .i64 n

/-- where an arena lies -/
structure Lo where
  lb : Nat
  lo : Option Addr
  lc : Nat
  pv : Value
  ps : List Nat
  pc : Nat → Nat

/-- how many nodes a page has -/
def plen (size k : Nat) : Nat := min 64 (size - k * 64)
def pvals (size : Nat) (pc : Nat → Nat) (ps : List Nat) : List Value := ps.mapIdx fun k b => .slice (some ⟨b, 0, none⟩) (plen size k) (pc k)
theorem pvals_up (size : Nat) (pc : Nat → Nat) (ps : List Nat) (c : Nat) : pvals size (up pc ps.length c) ps = pvals size pc ps := by
  apply List.ext_getElem?
  intro i
  simp only [pvals, List.getElem?_mapIdx]
  cases h : ps[i]? with
  | none => rfl
  | some b =>
    have := (List.getElem?_eq_some_iff.1 h).1
    simp [up_ne pc c (show i ≠ ps.length by omega)]
theorem pvals_snoc (size : Nat) (pc : Nat → Nat) (ps : List Nat) (b c : Nat) : pvals size (up pc ps.length c) (ps ++ [b]) = pvals size pc ps ++ [.slice (some ⟨b, 0, none⟩) (plen size ps.length) c] := by
  rw [← pvals_up size pc ps c]
  simp [pvals, List.mapIdx_concat]
theorem pvals_at {size : Nat} {pc : Nat → Nat} {ps : List Nat} {k b : Nat} (h : ps[k]? = some b) : (pvals size pc ps)[k]? = some (.slice (some ⟨b, 0, none⟩) (plen size k) (pc k)) := by
  simp [pvals, List.getElem?_mapIdx, h]
theorem pvals_len (size : Nat) (pc : Nat → Nat) (ps : List Nat) : (pvals size pc ps).length = ps.length := by simp [pvals]
abbrev ablk (o : Lo) (size nl used free : Nat) (freed : Int) : Array Value := #[o.pv, .slice o.lo nl o.lc, I size, I used, I free, I freed]

/-- an arena in memory -/
structure Mem (w : World) (g : Nat) (o : Lo) (c : Cs) (size nl used free : Nat) (freed : Int) : Prop where
  blk : w.heap[g]? = some (.cells (ablk o size nl used free freed) 85 (0, 0))
  lo : 0 < nl → o.lo = some ⟨o.lb, 0, none⟩
  li : 0 < nl → ∃ cs, w.heap[o.lb]? = some (.cells cs 92 (0, 0)) ∧ ∀ i, i < nl → cs[i * 3]? = some (I (c.la i 0)) ∧ cs[i * 3 + 1]? = some (I (c.la i 1)) ∧ cs[i * 3 + 2]? = some (I (c.ct i))
  own : w.ownsRow 0 93 1 o.pv o.ps.length (pvals size o.pc o.ps)
  pg : ∀ k b, o.ps[k]? = some b → ∃ cs, w.heap[b]? = some (.cells cs 96 (0, 0)) ∧ ∀ j, j < plen size k → cs[j * 4]? = some (I (c.bs (k * 64 + j) 0)) ∧ cs[j * 4 + 1]? = some (I (c.bs (k * 64 + j) 1)) ∧ cs[j * 4 + 2]? = some (I (c.li (k * 64 + j))) ∧ cs[j * 4 + 3]? = some (I (c.vl (k * 64 + j)))
  nd : o.ps.Nodup
  np : o.ps.length = (used + 63) / 64
  us : used ≤ size
  sz : size ≤ 4194304
  nlm : nl ≤ 256
  lo2 : ∃ b, o.lo = some ⟨b, 0, none⟩

/-- its blocks -/
def Lo.foot (o : Lo) (g nl : Nat) : List Nat := g :: ((if 0 < nl then [o.lb] else []) ++ (o.pv.ownBlock.toList ++ o.ps))

/-- of the blocks that were, only those of F have turned -/
structure Fr (F : List Nat) (w w' : World) : Prop where
  os : w'.os = w.os
  tape : w'.tape = w.tape
  output : w'.output = w.output
  size : w.heap.size ≤ w'.heap.size
  block : ∀ k, k < w.heap.size → k ∉ F → w'.heap[k]? = w.heap[k]?
theorem Fr.refl (F : List Nat) (w : World) : Fr F w w := ⟨rfl, rfl, rfl, Nat.le_refl _, fun _ _ _ => rfl⟩
theorem Fr.trans {F F' : List Nat} {a b c : World} (h : Fr F a b) (k : Fr F' b c) (hF : ∀ x ∈ F', x ∈ F ∨ a.heap.size ≤ x) : Fr F a c :=
  ⟨k.os.trans h.os, k.tape.trans h.tape, k.output.trans h.output, Nat.le_trans h.size k.size, fun i hi hn => (k.block i (Nat.lt_of_lt_of_le hi h.size) (fun hm => (hF i hm).elim hn (fun h => by omega))).trans (h.block i hi hn)⟩
theorem Fr.of_below {F : List Nat} {w w' : World} (h : Below w.heap.size w w') : Fr F w w' := ⟨h.os, h.tape, h.output, h.size, fun k hk _ => h.block k hk⟩
theorem Fr.set {F : List Nat} (w : World) {g : Nat} (i : Nat) (v : Value) (hg : g ∈ F) : Fr F w (w.setCell ⟨g, i, none⟩ v) :=
  ⟨rfl, rfl, rfl, by simp [World.setCell], fun k _ hk => Below.heap_setCell w _ v k (by rintro rfl; exact hk hg)⟩
theorem Fr.mono {F F' : List Nat} {w w' : World} (h : Fr F w w') (hs : ∀ x ∈ F, x ∈ F') : Fr F' w w' := ⟨h.os, h.tape, h.output, h.size, fun k hk hn => h.block k hk (fun hm => hn (hs k hm))⟩

theorem ne_of_type {w : World} {a b : Nat} {c c' : Array Value} {T T' : TypeId} {f f' : Nat × Nat} (h : w.heap[a]? = some (.cells c T f)) (h' : w.heap[b]? = some (.cells c' T' f')) (hT : T ≠ T') : a ≠ b := by
  rintro rfl
  rw [h] at h'
  cases h'
  exact hT rfl

theorem own_fr {F : List Nat} {w w' : World} {base : Nat} {e : TypeId} {size : Nat} {v : Value} {n : Nat} {xs : List Value} (h : w.ownsRow base e size v n xs) (m : Fr F w w') (hF : ∀ k, v.ownBlock = some k → k ∉ F) : w'.ownsRow base e size v n xs := by
  rcases h with ⟨h1, h2 | ⟨g, cap, cur, rfl, h3, h4, h5⟩⟩
  · exact ⟨h1, Or.inl h2⟩
  · refine ⟨h1, Or.inr ⟨g, cap, cur, rfl, h3, ?_, h5⟩⟩
    rw [m.block g ((Array.getElem?_eq_some_iff.1 h4).1) (hF g rfl)]
    exact h4

section
variable {w w' : World} {g : Nat} {o : Lo} {c : Cs} {size nl used free : Nat} {freed : Int}

theorem Mem.g_lt (h : Mem w g o c size nl used free freed) : g < w.heap.size := (Array.getElem?_eq_some_iff.1 h.blk).1
theorem Mem.foot_lt (h : Mem w g o c size nl used free freed) : ∀ k ∈ o.foot g nl, k < w.heap.size := by
  intro k hk
  simp only [Lo.foot, List.mem_cons, List.mem_append, Option.mem_toList] at hk
  rcases hk with rfl | hk | hk | hk
  · exact h.g_lt
  · split at hk
    · rename_i h0
      obtain ⟨cs, h1, _⟩ := h.li h0
      have : k = o.lb := by simpa using hk
      rw [this]
      exact (Array.getElem?_eq_some_iff.1 h1).1
    · cases hk
  · exact (World.ownsRow.lt h.own _ hk).2
  · obtain ⟨i, hi⟩ := List.getElem?_of_mem hk
    obtain ⟨cs, h1, _⟩ := h.pg i k hi
    exact (Array.getElem?_eq_some_iff.1 h1).1

theorem Mem.kept {F : List Nat} (h : Mem w g o c size nl used free freed) (m : Fr F w w') (hF : ∀ k ∈ o.foot g nl, k ∉ F) : Mem w' g o c size nl used free freed := by
  have hin := h.foot_lt
  have hb : ∀ k ∈ o.foot g nl, w'.heap[k]? = w.heap[k]? := fun k hk => m.block k (hin k hk) (hF k hk)
  refine ⟨(hb g (by simp [Lo.foot])).trans h.blk, h.lo, fun h0 => ?_, own_fr h.own m fun k hk => hF k (by simp [Lo.foot, hk]), fun k b hk => ?_, h.nd, h.np, h.us, h.sz, h.nlm, h.lo2⟩
  · obtain ⟨cs, h1, h2⟩ := h.li h0
    exact ⟨cs, (hb o.lb (by simp [Lo.foot, h0])).trans h1, h2⟩
  · obtain ⟨cs, h1, h2⟩ := h.pg k b hk
    exact ⟨cs, (hb b (by simp [Lo.foot, List.mem_of_getElem? hk])).trans h1, h2⟩
theorem Mem.below (h : Mem w g o c size nl used free freed) (hb : Below w.heap.size w w') : Mem w' g o c size nl used free freed :=
  h.kept (F := []) (Fr.of_below hb) (fun _ _ => by simp)
theorem Mem.drewN (h : Mem w g o c size nl used free freed) (n : Nat) : Mem (w.drewN n) g o c size nl used free freed := h.below (below_drewN w n)

theorem set_blk {b i : Nat} {cs : Array Value} {T : TypeId} {f : Nat × Nat} {v : Value} (h : w.heap[b]? = some (.cells cs T f)) : (w.setCell ⟨b, i, none⟩ v).heap[b]? = some (.cells (cs.setIfInBounds i v) T f) := by
  simp [World.setCell, Array.getElem?_modify, h]
theorem set_other {b i k : Nat} {v : Value} (h : k ≠ b) : (w.setCell ⟨b, i, none⟩ v).heap[k]? = w.heap[k]? := Below.heap_setCell w _ v k h
theorem own_set {base : Nat} {e : TypeId} {sz : Nat} {v u : Value} {n b i : Nat} {xs : List Value} {cs : Array Value} {T : TypeId} {f : Nat × Nat} (h : w.ownsRow base e sz v n xs) (hb : w.heap[b]? = some (.cells cs T f)) (hT : T ≠ e) : (w.setCell ⟨b, i, none⟩ u).ownsRow base e sz v n xs := by
  rcases h with ⟨h1, h2 | ⟨g, cap, cur, rfl, h3, h4, h5⟩⟩
  · exact ⟨h1, Or.inl h2⟩
  · refine ⟨h1, Or.inr ⟨g, cap, cur, rfl, h3, ?_, h5⟩⟩
    rw [set_other (ne_of_type h4 hb hT.symm)]
    exact h4
theorem set_get {cs : Array Value} {i j : Nat} {v u : Value} (h : cs[j]? = some u) : (cs.setIfInBounds i v)[j]? = some (if i = j then v else u) := by
  have hj := (Array.getElem?_eq_some_iff.1 h).1
  rw [Array.getElem?_setIfInBounds]
  split
  · rename_i e
    subst e
    simp [hj]
  · rw [h]

/-- a cell of the arena itself is written -/
theorem Mem.putA (h : Mem w g o c size nl used free freed) (j : Nat) (v : Value) {free' : Nat} {freed' : Int} (hc : (ablk o size nl used free freed).setIfInBounds j v = ablk o size nl used free' freed') : Mem (w.setCell ⟨g, j, none⟩ v) g o c size nl used free' freed' := by
  refine ⟨by rw [set_blk h.blk, hc], h.lo, fun h0 => ?_, own_set h.own h.blk (by decide), fun k b hk => ?_, h.nd, h.np, h.us, h.sz, h.nlm, h.lo2⟩
  · obtain ⟨cs, h1, h2⟩ := h.li h0
    exact ⟨cs, by rw [set_other (ne_of_type h1 h.blk (by decide))]; exact h1, h2⟩
  · obtain ⟨cs, h1, h2⟩ := h.pg k b hk
    exact ⟨cs, by rw [set_other (ne_of_type h1 h.blk (by decide))]; exact h1, h2⟩
/-- an end of a list, its count -/
theorem Mem.putL (h : Mem w g o c size nl used free freed) {i f : Nat} (hi : i < nl) (v : Int) (c' : Cs) (h1 : c'.bs = c.bs) (h2 : c'.li = c.li) (h3 : c'.vl = c.vl)
    (h4 : ∀ j, j < nl → (c'.la j 0 = if i * 3 + f = j * 3 then v else c.la j 0) ∧ (c'.la j 1 = if i * 3 + f = j * 3 + 1 then v else c.la j 1) ∧ ((c'.ct j : Int) = if i * 3 + f = j * 3 + 2 then v else (c.ct j : Int))) : Mem (w.setCell ⟨o.lb, i * 3 + f, none⟩ (I v)) g o c' size nl used free freed := by
  obtain ⟨cs, hb, hcs⟩ := h.li (by omega)
  refine ⟨by rw [set_other (ne_of_type h.blk hb (by decide))]; exact h.blk, h.lo, fun h0 => ⟨_, set_blk hb, fun j hj => ?_⟩, own_set h.own hb (by decide), fun k b hk => ?_, h.nd, h.np, h.us, h.sz, h.nlm, h.lo2⟩
  · obtain ⟨k1, k2, k3⟩ := hcs j hj
    obtain ⟨m1, m2, m3⟩ := h4 j hj
    refine ⟨?_, ?_, ?_⟩
    · rw [set_get k1, m1]; split <;> rfl
    · rw [set_get k2, m2]; split <;> rfl
    · rw [set_get k3, m3]; split <;> rfl
  · obtain ⟨cs', k1, k2⟩ := h.pg k b hk
    rw [h1, h2, h3]
    exact ⟨cs', by rw [set_other (ne_of_type k1 hb (by decide))]; exact k1, k2⟩
/-- a node's cell -/
theorem Mem.putS (h : Mem w g o c size nl used free freed) {x b f : Nat} (hb : o.ps[x / 64]? = some b) (v : Int) (c' : Cs) (h1 : c'.la = c.la) (h2 : c'.ct = c.ct) (hf : f < 4)
    (h4 : ∀ y, (c'.bs y 0 = if x = y ∧ f = 0 then v else c.bs y 0) ∧ (c'.bs y 1 = if x = y ∧ f = 1 then v else c.bs y 1) ∧ (c'.li y = if x = y ∧ f = 2 then v else c.li y) ∧ (c'.vl y = if x = y ∧ f = 3 then v else c.vl y)) : Mem (w.setCell ⟨b, x % 64 * 4 + f, none⟩ (I v)) g o c' size nl used free freed := by
  obtain ⟨cs, hbb, hcs⟩ := h.pg _ _ hb
  refine ⟨by rw [set_other (ne_of_type h.blk hbb (by decide))]; exact h.blk, h.lo, fun h0 => ?_, own_set h.own hbb (by decide), fun k b' hk => ?_, h.nd, h.np, h.us, h.sz, h.nlm, h.lo2⟩
  · obtain ⟨cs', k1, k2⟩ := h.li h0
    rw [h1, h2]
    exact ⟨cs', by rw [set_other (ne_of_type k1 hbb (by decide))]; exact k1, k2⟩
  · by_cases hkb : k = x / 64
    · subst hkb
      rw [hb] at hk
      cases hk
      refine ⟨_, set_blk hbb, fun j hj => ?_⟩
      obtain ⟨k1, k2, k3, k4⟩ := hcs j hj
      obtain ⟨m1, m2, m3, m4⟩ := h4 (x / 64 * 64 + j)
      have hj64 : j < 64 := by unfold plen at hj; omega
      have hx : ∀ d, d < 4 → ((x % 64 * 4 + f = j * 4 + d) ↔ (x = x / 64 * 64 + j ∧ f = d)) := fun d hd => by omega
      refine ⟨?_, ?_, ?_, ?_⟩
      · rw [set_get k1, m1]
        have := hx 0 (by omega)
        rw [Nat.add_zero] at this
        by_cases hc : x = x / 64 * 64 + j ∧ f = 0
        · rw [if_pos (this.2 hc), if_pos hc]
        · rw [if_neg (fun e => hc (this.1 e)), if_neg hc]
      · rw [set_get k2, m2]
        have := hx 1 (by omega)
        by_cases hc : x = x / 64 * 64 + j ∧ f = 1
        · rw [if_pos (this.2 hc), if_pos hc]
        · rw [if_neg (fun e => hc (this.1 e)), if_neg hc]
      · rw [set_get k3, m3]
        have := hx 2 (by omega)
        by_cases hc : x = x / 64 * 64 + j ∧ f = 2
        · rw [if_pos (this.2 hc), if_pos hc]
        · rw [if_neg (fun e => hc (this.1 e)), if_neg hc]
      · rw [set_get k4, m4]
        have := hx 3 (by omega)
        by_cases hc : x = x / 64 * 64 + j ∧ f = 3
        · rw [if_pos (this.2 hc), if_pos hc]
        · rw [if_neg (fun e => hc (this.1 e)), if_neg hc]
    · obtain ⟨cs', k1, k2⟩ := h.pg k b' hk
      have hne : b' ≠ b := by
        rintro rfl
        have e1 := (List.getElem?_eq_some_iff.1 hk)
        have e2 := (List.getElem?_eq_some_iff.1 hb)
        obtain ⟨l1, e1⟩ := e1
        obtain ⟨l2, e2⟩ := e2
        exact hkb ((List.getElem_inj h.nd).1 (e1.trans e2.symm))
      refine ⟨cs', by rw [set_other hne]; exact k1, fun j hj => ?_⟩
      have hj64 : j < 64 := by unfold plen at hj; omega
      obtain ⟨m1, m2, m3, m4⟩ := h4 (k * 64 + j)
      have hx : x ≠ k * 64 + j := by omega
      rw [m1, m2, m3, m4]
      simp only [hx, false_and, if_false]
      exact k2 j hj

theorem Mem.page (h : Mem w g o c size nl used free freed) {x : Nat} (hx : x < used) : ∃ b, o.ps[x / 64]? = some b := by
  have : x / 64 < o.ps.length := by rw [h.np]; omega
  exact ⟨_, List.getElem?_eq_getElem this⟩
theorem Mem.blkA (h : Mem w g o c size nl used free freed) (j : Nat) : w.cell? ⟨g, j, none⟩ = (ablk o size nl used free freed)[j]? ∧ w.frozen? ⟨g, j, none⟩ = false := ⟨by simp [World.cell?, h.blk], by simp [World.frozen?, h.blk]⟩
theorem Mem.cellsA (h : Mem w g o c size nl used free freed) : w.cell? ⟨g, 0, none⟩ = some o.pv ∧ w.cell? ⟨g, 1, none⟩ = some (.slice o.lo nl o.lc) ∧ w.cell? ⟨g, 2, none⟩ = some (I size) ∧ w.cell? ⟨g, 3, none⟩ = some (I used) ∧ w.cell? ⟨g, 4, none⟩ = some (I free) ∧ w.cell? ⟨g, 5, none⟩ = some (I freed) :=
  ⟨(h.blkA 0).1, (h.blkA 1).1, (h.blkA 2).1, (h.blkA 3).1, (h.blkA 4).1, (h.blkA 5).1⟩
theorem Mem.cellsL (h : Mem w g o c size nl used free freed) {i : Nat} (hi : i < nl) : w.cell? ⟨o.lb, i * 3, none⟩ = some (I (c.la i 0)) ∧ w.cell? ⟨o.lb, i * 3 + 1, none⟩ = some (I (c.la i 1)) ∧ w.cell? ⟨o.lb, i * 3 + 2, none⟩ = some (I (c.ct i)) ∧ ∀ j, w.frozen? ⟨o.lb, j, none⟩ = false := by
  obtain ⟨cs, hb, hcs⟩ := h.li (by omega)
  obtain ⟨k1, k2, k3⟩ := hcs i hi
  exact ⟨by simp [World.cell?, hb, k1], by simp [World.cell?, hb, k2], by simp [World.cell?, hb, k3], fun j => by simp [World.frozen?, hb]⟩
theorem Mem.cellsS (h : Mem w g o c size nl used free freed) {x b : Nat} (hx : x < size) (hb : o.ps[x / 64]? = some b) : w.cell? ⟨b, x % 64 * 4, none⟩ = some (I (c.bs x 0)) ∧ w.cell? ⟨b, x % 64 * 4 + 1, none⟩ = some (I (c.bs x 1)) ∧ w.cell? ⟨b, x % 64 * 4 + 2, none⟩ = some (I (c.li x)) ∧ w.cell? ⟨b, x % 64 * 4 + 3, none⟩ = some (I (c.vl x)) ∧ ∀ j, w.frozen? ⟨b, j, none⟩ = false := by
  obtain ⟨cs, hbb, hcs⟩ := h.pg _ _ hb
  obtain ⟨k1, k2, k3, k4⟩ := hcs (x % 64) (by unfold plen; omega)
  have e : x / 64 * 64 + x % 64 = x := by omega
  rw [e] at k1 k2 k3 k4
  exact ⟨by simp [World.cell?, hbb, k1], by simp [World.cell?, hbb, k2], by simp [World.cell?, hbb, k3], by simp [World.cell?, hbb, k4], fun j => by simp [World.frozen?, hbb]⟩
/-- the pages' slice -/
theorem Mem.pages (h : Mem w g o c size nl used free freed) {k b : Nat} (hb : o.ps[k]? = some b) : ∃ pb pc, o.pv = .slice (some ⟨pb, 0, none⟩) o.ps.length pc ∧ w.cell? ⟨pb, k, none⟩ = some (.slice (some ⟨b, 0, none⟩) (plen size k) (o.pc k)) := by
  have hk := (List.getElem?_eq_some_iff.1 hb).1
  obtain ⟨pb, pc, cur, h1, _, _⟩ := own_block h.own (by omega)
  refine ⟨pb, pc, h1, ?_⟩
  have := h.own
  rw [h1] at this
  rw [this.cellAt k (by omega)]
  exact pvals_at hb
end
end Go.Proofs.Ytoeioppmlnognaa.Ar
