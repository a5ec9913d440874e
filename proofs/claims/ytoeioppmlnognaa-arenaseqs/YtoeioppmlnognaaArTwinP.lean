import Derived.Test.YtoeioppmlnognaaArClone
namespace Go.Proofs.Ytoeioppmlnognaa.Ar
open Go.RowKit

section
variable {w : World} {g : Nat} {o : Lo} {c : Cs} {size nl used free : Nat} {freed : Int}
/-- the lists' cells -/
theorem Mem.listRow (h : Mem w g o c size nl used free freed) : ∃ (b : Nat) (xs : List Value), o.lo = some ⟨b, 0, none⟩ ∧ xs.length = nl * 3 ∧ (∀ W, Below w.heap.size w W → ∀ j u, xs[j]? = some u → W.cell? ⟨b, j, none⟩ = some u) ∧ (∀ u ∈ xs, u.oneCell' = true) ∧
    ∀ i, i < nl → xs[i * 3]? = some (I (c.la i 0)) ∧ xs[i * 3 + 1]? = some (I (c.la i 1)) ∧ xs[i * 3 + 2]? = some (I (c.ct i)) := by
  by_cases h0 : 0 < nl
  · obtain ⟨cs, h1, h2⟩ := h.li h0
    have hsz : nl * 3 ≤ cs.size := by
      have := (Array.getElem?_eq_some_iff.1 (h2 (nl - 1) (by omega)).2.2).1
      omega
    have hg : ∀ j, j < nl * 3 → (cs.toList.take (nl * 3))[j]? = cs[j]? := fun j hj => by simp [hj]
    refine ⟨o.lb, cs.toList.take (nl * 3), h.lo h0, by simp; omega, fun W hW j u hu => ?_, fun u hu => ?_, fun i hi => ?_⟩
    · have hj := (List.getElem?_eq_some_iff.1 hu).1
      simp at hj
      rw [hg j (by omega)] at hu
      rw [World.cell?_of_block (a := ⟨o.lb, j, none⟩) (hW.block o.lb (Array.getElem?_eq_some_iff.1 h1).1)]
      simp [World.cell?, h1, hu]
    · obtain ⟨j, hj⟩ := List.getElem?_of_mem hu
      have hjl := (List.getElem?_eq_some_iff.1 hj).1
      simp at hjl
      rw [hg j (by omega)] at hj
      obtain ⟨a1, a2, a3⟩ := h2 (j / 3) (by omega)
      have hr : j % 3 = 0 ∨ j % 3 = 1 ∨ j % 3 = 2 := by omega
      rcases hr with e | e | e
      · rw [show j = j / 3 * 3 by omega, a1] at hj; cases hj; rfl
      · rw [show j = j / 3 * 3 + 1 by omega, a2] at hj; cases hj; rfl
      · rw [show j = j / 3 * 3 + 2 by omega, a3] at hj; cases hj; rfl
    · obtain ⟨a1, a2, a3⟩ := h2 i hi
      rw [hg _ (by omega), hg _ (by omega), hg _ (by omega)]
      exact ⟨a1, a2, a3⟩
  · obtain ⟨b, hb⟩ := h.lo2
    have : nl = 0 := by omega
    subst this
    exact ⟨b, [], hb, rfl, fun W _ j u hu => (by simp at hu), fun u hu => (by cases hu), fun i hi => (by omega)⟩
/-- a page's cells -/
theorem Mem.pageRow (h : Mem w g o c size nl used free freed) {k b : Nat} (hb : o.ps[k]? = some b) : ∃ ys : List Value, ys.length = plen size k * 4 ∧ (∀ W, Below w.heap.size w W → ∀ j u, ys[j]? = some u → W.cell? ⟨b, j, none⟩ = some u) ∧ (∀ u ∈ ys, u.oneCell' = true) ∧
    ∀ j, j < plen size k → ys[j * 4]? = some (I (c.bs (k * 64 + j) 0)) ∧ ys[j * 4 + 1]? = some (I (c.bs (k * 64 + j) 1)) ∧ ys[j * 4 + 2]? = some (I (c.li (k * 64 + j))) ∧ ys[j * 4 + 3]? = some (I (c.vl (k * 64 + j))) := by
  obtain ⟨cs, h1, h2⟩ := h.pg k b hb
  have hk := (List.getElem?_eq_some_iff.1 hb).1
  rw [h.np] at hk
  have hus := h.us
  have hp : 0 < plen size k := by unfold plen; omega
  have hsz : plen size k * 4 ≤ cs.size := by
    have := (Array.getElem?_eq_some_iff.1 (h2 (plen size k - 1) (by omega)).2.2.2).1
    omega
  have hg : ∀ j, j < plen size k * 4 → (cs.toList.take (plen size k * 4))[j]? = cs[j]? := fun j hj => by simp [hj]
  refine ⟨cs.toList.take (plen size k * 4), by simp; omega, fun W hW j u hu => ?_, fun u hu => ?_, fun i hi => ?_⟩
  · have hj := (List.getElem?_eq_some_iff.1 hu).1
    simp at hj
    rw [hg j (by omega)] at hu
    rw [World.cell?_of_block (a := ⟨b, j, none⟩) (hW.block b (Array.getElem?_eq_some_iff.1 h1).1)]
    simp [World.cell?, h1, hu]
  · obtain ⟨j, hj⟩ := List.getElem?_of_mem hu
    have hjl := (List.getElem?_eq_some_iff.1 hj).1
    simp at hjl
    rw [hg j (by omega)] at hj
    obtain ⟨a1, a2, a3, a4⟩ := h2 (j / 4) (by omega)
    have hr : j % 4 = 0 ∨ j % 4 = 1 ∨ j % 4 = 2 ∨ j % 4 = 3 := by omega
    rcases hr with e | e | e | e
    · rw [show j = j / 4 * 4 by omega, a1] at hj; cases hj; rfl
    · rw [show j = j / 4 * 4 + 1 by omega, a2] at hj; cases hj; rfl
    · rw [show j = j / 4 * 4 + 2 by omega, a3] at hj; cases hj; rfl
    · rw [show j = j / 4 * 4 + 3 by omega, a4] at hj; cases hj; rfl
  · obtain ⟨a1, a2, a3, a4⟩ := h2 i hi
    rw [hg _ (by omega), hg _ (by omega), hg _ (by omega), hg _ (by omega)]
    exact ⟨a1, a2, a3, a4⟩
end

/-- a twin under way: k pages are copied -/
structure Tw (w : World) (c : Cs) (size nl used free : Nat) (freed : Int) (g1 P np n1 : Nat) (v1 : Value) (xs : List Value) (k : Nat) (qs : List Nat) (pc : Nat → Nat) (W : World) : Prop where
  blk : W.heap[g1]? = some (.cells #[.slice (some ⟨P, 0, none⟩) np np, v1, I size, I used, I free, I freed] 85 (0, 0))
  li : W.ownsRow n1 92 3 v1 nl xs
  row : ∃ cur : Array Value, W.heap[P]? = some (.cells cur 93 (0, 0)) ∧ cur.size = np ∧ ∀ j, j < k → cur[j]? = (pvals size pc qs)[j]?
  ql : qs.length = k
  pg : ∀ j b, qs[j]? = some b → ∃ cs, W.heap[b]? = some (.cells cs 96 (0, 0)) ∧ ∀ i, i < plen size j → cs[i * 4]? = some (I (c.bs (j * 64 + i) 0)) ∧ cs[i * 4 + 1]? = some (I (c.bs (j * 64 + i) 1)) ∧ cs[i * 4 + 2]? = some (I (c.li (j * 64 + i))) ∧ cs[i * 4 + 3]? = some (I (c.vl (j * 64 + i)))
  nd : qs.Nodup
  qb : ∀ b ∈ qs, w.heap.size ≤ b
  be : Below w.heap.size w W
  hg : w.heap.size ≤ g1
  hP : w.heap.size ≤ P
  hn : w.heap.size ≤ n1
section
variable {w : World} {c : Cs} {size nl used free : Nat} {freed : Int} {g1 P np n1 : Nat} {v1 : Value} {xs : List Value} {k : Nat} {qs : List Nat} {pc : Nat → Nat} {W W' : World}
theorem Tw.below (h : Tw w c size nl used free freed g1 P np n1 v1 xs k qs pc W) (hb : Below W.heap.size W W') : Tw w c size nl used free freed g1 P np n1 v1 xs k qs pc W' := by
  have e : ∀ (k : Nat) (ob : Obj), W.heap[k]? = some ob → W'.heap[k]? = some ob := fun k ob hk => (hb.block k (Array.getElem?_eq_some_iff.1 hk).1).trans hk
  refine ⟨e _ _ h.blk, own_below h.li hb, ?_, h.ql, fun j b hj => ?_, h.nd, h.qb, h.be.trans (hb.mono h.be.size), h.hg, h.hP, h.hn⟩
  · obtain ⟨cur, a1, a2⟩ := h.row
    exact ⟨cur, e _ _ a1, a2⟩
  · obtain ⟨cs, a1, a2⟩ := h.pg j b hj
    exact ⟨cs, e _ _ a1, a2⟩
theorem Tw.cells (h : Tw w c size nl used free freed g1 P np n1 v1 xs k qs pc W) (hk : k < np) : W.cell? ⟨g1, 0, none⟩ = some (.slice (some ⟨P, 0, none⟩) np np) ∧ (∃ v, W.cell? ⟨P, k, none⟩ = some v) ∧ W.frozen? ⟨P, k, none⟩ = false := by
  obtain ⟨cur, a1, a2, _⟩ := h.row
  exact ⟨by simp [World.cell?, h.blk], ⟨cur[k]'(by omega), by simp [World.cell?, a1, show k < cur.size by omega]⟩, by simp [World.frozen?, a1]⟩
/-- one page more -/
theorem Tw.put (h : Tw w c size nl used free freed g1 P np n1 v1 xs k qs pc W) (hk : k < np) (hb : Below W.heap.size W W') {ad c' : Nat} {ys : List Value} (hp : 0 < plen size k) (ho : W'.ownsRow W.heap.size 96 4 (.slice (some ⟨ad, 0, none⟩) (plen size k) c') (plen size k) ys)
    (hy : ∀ j, j < plen size k → ys[j * 4]? = some (I (c.bs (k * 64 + j) 0)) ∧ ys[j * 4 + 1]? = some (I (c.bs (k * 64 + j) 1)) ∧ ys[j * 4 + 2]? = some (I (c.li (k * 64 + j))) ∧ ys[j * 4 + 3]? = some (I (c.vl (k * 64 + j)))) :
    Tw w c size nl used free freed g1 P np n1 v1 xs (k + 1) (qs ++ [ad]) (up pc k c') (W'.setCell ⟨P, k, none⟩ (.slice (some ⟨ad, 0, none⟩) (plen size k) c')) := by
  have h' := h.below hb
  obtain ⟨cur, a1, a2, a3⟩ := h'.row
  obtain ⟨ad', cap', cur', e1, hb', hh', _, _, hcl', htk'⟩ := own_block ho hp
  cases e1
  have eset : ∀ (b : Nat) (cs : Array Value) (T : TypeId), T ≠ 93 → W'.heap[b]? = some (.cells cs T (0, 0)) → (W'.setCell ⟨P, k, none⟩ (.slice (some ⟨ad, 0, none⟩) (plen size k) c')).heap[b]? = some (.cells cs T (0, 0)) := fun b cs T hT hbb => by
    rw [set_other (ne_of_type hbb a1 hT)]
    exact hbb
  have hql := h.ql
  have hsn := pvals_snoc size pc qs ad c'
  rw [hql] at hsn
  refine ⟨eset _ _ _ (by decide) h'.blk, own_set h'.li a1 (by decide), ⟨_, set_blk a1, by simpa using a2, fun j hj => ?_⟩, by simp [hql], fun j b hj => ?_, ?_, fun b hbm => ?_, h'.be.setCell h.hP _, h.hg, h.hP, h.hn⟩
  · rw [hsn]
    by_cases e : j = k
    · subst e
      rw [Array.getElem?_setIfInBounds_self_of_lt (by omega), List.getElem?_append_right (by rw [pvals_len, hql]; exact Nat.le_refl _), pvals_len, hql]
      simp
    · rw [Array.getElem?_setIfInBounds_ne (fun h => e h.symm), List.getElem?_append_left (by rw [pvals_len, hql]; omega)]
      exact a3 j (by omega)
  · by_cases hj' : j < qs.length
    · rw [List.getElem?_append_left hj'] at hj
      obtain ⟨cs, b1, b2⟩ := h'.pg j b hj
      exact ⟨cs, eset _ _ _ (by decide) b1, b2⟩
    · have hjl := (List.getElem?_eq_some_iff.1 hj).1
      simp at hjl
      have hjk : j = k := by omega
      subst hjk
      rw [List.getElem?_append_right (by omega), hql] at hj
      simp at hj
      subst hj
      refine ⟨_, eset _ _ _ (by decide) hh', fun i hi => ?_⟩
      obtain ⟨y1, y2, y3, y4⟩ := hy i hi
      have hg : ∀ m, m < plen size j * 4 → (cur'.toArray)[m]? = ys[m]? := fun m hm => by
        rw [← htk']
        simp [hm]
      rw [hg _ (by omega), hg _ (by omega), hg _ (by omega), hg _ (by omega)]
      exact ⟨y1, y2, y3, y4⟩
  · rw [List.nodup_append]
    refine ⟨h.nd, by simp, fun x hx y hy e => ?_⟩
    have hy' : y = ad := by simpa using hy
    subst hy'
    subst e
    obtain ⟨i, hi⟩ := List.getElem?_of_mem hx
    obtain ⟨cs, b1, _⟩ := h.pg i _ hi
    have := (Array.getElem?_eq_some_iff.1 b1).1
    omega
  · rcases List.mem_append.1 hbm with hbm | hbm
    · exact h.qb b hbm
    · have hy' : b = ad := by simpa using hbm
      have := h.be.size
      omega
/-- all pages are copied -/
theorem Tw.done {a : As} (h : Tw w c a.size a.nl a.used a.free (hd a.fr) g1 P np n1 v1 xs np qs pc W) (hI : Inv c a []) (hnp : np = (a.used + 63) / 64) (hsz : a.size ≤ 4194304) (hnl : a.nl ≤ 256) {lb lc : Nat} (hv : v1 = .slice (some ⟨lb, 0, none⟩) a.nl lc)
    (hx : ∀ i, i < a.nl → xs[i * 3]? = some (I (c.la i 0)) ∧ xs[i * 3 + 1]? = some (I (c.la i 1)) ∧ xs[i * 3 + 2]? = some (I (c.ct i))) : Born w a g1 W := by
  subst hv
  obtain ⟨cur, a1, a2, a3⟩ := h.row
  refine ⟨⟨lb, some ⟨lb, 0, none⟩, lc, .slice (some ⟨P, 0, none⟩) np np, qs, pc⟩, ⟨c, ⟨h.blk, fun _ => rfl, fun h0 => ?_, ?_, h.pg, h.nd, by rw [h.ql]; exact hnp, hI.used, hsz, hnl, ⟨_, rfl⟩⟩, hI⟩, h.be, fun k hk => ?_⟩
  · obtain ⟨lb', cap', cur', e1, _, hh', _, _, _, htk'⟩ := own_block h.li h0
    cases e1
    refine ⟨_, hh', fun i hi => ?_⟩
    obtain ⟨y1, y2, y3⟩ := hx i hi
    have hg : ∀ m, m < a.nl * 3 → (cur'.toArray)[m]? = xs[m]? := fun m hm => by
      rw [← htk']
      simp [hm]
    rw [hg _ (by omega), hg _ (by omega), hg _ (by omega)]
    exact ⟨y1, y2, y3⟩
  · rw [h.ql]
    refine own_mk (cur := cur.toList) (by rw [pvals_len, h.ql]; omega) (Nat.zero_le _) (by simpa using a1) (Nat.le_refl _) (by have := hI.used; unfold maxLen; omega) (by simpa using a2) ?_
    apply List.ext_getElem?
    intro j
    by_cases hj : j < np
    · rw [List.getElem?_take, if_pos (by omega)]
      have := a3 j hj
      simpa using this
    · rw [List.getElem?_eq_none (by simp; omega), List.getElem?_eq_none (by rw [pvals_len, h.ql]; omega)]
  · simp only [Lo.foot, List.mem_cons, List.mem_append, Option.mem_toList] at hk
    rcases hk with rfl | hk | hk | hk
    · exact h.hg
    · split at hk
      · rename_i h0
        obtain ⟨lb', cap', cur', e1, hb1, _⟩ := own_block h.li h0
        cases e1
        have : k = lb := by simpa using hk
        have := h.hn
        omega
      · cases hk
    · simp only [Value.ownBlock, Option.some.injEq] at hk
      have := h.hP
      omega
    · exact h.qb k hk
end
theorem mk_page (m j : Nat) (h : j < m) : (madeCells (Value.slice none 0 0).cells m)[j]? = some (.slice none 0 0) := by
  have e1 : (Value.slice none 0 0).cells = #[.slice none 0 0] := rfl
  rw [e1]
  simp only [madeCells]
  simp [h]
  rw [Nat.mod_one]
  rfl
/-- make([][]slot, n) -/
theorem mk_pages (n : Nat) (hn : n ≤ 4194304) : ∃ M : Array Value, M.size = n ∧ ∀ u : World, (Instr.makeSlice 82 (.int .i64 (n : Int)) (.int .i64 (n : Int))).run Try.prog u = .ok (.slice (some ⟨u.heap.size, 0, none⟩) n n) (u.alloc (.cells M 93)) := by
  obtain ⟨i0, hi, hz0, hz1, hz2⟩ := info_parts info93
  refine ⟨madeCells (Value.slice none 0 0).cells (n * 1), by simp [madeCells], fun u => ?_⟩
  have h := run_make (P := Try.prog) u 82 93 i0 (.slice none 0 0) Try.underlying82 hi hz0 .i64 .i64 (n : Int) (n : Int) (by omega) (Int.le_refl _) (by rw [hz2]; omega) (by omega)
  have e : (n : Int).toNat = n := by omega
  rw [e, hz1] at h
  exact h
end Go.Proofs.Ytoeioppmlnognaa.Ar
