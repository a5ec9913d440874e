import Derived.Test.YtkekmmomdhdegaaJxBook
namespace Go.Proofs.Ytkekmmomdhdegaa.Ij
open Go.RowKit Go.Proofs.Ytkekmmomdhdegaa.Ix Go.Maps Go.Shelf

/-- a sequence whose elements are told of -/
theorem seq_mem (F : Fence) (n : Nat) (h8 : F.fn 65) (hro : F.round = none) (hn : 1 ≤ n) (q : Sqv) (d : List (Nat × El)) (w : World) (hq : Sq w q d) :
    SeqStopsK F n Try.prog 65 #[.pointer (some ⟨q.A, 0, none⟩)] (fun x : {x : Nat × El // x ∈ d} => #[U x.1.1, ev x.1.2]) (Kq q.S) (fun ys => ys.map (·.1) = d)
      (fun pre => ∃ k, k ≤ d.length ∧ pre.map (·.1) = d.take k) d.length w := fun l J Jx W hW hA _ hY h0 => by
  refine (seq1_in F n h8 hro hn l q d (fun pre W => ∃ pre' : List {x : Nat × El // x ∈ d}, pre'.map (·.1) = pre ∧ J pre' W) (fun pre W => ∃ pre' : List {x : Nat × El // x ∈ d}, pre'.map (·.1) = pre ∧ Jx pre' W) (fun pre W j ⟨pre', e, h⟩ => ⟨pre', e, abides_drewN hA pre' W j h⟩) ?_ W (hq.below hW) ⟨[], rfl, h0⟩).mono ?_
  · rintro pre x W1 ⟨pre', rfl, hJ⟩ hx
    obtain ⟨fn, tmps, assign, body, hy, hR⟩ := hY pre' ⟨x, List.mem_of_getElem? hx⟩ W1 hJ (by have := (List.getElem?_eq_some_iff.1 hx).1; simpa using this)
    refine ⟨fn, tmps, assign, body, hy, hR.mono ?_⟩
    rintro e W' (⟨h1, h2, h3⟩ | ⟨h1, h2⟩)
    · exact Or.inl ⟨h1, ⟨_, by simp, h2⟩, h3⟩
    · exact Or.inr ⟨h1, _, by simp, h2⟩
  · rintro e W' ⟨hv, ⟨ys, rfl, pre', h1, h2⟩ | ⟨pre, ⟨k, hk, rfl⟩, pre', h1, h2⟩⟩
    · exact ⟨hv, Or.inl ⟨pre', h1, h2⟩⟩
    · exact ⟨hv, Or.inr ⟨pre', ⟨k, hk, h1⟩, h2⟩⟩

/-- a value that the law has put -/
def Hv (W : World) (F : List Nat) (v : El) (z : Int) : Prop := ∃ vb, v = (some ⟨vb, 0, none⟩, 2, 2) ∧ W.cell? ⟨vb, 0, none⟩ = some (I z) ∧ vb ∉ F
/-- index and book -/
structure Kp (n0 : Nat) (w W : World) (g b : Nat) (o : Lo) (a : Ix El) (m : Nat → Option Int) : Prop where
  mine : Mine n0 w W g o a
  bk : IsBk W b m a.count
  some_ : ∀ k v, a.get k = some v → ∃ z, m k = some z ∧ Hv W (o.foot g) v z
  none_ : ∀ k, a.get k = none → m k = none
  nb : n0 ≤ b
theorem Hv.below {W W' : World} {F : List Nat} {v : El} {z : Int} (h : Hv W F v z) (hb : Below W.heap.size W W') : Hv W' F v z := by
  obtain ⟨vb, h1, h2, h3⟩ := h
  exact ⟨vb, h1, (World.cell?_of_block (a := ⟨vb, 0, none⟩) (hb.block vb (World.block_lt_of_cell? W _ h2))).trans h2, h3⟩
section
variable {n0 : Nat} {w W W' W2 : World} {g b k : Nat} {o : Lo} {a a' : Ix El} {m : Nat → Option Int}
theorem Kp.isSome (h : Kp n0 w W g b o a m) (k : Nat) : (m k).isSome = (a.get k).isSome := by
  cases hg : a.get k with
  | none => rw [h.none_ k hg]; rfl
  | some v =>
    obtain ⟨z, h1, _⟩ := h.some_ k v hg
    rw [h1]; rfl
theorem Kp.below (h : Kp n0 w W g b o a m) (hb : Below W.heap.size W W') : Kp n0 w W' g b o a m :=
  ⟨h.mine.below hb, h.bk.same (hb.block b h.bk.lt), fun k v hg => by
    obtain ⟨z, h1, h2⟩ := h.some_ k v hg
    exact ⟨z, h1, h2.below hb⟩, h.none_, h.nb⟩
theorem Kp.goes (h : Kp n0 w W g b o a m) (hG : Goes W g o a' W') : ∃ o', Mine n0 w W' g o' a' ∧ IsBk W' b m a.count ∧ (∀ v z, Hv W (o.foot g) v z → Hv W' (o'.foot g) v z) ∧ b < W'.heap.size := by
  obtain ⟨h1, h2, h3, h4⟩ := h.mine
  obtain ⟨o', k1, k2, k3⟩ := hG
  have hbf : b ∉ o.foot g := fun hm => by
    obtain ⟨cs, T, f, e⟩ := h1.1.foot_blk b hm
    exact h.bk.ne_cells e rfl
  refine ⟨o', ⟨k1, fr_below k2 h2 h3 h4, fun k hk => ?_, h4⟩, h.bk.same (k2.block b h.bk.lt hbf), ?_, Nat.lt_of_lt_of_le h.bk.lt k2.size⟩
  · rcases k3 k hk with e | e
    · exact h3 k e
    · exact Nat.le_trans h4 (Nat.le_trans h2.size e)
  · rintro v z ⟨vb, e1, e2, e3⟩
    have hlt := World.block_lt_of_cell? W _ e2
    refine ⟨vb, e1, (World.cell?_of_block (a := ⟨vb, 0, none⟩) (k2.block vb hlt e3)).trans e2, fun hm => ?_⟩
    rcases k3 vb hm with e | e
    · exact e3 e
    · have h0 : vb < W.heap.size := hlt
      omega
/-- the map is written -/
theorem Mine.map {n : Nat} (h : Mine n0 w W g o a) (hb : IsBk W b m n) (hn : n0 ≤ b) (hg : W.grownBy W' (some b)) : Mine n0 w W' g o a ∧ ∀ v z, Hv W (o.foot g) v z → Hv W' (o.foot g) v z := by
  have hf : Fr [b] W W' := ⟨hg.os, hg.tape, hg.output, hg.size, fun k hk hk2 => hg.block k hk (fun e => hk2 (by cases e; simp))⟩
  refine ⟨⟨h.1.kept hf (fun k hk hm => ?_), fr_below hf h.2.1 (fun k hk => ?_) h.2.2.2, h.2.2.1, h.2.2.2⟩, ?_⟩
  · obtain ⟨cs, T, f, e⟩ := h.1.1.foot_blk k hk
    exact hb.ne_cells e (by simpa using hm)
  · have : k = b := by simpa using hk
    omega
  · rintro v z ⟨vb, e1, e2, e3⟩
    obtain ⟨ob, h1, h2⟩ := cells_of_cell e2
    refine ⟨vb, e1, (World.cell?_of_block (a := ⟨vb, 0, none⟩) (hg.block vb (World.block_lt_of_cell? W _ e2) (fun e => ?_))).trans e2, e3⟩
    obtain ⟨es, c, hb⟩ := hb.blk
    have h1' : W.heap[vb]? = some ob := h1
    rw [show vb = b by injection e, hb] at h1'
    cases h1'
    cases h2
theorem Kp.code (h : Kp n0 w W g b o a m) (hk : k < 18446744073709551616) (v : El) : ((m k).isSome = false ∧ a.count = a.most ∧ a.put k v = (3, a)) ∨ (((m k).isSome = true ∨ a.count ≠ a.most) ∧ (a.put k v).1 = 0 ∧ (a.put k v).2.count = (if (m k).isSome then a.count else a.count + 1) ∧ ∀ k' x, (a.put k v).2.get k' = some x ↔ (k' = k ∧ x = v) ∨ (k' ≠ k ∧ a.get k' = some x)) := by
  rw [h.isSome]
  cases hg : a.get k with
  | some v0 =>
    right
    obtain ⟨e1, _⟩ := h.mine.1.2.put_there (v := v) hg
    exact ⟨Or.inl rfl, by rw [e1], by rw [e1]; rfl, fun k' x => get_put_there h.mine.1.2 hg⟩
  | none =>
    by_cases hc : a.count = a.most
    · left
      exact ⟨rfl, hc, h.mine.1.2.put_full hg hc⟩
    · right
      obtain ⟨e1, _⟩ := h.mine.1.2.put_new (v := v) hk hg hc
      exact ⟨Or.inr hc, by rw [e1], by rw [e1]; rfl, fun k' x => get_put_new h.mine.1.2 hk hg hc⟩
theorem Kp.put (h : Kp n0 w W g b o a m) {vb : Nat} {z : Int} (hg : ∀ k' x, a'.get k' = some x ↔ (k' = k ∧ x = (some ⟨vb, 0, none⟩, 2, 2)) ∨ (k' ≠ k ∧ a.get k' = some x)) (hc : a'.count = if (m k).isSome then a.count else a.count + 1) (hv : W.cell? ⟨vb, 0, none⟩ = some (I z)) (hvf : vb ∉ o.foot g) (hG : Goes W g o a' W2) :
    IsBk W2 b m a.count ∧ ∀ W3, W2.grownBy W3 (some b) → IsBk W3 b (upd m k (some z)) (if (m k).isSome then a.count else a.count + 1) → ∃ o', Kp n0 w W3 g b o' a' (upd m k (some z)) := by
  obtain ⟨o', h1, h2, h3, h4⟩ := h.goes hG
  refine ⟨h2, fun W3 hg3 hb3 => ?_⟩
  obtain ⟨k1, k2⟩ := Mine.map h1 h2 h.nb hg3
  refine ⟨o', k1, by rw [hc]; exact hb3, fun j v hj => ?_, fun j hj => ?_, h.nb⟩
  · rcases (hg j v).1 hj with ⟨rfl, rfl⟩ | ⟨hne, hj'⟩
    · exact ⟨z, upd_same _ _ _, k2 _ _ (h3 _ _ ⟨vb, rfl, hv, hvf⟩)⟩
    · obtain ⟨y, e1, e2⟩ := h.some_ j v hj'
      exact ⟨y, (upd_ne hne).trans e1, k2 _ _ (h3 _ _ e2)⟩
  · by_cases e : j = k
    · subst e
      have := (hg j _).2 (Or.inl ⟨rfl, rfl⟩)
      rw [this] at hj
      cases hj
    · rw [upd_ne e]
      refine h.none_ j ?_
      cases hx : a.get j with
      | none => rfl
      | some x =>
        have := (hg j x).2 (Or.inr ⟨e, hx⟩)
        rw [this] at hj
        cases hj
theorem Kp.stays (h : Kp n0 w W g b o a m) (hG : Goes W g o a W2) : ∃ o', Kp n0 w W2 g b o' a m := by
  obtain ⟨o', h1, h2, h3, h4⟩ := h.goes hG
  exact ⟨o', h1, h2, fun j v hj => by
    obtain ⟨y, e1, e2⟩ := h.some_ j v hj
    exact ⟨y, e1, h3 _ _ e2⟩, h.none_, h.nb⟩
theorem Kp.drop (h : Kp n0 w W g b o a m) (hG : Goes W g o (a.drop k) W2) : IsBk W2 b m a.count ∧ (∀ v, a.get k = some v → ∃ z, m k = some z ∧ Hv W2 [] v z) ∧ ∀ W3, W2.grownBy W3 (some b) → IsBk W3 b (upd m k none) (if (m k).isSome then a.count - 1 else a.count) → ∃ o', Kp n0 w W3 g b o' (a.drop k) (upd m k none) := by
  obtain ⟨o', h1, h2, h3, h4⟩ := h.goes hG
  refine ⟨h2, fun v hv => ?_, fun W3 hg3 hb3 => ?_⟩
  · obtain ⟨y, e1, e2⟩ := h.some_ k v hv
    obtain ⟨vb, q1, q2, _⟩ := h3 _ _ e2
    exact ⟨y, e1, vb, q1, q2, by simp⟩
  obtain ⟨k1, k2⟩ := Mine.map h1 h2 h.nb hg3
  have hcn : (a.drop k).count = if (m k).isSome then a.count - 1 else a.count := by
    rw [h.isSome]
    cases hg : a.get k with
    | none => rw [h.mine.1.2.drop_none hg]; rfl
    | some v => rw [(h.mine.1.2.drop_there hg).2.1]; rfl
  refine ⟨o', k1, by rw [hcn]; exact hb3, fun j v hj => ?_, fun j hj => ?_, h.nb⟩
  · obtain ⟨hne, hj'⟩ := (get_drop h.mine.1.2).1 hj
    obtain ⟨y, e1, e2⟩ := h.some_ j v hj'
    exact ⟨y, (upd_ne hne).trans e1, k2 _ _ (h3 _ _ e2)⟩
  · by_cases e : j = k
    · subst e
      exact upd_same _ _ _
    · rw [upd_ne e]
      refine h.none_ j ?_
      cases hx : a.get j with
      | none => rfl
      | some x =>
        have := (get_drop (k := k) h.mine.1.2).2 ⟨e, hx⟩
        rw [this] at hj
        cases hj
end
end Go.Proofs.Ytkekmmomdhdegaa.Ij
