import Derived.Test.YtnededkmjmbioabDoorVfLni
import Derived.Test.YtnededkmjmbioabDoorVfHead
namespace Go.Proofs.YtnededkmjmbioabDoor.Vf
open Go.RowKit Go.Proofs.YtnededkmjmbioabDoor.Nm
theorem infoB : (Tryd.prog.info? 4).map (fun i => (i.zero, i.size, i.bytes)) = some (some (.bool false), 1, 1) := by kernel_rfl
theorem infoV : (Tryd.prog.info? 60).map (fun i => (i.zero, i.size, i.bytes)) = some (some (.agg #[.int .i64 0, .int .i64 0, .int .i64 0]), 3, 24) := by kernel_rfl
theorem bC_len (l : List Bool) : (bC l).length = l.length * 1 := by unfold bC; simp
theorem bC_one (l : List Bool) : ∀ v ∈ bC l, v.oneCell' = true := fun v hv => by
  unfold bC at hv
  obtain ⟨x, -, rfl⟩ := List.mem_map.1 hv
  rfl
theorem vC_len (l : List (Int × Int × Int)) : (vC l).length = l.length * 3 := by
  induction l with
  | nil => rfl
  | cons x l ih =>
    have e : vC (x :: l) = [.int .i64 x.1, .int .i64 x.2.1, .int .i64 x.2.2] ++ vC l := rfl
    rw [e, List.length_append, ih, List.length_cons]
    simp
    omega
theorem vC_one (l : List (Int × Int × Int)) : ∀ v ∈ vC l, v.oneCell' = true := fun u hu => by
  unfold vC at hu
  obtain ⟨x, -, hx⟩ := List.mem_flatMap.1 hu
  simp only [List.mem_cons, List.not_mem_nil, or_false] at hx
  rcases hx with rfl | rfl | rfl <;> rfl
/-- a program that is being lent: its box, the answer's, the new one's, and the lists that are made -/
structure Ld (w W : World) (ps os : Array Value) (L : List (Nat × List Value)) : Prop where
  bel : Below w.heap.size w W
  hp : W.heap[w.heap.size]? = some (.cells ps 27 (0, 0))
  hr : W.heap[w.heap.size + 1]? = some (.cells #[.slice none 0 0, .slice none 0 0, .slice none 0 0, .slice none 0 0, .int .i64 0, .slice none 0 0] 27 (0, 0))
  ho : W.heap[w.heap.size + 1 + 1]? = some (.cells os 27 (0, 0))
  rd : ∀ x ∈ L, w.heap.size + 1 + 1 < x.1 ∧ x.1 < W.heap.size ∧ Rd W (some ⟨x.1, 0, none⟩) x.2
theorem Ld.below {w W W' : World} {ps os : Array Value} {L : List (Nat × List Value)} (h : Ld w W ps os L) (hb : Below W.heap.size W W') : Ld w W' ps os L :=
  ⟨bel_step h.bel hb, (hb.block _ (blk_lt h.hp)).trans h.hp, (hb.block _ (blk_lt h.hr)).trans h.hr, (hb.block _ (blk_lt h.ho)).trans h.ho, fun x hx => ⟨(h.rd x hx).1, Nat.lt_of_lt_of_le (h.rd x hx).2.1 hb.size, (h.rd x hx).2.2.below hb⟩⟩
theorem size_set (W : World) (a : Addr) (v : Value) : (W.setCell a v).heap.size = W.heap.size := by simp [World.setCell]
theorem Ld.put {w W : World} {ps os : Array Value} {L : List (Nat × List Value)} (h : Ld w W ps os L) (i : Nat) (v : Value) : Ld w (W.setCell ⟨w.heap.size + 1 + 1, i, none⟩ v) ps (os.setIfInBounds i v) L :=
  ⟨h.bel.setCell (p := ⟨w.heap.size + 1 + 1, i, none⟩) (by show w.heap.size ≤ w.heap.size + 1 + 1; omega) _, (heap_setCell_other W ⟨w.heap.size + 1 + 1, i, none⟩ _ v (by show w.heap.size ≠ w.heap.size + 1 + 1; omega)).trans h.hp, (heap_setCell_other W ⟨w.heap.size + 1 + 1, i, none⟩ _ v (by show w.heap.size + 1 ≠ w.heap.size + 1 + 1; omega)).trans h.hr,
   heap_setCell_same W _ i _ _ v h.ho, fun x hx => by
    obtain ⟨h1, h2, h3⟩ := h.rd x hx
    exact ⟨h1, by rw [size_set]; exact h2, rd_same h3 (heap_setCell_other W ⟨w.heap.size + 1 + 1, i, none⟩ _ v (by show x.1 ≠ w.heap.size + 1 + 1; omega)) (by rw [size_set]; exact Nat.le_refl _)⟩⟩
theorem Ld.wr {w W : World} {ps os : Array Value} {L : List (Nat × List Value)} (h : Ld w W ps os L) {g : Nat} (hg : w.heap.size + 1 + 1 < g) (hL : ∀ x ∈ L, x.1 ≠ g) (i : Nat) (v : Value) : Ld w (W.setCell ⟨g, i, none⟩ v) ps os L :=
  ⟨h.bel.setCell (p := ⟨g, i, none⟩) (by show w.heap.size ≤ g; omega) _, (heap_setCell_other W ⟨g, i, none⟩ _ v (by show w.heap.size ≠ g; omega)).trans h.hp, (heap_setCell_other W ⟨g, i, none⟩ _ v (by show w.heap.size + 1 ≠ g; omega)).trans h.hr, (heap_setCell_other W ⟨g, i, none⟩ _ v (by show w.heap.size + 1 + 1 ≠ g; omega)).trans h.ho, fun x hx => by
    obtain ⟨h1, h2, h3⟩ := h.rd x hx
    exact ⟨h1, by rw [size_set]; exact h2, rd_same h3 (heap_setCell_other W ⟨g, i, none⟩ _ v (hL x hx)) (by rw [size_set]; exact Nat.le_refl _)⟩⟩
theorem Ld.add {w W : World} {ps os : Array Value} {L : List (Nat × List Value)} (h : Ld w W ps os L) {g : Nat} {e : TypeId} {xs : List Value} {k : Nat} (hg : w.heap.size + 1 + 1 < g) (hb : Bk W g e xs k) : Ld w W ps os ((g, xs) :: L) :=
  ⟨h.bel, h.hp, h.hr, h.ho, fun x hx => by
    rcases List.mem_cons.1 hx with rfl | hx
    · exact ⟨hg, hb.lt, hb.rd⟩
    · exact h.rd x hx⟩
/-- three new blocks -/
theorem al3 (w : World) (a b c : Obj) : Below w.heap.size w (((w.alloc a).alloc b).alloc c) ∧ (((w.alloc a).alloc b).alloc c).heap[w.heap.size]? = some a ∧ (((w.alloc a).alloc b).alloc c).heap[w.heap.size + 1]? = some b ∧ (((w.alloc a).alloc b).alloc c).heap[w.heap.size + 1 + 1]? = some c := by
  have h2 := al2 w a b
  have s2 : ((w.alloc a).alloc b).heap.size = w.heap.size + 1 + 1 := by simp
  have hb : Below ((w.alloc a).alloc b).heap.size ((w.alloc a).alloc b) (((w.alloc a).alloc b).alloc c) := (Below.refl _ _).alloc (Nat.le_refl _) _
  have h3 := heap_alloc_new ((w.alloc a).alloc b) c
  rw [s2] at h3
  exact ⟨bel_step h2.1 hb, (hb.block _ (blk_lt h2.2.1)).trans h2.2.1, (hb.block _ (blk_lt h2.2.2)).trans h2.2.2, h3⟩
/-- a box of six cells is written over -/
theorem set6 {W : World} {rb : Nat} {a0 a1 a2 a3 a4 a5 : Value} {T : TypeId} (h : W.heap[rb]? = some (.cells #[a0, a1, a2, a3, a4, a5] T (0, 0))) (v0 v1 v2 v3 v4 v5 : Value) :
    ((((((W.setCell ⟨rb, 0, none⟩ (v0)).setCell ⟨rb, 1, none⟩ (v1)).setCell ⟨rb, 2, none⟩ (v2)).setCell ⟨rb, 3, none⟩ (v3)).setCell ⟨rb, 4, none⟩ (v4)).setCell ⟨rb, 5, none⟩ (v5)).heap[rb]? = some (.cells #[v0, v1, v2, v3, v4, v5] T (0, 0)) ∧ (∀ k, k ≠ rb → ((((((W.setCell ⟨rb, 0, none⟩ (v0)).setCell ⟨rb, 1, none⟩ (v1)).setCell ⟨rb, 2, none⟩ (v2)).setCell ⟨rb, 3, none⟩ (v3)).setCell ⟨rb, 4, none⟩ (v4)).setCell ⟨rb, 5, none⟩ (v5)).heap[k]? = W.heap[k]?) ∧ ((((((W.setCell ⟨rb, 0, none⟩ (v0)).setCell ⟨rb, 1, none⟩ (v1)).setCell ⟨rb, 2, none⟩ (v2)).setCell ⟨rb, 3, none⟩ (v3)).setCell ⟨rb, 4, none⟩ (v4)).setCell ⟨rb, 5, none⟩ (v5)).heap.size = W.heap.size ∧ ∀ (n : Nat) (w : World), Below n w W → n ≤ rb → Below n w ((((((W.setCell ⟨rb, 0, none⟩ (v0)).setCell ⟨rb, 1, none⟩ (v1)).setCell ⟨rb, 2, none⟩ (v2)).setCell ⟨rb, 3, none⟩ (v3)).setCell ⟨rb, 4, none⟩ (v4)).setCell ⟨rb, 5, none⟩ (v5)) := by
  have h0 := heap_setCell_same W rb 0 _ _ v0 h
  have h1 := heap_setCell_same _ rb 1 _ _ v1 h0
  have h2 := heap_setCell_same _ rb 2 _ _ v2 h1
  have h3 := heap_setCell_same _ rb 3 _ _ v3 h2
  have h4 := heap_setCell_same _ rb 4 _ _ v4 h3
  have h5 := heap_setCell_same _ rb 5 _ _ v5 h4
  refine ⟨h5, fun k hk => ?_, by simp only [size_set], fun n w hb hn => ?_⟩
  · rw [heap_setCell_other _ ⟨rb, 5, none⟩ k v5 hk, heap_setCell_other _ ⟨rb, 4, none⟩ k v4 hk, heap_setCell_other _ ⟨rb, 3, none⟩ k v3 hk, heap_setCell_other _ ⟨rb, 2, none⟩ k v2 hk, heap_setCell_other _ ⟨rb, 1, none⟩ k v1 hk, heap_setCell_other _ ⟨rb, 0, none⟩ k v0 hk]
  · exact (((((hb.setCell (p := ⟨rb, 0, none⟩) hn _).setCell (p := ⟨rb, 1, none⟩) hn _).setCell (p := ⟨rb, 2, none⟩) hn _).setCell (p := ⟨rb, 3, none⟩) hn _).setCell (p := ⟨rb, 4, none⟩) hn _).setCell (p := ⟨rb, 5, none⟩) hn _
/-- what LendProgram tells: lists in new blocks, apart from one another -/
structure LdP (w : World) (p : Pg) (r : Ending) (w' : World) : Prop where
  bel : Below w.heap.size w w'
  is : ∃ a b c d e, r = .returned (.agg #[.slice (some ⟨a, 0, none⟩) p.gh.length (p.gh.length + 3), .slice (some ⟨b, 0, none⟩) p.vs.length (p.vs.length + 3), .slice (some ⟨c, 0, none⟩) p.ts.length (p.ts.length + 5), .slice (some ⟨d, 0, none⟩) p.on.length (p.on.length + 5), .int .i64 p.miss, .slice (some ⟨e, 0, none⟩) p.cd.length (p.cd.length + 9)]) ∧
    w.heap.size ≤ e ∧ a < e ∧ b < e ∧ c < e ∧ d < e ∧ Rd w' (some ⟨a, 0, none⟩) (bC p.gh) ∧ Rd w' (some ⟨b, 0, none⟩) (vC p.vs) ∧ Rd w' (some ⟨c, 0, none⟩) (iC p.ts) ∧ Rd w' (some ⟨d, 0, none⟩) (iC p.on) ∧ Bk w' e 39 (cC p.cd) 45
set_option maxHeartbeats 12800000 in
set_option maxRecDepth 100000 in
/-- LendProgram -/
theorem lendP_any (v : PV) (p : Pg) (w : World) (hP : IsPg w v p) (l1 : p.gh.length ≤ 100) (l2 : p.vs.length ≤ 100) (l3 : p.ts.length ≤ 100) (l4 : p.on.length ≤ 100) (l5 : p.cd.length ≤ 524288) :
    Calls Tryd.prog 9 #[.agg (pvC v p)] w (LdP w p) := by
  have HP : Hid (∀ W, Below w.heap.size w W → IsPg W v p) := fun W hb => hP.below hb
  obtain ⟨qo, qc, vo, vc, tto, tc, oo, oc, co, cc⟩ := v
  show Calls _ _ #[.agg #[.slice qo p.gh.length qc, .slice vo p.vs.length vc, .slice tto p.ts.length tc, .slice oo p.on.length oc, .int .i64 p.miss, .slice co p.cd.length cc]] _ _
  have HA : Hid _ := al3 w (.cells #[.slice qo p.gh.length qc, .slice vo p.vs.length vc, .slice tto p.ts.length tc, .slice oo p.on.length oc, .int .i64 p.miss, .slice co p.cd.length cc] 27) (.cells #[.slice none 0 0, .slice none 0 0, .slice none 0 0, .slice none 0 0, .int .i64 0, .slice none 0 0] 27) (.cells #[.slice none 0 0, .slice none 0 0, .slice none 0 0, .slice none 0 0, .int .i64 p.miss, .slice none 0 0] 27)
  have HL : Hid (p.gh.length ≤ 100 ∧ p.vs.length ≤ 100 ∧ p.ts.length ≤ 100 ∧ p.on.length ≤ 100 ∧ p.cd.length ≤ 524288) := ⟨l1, l2, l3, l4, l5⟩
  have l1' : (p.gh.length : Int) ≤ 100 := by omega
  have l2' : (p.vs.length : Int) ≤ 100 := by omega
  have l5' : (p.cd.length : Int) ≤ 524288 := by omega
  clear hP l1 l2 l3 l4 l5
  go_enter Tryd.func9, Tryd.ntmps9
  go_upto_region 2 with fail
  generalize (((w.alloc (.cells #[.slice qo p.gh.length qc, .slice vo p.vs.length vc, .slice tto p.ts.length tc, .slice oo p.on.length oc, .int .i64 p.miss, .slice co p.cd.length cc] 27)).alloc (.cells #[.slice none 0 0, .slice none 0 0, .slice none 0 0, .slice none 0 0, .int .i64 0, .slice none 0 0] 27)).alloc (.cells #[.slice none 0 0, .slice none 0 0, .slice none 0 0, .slice none 0 0, .int .i64 p.miss, .slice none 0 0] 27)) = W3 at *
  have HD3 : Hid (Ld w W3 #[.slice qo p.gh.length qc, .slice vo p.vs.length vc, .slice tto p.ts.length tc, .slice oo p.on.length oc, .int .i64 p.miss, .slice co p.cd.length cc] #[.slice none 0 0, .slice none 0 0, .slice none 0 0, .slice none 0 0, .int .i64 p.miss, .slice none 0 0] []) := ⟨HA.out.1, HA.out.2.1, HA.out.2.2.1, HA.out.2.2.2, fun x hx => by cases hx⟩
  clear HA
  have hmk : ∀ u : World, (Instr.makeSlice 22 (.int .i64 ((p.gh.length : Int) + 3)) (.int .i64 ((p.gh.length : Int) + 3))).run Tryd.prog u = .ok (.slice (some ⟨u.heap.size, 0, none⟩) (p.gh.length + 3) (p.gh.length + 3)) (u.alloc (.cells (madeCells (Value.bool false).cells ((p.gh.length + 3) * 1)) 4)) := fun u => by
    have := mk_row Tryd.underlying22 infoB (p.gh.length + 3) (by have := HL.out; omega) (by omega) u
    rw [show ((p.gh.length + 3 : Nat) : Int) = (p.gh.length : Int) + 3 by omega] at this
    exact this
  obtain ⟨W4, hcp, hR, hB⟩ := copied Tryd.underlying22 infoB (by decide) p.gh.length 3 qc qo (bC p.gh) (bC_len _) (bC_one _) W3 (HP.out _ HD3.out.bel).gh
  have HD4 : Hid (Ld w W4 #[.slice qo p.gh.length qc, .slice vo p.vs.length vc, .slice tto p.ts.length tc, .slice oo p.on.length oc, .int .i64 p.miss, .slice co p.cd.length cc] #[.slice none 0 0, .slice none 0 0, .slice none 0 0, .slice none 0 0, .int .i64 p.miss, .slice none 0 0] [(W3.heap.size, bC p.gh)]) := (HD3.out.below hB).add (blk_lt HD3.out.ho) hR
  generalize madeCells (Value.bool false).cells ((p.gh.length + 3) * 1) = M at hmk hcp
  obtain ⟨i0, i1, i2, i3, i4, i5⟩ := cells6 HD3.out.hp
  obtain ⟨j0, j1, j2, j3, j4, j5⟩ := cells6 HD4.out.hp
  obtain ⟨o0, o1, o2, o3, o4, o5⟩ := cells6 HD4.out.ho
  have fz : ∀ j, W4.frozen? ⟨w.heap.size + 1 + 1, j, none⟩ = false := fun j => by have := HD4.out.ho; simp only [World.frozen?, this]; rfl
  have g3 : w.heap.size < W3.heap.size := blk_lt HD3.out.hp
  have g3o : w.heap.size + 1 + 1 < W3.heap.size := blk_lt HD3.out.ho
  clear hR hB
  go_upto_region 5 with fail
  have HD5 : Hid (Ld w (W4.setCell ⟨w.heap.size + 1 + 1, 0, none⟩ (.slice (some ⟨W3.heap.size, 0, none⟩) p.gh.length (p.gh.length + 3))) #[.slice qo p.gh.length qc, .slice vo p.vs.length vc, .slice tto p.ts.length tc, .slice oo p.on.length oc, .int .i64 p.miss, .slice co p.cd.length cc] #[.slice (some ⟨W3.heap.size, 0, none⟩) p.gh.length (p.gh.length + 3), .slice none 0 0, .slice none 0 0, .slice none 0 0, .int .i64 p.miss, .slice none 0 0] [(W3.heap.size, bC p.gh)]) := HD4.out.put 0 _
  clear HD3 HD4 hmk hcp i0 i1 i2 i3 i4 i5 j0 j1 j2 j3 j4 j5 o0 o1 o2 o3 o4 o5 fz g3 g3o
  generalize W4.setCell ⟨w.heap.size + 1 + 1, 0, none⟩ (.slice (some ⟨W3.heap.size, 0, none⟩) p.gh.length (p.gh.length + 3)) = W5 at *
  generalize W3.heap.size = ga at *
  have hmk : ∀ u : World, (Instr.makeSlice 23 (.int .i64 ((p.vs.length : Int) + 3)) (.int .i64 ((p.vs.length : Int) + 3))).run Tryd.prog u = .ok (.slice (some ⟨u.heap.size, 0, none⟩) (p.vs.length + 3) (p.vs.length + 3)) (u.alloc (.cells (madeCells (Value.agg #[.int .i64 0, .int .i64 0, .int .i64 0]).cells ((p.vs.length + 3) * 3)) 60)) := fun u => by
    have := mk_row Tryd.underlying23 infoV (p.vs.length + 3) (by have := HL.out; omega) (by omega) u
    rw [show ((p.vs.length + 3 : Nat) : Int) = (p.vs.length : Int) + 3 by omega] at this
    exact this
  obtain ⟨W6, hcp, hR, hB⟩ := copied Tryd.underlying23 infoV (by decide) p.vs.length 3 vc vo (vC p.vs) (vC_len _) (vC_one _) W5 (HP.out _ HD5.out.bel).vs
  have HD6 : Hid (Ld w W6 #[.slice qo p.gh.length qc, .slice vo p.vs.length vc, .slice tto p.ts.length tc, .slice oo p.on.length oc, .int .i64 p.miss, .slice co p.cd.length cc] #[.slice (some ⟨ga, 0, none⟩) p.gh.length (p.gh.length + 3), .slice none 0 0, .slice none 0 0, .slice none 0 0, .int .i64 p.miss, .slice none 0 0] [(ga, bC p.gh)]) := HD5.out.below hB
  have HR6 : Hid (Bk W6 W5.heap.size 60 (vC p.vs) 9) := hR
  generalize madeCells (Value.agg #[.int .i64 0, .int .i64 0, .int .i64 0]).cells ((p.vs.length + 3) * 3) = M at hmk hcp
  obtain ⟨i0, i1, i2, i3, i4, i5⟩ := cells6 HD5.out.hp
  obtain ⟨j0, j1, j2, j3, j4, j5⟩ := cells6 HD6.out.hp
  have hvl : (vC p.vs).length = p.vs.length * 3 := vC_len _
  obtain ⟨x0, c0⟩ := hR.cell (j := p.vs.length * 3) (by omega)
  obtain ⟨x1, c1⟩ := hR.cell (j := p.vs.length * 3 + 1) (by omega)
  obtain ⟨x2, c2⟩ := hR.cell (j := p.vs.length * 3 + 2) (by omega)
  have fz := hR.frozen
  have g5 : w.heap.size < W5.heap.size := blk_lt HD5.out.hp
  have HG5 : Hid (w.heap.size + 1 + 1 < W5.heap.size ∧ ga < W5.heap.size) := ⟨blk_lt HD5.out.ho, (HD5.out.rd (ga, bC p.gh) (by simp)).2.1⟩
  clear hR hB hvl
  go_upto_region 8 with fail
  have HD7 : Hid (Ld w (((W6.setCell ⟨W5.heap.size, p.vs.length * 3, none⟩ (.int .i64 91)).setCell ⟨W5.heap.size, p.vs.length * 3 + 1, none⟩ (.int .i64 0)).setCell ⟨W5.heap.size, p.vs.length * 3 + 2, none⟩ (.int .i64 0)) #[.slice qo p.gh.length qc, .slice vo p.vs.length vc, .slice tto p.ts.length tc, .slice oo p.on.length oc, .int .i64 p.miss, .slice co p.cd.length cc] #[.slice (some ⟨ga, 0, none⟩) p.gh.length (p.gh.length + 3), .slice none 0 0, .slice none 0 0, .slice none 0 0, .int .i64 p.miss, .slice none 0 0] [(W5.heap.size, vC p.vs), (ga, bC p.gh)]) := by
    have hL : ∀ x ∈ [(ga, bC p.gh)], x.1 ≠ W5.heap.size := fun x hx => by
      rw [List.mem_singleton] at hx
      rw [hx]
      have := HG5.out.2
      show ga ≠ _
      omega
    have hvl : (vC p.vs).length = p.vs.length * 3 := vC_len _
    have h1 := (((HD6.out.wr HG5.out.1 hL (p.vs.length * 3) (.int .i64 91)).wr HG5.out.1 hL (p.vs.length * 3 + 1) (.int .i64 0)).wr HG5.out.1 hL (p.vs.length * 3 + 2) (.int .i64 0))
    exact h1.add HG5.out.1 (((HR6.out.set (by omega) _).set (by omega) _).set (by omega) _)
  clear HD5 HD6 HR6 hmk hcp i0 i1 i2 i3 i4 i5 j0 j1 j2 j3 j4 j5 c0 c1 c2 fz g5 HG5
  generalize ((W6.setCell ⟨W5.heap.size, p.vs.length * 3, none⟩ (.int .i64 91)).setCell ⟨W5.heap.size, p.vs.length * 3 + 1, none⟩ (.int .i64 0)).setCell ⟨W5.heap.size, p.vs.length * 3 + 2, none⟩ (.int .i64 0) = W7 at *
  generalize W5.heap.size = gb at *
  obtain ⟨j0, j1, j2, j3, j4, j5⟩ := cells6 HD7.out.hp
  obtain ⟨o0, o1, o2, o3, o4, o5⟩ := cells6 HD7.out.ho
  have fz : ∀ j, W7.frozen? ⟨w.heap.size + 1 + 1, j, none⟩ = false := fun j => by have := HD7.out.ho; simp only [World.frozen?, this]; rfl
  go_upto_region 9 with fail
  have HD8 : Hid (Ld w (W7.setCell ⟨w.heap.size + 1 + 1, 1, none⟩ (.slice (some ⟨gb, 0, none⟩) p.vs.length (p.vs.length + 3))) #[.slice qo p.gh.length qc, .slice vo p.vs.length vc, .slice tto p.ts.length tc, .slice oo p.on.length oc, .int .i64 p.miss, .slice co p.cd.length cc] #[.slice (some ⟨ga, 0, none⟩) p.gh.length (p.gh.length + 3), .slice (some ⟨gb, 0, none⟩) p.vs.length (p.vs.length + 3), .slice none 0 0, .slice none 0 0, .int .i64 p.miss, .slice none 0 0] [(gb, vC p.vs), (ga, bC p.gh)]) := HD7.out.put 1 _
  clear HD7 j0 j1 j2 j3 j4 j5 o0 o1 o2 o3 o4 o5 fz
  generalize W7.setCell ⟨w.heap.size + 1 + 1, 1, none⟩ (.slice (some ⟨gb, 0, none⟩) p.vs.length (p.vs.length + 3)) = W8 at *
  obtain ⟨j0, j1, j2, j3, j4, j5⟩ := cells6 HD8.out.hp
  go_wp2_with fail
  refine (lendI_any W8 tto p.ts tc (HP.out _ HD8.out.bel).ts (by have := HL.out; omega)).mono ?_
  rintro e w9 ⟨rfl, hk9, hb9⟩
  have HD9 : Hid (Ld w w9 #[.slice qo p.gh.length qc, .slice vo p.vs.length vc, .slice tto p.ts.length tc, .slice oo p.on.length oc, .int .i64 p.miss, .slice co p.cd.length cc] #[.slice (some ⟨ga, 0, none⟩) p.gh.length (p.gh.length + 3), .slice (some ⟨gb, 0, none⟩) p.vs.length (p.vs.length + 3), .slice none 0 0, .slice none 0 0, .int .i64 p.miss, .slice none 0 0] [(W8.heap.size, iC p.ts), (gb, vC p.vs), (ga, bC p.gh)]) := (HD8.out.below hb9).add (blk_lt HD8.out.ho) hk9
  clear HD8 hk9 hb9 j0 j1 j2 j3 j4 j5
  generalize W8.heap.size = gc at *
  obtain ⟨o0, o1, o2, o3, o4, o5⟩ := cells6 HD9.out.ho
  have fz : ∀ j, w9.frozen? ⟨w.heap.size + 1 + 1, j, none⟩ = false := fun j => by have := HD9.out.ho; simp only [World.frozen?, this]; rfl
  go_upto_region 10 with fail
  have HD10 : Hid (Ld w (w9.setCell ⟨w.heap.size + 1 + 1, 2, none⟩ (.slice (some ⟨gc, 0, none⟩) p.ts.length (p.ts.length + 5))) #[.slice qo p.gh.length qc, .slice vo p.vs.length vc, .slice tto p.ts.length tc, .slice oo p.on.length oc, .int .i64 p.miss, .slice co p.cd.length cc] #[.slice (some ⟨ga, 0, none⟩) p.gh.length (p.gh.length + 3), .slice (some ⟨gb, 0, none⟩) p.vs.length (p.vs.length + 3), .slice (some ⟨gc, 0, none⟩) p.ts.length (p.ts.length + 5), .slice none 0 0, .int .i64 p.miss, .slice none 0 0] [(gc, iC p.ts), (gb, vC p.vs), (ga, bC p.gh)]) := HD9.out.put 2 _
  clear HD9 o0 o1 o2 o3 o4 o5 fz
  generalize w9.setCell ⟨w.heap.size + 1 + 1, 2, none⟩ (.slice (some ⟨gc, 0, none⟩) p.ts.length (p.ts.length + 5)) = W10 at *
  obtain ⟨j0, j1, j2, j3, j4, j5⟩ := cells6 HD10.out.hp
  go_wp2_with fail
  refine (lendI_any W10 oo p.on oc (HP.out _ HD10.out.bel).on (by have := HL.out; omega)).mono ?_
  rintro e w11 ⟨rfl, hk11, hb11⟩
  have HD11 : Hid (Ld w w11 #[.slice qo p.gh.length qc, .slice vo p.vs.length vc, .slice tto p.ts.length tc, .slice oo p.on.length oc, .int .i64 p.miss, .slice co p.cd.length cc] #[.slice (some ⟨ga, 0, none⟩) p.gh.length (p.gh.length + 3), .slice (some ⟨gb, 0, none⟩) p.vs.length (p.vs.length + 3), .slice (some ⟨gc, 0, none⟩) p.ts.length (p.ts.length + 5), .slice none 0 0, .int .i64 p.miss, .slice none 0 0] [(W10.heap.size, iC p.on), (gc, iC p.ts), (gb, vC p.vs), (ga, bC p.gh)]) := (HD10.out.below hb11).add (blk_lt HD10.out.ho) hk11
  clear HD10 hk11 hb11 j0 j1 j2 j3 j4 j5
  generalize W10.heap.size = gd at *
  obtain ⟨o0, o1, o2, o3, o4, o5⟩ := cells6 HD11.out.ho
  have fz : ∀ j, w11.frozen? ⟨w.heap.size + 1 + 1, j, none⟩ = false := fun j => by have := HD11.out.ho; simp only [World.frozen?, this]; rfl
  go_upto_region 11 with fail
  have HD12 : Hid (Ld w (w11.setCell ⟨w.heap.size + 1 + 1, 3, none⟩ (.slice (some ⟨gd, 0, none⟩) p.on.length (p.on.length + 5))) #[.slice qo p.gh.length qc, .slice vo p.vs.length vc, .slice tto p.ts.length tc, .slice oo p.on.length oc, .int .i64 p.miss, .slice co p.cd.length cc] #[.slice (some ⟨ga, 0, none⟩) p.gh.length (p.gh.length + 3), .slice (some ⟨gb, 0, none⟩) p.vs.length (p.vs.length + 3), .slice (some ⟨gc, 0, none⟩) p.ts.length (p.ts.length + 5), .slice (some ⟨gd, 0, none⟩) p.on.length (p.on.length + 5), .int .i64 p.miss, .slice none 0 0] [(gd, iC p.on), (gc, iC p.ts), (gb, vC p.vs), (ga, bC p.gh)]) := HD11.out.put 3 _
  clear HD11 o0 o1 o2 o3 o4 o5 fz
  generalize w11.setCell ⟨w.heap.size + 1 + 1, 3, none⟩ (.slice (some ⟨gd, 0, none⟩) p.on.length (p.on.length + 5)) = W12 at *
  have hmk : ∀ u : World, (Instr.makeSlice 25 (.int .i64 ((p.cd.length : Int) + 9)) (.int .i64 ((p.cd.length : Int) + 9))).run Tryd.prog u = .ok (.slice (some ⟨u.heap.size, 0, none⟩) (p.cd.length + 9) (p.cd.length + 9)) (u.alloc (.cells (madeCells (Value.agg #[.int .i64 0, .int .i64 0, .int .i64 0, .int .i64 0, .int .i64 0]).cells ((p.cd.length + 9) * 5)) 39)) := fun u => by
    have := mk_row Tryd.underlying25 infoIn (p.cd.length + 9) (by have := HL.out; omega) (by omega) u
    rw [show ((p.cd.length + 9 : Nat) : Int) = (p.cd.length : Int) + 9 by omega] at this
    exact this
  obtain ⟨W13, hcp, hR, hB⟩ := copied Tryd.underlying25 infoIn (by decide) p.cd.length 9 cc co (cC p.cd) (cC_len _) (cC_one _) W12 (HP.out _ HD12.out.bel).cd
  have HD13 : Hid (Ld w W13 #[.slice qo p.gh.length qc, .slice vo p.vs.length vc, .slice tto p.ts.length tc, .slice oo p.on.length oc, .int .i64 p.miss, .slice co p.cd.length cc] #[.slice (some ⟨ga, 0, none⟩) p.gh.length (p.gh.length + 3), .slice (some ⟨gb, 0, none⟩) p.vs.length (p.vs.length + 3), .slice (some ⟨gc, 0, none⟩) p.ts.length (p.ts.length + 5), .slice (some ⟨gd, 0, none⟩) p.on.length (p.on.length + 5), .int .i64 p.miss, .slice none 0 0] [(gd, iC p.on), (gc, iC p.ts), (gb, vC p.vs), (ga, bC p.gh)] ∧ Bk W13 W12.heap.size 39 (cC p.cd) 45) := ⟨HD12.out.below hB, hR⟩
  have HG12 : Hid (w.heap.size + 1 + 1 < W12.heap.size ∧ ga < W12.heap.size ∧ gb < W12.heap.size ∧ gc < W12.heap.size ∧ gd < W12.heap.size) := ⟨blk_lt HD12.out.ho, (HD12.out.rd (ga, bC p.gh) (by simp)).2.1, (HD12.out.rd (gb, vC p.vs) (by simp)).2.1, (HD12.out.rd (gc, iC p.ts) (by simp)).2.1, (HD12.out.rd (gd, iC p.on) (by simp)).2.1⟩
  generalize madeCells (Value.agg #[.int .i64 0, .int .i64 0, .int .i64 0, .int .i64 0, .int .i64 0]).cells ((p.cd.length + 9) * 5) = M at hmk hcp
  obtain ⟨i0, i1, i2, i3, i4, i5⟩ := cells6 HD12.out.hp
  obtain ⟨j0, j1, j2, j3, j4, j5⟩ := cells6 HD13.out.1.hp
  have g12 : w.heap.size < W12.heap.size := blk_lt HD12.out.hp
  clear hR hB
  go_upto_region 14 with fail
  clear HD12 hmk hcp i0 i1 i2 i3 i4 i5 j0 j1 j2 j3 j4 j5 g12
  generalize W12.heap.size = ge at *
  go_loopg [7] 9 (fun gq i wr => ∃ k : Nat, k ≤ 9 ∧ gq = 9 - k ∧ i = .int .i64 ((p.cd.length : Int) + k) ∧ Ld w wr #[.slice qo p.gh.length qc, .slice vo p.vs.length vc, .slice tto p.ts.length tc, .slice oo p.on.length oc, .int .i64 p.miss, .slice co p.cd.length cc] #[.slice (some ⟨ga, 0, none⟩) p.gh.length (p.gh.length + 3), .slice (some ⟨gb, 0, none⟩) p.vs.length (p.vs.length + 3), .slice (some ⟨gc, 0, none⟩) p.ts.length (p.ts.length + 5), .slice (some ⟨gd, 0, none⟩) p.on.length (p.on.length + 5), .int .i64 p.miss, .slice none 0 0] [(gd, iC p.on), (gc, iC p.ts), (gb, vC p.vs), (ga, bC p.gh)] ∧ Bk wr ge 39 (cC p.cd) 45)
  case atStart => exact ⟨0, by omega, rfl, by go_num, HD13.out.1, HD13.out.2⟩
  case round =>
    obtain ⟨k, hk, hgk, rfl, hD, hR⟩ := hrel
    have HG : Hid (gk = 9 - k) := hgk
    have HR : Hid (Ld w wr #[.slice qo p.gh.length qc, .slice vo p.vs.length vc, .slice tto p.ts.length tc, .slice oo p.on.length oc, .int .i64 p.miss, .slice co p.cd.length cc] #[.slice (some ⟨ga, 0, none⟩) p.gh.length (p.gh.length + 3), .slice (some ⟨gb, 0, none⟩) p.vs.length (p.vs.length + 3), .slice (some ⟨gc, 0, none⟩) p.ts.length (p.ts.length + 5), .slice (some ⟨gd, 0, none⟩) p.on.length (p.on.length + 5), .int .i64 p.miss, .slice none 0 0] [(gd, iC p.on), (gc, iC p.ts), (gb, vC p.vs), (ga, bC p.gh)] ∧ Bk wr ge 39 (cC p.cd) 45) := ⟨hD, hR⟩
    have hk3 : (k : Int) ≤ 9 := by omega
    clear hgk HD13 hD
    by_cases hlt : k < 9
    · have hlt' : (p.cd.length : Int) + (k : Int) < (p.cd.length : Int) + 9 := by omega
      have hcl : (cC p.cd).length = p.cd.length * 5 := cC_len _
      obtain ⟨x0, c0⟩ := hR.cell (j := (p.cd.length + k) * 5) (by omega)
      obtain ⟨x1, c1⟩ := hR.cell (j := (p.cd.length + k) * 5 + 1) (by omega)
      obtain ⟨x2, c2⟩ := hR.cell (j := (p.cd.length + k) * 5 + 2) (by omega)
      obtain ⟨x3, c3⟩ := hR.cell (j := (p.cd.length + k) * 5 + 3) (by omega)
      obtain ⟨x4, c4⟩ := hR.cell (j := (p.cd.length + k) * 5 + 4) (by omega)
      have fz := hR.frozen
      have hcast : ((p.cd.length + k : Nat) : Int) = (p.cd.length : Int) + (k : Int) := by omega
      have HS : Hid (Ld w (((((wr.setCell ⟨ge, (p.cd.length + k) * 5, none⟩ (.int .i64 (-9))).setCell ⟨ge, (p.cd.length + k) * 5 + 1, none⟩ (.int .i64 ((p.cd.length + k : Nat) : Int))).setCell ⟨ge, (p.cd.length + k) * 5 + 2, none⟩ (.int .i64 0)).setCell ⟨ge, (p.cd.length + k) * 5 + 3, none⟩ (.int .i64 0)).setCell ⟨ge, (p.cd.length + k) * 5 + 4, none⟩ (.int .i64 0)) #[.slice qo p.gh.length qc, .slice vo p.vs.length vc, .slice tto p.ts.length tc, .slice oo p.on.length oc, .int .i64 p.miss, .slice co p.cd.length cc] #[.slice (some ⟨ga, 0, none⟩) p.gh.length (p.gh.length + 3), .slice (some ⟨gb, 0, none⟩) p.vs.length (p.vs.length + 3), .slice (some ⟨gc, 0, none⟩) p.ts.length (p.ts.length + 5), .slice (some ⟨gd, 0, none⟩) p.on.length (p.on.length + 5), .int .i64 p.miss, .slice none 0 0] [(gd, iC p.on), (gc, iC p.ts), (gb, vC p.vs), (ga, bC p.gh)] ∧ Bk (((((wr.setCell ⟨ge, (p.cd.length + k) * 5, none⟩ (.int .i64 (-9))).setCell ⟨ge, (p.cd.length + k) * 5 + 1, none⟩ (.int .i64 ((p.cd.length + k : Nat) : Int))).setCell ⟨ge, (p.cd.length + k) * 5 + 2, none⟩ (.int .i64 0)).setCell ⟨ge, (p.cd.length + k) * 5 + 3, none⟩ (.int .i64 0)).setCell ⟨ge, (p.cd.length + k) * 5 + 4, none⟩ (.int .i64 0)) ge 39 (cC p.cd) 45) := by
        have hL : ∀ x ∈ [(gd, iC p.on), (gc, iC p.ts), (gb, vC p.vs), (ga, bC p.gh)], x.1 ≠ ge := fun x hx => by
          have h9 := HG12.out
          simp only [List.mem_cons, List.not_mem_nil, or_false] at hx
          rcases hx with rfl | rfl | rfl | rfl
          · show gd ≠ ge; omega
          · show gc ≠ ge; omega
          · show gb ≠ ge; omega
          · show ga ≠ ge; omega
        have h9 := HG12.out.1
        exact ⟨((((HR.out.1.wr h9 hL _ _).wr h9 hL _ _).wr h9 hL _ _).wr h9 hL _ _).wr h9 hL _ _, ((((hR.set (by omega) _).set (by omega) _).set (by omega) _).set (by omega) _).set (by omega) _⟩
      clear hR hlt hcl
      rw [← hcast] at hlt' ⊢
      go_wp2_with fail
      go_roundg (9 - (k + 1))
      case measure => have h1 := HG.out; omega
      case rel => exact ⟨k + 1, by omega, rfl, by go_num, HS.out.1, HS.out.2⟩
    · have hlt' : ¬ ((p.cd.length : Int) + (k : Int) < (p.cd.length : Int) + 9) := by omega
      obtain ⟨j0, j1, j2, j3, j4, j5⟩ := cells6 HR.out.1.hp
      obtain ⟨o0, o1, o2, o3, o4, o5⟩ := cells6 HR.out.1.ho
      have fz : ∀ j, wr.frozen? ⟨w.heap.size + 1 + 1, j, none⟩ = false := fun j => by have := HR.out.1.ho; simp only [World.frozen?, this]; rfl
      have hcast : ((p.cd.length + k : Nat) : Int) = (p.cd.length : Int) + (k : Int) := by omega
      clear hR hlt hk HG
      go_upto_region 18 with fail
      have HDx : Hid (Ld w (wr.setCell ⟨w.heap.size + 1 + 1, 5, none⟩ (.slice (some ⟨ge, 0, none⟩) p.cd.length (p.cd.length + 9))) #[.slice qo p.gh.length qc, .slice vo p.vs.length vc, .slice tto p.ts.length tc, .slice oo p.on.length oc, .int .i64 p.miss, .slice co p.cd.length cc] #[.slice (some ⟨ga, 0, none⟩) p.gh.length (p.gh.length + 3), .slice (some ⟨gb, 0, none⟩) p.vs.length (p.vs.length + 3), .slice (some ⟨gc, 0, none⟩) p.ts.length (p.ts.length + 5), .slice (some ⟨gd, 0, none⟩) p.on.length (p.on.length + 5), .int .i64 p.miss, .slice (some ⟨ge, 0, none⟩) p.cd.length (p.cd.length + 9)] [(gd, iC p.on), (gc, iC p.ts), (gb, vC p.vs), (ga, bC p.gh)] ∧ Bk (wr.setCell ⟨w.heap.size + 1 + 1, 5, none⟩ (.slice (some ⟨ge, 0, none⟩) p.cd.length (p.cd.length + 9))) ge 39 (cC p.cd) 45) := ⟨HR.out.1.put 5 _, HR.out.2.other (by have := HG12.out.1; omega) _ _⟩
      clear HR j0 j1 j2 j3 j4 j5 o0 o1 o2 o3 o4 o5 fz
      generalize wr.setCell ⟨w.heap.size + 1 + 1, 5, none⟩ (.slice (some ⟨ge, 0, none⟩) p.cd.length (p.cd.length + 9)) = Wx at *
      obtain ⟨o0, o1, o2, o3, o4, o5⟩ := cells6 HDx.out.1.ho
      have hrx := HDx.out.1.hr
      obtain ⟨r0, r1, r2, r3, r4, r5⟩ := cells6 hrx
      have fz : ∀ j, Wx.frozen? ⟨w.heap.size + 1, j, none⟩ = false := fun j => by simp only [World.frozen?, hrx]; rfl
      have hs6 := set6 hrx (.slice (some ⟨ga, 0, none⟩) p.gh.length (p.gh.length + 3)) (.slice (some ⟨gb, 0, none⟩) p.vs.length (p.vs.length + 3)) (.slice (some ⟨gc, 0, none⟩) p.ts.length (p.ts.length + 5)) (.slice (some ⟨gd, 0, none⟩) p.on.length (p.on.length + 5)) (.int .i64 p.miss) (.slice (some ⟨ge, 0, none⟩) p.cd.length (p.cd.length + 9))
      have HE : Hid (Below w.heap.size w ((((((Wx.setCell ⟨w.heap.size + 1, 0, none⟩ (.slice (some ⟨ga, 0, none⟩) p.gh.length (p.gh.length + 3))).setCell ⟨w.heap.size + 1, 1, none⟩ (.slice (some ⟨gb, 0, none⟩) p.vs.length (p.vs.length + 3))).setCell ⟨w.heap.size + 1, 2, none⟩ (.slice (some ⟨gc, 0, none⟩) p.ts.length (p.ts.length + 5))).setCell ⟨w.heap.size + 1, 3, none⟩ (.slice (some ⟨gd, 0, none⟩) p.on.length (p.on.length + 5))).setCell ⟨w.heap.size + 1, 4, none⟩ (.int .i64 p.miss)).setCell ⟨w.heap.size + 1, 5, none⟩ (.slice (some ⟨ge, 0, none⟩) p.cd.length (p.cd.length + 9))) ∧ ((((((Wx.setCell ⟨w.heap.size + 1, 0, none⟩ (.slice (some ⟨ga, 0, none⟩) p.gh.length (p.gh.length + 3))).setCell ⟨w.heap.size + 1, 1, none⟩ (.slice (some ⟨gb, 0, none⟩) p.vs.length (p.vs.length + 3))).setCell ⟨w.heap.size + 1, 2, none⟩ (.slice (some ⟨gc, 0, none⟩) p.ts.length (p.ts.length + 5))).setCell ⟨w.heap.size + 1, 3, none⟩ (.slice (some ⟨gd, 0, none⟩) p.on.length (p.on.length + 5))).setCell ⟨w.heap.size + 1, 4, none⟩ (.int .i64 p.miss)).setCell ⟨w.heap.size + 1, 5, none⟩ (.slice (some ⟨ge, 0, none⟩) p.cd.length (p.cd.length + 9))).heap[w.heap.size + 1]? = some (.cells #[.slice (some ⟨ga, 0, none⟩) p.gh.length (p.gh.length + 3), .slice (some ⟨gb, 0, none⟩) p.vs.length (p.vs.length + 3), .slice (some ⟨gc, 0, none⟩) p.ts.length (p.ts.length + 5), .slice (some ⟨gd, 0, none⟩) p.on.length (p.on.length + 5), .int .i64 p.miss, .slice (some ⟨ge, 0, none⟩) p.cd.length (p.cd.length + 9)] 27 (0, 0)) ∧ (∀ k, k ≠ w.heap.size + 1 → ((((((Wx.setCell ⟨w.heap.size + 1, 0, none⟩ (.slice (some ⟨ga, 0, none⟩) p.gh.length (p.gh.length + 3))).setCell ⟨w.heap.size + 1, 1, none⟩ (.slice (some ⟨gb, 0, none⟩) p.vs.length (p.vs.length + 3))).setCell ⟨w.heap.size + 1, 2, none⟩ (.slice (some ⟨gc, 0, none⟩) p.ts.length (p.ts.length + 5))).setCell ⟨w.heap.size + 1, 3, none⟩ (.slice (some ⟨gd, 0, none⟩) p.on.length (p.on.length + 5))).setCell ⟨w.heap.size + 1, 4, none⟩ (.int .i64 p.miss)).setCell ⟨w.heap.size + 1, 5, none⟩ (.slice (some ⟨ge, 0, none⟩) p.cd.length (p.cd.length + 9))).heap[k]? = Wx.heap[k]?) ∧ ((((((Wx.setCell ⟨w.heap.size + 1, 0, none⟩ (.slice (some ⟨ga, 0, none⟩) p.gh.length (p.gh.length + 3))).setCell ⟨w.heap.size + 1, 1, none⟩ (.slice (some ⟨gb, 0, none⟩) p.vs.length (p.vs.length + 3))).setCell ⟨w.heap.size + 1, 2, none⟩ (.slice (some ⟨gc, 0, none⟩) p.ts.length (p.ts.length + 5))).setCell ⟨w.heap.size + 1, 3, none⟩ (.slice (some ⟨gd, 0, none⟩) p.on.length (p.on.length + 5))).setCell ⟨w.heap.size + 1, 4, none⟩ (.int .i64 p.miss)).setCell ⟨w.heap.size + 1, 5, none⟩ (.slice (some ⟨ge, 0, none⟩) p.cd.length (p.cd.length + 9))).heap.size = Wx.heap.size) := ⟨hs6.2.2.2 _ _ HDx.out.1.bel (by omega), hs6.1, hs6.2.1, hs6.2.2.1⟩
      clear hrx hs6
      go_wp2_with fail
      generalize ((((((Wx.setCell ⟨w.heap.size + 1, 0, none⟩ (.slice (some ⟨ga, 0, none⟩) p.gh.length (p.gh.length + 3))).setCell ⟨w.heap.size + 1, 1, none⟩ (.slice (some ⟨gb, 0, none⟩) p.vs.length (p.vs.length + 3))).setCell ⟨w.heap.size + 1, 2, none⟩ (.slice (some ⟨gc, 0, none⟩) p.ts.length (p.ts.length + 5))).setCell ⟨w.heap.size + 1, 3, none⟩ (.slice (some ⟨gd, 0, none⟩) p.on.length (p.on.length + 5))).setCell ⟨w.heap.size + 1, 4, none⟩ (.int .i64 p.miss)).setCell ⟨w.heap.size + 1, 5, none⟩ (.slice (some ⟨ge, 0, none⟩) p.cd.length (p.cd.length + 9))) = Wz at *
      obtain ⟨z0, z1, z2, z3, z4, z5⟩ := cells6 HE.out.2.1
      refine bodyPost_ret (v := .agg #[.slice (some ⟨ga, 0, none⟩) p.gh.length (p.gh.length + 3), .slice (some ⟨gb, 0, none⟩) p.vs.length (p.vs.length + 3), .slice (some ⟨gc, 0, none⟩) p.ts.length (p.ts.length + 5), .slice (some ⟨gd, 0, none⟩) p.on.length (p.on.length + 5), .int .i64 p.miss, .slice (some ⟨ge, 0, none⟩) p.cd.length (p.cd.length + 9)]) (by simp [results, Tryd.results9, go_sem, z0, z1, z2, z3, z4, z5]) rfl ?_
      have h9 := HG12.out
      have hrd : ∀ g xs, (g, xs) ∈ [(gd, iC p.on), (gc, iC p.ts), (gb, vC p.vs), (ga, bC p.gh)] → Rd Wz (some ⟨g, 0, none⟩) xs := fun g xs hx => by
        obtain ⟨h1, h2, h3⟩ := HDx.out.1.rd _ hx
        dsimp only at h1 h2 h3
        exact rd_same h3 (HE.out.2.2.1 _ (by omega)) (by rw [HE.out.2.2.2]; exact Nat.le_refl _)
      exact ⟨HE.out.1, ga, gb, gc, gd, ge, rfl, by omega, by omega, by omega, by omega, by omega, hrd ga _ (by simp), hrd gb _ (by simp), hrd gc _ (by simp), hrd gd _ (by simp), HDx.out.2.same (HE.out.2.2.1 _ (by omega))⟩
end Go.Proofs.YtnededkmjmbioabDoor.Vf
