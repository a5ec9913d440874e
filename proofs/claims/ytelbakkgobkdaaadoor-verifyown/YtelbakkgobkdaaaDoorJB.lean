import Derived.Test.YtelbakkgobkdaaaDoorJA
import Derived.Great.BuildSlice
import Derived.Deep.Cut
namespace Go.Proofs.YtelbakkgobkdaaaDoor.Vf
open Go.RowKit Go.Proofs.YtelbakkgobkdaaaDoor.Nm
/-- where the reference says that an instruction goes on -/
def goesL (p : Pg) (u : Nat → Int) (i : Nat) (s : Sd) : List (Int × Sd) :=
  let x := p.at i
  if decide (x.op = 0) || decide (x.op = 27) then []
  else if x.op = 22 then [(x.a, s)]
  else if x.op = 23 then [((i : Int) + 1, s), (x.a, s)]
  else if x.op = 25 then [((i : Int) + 1, { s with turn := (i : Int) }), (x.a, s)]
  else if x.op = 26 then [((i : Int) + 1, s), (x.a, { s with turn := u s.turn.toNat })]
  else [((i : Int) + 1, s)]
/-- a list in a block of its own -/
def Nb (W w' : World) (o : Option Addr) (xs : List Value) : Prop := xs = [] ∨ ∃ b T, o = some ⟨b, 0, none⟩ ∧ W.heap.size ≤ b ∧ w'.heap[b]? = some (.cells xs.toArray T (0, 0))
def wsC (L : List (Int × Sd)) : List Value := L.flatMap fun x => rsC (some x.2)
def nxC (L : List (Int × Sd)) : List Value := L.map fun x => .int .i64 x.1
/-- two lists are made -/
theorem ends2 {w W W2 : World} {lb ab ub sb : Nat} {v : PV} {p : Pg} {g : Nat → Option Sd} {u : Nat → Int} {st : List Bool} {bx : Nat} (h : La w W2 lb ab ub sb v p g u st) (hf : F2 ab ub W W2) (hs : W2.heap.size = bx) (A B : Array Value) (T1 T2 : TypeId) :
    ((W2.alloc (.cells A T1)).alloc (.cells B T2)).drew.heap[bx]? = some (.cells A T1 (0, 0)) ∧ ((W2.alloc (.cells A T1)).alloc (.cells B T2)).drew.heap[bx + 1]? = some (.cells B T2 (0, 0)) ∧ La w ((W2.alloc (.cells A T1)).alloc (.cells B T2)).drew lb ab ub sb v p g u st ∧ F2 ab ub W ((W2.alloc (.cells A T1)).alloc (.cells B T2)).drew := by
  subst hs
  have hb : Below W2.heap.size W2 ((W2.alloc (.cells A T1)).alloc (.cells B T2)).drew := (((Below.refl _ W2).alloc (Nat.le_refl _) _).alloc (by simp) _).drew
  obtain ⟨t1, t2, -⟩ := two_al W2 (.cells A T1) (.cells B T2)
  exact ⟨t1.trans (heap_alloc_new _ _), t2.trans (heap_alloc_new _ _), h.below hb, hf.trans (F2.of hb)⟩
/-- what goes leaves -/
def GsP (w W : World) (lb ab ub sb : Nat) (v : PV) (p : Pg) (g : Nat → Option Sd) (u : Nat → Int) (st : List Bool) (i : Nat) (s : Sd) (e : Ending) (w' : World) : Prop :=
  ∃ o1 c1 o2 c2, e = .returned (.tuple #[.slice o1 (goesL p u i s).length c1, .slice o2 (goesL p u i s).length c2]) ∧ Nb W w' o1 (nxC (goesL p u i s)) ∧ Nb W w' o2 (wsC (goesL p u i s)) ∧
    La w w' lb ab ub sb v p g (if (p.at i).op = 25 then updU u i s.turn else u) st ∧ F2 ab ub W w'
set_option maxHeartbeats 12800000 in
set_option maxRecDepth 100000 in
theorem rgoes_22 {w W : World} {lb ab ub sb : Nat} {v : PV} {p : Pg} {g : Nat → Option Sd} {u : Nat → Int} {st : List Bool} (h : La w W lb ab ub sb v p g u st) (i : Nat) (hi : i < p.cd.length) (s : Sd) (hop : (p.at i).op = 22) :
    Calls Tryd.prog 55 #[.pointer (some ⟨lb, 0, none⟩), .int .i64 (i : Int), .agg #[.string (strT s.ty), .int .i64 s.turn, .int .i64 (s.hand : Int), .bool true]] W (GsP w W lb ab ub sb v p g u st i s) := by
  have n3 : (p.cd.length : Int) ≤ 1000000000000000 := by have := h.pg.lcd; omega
  have hi' : (i : Int) < (p.cd.length : Int) := by omega
  have hi0 : (0 : Int) ≤ (i : Int) := by omega
  have hwr : IntKind.i64.wrap ((i : Int) + 1) = (i : Int) + 1 := by rw [IntKind.wrap_i64]; omega
  have hx := at_eq hi
  obtain ⟨qo, qc, vo, vc, tto, tc, oo, oc, co, cc⟩ := v
  obtain ⟨g1, f1, hvo, hg, -⟩ := rd_ins h.lk.pg.cd hi
  obtain rfl : co = some ⟨g1, f1, none⟩ := hvo
  have hop' := hop
  rw [hx] at hop'
  obtain ⟨x, hxe⟩ : ∃ x, x = p.cd[i]'hi := ⟨_, rfl⟩
  obtain ⟨xo, xa, xb, xc, xd⟩ := x
  rw [← hxe] at hop' hx
  dsimp only at hop'
  subst hop'
  obtain ⟨ty, hd, tn⟩ := s
  have hL : goesL p u i ⟨ty, hd, tn⟩ = [(xa, (⟨ty, hd, tn⟩ : Sd))] := by unfold goesL; rw [hx]; rfl
  have hU : (if (p.at i).op = 25 then updU u i tn else u) = u := by rw [hx]; rfl
  refine Calls.mono (R := fun e w' => ∃ o1 c1 o2 c2, e = .returned (.tuple #[.slice o1 ([(xa, (⟨ty, hd, tn⟩ : Sd))]).length c1, .slice o2 ([(xa, (⟨ty, hd, tn⟩ : Sd))]).length c2]) ∧ Nb W w' o1 (nxC [(xa, (⟨ty, hd, tn⟩ : Sd))]) ∧ Nb W w' o2 (wsC [(xa, (⟨ty, hd, tn⟩ : Sd))]) ∧ La w w' lb ab ub sb ⟨qo, qc, vo, vc, tto, tc, oo, oc, some ⟨g1, f1, none⟩, cc⟩ p g u st ∧ F2 ab ub W w') ?_ (fun e w' h9 => by unfold GsP; rw [hL]; dsimp only; rw [hU]; exact h9)
  clear hL hU
  dsimp only
  have hb1 : Below W.heap.size W (W.alloc (.cells #[.string (strT ty), .int .i64 tn, .int .i64 (hd : Int), .bool true] 76)) := (Below.refl _ W).alloc (Nat.le_refl _) _
  have hb2 : Below W.heap.size W ((W.alloc (.cells #[.string (strT ty), .int .i64 tn, .int .i64 (hd : Int), .bool true] 76)).alloc (.cells #[.int .i64 22, .int .i64 xa, .int .i64 xb, .int .i64 xc, .int .i64 xd] 54)) := hb1.alloc hb1.size _
  obtain ⟨t1, t2, t3⟩ := two_al W (.cells #[.string (strT ty), .int .i64 tn, .int .i64 (hd : Int), .bool true] 76) (.cells #[.int .i64 22, .int .i64 xa, .int .i64 xb, .int .i64 xc, .int .i64 xd] 54)
  have HX : Hid (Lk (W.alloc (.cells #[.string (strT ty), .int .i64 tn, .int .i64 (hd : Int), .bool true] 76)) lb ab ub sb ⟨qo, qc, vo, vc, tto, tc, oo, oc, some ⟨g1, f1, none⟩, cc⟩ p g u st) := h.lk.below hb1
  have HY : Hid (La w ((W.alloc (.cells #[.string (strT ty), .int .i64 tn, .int .i64 (hd : Int), .bool true] 76)).alloc (.cells #[.int .i64 22, .int .i64 xa, .int .i64 xb, .int .i64 xc, .int .i64 xd] 54)) lb ab ub sb ⟨qo, qc, vo, vc, tto, tc, oo, oc, some ⟨g1, f1, none⟩, cc⟩ p g u st ∧ ((W.alloc (.cells #[.string (strT ty), .int .i64 tn, .int .i64 (hd : Int), .bool true] 76)).alloc (.cells #[.int .i64 22, .int .i64 xa, .int .i64 xb, .int .i64 xc, .int .i64 xd] 54)).heap[W.heap.size]? = some (.cells #[.string (strT ty), .int .i64 tn, .int .i64 (hd : Int), .bool true] 76 (0, 0)) ∧ ((W.alloc (.cells #[.string (strT ty), .int .i64 tn, .int .i64 (hd : Int), .bool true] 76)).alloc (.cells #[.int .i64 22, .int .i64 xa, .int .i64 xb, .int .i64 xc, .int .i64 xd] 54)).heap[W.heap.size + 1]? = some (.cells #[.int .i64 22, .int .i64 xa, .int .i64 xb, .int .i64 xc, .int .i64 xd] 54 (0, 0)) ∧ Below W.heap.size W ((W.alloc (.cells #[.string (strT ty), .int .i64 tn, .int .i64 (hd : Int), .bool true] 76)).alloc (.cells #[.int .i64 22, .int .i64 xa, .int .i64 xb, .int .i64 xc, .int .i64 xd] 54)) ∧ (∀ h9 : i < p.cd.length, p.cd[i]'h9 = ⟨22, xa, xb, xc, xd⟩) ∧ i < p.cd.length ∧ ((W.alloc (.cells #[.string (strT ty), .int .i64 tn, .int .i64 (hd : Int), .bool true] 76)).alloc (.cells #[.int .i64 22, .int .i64 xa, .int .i64 xb, .int .i64 xc, .int .i64 xd] 54)).heap.size = W.heap.size + 2) := ⟨h.below hb2, t1.trans (heap_alloc_new _ _), t2.trans (heap_alloc_new _ _), hb2, fun _ => hxe.symm, hi, by simp⟩
  have HW1 : Hid ((W.alloc (.cells #[.string (strT ty), .int .i64 tn, .int .i64 (hd : Int), .bool true] 76)).heap.size = W.heap.size + 1) := t3
  have HL : Hid (lb < W.heap.size ∧ ub < W.heap.size) := ⟨blk_lt h.lk.hw, blk_lt h.lk.up⟩
  clear hb1 hb2 t1 t2 t3 h hxe hx hg hi hop
  go_enter Tryd.func55, Tryd.ntmps55
  go_upto_region 1 with fail
  obtain ⟨-, -, -, -, -, c5, -, -, -⟩ := cells9 HX.out.hw
  obtain ⟨g2, f2, hvo2, hg2, d0, d1, d2, d3, d4⟩ := rd_ins HX.out.pg.cd HY.out.2.2.2.2.2.1
  obtain ⟨rfl, rfl⟩ : g1 = g2 ∧ f1 = f2 := by cases hvo2; exact ⟨rfl, rfl⟩
  rw [HY.out.2.2.2.2.1 HY.out.2.2.2.2.2.1] at d0 d1 d2 d3 d4
  dsimp only at c5 d0 d1 d2 d3 d4
  generalize W.alloc (.cells #[.string (strT ty), .int .i64 tn, .int .i64 (hd : Int), .bool true] 76) = W1 at *
  have hs1 := HW1.out
  go_upto_region 2 with fail
  clear c5 d0 d1 d2 d3 d4 hvo2 hg2 HX
  generalize W1.alloc (.cells #[.int .i64 22, .int .i64 xa, .int .i64 xb, .int .i64 xc, .int .i64 xd] 54) = W2 at *
  clear hs1 HW1
  generalize hbx : W.heap.size = bx at *
  obtain ⟨i0, i1, i2, i3, i4⟩ := cells5 HY.out.2.2.1
  obtain ⟨s0, s1, s2, s3⟩ := cells4s HY.out.2.1
  obtain ⟨-, -, -, -, -, c5, c6, c7, c8⟩ := cells9 HY.out.1.lk.hw
  dsimp only at c5
  have hw2 := HY.out.2.2.2.2.2.2
  have HF : Hid (F2 ab ub W W2) := by have h9 := HY.out.2.2.2.1; rw [← hbx] at h9; exact F2.of h9
  go_wp2_with fail
  go_region
  all_goals
    go_wp2_with fail
    first
      | (refine bodyPost_ret (v := .tuple #[.slice (some ⟨bx + 2, 0, none⟩) 1 1, .slice (some ⟨bx + 2 + 1, 0, none⟩) 1 1]) (by simp [results, Tryd.results55, go_sem]) rfl ?_
         obtain ⟨e1, e2, e3, e4⟩ := ends2 HY.out.1 HF.out hw2 _ _ _ _
         exact ⟨_, _, _, _, rfl, Or.inr ⟨_, _, rfl, by rw [hbx]; omega, e1⟩, Or.inr ⟨_, _, rfl, by rw [hbx]; omega, e2⟩, e3, e4⟩)
      | (refine bodyPost_ret (v := .tuple #[.slice (some ⟨bx + 2 + 1, 0, none⟩) 1 1, .slice (some ⟨bx + 2, 0, none⟩) 1 1]) (by simp [results, Tryd.results55, go_sem]) rfl ?_
         obtain ⟨e1, e2, e3, e4⟩ := ends2 HY.out.1 HF.out hw2 _ _ _ _
         exact ⟨_, _, _, _, rfl, Or.inr ⟨_, _, rfl, by rw [hbx]; omega, e2⟩, Or.inr ⟨_, _, rfl, by rw [hbx]; omega, e1⟩, e3, e4⟩)
set_option maxHeartbeats 12800000 in
set_option maxRecDepth 100000 in
theorem rgoes_23 {w W : World} {lb ab ub sb : Nat} {v : PV} {p : Pg} {g : Nat → Option Sd} {u : Nat → Int} {st : List Bool} (h : La w W lb ab ub sb v p g u st) (i : Nat) (hi : i < p.cd.length) (s : Sd) (hop : (p.at i).op = 23) :
    Calls Tryd.prog 55 #[.pointer (some ⟨lb, 0, none⟩), .int .i64 (i : Int), .agg #[.string (strT s.ty), .int .i64 s.turn, .int .i64 (s.hand : Int), .bool true]] W (GsP w W lb ab ub sb v p g u st i s) := by
  have n3 : (p.cd.length : Int) ≤ 1000000000000000 := by have := h.pg.lcd; omega
  have hi' : (i : Int) < (p.cd.length : Int) := by omega
  have hi0 : (0 : Int) ≤ (i : Int) := by omega
  have hwr : IntKind.i64.wrap ((i : Int) + 1) = (i : Int) + 1 := by rw [IntKind.wrap_i64]; omega
  have hx := at_eq hi
  obtain ⟨qo, qc, vo, vc, tto, tc, oo, oc, co, cc⟩ := v
  obtain ⟨g1, f1, hvo, hg, -⟩ := rd_ins h.lk.pg.cd hi
  obtain rfl : co = some ⟨g1, f1, none⟩ := hvo
  have hop' := hop
  rw [hx] at hop'
  obtain ⟨x, hxe⟩ : ∃ x, x = p.cd[i]'hi := ⟨_, rfl⟩
  obtain ⟨xo, xa, xb, xc, xd⟩ := x
  rw [← hxe] at hop' hx
  dsimp only at hop'
  subst hop'
  obtain ⟨ty, hd, tn⟩ := s
  have hL : goesL p u i ⟨ty, hd, tn⟩ = [((i : Int) + 1, (⟨ty, hd, tn⟩ : Sd)), (xa, (⟨ty, hd, tn⟩ : Sd))] := by unfold goesL; rw [hx]; rfl
  have hU : (if (p.at i).op = 25 then updU u i tn else u) = u := by rw [hx]; rfl
  refine Calls.mono (R := fun e w' => ∃ o1 c1 o2 c2, e = .returned (.tuple #[.slice o1 ([((i : Int) + 1, (⟨ty, hd, tn⟩ : Sd)), (xa, (⟨ty, hd, tn⟩ : Sd))]).length c1, .slice o2 ([((i : Int) + 1, (⟨ty, hd, tn⟩ : Sd)), (xa, (⟨ty, hd, tn⟩ : Sd))]).length c2]) ∧ Nb W w' o1 (nxC [((i : Int) + 1, (⟨ty, hd, tn⟩ : Sd)), (xa, (⟨ty, hd, tn⟩ : Sd))]) ∧ Nb W w' o2 (wsC [((i : Int) + 1, (⟨ty, hd, tn⟩ : Sd)), (xa, (⟨ty, hd, tn⟩ : Sd))]) ∧ La w w' lb ab ub sb ⟨qo, qc, vo, vc, tto, tc, oo, oc, some ⟨g1, f1, none⟩, cc⟩ p g u st ∧ F2 ab ub W w') ?_ (fun e w' h9 => by unfold GsP; rw [hL]; dsimp only; rw [hU]; exact h9)
  clear hL hU
  dsimp only
  have hb1 : Below W.heap.size W (W.alloc (.cells #[.string (strT ty), .int .i64 tn, .int .i64 (hd : Int), .bool true] 76)) := (Below.refl _ W).alloc (Nat.le_refl _) _
  have hb2 : Below W.heap.size W ((W.alloc (.cells #[.string (strT ty), .int .i64 tn, .int .i64 (hd : Int), .bool true] 76)).alloc (.cells #[.int .i64 23, .int .i64 xa, .int .i64 xb, .int .i64 xc, .int .i64 xd] 54)) := hb1.alloc hb1.size _
  obtain ⟨t1, t2, t3⟩ := two_al W (.cells #[.string (strT ty), .int .i64 tn, .int .i64 (hd : Int), .bool true] 76) (.cells #[.int .i64 23, .int .i64 xa, .int .i64 xb, .int .i64 xc, .int .i64 xd] 54)
  have HX : Hid (Lk (W.alloc (.cells #[.string (strT ty), .int .i64 tn, .int .i64 (hd : Int), .bool true] 76)) lb ab ub sb ⟨qo, qc, vo, vc, tto, tc, oo, oc, some ⟨g1, f1, none⟩, cc⟩ p g u st) := h.lk.below hb1
  have HY : Hid (La w ((W.alloc (.cells #[.string (strT ty), .int .i64 tn, .int .i64 (hd : Int), .bool true] 76)).alloc (.cells #[.int .i64 23, .int .i64 xa, .int .i64 xb, .int .i64 xc, .int .i64 xd] 54)) lb ab ub sb ⟨qo, qc, vo, vc, tto, tc, oo, oc, some ⟨g1, f1, none⟩, cc⟩ p g u st ∧ ((W.alloc (.cells #[.string (strT ty), .int .i64 tn, .int .i64 (hd : Int), .bool true] 76)).alloc (.cells #[.int .i64 23, .int .i64 xa, .int .i64 xb, .int .i64 xc, .int .i64 xd] 54)).heap[W.heap.size]? = some (.cells #[.string (strT ty), .int .i64 tn, .int .i64 (hd : Int), .bool true] 76 (0, 0)) ∧ ((W.alloc (.cells #[.string (strT ty), .int .i64 tn, .int .i64 (hd : Int), .bool true] 76)).alloc (.cells #[.int .i64 23, .int .i64 xa, .int .i64 xb, .int .i64 xc, .int .i64 xd] 54)).heap[W.heap.size + 1]? = some (.cells #[.int .i64 23, .int .i64 xa, .int .i64 xb, .int .i64 xc, .int .i64 xd] 54 (0, 0)) ∧ Below W.heap.size W ((W.alloc (.cells #[.string (strT ty), .int .i64 tn, .int .i64 (hd : Int), .bool true] 76)).alloc (.cells #[.int .i64 23, .int .i64 xa, .int .i64 xb, .int .i64 xc, .int .i64 xd] 54)) ∧ (∀ h9 : i < p.cd.length, p.cd[i]'h9 = ⟨23, xa, xb, xc, xd⟩) ∧ i < p.cd.length ∧ ((W.alloc (.cells #[.string (strT ty), .int .i64 tn, .int .i64 (hd : Int), .bool true] 76)).alloc (.cells #[.int .i64 23, .int .i64 xa, .int .i64 xb, .int .i64 xc, .int .i64 xd] 54)).heap.size = W.heap.size + 2) := ⟨h.below hb2, t1.trans (heap_alloc_new _ _), t2.trans (heap_alloc_new _ _), hb2, fun _ => hxe.symm, hi, by simp⟩
  have HW1 : Hid ((W.alloc (.cells #[.string (strT ty), .int .i64 tn, .int .i64 (hd : Int), .bool true] 76)).heap.size = W.heap.size + 1) := t3
  have HL : Hid (lb < W.heap.size ∧ ub < W.heap.size) := ⟨blk_lt h.lk.hw, blk_lt h.lk.up⟩
  clear hb1 hb2 t1 t2 t3 h hxe hx hg hi hop
  go_enter Tryd.func55, Tryd.ntmps55
  go_upto_region 1 with fail
  obtain ⟨-, -, -, -, -, c5, -, -, -⟩ := cells9 HX.out.hw
  obtain ⟨g2, f2, hvo2, hg2, d0, d1, d2, d3, d4⟩ := rd_ins HX.out.pg.cd HY.out.2.2.2.2.2.1
  obtain ⟨rfl, rfl⟩ : g1 = g2 ∧ f1 = f2 := by cases hvo2; exact ⟨rfl, rfl⟩
  rw [HY.out.2.2.2.2.1 HY.out.2.2.2.2.2.1] at d0 d1 d2 d3 d4
  dsimp only at c5 d0 d1 d2 d3 d4
  generalize W.alloc (.cells #[.string (strT ty), .int .i64 tn, .int .i64 (hd : Int), .bool true] 76) = W1 at *
  have hs1 := HW1.out
  go_upto_region 2 with fail
  clear c5 d0 d1 d2 d3 d4 hvo2 hg2 HX
  generalize W1.alloc (.cells #[.int .i64 23, .int .i64 xa, .int .i64 xb, .int .i64 xc, .int .i64 xd] 54) = W2 at *
  clear hs1 HW1
  generalize hbx : W.heap.size = bx at *
  obtain ⟨i0, i1, i2, i3, i4⟩ := cells5 HY.out.2.2.1
  obtain ⟨s0, s1, s2, s3⟩ := cells4s HY.out.2.1
  obtain ⟨-, -, -, -, -, c5, c6, c7, c8⟩ := cells9 HY.out.1.lk.hw
  dsimp only at c5
  have hw2 := HY.out.2.2.2.2.2.2
  have HF : Hid (F2 ab ub W W2) := by have h9 := HY.out.2.2.2.1; rw [← hbx] at h9; exact F2.of h9
  go_wp2_with fail
  go_region
  all_goals
    go_wp2_with fail
    first
      | (refine bodyPost_ret (v := .tuple #[.slice (some ⟨bx + 2, 0, none⟩) 2 2, .slice (some ⟨bx + 2 + 1, 0, none⟩) 2 2]) (by simp [results, Tryd.results55, go_sem]) rfl ?_
         obtain ⟨e1, e2, e3, e4⟩ := ends2 HY.out.1 HF.out hw2 _ _ _ _
         exact ⟨_, _, _, _, rfl, Or.inr ⟨_, _, rfl, by rw [hbx]; omega, e1⟩, Or.inr ⟨_, _, rfl, by rw [hbx]; omega, e2⟩, e3, e4⟩)
      | (refine bodyPost_ret (v := .tuple #[.slice (some ⟨bx + 2 + 1, 0, none⟩) 2 2, .slice (some ⟨bx + 2, 0, none⟩) 2 2]) (by simp [results, Tryd.results55, go_sem]) rfl ?_
         obtain ⟨e1, e2, e3, e4⟩ := ends2 HY.out.1 HF.out hw2 _ _ _ _
         exact ⟨_, _, _, _, rfl, Or.inr ⟨_, _, rfl, by rw [hbx]; omega, e2⟩, Or.inr ⟨_, _, rfl, by rw [hbx]; omega, e1⟩, e3, e4⟩)
set_option maxHeartbeats 12800000 in
set_option maxRecDepth 100000 in
theorem rgoes_0 {w W : World} {lb ab ub sb : Nat} {v : PV} {p : Pg} {g : Nat → Option Sd} {u : Nat → Int} {st : List Bool} (h : La w W lb ab ub sb v p g u st) (i : Nat) (hi : i < p.cd.length) (s : Sd) (hop : (p.at i).op = 0) :
    Calls Tryd.prog 55 #[.pointer (some ⟨lb, 0, none⟩), .int .i64 (i : Int), .agg #[.string (strT s.ty), .int .i64 s.turn, .int .i64 (s.hand : Int), .bool true]] W (GsP w W lb ab ub sb v p g u st i s) := by
  have n3 : (p.cd.length : Int) ≤ 1000000000000000 := by have := h.pg.lcd; omega
  have hi' : (i : Int) < (p.cd.length : Int) := by omega
  have hi0 : (0 : Int) ≤ (i : Int) := by omega
  have hwr : IntKind.i64.wrap ((i : Int) + 1) = (i : Int) + 1 := by rw [IntKind.wrap_i64]; omega
  have hx := at_eq hi
  obtain ⟨qo, qc, vo, vc, tto, tc, oo, oc, co, cc⟩ := v
  obtain ⟨g1, f1, hvo, hg, -⟩ := rd_ins h.lk.pg.cd hi
  obtain rfl : co = some ⟨g1, f1, none⟩ := hvo
  have hop' := hop
  rw [hx] at hop'
  obtain ⟨x, hxe⟩ : ∃ x, x = p.cd[i]'hi := ⟨_, rfl⟩
  obtain ⟨xo, xa, xb, xc, xd⟩ := x
  rw [← hxe] at hop' hx
  dsimp only at hop'
  subst hop'
  obtain ⟨ty, hd, tn⟩ := s
  have hL : goesL p u i ⟨ty, hd, tn⟩ = ([] : List (Int × Sd)) := by unfold goesL; rw [hx]; rfl
  have hU : (if (p.at i).op = 25 then updU u i tn else u) = u := by rw [hx]; rfl
  refine Calls.mono (R := fun e w' => ∃ o1 c1 o2 c2, e = .returned (.tuple #[.slice o1 (([] : List (Int × Sd))).length c1, .slice o2 (([] : List (Int × Sd))).length c2]) ∧ Nb W w' o1 (nxC ([] : List (Int × Sd))) ∧ Nb W w' o2 (wsC ([] : List (Int × Sd))) ∧ La w w' lb ab ub sb ⟨qo, qc, vo, vc, tto, tc, oo, oc, some ⟨g1, f1, none⟩, cc⟩ p g u st ∧ F2 ab ub W w') ?_ (fun e w' h9 => by unfold GsP; rw [hL]; dsimp only; rw [hU]; exact h9)
  clear hL hU
  dsimp only
  have hb1 : Below W.heap.size W (W.alloc (.cells #[.string (strT ty), .int .i64 tn, .int .i64 (hd : Int), .bool true] 76)) := (Below.refl _ W).alloc (Nat.le_refl _) _
  have hb2 : Below W.heap.size W ((W.alloc (.cells #[.string (strT ty), .int .i64 tn, .int .i64 (hd : Int), .bool true] 76)).alloc (.cells #[.int .i64 0, .int .i64 xa, .int .i64 xb, .int .i64 xc, .int .i64 xd] 54)) := hb1.alloc hb1.size _
  obtain ⟨t1, t2, t3⟩ := two_al W (.cells #[.string (strT ty), .int .i64 tn, .int .i64 (hd : Int), .bool true] 76) (.cells #[.int .i64 0, .int .i64 xa, .int .i64 xb, .int .i64 xc, .int .i64 xd] 54)
  have HX : Hid (Lk (W.alloc (.cells #[.string (strT ty), .int .i64 tn, .int .i64 (hd : Int), .bool true] 76)) lb ab ub sb ⟨qo, qc, vo, vc, tto, tc, oo, oc, some ⟨g1, f1, none⟩, cc⟩ p g u st) := h.lk.below hb1
  have HY : Hid (La w ((W.alloc (.cells #[.string (strT ty), .int .i64 tn, .int .i64 (hd : Int), .bool true] 76)).alloc (.cells #[.int .i64 0, .int .i64 xa, .int .i64 xb, .int .i64 xc, .int .i64 xd] 54)) lb ab ub sb ⟨qo, qc, vo, vc, tto, tc, oo, oc, some ⟨g1, f1, none⟩, cc⟩ p g u st ∧ ((W.alloc (.cells #[.string (strT ty), .int .i64 tn, .int .i64 (hd : Int), .bool true] 76)).alloc (.cells #[.int .i64 0, .int .i64 xa, .int .i64 xb, .int .i64 xc, .int .i64 xd] 54)).heap[W.heap.size]? = some (.cells #[.string (strT ty), .int .i64 tn, .int .i64 (hd : Int), .bool true] 76 (0, 0)) ∧ ((W.alloc (.cells #[.string (strT ty), .int .i64 tn, .int .i64 (hd : Int), .bool true] 76)).alloc (.cells #[.int .i64 0, .int .i64 xa, .int .i64 xb, .int .i64 xc, .int .i64 xd] 54)).heap[W.heap.size + 1]? = some (.cells #[.int .i64 0, .int .i64 xa, .int .i64 xb, .int .i64 xc, .int .i64 xd] 54 (0, 0)) ∧ Below W.heap.size W ((W.alloc (.cells #[.string (strT ty), .int .i64 tn, .int .i64 (hd : Int), .bool true] 76)).alloc (.cells #[.int .i64 0, .int .i64 xa, .int .i64 xb, .int .i64 xc, .int .i64 xd] 54)) ∧ (∀ h9 : i < p.cd.length, p.cd[i]'h9 = ⟨0, xa, xb, xc, xd⟩) ∧ i < p.cd.length ∧ ((W.alloc (.cells #[.string (strT ty), .int .i64 tn, .int .i64 (hd : Int), .bool true] 76)).alloc (.cells #[.int .i64 0, .int .i64 xa, .int .i64 xb, .int .i64 xc, .int .i64 xd] 54)).heap.size = W.heap.size + 2) := ⟨h.below hb2, t1.trans (heap_alloc_new _ _), t2.trans (heap_alloc_new _ _), hb2, fun _ => hxe.symm, hi, by simp⟩
  have HW1 : Hid ((W.alloc (.cells #[.string (strT ty), .int .i64 tn, .int .i64 (hd : Int), .bool true] 76)).heap.size = W.heap.size + 1) := t3
  have HL : Hid (lb < W.heap.size ∧ ub < W.heap.size) := ⟨blk_lt h.lk.hw, blk_lt h.lk.up⟩
  clear hb1 hb2 t1 t2 t3 h hxe hx hg hi hop
  go_enter Tryd.func55, Tryd.ntmps55
  go_upto_region 1 with fail
  obtain ⟨-, -, -, -, -, c5, -, -, -⟩ := cells9 HX.out.hw
  obtain ⟨g2, f2, hvo2, hg2, d0, d1, d2, d3, d4⟩ := rd_ins HX.out.pg.cd HY.out.2.2.2.2.2.1
  obtain ⟨rfl, rfl⟩ : g1 = g2 ∧ f1 = f2 := by cases hvo2; exact ⟨rfl, rfl⟩
  rw [HY.out.2.2.2.2.1 HY.out.2.2.2.2.2.1] at d0 d1 d2 d3 d4
  dsimp only at c5 d0 d1 d2 d3 d4
  generalize W.alloc (.cells #[.string (strT ty), .int .i64 tn, .int .i64 (hd : Int), .bool true] 76) = W1 at *
  have hs1 := HW1.out
  go_upto_region 2 with fail
  clear c5 d0 d1 d2 d3 d4 hvo2 hg2 HX
  generalize W1.alloc (.cells #[.int .i64 0, .int .i64 xa, .int .i64 xb, .int .i64 xc, .int .i64 xd] 54) = W2 at *
  clear hs1 HW1
  generalize hbx : W.heap.size = bx at *
  obtain ⟨i0, i1, i2, i3, i4⟩ := cells5 HY.out.2.2.1
  obtain ⟨s0, s1, s2, s3⟩ := cells4s HY.out.2.1
  obtain ⟨-, -, -, -, -, c5, c6, c7, c8⟩ := cells9 HY.out.1.lk.hw
  dsimp only at c5
  have hw2 := HY.out.2.2.2.2.2.2
  have HF : Hid (F2 ab ub W W2) := by have h9 := HY.out.2.2.2.1; rw [← hbx] at h9; exact F2.of h9
  go_wp2_with fail
  refine bodyPost_ret (v := .tuple #[.slice none 0 0, .slice none 0 0]) (by simp [results, Tryd.results55, go_sem]) rfl ?_
  exact ⟨_, _, _, _, rfl, Or.inl rfl, Or.inl rfl, HY.out.1, HF.out⟩
set_option maxHeartbeats 12800000 in
set_option maxRecDepth 100000 in
theorem rgoes_27 {w W : World} {lb ab ub sb : Nat} {v : PV} {p : Pg} {g : Nat → Option Sd} {u : Nat → Int} {st : List Bool} (h : La w W lb ab ub sb v p g u st) (i : Nat) (hi : i < p.cd.length) (s : Sd) (hop : (p.at i).op = 27) :
    Calls Tryd.prog 55 #[.pointer (some ⟨lb, 0, none⟩), .int .i64 (i : Int), .agg #[.string (strT s.ty), .int .i64 s.turn, .int .i64 (s.hand : Int), .bool true]] W (GsP w W lb ab ub sb v p g u st i s) := by
  have n3 : (p.cd.length : Int) ≤ 1000000000000000 := by have := h.pg.lcd; omega
  have hi' : (i : Int) < (p.cd.length : Int) := by omega
  have hi0 : (0 : Int) ≤ (i : Int) := by omega
  have hwr : IntKind.i64.wrap ((i : Int) + 1) = (i : Int) + 1 := by rw [IntKind.wrap_i64]; omega
  have hx := at_eq hi
  obtain ⟨qo, qc, vo, vc, tto, tc, oo, oc, co, cc⟩ := v
  obtain ⟨g1, f1, hvo, hg, -⟩ := rd_ins h.lk.pg.cd hi
  obtain rfl : co = some ⟨g1, f1, none⟩ := hvo
  have hop' := hop
  rw [hx] at hop'
  obtain ⟨x, hxe⟩ : ∃ x, x = p.cd[i]'hi := ⟨_, rfl⟩
  obtain ⟨xo, xa, xb, xc, xd⟩ := x
  rw [← hxe] at hop' hx
  dsimp only at hop'
  subst hop'
  obtain ⟨ty, hd, tn⟩ := s
  have hL : goesL p u i ⟨ty, hd, tn⟩ = ([] : List (Int × Sd)) := by unfold goesL; rw [hx]; rfl
  have hU : (if (p.at i).op = 25 then updU u i tn else u) = u := by rw [hx]; rfl
  refine Calls.mono (R := fun e w' => ∃ o1 c1 o2 c2, e = .returned (.tuple #[.slice o1 (([] : List (Int × Sd))).length c1, .slice o2 (([] : List (Int × Sd))).length c2]) ∧ Nb W w' o1 (nxC ([] : List (Int × Sd))) ∧ Nb W w' o2 (wsC ([] : List (Int × Sd))) ∧ La w w' lb ab ub sb ⟨qo, qc, vo, vc, tto, tc, oo, oc, some ⟨g1, f1, none⟩, cc⟩ p g u st ∧ F2 ab ub W w') ?_ (fun e w' h9 => by unfold GsP; rw [hL]; dsimp only; rw [hU]; exact h9)
  clear hL hU
  dsimp only
  have hb1 : Below W.heap.size W (W.alloc (.cells #[.string (strT ty), .int .i64 tn, .int .i64 (hd : Int), .bool true] 76)) := (Below.refl _ W).alloc (Nat.le_refl _) _
  have hb2 : Below W.heap.size W ((W.alloc (.cells #[.string (strT ty), .int .i64 tn, .int .i64 (hd : Int), .bool true] 76)).alloc (.cells #[.int .i64 27, .int .i64 xa, .int .i64 xb, .int .i64 xc, .int .i64 xd] 54)) := hb1.alloc hb1.size _
  obtain ⟨t1, t2, t3⟩ := two_al W (.cells #[.string (strT ty), .int .i64 tn, .int .i64 (hd : Int), .bool true] 76) (.cells #[.int .i64 27, .int .i64 xa, .int .i64 xb, .int .i64 xc, .int .i64 xd] 54)
  have HX : Hid (Lk (W.alloc (.cells #[.string (strT ty), .int .i64 tn, .int .i64 (hd : Int), .bool true] 76)) lb ab ub sb ⟨qo, qc, vo, vc, tto, tc, oo, oc, some ⟨g1, f1, none⟩, cc⟩ p g u st) := h.lk.below hb1
  have HY : Hid (La w ((W.alloc (.cells #[.string (strT ty), .int .i64 tn, .int .i64 (hd : Int), .bool true] 76)).alloc (.cells #[.int .i64 27, .int .i64 xa, .int .i64 xb, .int .i64 xc, .int .i64 xd] 54)) lb ab ub sb ⟨qo, qc, vo, vc, tto, tc, oo, oc, some ⟨g1, f1, none⟩, cc⟩ p g u st ∧ ((W.alloc (.cells #[.string (strT ty), .int .i64 tn, .int .i64 (hd : Int), .bool true] 76)).alloc (.cells #[.int .i64 27, .int .i64 xa, .int .i64 xb, .int .i64 xc, .int .i64 xd] 54)).heap[W.heap.size]? = some (.cells #[.string (strT ty), .int .i64 tn, .int .i64 (hd : Int), .bool true] 76 (0, 0)) ∧ ((W.alloc (.cells #[.string (strT ty), .int .i64 tn, .int .i64 (hd : Int), .bool true] 76)).alloc (.cells #[.int .i64 27, .int .i64 xa, .int .i64 xb, .int .i64 xc, .int .i64 xd] 54)).heap[W.heap.size + 1]? = some (.cells #[.int .i64 27, .int .i64 xa, .int .i64 xb, .int .i64 xc, .int .i64 xd] 54 (0, 0)) ∧ Below W.heap.size W ((W.alloc (.cells #[.string (strT ty), .int .i64 tn, .int .i64 (hd : Int), .bool true] 76)).alloc (.cells #[.int .i64 27, .int .i64 xa, .int .i64 xb, .int .i64 xc, .int .i64 xd] 54)) ∧ (∀ h9 : i < p.cd.length, p.cd[i]'h9 = ⟨27, xa, xb, xc, xd⟩) ∧ i < p.cd.length ∧ ((W.alloc (.cells #[.string (strT ty), .int .i64 tn, .int .i64 (hd : Int), .bool true] 76)).alloc (.cells #[.int .i64 27, .int .i64 xa, .int .i64 xb, .int .i64 xc, .int .i64 xd] 54)).heap.size = W.heap.size + 2) := ⟨h.below hb2, t1.trans (heap_alloc_new _ _), t2.trans (heap_alloc_new _ _), hb2, fun _ => hxe.symm, hi, by simp⟩
  have HW1 : Hid ((W.alloc (.cells #[.string (strT ty), .int .i64 tn, .int .i64 (hd : Int), .bool true] 76)).heap.size = W.heap.size + 1) := t3
  have HL : Hid (lb < W.heap.size ∧ ub < W.heap.size) := ⟨blk_lt h.lk.hw, blk_lt h.lk.up⟩
  clear hb1 hb2 t1 t2 t3 h hxe hx hg hi hop
  go_enter Tryd.func55, Tryd.ntmps55
  go_upto_region 1 with fail
  obtain ⟨-, -, -, -, -, c5, -, -, -⟩ := cells9 HX.out.hw
  obtain ⟨g2, f2, hvo2, hg2, d0, d1, d2, d3, d4⟩ := rd_ins HX.out.pg.cd HY.out.2.2.2.2.2.1
  obtain ⟨rfl, rfl⟩ : g1 = g2 ∧ f1 = f2 := by cases hvo2; exact ⟨rfl, rfl⟩
  rw [HY.out.2.2.2.2.1 HY.out.2.2.2.2.2.1] at d0 d1 d2 d3 d4
  dsimp only at c5 d0 d1 d2 d3 d4
  generalize W.alloc (.cells #[.string (strT ty), .int .i64 tn, .int .i64 (hd : Int), .bool true] 76) = W1 at *
  have hs1 := HW1.out
  go_upto_region 2 with fail
  clear c5 d0 d1 d2 d3 d4 hvo2 hg2 HX
  generalize W1.alloc (.cells #[.int .i64 27, .int .i64 xa, .int .i64 xb, .int .i64 xc, .int .i64 xd] 54) = W2 at *
  clear hs1 HW1
  generalize hbx : W.heap.size = bx at *
  obtain ⟨i0, i1, i2, i3, i4⟩ := cells5 HY.out.2.2.1
  obtain ⟨s0, s1, s2, s3⟩ := cells4s HY.out.2.1
  obtain ⟨-, -, -, -, -, c5, c6, c7, c8⟩ := cells9 HY.out.1.lk.hw
  dsimp only at c5
  have hw2 := HY.out.2.2.2.2.2.2
  have HF : Hid (F2 ab ub W W2) := by have h9 := HY.out.2.2.2.1; rw [← hbx] at h9; exact F2.of h9
  go_wp2_with fail
  refine bodyPost_ret (v := .tuple #[.slice none 0 0, .slice none 0 0]) (by simp [results, Tryd.results55, go_sem]) rfl ?_
  exact ⟨_, _, _, _, rfl, Or.inl rfl, Or.inl rfl, HY.out.1, HF.out⟩
end Go.Proofs.YtelbakkgobkdaaaDoor.Vf

namespace Go.Proofs.YtelbakkgobkdaaaDoor.Vf
open Go.RowKit Go.Proofs.YtelbakkgobkdaaaDoor.Nm
set_option maxHeartbeats 12800000 in
set_option maxRecDepth 100000 in
theorem rgoes_x {w W : World} {lb ab ub sb : Nat} {v : PV} {p : Pg} {g : Nat → Option Sd} {u : Nat → Int} {st : List Bool} (h : La w W lb ab ub sb v p g u st) (i : Nat) (hi : i < p.cd.length) (s : Sd) (k22 : ¬ (p.at i).op = 22) (k23 : ¬ (p.at i).op = 23) (k25 : ¬ (p.at i).op = 25) (k26 : ¬ (p.at i).op = 26) (k27 : ¬ (p.at i).op = 27) (k0 : ¬ (p.at i).op = 0) :
    Calls Tryd.prog 55 #[.pointer (some ⟨lb, 0, none⟩), .int .i64 (i : Int), .agg #[.string (strT s.ty), .int .i64 s.turn, .int .i64 (s.hand : Int), .bool true]] W (GsP w W lb ab ub sb v p g u st i s) := by
  have n3 : (p.cd.length : Int) ≤ 1000000000000000 := by have := h.pg.lcd; omega
  have hi' : (i : Int) < (p.cd.length : Int) := by omega
  have hi0 : (0 : Int) ≤ (i : Int) := by omega
  have hwr : IntKind.i64.wrap ((i : Int) + 1) = (i : Int) + 1 := by rw [IntKind.wrap_i64]; omega
  have hx := at_eq hi
  obtain ⟨qo, qc, vo, vc, tto, tc, oo, oc, co, cc⟩ := v
  obtain ⟨g1, f1, hvo, hg, -⟩ := rd_ins h.lk.pg.cd hi
  obtain rfl : co = some ⟨g1, f1, none⟩ := hvo
  have h22 := k22
  have h23 := k23
  have h25 := k25
  have h26 := k26
  have h27 := k27
  have h0 := k0
  rw [hx] at h22 h23 h25 h26 h27 h0
  obtain ⟨x, hxe⟩ : ∃ x, x = p.cd[i]'hi := ⟨_, rfl⟩
  obtain ⟨xo, xa, xb, xc, xd⟩ := x
  rw [← hxe] at h22 h23 h25 h26 h27 h0 hx
  dsimp only at h22 h23 h25 h26 h27 h0
  clear k22 k23 k25 k26 k27 k0
  obtain ⟨ty, hd, tn⟩ := s
  have hL : goesL p u i ⟨ty, hd, tn⟩ = [((i : Int) + 1, (⟨ty, hd, tn⟩ : Sd))] := by unfold goesL; rw [hx]; dsimp only; rw [if_neg (by simp [h0, h27]), if_neg h22, if_neg h23, if_neg h25, if_neg h26]
  have hU : (if (p.at i).op = 25 then updU u i tn else u) = u := by rw [hx]; exact if_neg h25
  refine Calls.mono (R := fun e w' => ∃ o1 c1 o2 c2, e = .returned (.tuple #[.slice o1 ([((i : Int) + 1, (⟨ty, hd, tn⟩ : Sd))]).length c1, .slice o2 ([((i : Int) + 1, (⟨ty, hd, tn⟩ : Sd))]).length c2]) ∧ Nb W w' o1 (nxC [((i : Int) + 1, (⟨ty, hd, tn⟩ : Sd))]) ∧ Nb W w' o2 (wsC [((i : Int) + 1, (⟨ty, hd, tn⟩ : Sd))]) ∧ La w w' lb ab ub sb ⟨qo, qc, vo, vc, tto, tc, oo, oc, some ⟨g1, f1, none⟩, cc⟩ p g u st ∧ F2 ab ub W w') ?_ (fun e w' h9 => by unfold GsP; rw [hL]; dsimp only; rw [hU]; exact h9)
  clear hL hU
  dsimp only
  have hb1 : Below W.heap.size W (W.alloc (.cells #[.string (strT ty), .int .i64 tn, .int .i64 (hd : Int), .bool true] 76)) := (Below.refl _ W).alloc (Nat.le_refl _) _
  have hb2 : Below W.heap.size W ((W.alloc (.cells #[.string (strT ty), .int .i64 tn, .int .i64 (hd : Int), .bool true] 76)).alloc (.cells #[.int .i64 xo, .int .i64 xa, .int .i64 xb, .int .i64 xc, .int .i64 xd] 54)) := hb1.alloc hb1.size _
  obtain ⟨t1, t2, t3⟩ := two_al W (.cells #[.string (strT ty), .int .i64 tn, .int .i64 (hd : Int), .bool true] 76) (.cells #[.int .i64 xo, .int .i64 xa, .int .i64 xb, .int .i64 xc, .int .i64 xd] 54)
  have HX : Hid (Lk (W.alloc (.cells #[.string (strT ty), .int .i64 tn, .int .i64 (hd : Int), .bool true] 76)) lb ab ub sb ⟨qo, qc, vo, vc, tto, tc, oo, oc, some ⟨g1, f1, none⟩, cc⟩ p g u st) := h.lk.below hb1
  have HY : Hid (La w ((W.alloc (.cells #[.string (strT ty), .int .i64 tn, .int .i64 (hd : Int), .bool true] 76)).alloc (.cells #[.int .i64 xo, .int .i64 xa, .int .i64 xb, .int .i64 xc, .int .i64 xd] 54)) lb ab ub sb ⟨qo, qc, vo, vc, tto, tc, oo, oc, some ⟨g1, f1, none⟩, cc⟩ p g u st ∧ ((W.alloc (.cells #[.string (strT ty), .int .i64 tn, .int .i64 (hd : Int), .bool true] 76)).alloc (.cells #[.int .i64 xo, .int .i64 xa, .int .i64 xb, .int .i64 xc, .int .i64 xd] 54)).heap[W.heap.size]? = some (.cells #[.string (strT ty), .int .i64 tn, .int .i64 (hd : Int), .bool true] 76 (0, 0)) ∧ ((W.alloc (.cells #[.string (strT ty), .int .i64 tn, .int .i64 (hd : Int), .bool true] 76)).alloc (.cells #[.int .i64 xo, .int .i64 xa, .int .i64 xb, .int .i64 xc, .int .i64 xd] 54)).heap[W.heap.size + 1]? = some (.cells #[.int .i64 xo, .int .i64 xa, .int .i64 xb, .int .i64 xc, .int .i64 xd] 54 (0, 0)) ∧ Below W.heap.size W ((W.alloc (.cells #[.string (strT ty), .int .i64 tn, .int .i64 (hd : Int), .bool true] 76)).alloc (.cells #[.int .i64 xo, .int .i64 xa, .int .i64 xb, .int .i64 xc, .int .i64 xd] 54)) ∧ (∀ h9 : i < p.cd.length, p.cd[i]'h9 = ⟨xo, xa, xb, xc, xd⟩) ∧ i < p.cd.length ∧ ((W.alloc (.cells #[.string (strT ty), .int .i64 tn, .int .i64 (hd : Int), .bool true] 76)).alloc (.cells #[.int .i64 xo, .int .i64 xa, .int .i64 xb, .int .i64 xc, .int .i64 xd] 54)).heap.size = W.heap.size + 2) := ⟨h.below hb2, t1.trans (heap_alloc_new _ _), t2.trans (heap_alloc_new _ _), hb2, fun _ => hxe.symm, hi, by simp⟩
  have HW1 : Hid ((W.alloc (.cells #[.string (strT ty), .int .i64 tn, .int .i64 (hd : Int), .bool true] 76)).heap.size = W.heap.size + 1) := t3
  have HL : Hid (lb < W.heap.size ∧ ub < W.heap.size) := ⟨blk_lt h.lk.hw, blk_lt h.lk.up⟩
  clear hb1 hb2 t1 t2 t3 h hxe hx hg hi 
  go_enter Tryd.func55, Tryd.ntmps55
  go_upto_region 1 with fail
  obtain ⟨-, -, -, -, -, c5, -, -, -⟩ := cells9 HX.out.hw
  obtain ⟨g2, f2, hvo2, hg2, d0, d1, d2, d3, d4⟩ := rd_ins HX.out.pg.cd HY.out.2.2.2.2.2.1
  obtain ⟨rfl, rfl⟩ : g1 = g2 ∧ f1 = f2 := by cases hvo2; exact ⟨rfl, rfl⟩
  rw [HY.out.2.2.2.2.1 HY.out.2.2.2.2.2.1] at d0 d1 d2 d3 d4
  dsimp only at c5 d0 d1 d2 d3 d4
  generalize W.alloc (.cells #[.string (strT ty), .int .i64 tn, .int .i64 (hd : Int), .bool true] 76) = W1 at *
  have hs1 := HW1.out
  go_upto_region 2 with fail
  clear c5 d0 d1 d2 d3 d4 hvo2 hg2 HX
  generalize W1.alloc (.cells #[.int .i64 xo, .int .i64 xa, .int .i64 xb, .int .i64 xc, .int .i64 xd] 54) = W2 at *
  clear hs1 HW1
  generalize hbx : W.heap.size = bx at *
  obtain ⟨i0, i1, i2, i3, i4⟩ := cells5 HY.out.2.2.1
  obtain ⟨s0, s1, s2, s3⟩ := cells4s HY.out.2.1
  obtain ⟨-, -, -, -, -, c5, c6, c7, c8⟩ := cells9 HY.out.1.lk.hw
  dsimp only at c5
  have hw2 := HY.out.2.2.2.2.2.2
  have HF : Hid (F2 ab ub W W2) := by have h9 := HY.out.2.2.2.1; rw [← hbx] at h9; exact F2.of h9
  go_wp2_with fail
  go_region
  all_goals
    go_wp2_with fail
    first
      | (refine bodyPost_ret (v := .tuple #[.slice (some ⟨bx + 2, 0, none⟩) 1 1, .slice (some ⟨bx + 2 + 1, 0, none⟩) 1 1]) (by simp [results, Tryd.results55, go_sem]) rfl ?_
         obtain ⟨e1, e2, e3, e4⟩ := ends2 HY.out.1 HF.out hw2 _ _ _ _
         exact ⟨_, _, _, _, rfl, Or.inr ⟨_, _, rfl, by rw [hbx]; omega, e1⟩, Or.inr ⟨_, _, rfl, by rw [hbx]; omega, e2⟩, e3, e4⟩)
      | (refine bodyPost_ret (v := .tuple #[.slice (some ⟨bx + 2 + 1, 0, none⟩) 1 1, .slice (some ⟨bx + 2, 0, none⟩) 1 1]) (by simp [results, Tryd.results55, go_sem]) rfl ?_
         obtain ⟨e1, e2, e3, e4⟩ := ends2 HY.out.1 HF.out hw2 _ _ _ _
         exact ⟨_, _, _, _, rfl, Or.inr ⟨_, _, rfl, by rw [hbx]; omega, e2⟩, Or.inr ⟨_, _, rfl, by rw [hbx]; omega, e1⟩, e3, e4⟩)
end Go.Proofs.YtelbakkgobkdaaaDoor.Vf

namespace Go.Proofs.YtelbakkgobkdaaaDoor.Vf
open Go.RowKit Go.Proofs.YtelbakkgobkdaaaDoor.Nm
set_option maxHeartbeats 12800000 in
set_option maxRecDepth 100000 in
theorem rgoes_25 {w W : World} {lb ab ub sb : Nat} {v : PV} {p : Pg} {g : Nat → Option Sd} {u : Nat → Int} {st : List Bool} (h : La w W lb ab ub sb v p g u st) (i : Nat) (hi : i < p.cd.length) (s : Sd) (hop : (p.at i).op = 25) :
    Calls Tryd.prog 55 #[.pointer (some ⟨lb, 0, none⟩), .int .i64 (i : Int), .agg #[.string (strT s.ty), .int .i64 s.turn, .int .i64 (s.hand : Int), .bool true]] W (GsP w W lb ab ub sb v p g u st i s) := by
  have n3 : (p.cd.length : Int) ≤ 1000000000000000 := by have := h.pg.lcd; omega
  have hi' : (i : Int) < (p.cd.length : Int) := by omega
  have hi0 : (0 : Int) ≤ (i : Int) := by omega
  have hwr : IntKind.i64.wrap ((i : Int) + 1) = (i : Int) + 1 := by rw [IntKind.wrap_i64]; omega
  have hx := at_eq hi
  obtain ⟨qo, qc, vo, vc, tto, tc, oo, oc, co, cc⟩ := v
  obtain ⟨g1, f1, hvo, hg, -⟩ := rd_ins h.lk.pg.cd hi
  obtain rfl : co = some ⟨g1, f1, none⟩ := hvo
  have hop' := hop
  rw [hx] at hop'
  obtain ⟨x, hxe⟩ : ∃ x, x = p.cd[i]'hi := ⟨_, rfl⟩
  obtain ⟨xo, xa, xb, xc, xd⟩ := x
  rw [← hxe] at hop' hx
  dsimp only at hop'
  subst hop'
  obtain ⟨ty, hd, tn⟩ := s
  have hL : goesL p u i ⟨ty, hd, tn⟩ = [((i : Int) + 1, (⟨ty, hd, (i : Int)⟩ : Sd)), (xa, (⟨ty, hd, tn⟩ : Sd))] := by unfold goesL; rw [hx]; rfl
  have hU : (if (p.at i).op = 25 then updU u i tn else u) = (updU u i tn) := by rw [hx]; rfl
  refine Calls.mono (R := fun e w' => ∃ o1 c1 o2 c2, e = .returned (.tuple #[.slice o1 ([((i : Int) + 1, (⟨ty, hd, (i : Int)⟩ : Sd)), (xa, (⟨ty, hd, tn⟩ : Sd))]).length c1, .slice o2 ([((i : Int) + 1, (⟨ty, hd, (i : Int)⟩ : Sd)), (xa, (⟨ty, hd, tn⟩ : Sd))]).length c2]) ∧ Nb W w' o1 (nxC [((i : Int) + 1, (⟨ty, hd, (i : Int)⟩ : Sd)), (xa, (⟨ty, hd, tn⟩ : Sd))]) ∧ Nb W w' o2 (wsC [((i : Int) + 1, (⟨ty, hd, (i : Int)⟩ : Sd)), (xa, (⟨ty, hd, tn⟩ : Sd))]) ∧ La w w' lb ab ub sb ⟨qo, qc, vo, vc, tto, tc, oo, oc, some ⟨g1, f1, none⟩, cc⟩ p g (updU u i tn) st ∧ F2 ab ub W w') ?_ (fun e w' h9 => by unfold GsP; rw [hL]; dsimp only; rw [hU]; exact h9)
  clear hL hU
  dsimp only
  have hb1 : Below W.heap.size W (W.alloc (.cells #[.string (strT ty), .int .i64 tn, .int .i64 (hd : Int), .bool true] 76)) := (Below.refl _ W).alloc (Nat.le_refl _) _
  have hb2 : Below W.heap.size W ((W.alloc (.cells #[.string (strT ty), .int .i64 tn, .int .i64 (hd : Int), .bool true] 76)).alloc (.cells #[.int .i64 25, .int .i64 xa, .int .i64 xb, .int .i64 xc, .int .i64 xd] 54)) := hb1.alloc hb1.size _
  obtain ⟨t1, t2, t3⟩ := two_al W (.cells #[.string (strT ty), .int .i64 tn, .int .i64 (hd : Int), .bool true] 76) (.cells #[.int .i64 25, .int .i64 xa, .int .i64 xb, .int .i64 xc, .int .i64 xd] 54)
  have HX : Hid (Lk (W.alloc (.cells #[.string (strT ty), .int .i64 tn, .int .i64 (hd : Int), .bool true] 76)) lb ab ub sb ⟨qo, qc, vo, vc, tto, tc, oo, oc, some ⟨g1, f1, none⟩, cc⟩ p g u st) := h.lk.below hb1
  have HY : Hid (La w ((W.alloc (.cells #[.string (strT ty), .int .i64 tn, .int .i64 (hd : Int), .bool true] 76)).alloc (.cells #[.int .i64 25, .int .i64 xa, .int .i64 xb, .int .i64 xc, .int .i64 xd] 54)) lb ab ub sb ⟨qo, qc, vo, vc, tto, tc, oo, oc, some ⟨g1, f1, none⟩, cc⟩ p g u st ∧ ((W.alloc (.cells #[.string (strT ty), .int .i64 tn, .int .i64 (hd : Int), .bool true] 76)).alloc (.cells #[.int .i64 25, .int .i64 xa, .int .i64 xb, .int .i64 xc, .int .i64 xd] 54)).heap[W.heap.size]? = some (.cells #[.string (strT ty), .int .i64 tn, .int .i64 (hd : Int), .bool true] 76 (0, 0)) ∧ ((W.alloc (.cells #[.string (strT ty), .int .i64 tn, .int .i64 (hd : Int), .bool true] 76)).alloc (.cells #[.int .i64 25, .int .i64 xa, .int .i64 xb, .int .i64 xc, .int .i64 xd] 54)).heap[W.heap.size + 1]? = some (.cells #[.int .i64 25, .int .i64 xa, .int .i64 xb, .int .i64 xc, .int .i64 xd] 54 (0, 0)) ∧ Below W.heap.size W ((W.alloc (.cells #[.string (strT ty), .int .i64 tn, .int .i64 (hd : Int), .bool true] 76)).alloc (.cells #[.int .i64 25, .int .i64 xa, .int .i64 xb, .int .i64 xc, .int .i64 xd] 54)) ∧ (∀ h9 : i < p.cd.length, p.cd[i]'h9 = ⟨25, xa, xb, xc, xd⟩) ∧ i < p.cd.length ∧ ((W.alloc (.cells #[.string (strT ty), .int .i64 tn, .int .i64 (hd : Int), .bool true] 76)).alloc (.cells #[.int .i64 25, .int .i64 xa, .int .i64 xb, .int .i64 xc, .int .i64 xd] 54)).heap.size = W.heap.size + 2) := ⟨h.below hb2, t1.trans (heap_alloc_new _ _), t2.trans (heap_alloc_new _ _), hb2, fun _ => hxe.symm, hi, by simp⟩
  have HW1 : Hid ((W.alloc (.cells #[.string (strT ty), .int .i64 tn, .int .i64 (hd : Int), .bool true] 76)).heap.size = W.heap.size + 1) := t3
  have HL : Hid (lb < W.heap.size ∧ ub < W.heap.size) := ⟨blk_lt h.lk.hw, blk_lt h.lk.up⟩
  clear hb1 hb2 t1 t2 t3 h hxe hx hg hi hop
  go_enter Tryd.func55, Tryd.ntmps55
  go_upto_region 1 with fail
  obtain ⟨-, -, -, -, -, c5, -, -, -⟩ := cells9 HX.out.hw
  obtain ⟨g2, f2, hvo2, hg2, d0, d1, d2, d3, d4⟩ := rd_ins HX.out.pg.cd HY.out.2.2.2.2.2.1
  obtain ⟨rfl, rfl⟩ : g1 = g2 ∧ f1 = f2 := by cases hvo2; exact ⟨rfl, rfl⟩
  rw [HY.out.2.2.2.2.1 HY.out.2.2.2.2.2.1] at d0 d1 d2 d3 d4
  dsimp only at c5 d0 d1 d2 d3 d4
  generalize W.alloc (.cells #[.string (strT ty), .int .i64 tn, .int .i64 (hd : Int), .bool true] 76) = W1 at *
  have hs1 := HW1.out
  go_upto_region 2 with fail
  clear c5 d0 d1 d2 d3 d4 hvo2 hg2 HX
  generalize W1.alloc (.cells #[.int .i64 25, .int .i64 xa, .int .i64 xb, .int .i64 xc, .int .i64 xd] 54) = W2 at *
  clear hs1 HW1
  generalize hbx : W.heap.size = bx at *
  obtain ⟨i0, i1, i2, i3, i4⟩ := cells5 HY.out.2.2.1
  obtain ⟨s0, s1, s2, s3⟩ := cells4s HY.out.2.1
  obtain ⟨-, -, -, -, -, c5, c6, c7, c8⟩ := cells9 HY.out.1.lk.hw
  dsimp only at c5
  have hw2 := HY.out.2.2.2.2.2.2
  have HF : Hid (F2 ab ub W W2) := by have h9 := HY.out.2.2.2.1; rw [← hbx] at h9; exact F2.of h9
  have cu := cell_of HY.out.1.lk.up (fuC_at (f := u) HY.out.2.2.2.2.2.1)
  have fzu : W2.frozen? ⟨ub, i, none⟩ = false := Lk.fz HY.out.1.lk.up i
  go_upto_region 11 with fail
  go_region
  have hbd : ∀ X : World, Below X.heap.size X X.drew := fun X => (Below.refl _ X).drew
  have H3 : Hid (La w (W2.setCell ⟨ub, i, none⟩ (.int .i64 tn)).drew lb ab ub sb ⟨qo, qc, vo, vc, tto, tc, oo, oc, some ⟨g1, f1, none⟩, cc⟩ p g (updU u i tn) st ∧ F2 ab ub W (W2.setCell ⟨ub, i, none⟩ (.int .i64 tn)).drew ∧ (W2.setCell ⟨ub, i, none⟩ (.int .i64 tn)).drew.heap[bx]? = some (.cells #[.string (strT ty), .int .i64 tn, .int .i64 (hd : Int), .bool true] 76 (0, 0)) ∧ (W2.setCell ⟨ub, i, none⟩ (.int .i64 tn)).drew.heap[bx + 1]? = some (.cells #[.int .i64 25, .int .i64 xa, .int .i64 xb, .int .i64 xc, .int .i64 xd] 54 (0, 0)) ∧ (W2.setCell ⟨ub, i, none⟩ (.int .i64 tn)).drew.heap.size = bx + 2) := by
    refine ⟨(HY.out.1.setU HY.out.2.2.2.2.2.1 tn).below (hbd _), (HF.out.trans (F2.set _)).trans (F2.of (hbd _)), ?_, ?_, ?_⟩
    · exact (Below.heap_setCell _ _ _ _ (by have := HL.out.2; show bx ≠ ub; omega)).trans HY.out.2.1
    · exact (Below.heap_setCell _ _ _ _ (by have := HL.out.2; show bx + 1 ≠ ub; omega)).trans HY.out.2.2.1
    · show (W2.setCell ⟨ub, i, none⟩ (.int .i64 tn)).heap.size = _
      rw [← hw2]; simp
  clear cu fzu hw2 i0 i1 i2 i3 i4 s0 s1 s2 s3 c5 c6 c7 c8 HY HF hbd
  generalize (W2.setCell ⟨ub, i, none⟩ (.int .i64 tn)).drew = W3 at *
  obtain ⟨i0, i1, i2, i3, i4⟩ := cells5 H3.out.2.2.2.1
  obtain ⟨s0, s1, s2, s3⟩ := cells4s H3.out.2.2.1
  have hw3 := H3.out.2.2.2.2
  go_upto_region 14 with fail
  have H4 : Hid (La w (W3.alloc (.cells #[.string (strT ty), .int .i64 (i : Int), .int .i64 (hd : Int), .bool true] 76)) lb ab ub sb ⟨qo, qc, vo, vc, tto, tc, oo, oc, some ⟨g1, f1, none⟩, cc⟩ p g (updU u i tn) st ∧ F2 ab ub W (W3.alloc (.cells #[.string (strT ty), .int .i64 (i : Int), .int .i64 (hd : Int), .bool true] 76)) ∧ (W3.alloc (.cells #[.string (strT ty), .int .i64 (i : Int), .int .i64 (hd : Int), .bool true] 76)).heap[bx]? = some (.cells #[.string (strT ty), .int .i64 tn, .int .i64 (hd : Int), .bool true] 76 (0, 0)) ∧ (W3.alloc (.cells #[.string (strT ty), .int .i64 (i : Int), .int .i64 (hd : Int), .bool true] 76)).heap[bx + 1]? = some (.cells #[.int .i64 25, .int .i64 xa, .int .i64 xb, .int .i64 xc, .int .i64 xd] 54 (0, 0)) ∧ (W3.alloc (.cells #[.string (strT ty), .int .i64 (i : Int), .int .i64 (hd : Int), .bool true] 76)).heap.size = bx + 3 ∧ (W3.alloc (.cells #[.string (strT ty), .int .i64 (i : Int), .int .i64 (hd : Int), .bool true] 76)).heap[bx + 2]? = some (.cells #[.string (strT ty), .int .i64 (i : Int), .int .i64 (hd : Int), .bool true] 76 (0, 0))) := by
    have hb : Below W3.heap.size W3 (W3.alloc (.cells #[.string (strT ty), .int .i64 (i : Int), .int .i64 (hd : Int), .bool true] 76)) := (Below.refl _ W3).alloc (Nat.le_refl _) _
    refine ⟨H3.out.1.below hb, H3.out.2.1.trans (F2.of hb), (hb.block _ (blk_lt H3.out.2.2.1)).trans H3.out.2.2.1, (hb.block _ (blk_lt H3.out.2.2.2.1)).trans H3.out.2.2.2.1, by simp [hw3], ?_⟩
    rw [← hw3]
    exact heap_alloc_new _ _
  clear i0 i1 i2 i3 i4 s0 s1 s2 s3 H3 hw3
  generalize W3.alloc (.cells #[.string (strT ty), .int .i64 (i : Int), .int .i64 (hd : Int), .bool true] 76) = W4 at *
  obtain ⟨i0, i1, i2, i3, i4⟩ := cells5 H4.out.2.2.2.1
  obtain ⟨s0, s1, s2, s3⟩ := cells4s H4.out.2.2.1
  obtain ⟨r0, r1, r2, r3⟩ := cells4s H4.out.2.2.2.2.2
  have hw4 := H4.out.2.2.2.2.1
  go_region
  all_goals
    go_wp2_with fail
    first
      | (refine bodyPost_ret (v := .tuple #[.slice (some ⟨bx + 3, 0, none⟩) 2 2, .slice (some ⟨bx + 3 + 1, 0, none⟩) 2 2]) (by simp [results, Tryd.results55, go_sem]) rfl ?_
         obtain ⟨e1, e2, e3, e4⟩ := ends2 H4.out.1 H4.out.2.1 hw4 _ _ _ _
         exact ⟨_, _, _, _, rfl, Or.inr ⟨_, _, rfl, by rw [hbx]; omega, e1⟩, Or.inr ⟨_, _, rfl, by rw [hbx]; omega, e2⟩, e3, e4⟩)
      | (refine bodyPost_ret (v := .tuple #[.slice (some ⟨bx + 3 + 1, 0, none⟩) 2 2, .slice (some ⟨bx + 3, 0, none⟩) 2 2]) (by simp [results, Tryd.results55, go_sem]) rfl ?_
         obtain ⟨e1, e2, e3, e4⟩ := ends2 H4.out.1 H4.out.2.1 hw4 _ _ _ _
         exact ⟨_, _, _, _, rfl, Or.inr ⟨_, _, rfl, by rw [hbx]; omega, e2⟩, Or.inr ⟨_, _, rfl, by rw [hbx]; omega, e1⟩, e3, e4⟩)
end Go.Proofs.YtelbakkgobkdaaaDoor.Vf

namespace Go.Proofs.YtelbakkgobkdaaaDoor.Vf
open Go.RowKit Go.Proofs.YtelbakkgobkdaaaDoor.Nm
set_option maxHeartbeats 12800000 in
set_option maxRecDepth 100000 in
theorem rgoes_26 {w W : World} {lb ab ub sb : Nat} {v : PV} {p : Pg} {g : Nat → Option Sd} {u : Nat → Int} {st : List Bool} (h : La w W lb ab ub sb v p g u st) (i : Nat) (hi : i < p.cd.length) (s : Sd) (hop : (p.at i).op = 26) (ht : 0 ≤ s.turn ∧ s.turn.toNat < p.cd.length) :
    Calls Tryd.prog 55 #[.pointer (some ⟨lb, 0, none⟩), .int .i64 (i : Int), .agg #[.string (strT s.ty), .int .i64 s.turn, .int .i64 (s.hand : Int), .bool true]] W (GsP w W lb ab ub sb v p g u st i s) := by
  have n3 : (p.cd.length : Int) ≤ 1000000000000000 := by have := h.pg.lcd; omega
  have hi' : (i : Int) < (p.cd.length : Int) := by omega
  have hi0 : (0 : Int) ≤ (i : Int) := by omega
  have hwr : IntKind.i64.wrap ((i : Int) + 1) = (i : Int) + 1 := by rw [IntKind.wrap_i64]; omega
  have hx := at_eq hi
  obtain ⟨qo, qc, vo, vc, tto, tc, oo, oc, co, cc⟩ := v
  obtain ⟨g1, f1, hvo, hg, -⟩ := rd_ins h.lk.pg.cd hi
  obtain rfl : co = some ⟨g1, f1, none⟩ := hvo
  have hop' := hop
  rw [hx] at hop'
  obtain ⟨x, hxe⟩ : ∃ x, x = p.cd[i]'hi := ⟨_, rfl⟩
  obtain ⟨xo, xa, xb, xc, xd⟩ := x
  rw [← hxe] at hop' hx
  dsimp only at hop'
  subst hop'
  obtain ⟨ty, hd, tn⟩ := s
  have hL : goesL p u i ⟨ty, hd, tn⟩ = [((i : Int) + 1, (⟨ty, hd, tn⟩ : Sd)), (xa, (⟨ty, hd, u tn.toNat⟩ : Sd))] := by unfold goesL; rw [hx]; rfl
  have hU : (if (p.at i).op = 25 then updU u i tn else u) = u := by rw [hx]; rfl
  refine Calls.mono (R := fun e w' => ∃ o1 c1 o2 c2, e = .returned (.tuple #[.slice o1 ([((i : Int) + 1, (⟨ty, hd, tn⟩ : Sd)), (xa, (⟨ty, hd, u tn.toNat⟩ : Sd))]).length c1, .slice o2 ([((i : Int) + 1, (⟨ty, hd, tn⟩ : Sd)), (xa, (⟨ty, hd, u tn.toNat⟩ : Sd))]).length c2]) ∧ Nb W w' o1 (nxC [((i : Int) + 1, (⟨ty, hd, tn⟩ : Sd)), (xa, (⟨ty, hd, u tn.toNat⟩ : Sd))]) ∧ Nb W w' o2 (wsC [((i : Int) + 1, (⟨ty, hd, tn⟩ : Sd)), (xa, (⟨ty, hd, u tn.toNat⟩ : Sd))]) ∧ La w w' lb ab ub sb ⟨qo, qc, vo, vc, tto, tc, oo, oc, some ⟨g1, f1, none⟩, cc⟩ p g u st ∧ F2 ab ub W w') ?_ (fun e w' h9 => by unfold GsP; rw [hL]; dsimp only; rw [hU]; exact h9)
  clear hL hU
  dsimp only
  have hb1 : Below W.heap.size W (W.alloc (.cells #[.string (strT ty), .int .i64 tn, .int .i64 (hd : Int), .bool true] 76)) := (Below.refl _ W).alloc (Nat.le_refl _) _
  have hb2 : Below W.heap.size W ((W.alloc (.cells #[.string (strT ty), .int .i64 tn, .int .i64 (hd : Int), .bool true] 76)).alloc (.cells #[.int .i64 26, .int .i64 xa, .int .i64 xb, .int .i64 xc, .int .i64 xd] 54)) := hb1.alloc hb1.size _
  obtain ⟨t1, t2, t3⟩ := two_al W (.cells #[.string (strT ty), .int .i64 tn, .int .i64 (hd : Int), .bool true] 76) (.cells #[.int .i64 26, .int .i64 xa, .int .i64 xb, .int .i64 xc, .int .i64 xd] 54)
  have HX : Hid (Lk (W.alloc (.cells #[.string (strT ty), .int .i64 tn, .int .i64 (hd : Int), .bool true] 76)) lb ab ub sb ⟨qo, qc, vo, vc, tto, tc, oo, oc, some ⟨g1, f1, none⟩, cc⟩ p g u st) := h.lk.below hb1
  have HY : Hid (La w ((W.alloc (.cells #[.string (strT ty), .int .i64 tn, .int .i64 (hd : Int), .bool true] 76)).alloc (.cells #[.int .i64 26, .int .i64 xa, .int .i64 xb, .int .i64 xc, .int .i64 xd] 54)) lb ab ub sb ⟨qo, qc, vo, vc, tto, tc, oo, oc, some ⟨g1, f1, none⟩, cc⟩ p g u st ∧ ((W.alloc (.cells #[.string (strT ty), .int .i64 tn, .int .i64 (hd : Int), .bool true] 76)).alloc (.cells #[.int .i64 26, .int .i64 xa, .int .i64 xb, .int .i64 xc, .int .i64 xd] 54)).heap[W.heap.size]? = some (.cells #[.string (strT ty), .int .i64 tn, .int .i64 (hd : Int), .bool true] 76 (0, 0)) ∧ ((W.alloc (.cells #[.string (strT ty), .int .i64 tn, .int .i64 (hd : Int), .bool true] 76)).alloc (.cells #[.int .i64 26, .int .i64 xa, .int .i64 xb, .int .i64 xc, .int .i64 xd] 54)).heap[W.heap.size + 1]? = some (.cells #[.int .i64 26, .int .i64 xa, .int .i64 xb, .int .i64 xc, .int .i64 xd] 54 (0, 0)) ∧ Below W.heap.size W ((W.alloc (.cells #[.string (strT ty), .int .i64 tn, .int .i64 (hd : Int), .bool true] 76)).alloc (.cells #[.int .i64 26, .int .i64 xa, .int .i64 xb, .int .i64 xc, .int .i64 xd] 54)) ∧ (∀ h9 : i < p.cd.length, p.cd[i]'h9 = ⟨26, xa, xb, xc, xd⟩) ∧ i < p.cd.length ∧ ((W.alloc (.cells #[.string (strT ty), .int .i64 tn, .int .i64 (hd : Int), .bool true] 76)).alloc (.cells #[.int .i64 26, .int .i64 xa, .int .i64 xb, .int .i64 xc, .int .i64 xd] 54)).heap.size = W.heap.size + 2) := ⟨h.below hb2, t1.trans (heap_alloc_new _ _), t2.trans (heap_alloc_new _ _), hb2, fun _ => hxe.symm, hi, by simp⟩
  have HW1 : Hid ((W.alloc (.cells #[.string (strT ty), .int .i64 tn, .int .i64 (hd : Int), .bool true] 76)).heap.size = W.heap.size + 1) := t3
  have HL : Hid (lb < W.heap.size ∧ ub < W.heap.size) := ⟨blk_lt h.lk.hw, blk_lt h.lk.up⟩
  clear hb1 hb2 t1 t2 t3 h hxe hx hg hi hop
  dsimp only at ht
  obtain ⟨m, rfl⟩ : ∃ m : Nat, tn = (m : Int) := ⟨tn.toNat, by omega⟩
  simp only [Int.toNat_natCast] at ht ⊢
  have HM : Hid (m < p.cd.length) := ht.2
  have hm0 : (0 : Int) ≤ (m : Int) := by omega
  have hm1 : (m : Int) < (p.cd.length : Int) := by omega
  clear ht
  go_enter Tryd.func55, Tryd.ntmps55
  go_upto_region 1 with fail
  obtain ⟨-, -, -, -, -, c5, -, -, -⟩ := cells9 HX.out.hw
  obtain ⟨g2, f2, hvo2, hg2, d0, d1, d2, d3, d4⟩ := rd_ins HX.out.pg.cd HY.out.2.2.2.2.2.1
  obtain ⟨rfl, rfl⟩ : g1 = g2 ∧ f1 = f2 := by cases hvo2; exact ⟨rfl, rfl⟩
  rw [HY.out.2.2.2.2.1 HY.out.2.2.2.2.2.1] at d0 d1 d2 d3 d4
  dsimp only at c5 d0 d1 d2 d3 d4
  generalize W.alloc (.cells #[.string (strT ty), .int .i64 (m : Int), .int .i64 (hd : Int), .bool true] 76) = W1 at *
  have hs1 := HW1.out
  go_upto_region 2 with fail
  clear c5 d0 d1 d2 d3 d4 hvo2 hg2 HX
  generalize W1.alloc (.cells #[.int .i64 26, .int .i64 xa, .int .i64 xb, .int .i64 xc, .int .i64 xd] 54) = W2 at *
  clear hs1 HW1
  generalize hbx : W.heap.size = bx at *
  obtain ⟨i0, i1, i2, i3, i4⟩ := cells5 HY.out.2.2.1
  obtain ⟨s0, s1, s2, s3⟩ := cells4s HY.out.2.1
  obtain ⟨-, -, -, -, -, c5, c6, c7, c8⟩ := cells9 HY.out.1.lk.hw
  dsimp only at c5
  have hw2 := HY.out.2.2.2.2.2.2
  have HF : Hid (F2 ab ub W W2) := by have h9 := HY.out.2.2.2.1; rw [← hbx] at h9; exact F2.of h9
  go_upto_region 17 with fail
  have hb3 : Below W2.heap.size W2 (W2.alloc (.cells #[.string (strT ty), .int .i64 (m : Int), .int .i64 (hd : Int), .bool true] 76)) := (Below.refl _ W2).alloc (Nat.le_refl _) _
  have H3 : Hid (Lk (W2.alloc (.cells #[.string (strT ty), .int .i64 (m : Int), .int .i64 (hd : Int), .bool true] 76)) lb ab ub sb ⟨qo, qc, vo, vc, tto, tc, oo, oc, some ⟨g1, f1, none⟩, cc⟩ p g u st ∧ (W2.alloc (.cells #[.string (strT ty), .int .i64 (m : Int), .int .i64 (hd : Int), .bool true] 76)).heap[bx]? = some (.cells #[.string (strT ty), .int .i64 (m : Int), .int .i64 (hd : Int), .bool true] 76 (0, 0)) ∧ (W2.alloc (.cells #[.string (strT ty), .int .i64 (m : Int), .int .i64 (hd : Int), .bool true] 76)).heap[bx + 1]? = some (.cells #[.int .i64 26, .int .i64 xa, .int .i64 xb, .int .i64 xc, .int .i64 xd] 54 (0, 0)) ∧ (W2.alloc (.cells #[.string (strT ty), .int .i64 (m : Int), .int .i64 (hd : Int), .bool true] 76)).heap.size = bx + 3 ∧ (W2.alloc (.cells #[.string (strT ty), .int .i64 (m : Int), .int .i64 (hd : Int), .bool true] 76)).heap[bx + 2]? = some (.cells #[.string (strT ty), .int .i64 (m : Int), .int .i64 (hd : Int), .bool true] 76 (0, 0)) ∧ Below W2.heap.size W2 (W2.alloc (.cells #[.string (strT ty), .int .i64 (m : Int), .int .i64 (hd : Int), .bool true] 76))) := by
    refine ⟨HY.out.1.lk.below hb3, (hb3.block _ (blk_lt HY.out.2.1)).trans HY.out.2.1, (hb3.block _ (blk_lt HY.out.2.2.1)).trans HY.out.2.2.1, by simp [hw2], ?_, hb3⟩
    rw [← hw2]
    exact heap_alloc_new _ _
  clear hb3 i0 i1 i2 i3 i4 s0 s1 s2 s3 c5 c6 c7 c8
  generalize W2.alloc (.cells #[.string (strT ty), .int .i64 (m : Int), .int .i64 (hd : Int), .bool true] 76) = W3 at *
  obtain ⟨i0, i1, i2, i3, i4⟩ := cells5 H3.out.2.2.1
  obtain ⟨s0, s1, s2, s3⟩ := cells4s H3.out.2.1
  obtain ⟨r0, r1, r2, r3⟩ := cells4s H3.out.2.2.2.2.1
  obtain ⟨-, -, -, -, -, -, -, c7, -⟩ := cells9 H3.out.1.hw
  have cu := cell_of H3.out.1.up (fuC_at (f := u) HM.out)
  have fzu : W3.frozen? ⟨bx + 2, 1, none⟩ = false := Lk.fz H3.out.2.2.2.2.1 1
  go_region
  have H4 : Hid (La w (W3.setCell ⟨bx + 2, 1, none⟩ (.int .i64 (u m))).drew lb ab ub sb ⟨qo, qc, vo, vc, tto, tc, oo, oc, some ⟨g1, f1, none⟩, cc⟩ p g u st ∧ F2 ab ub W (W3.setCell ⟨bx + 2, 1, none⟩ (.int .i64 (u m))).drew ∧ (W3.setCell ⟨bx + 2, 1, none⟩ (.int .i64 (u m))).drew.heap[bx]? = some (.cells #[.string (strT ty), .int .i64 (m : Int), .int .i64 (hd : Int), .bool true] 76 (0, 0)) ∧ (W3.setCell ⟨bx + 2, 1, none⟩ (.int .i64 (u m))).drew.heap[bx + 1]? = some (.cells #[.int .i64 26, .int .i64 xa, .int .i64 xb, .int .i64 xc, .int .i64 xd] 54 (0, 0)) ∧ (W3.setCell ⟨bx + 2, 1, none⟩ (.int .i64 (u m))).drew.heap.size = bx + 3 ∧ (W3.setCell ⟨bx + 2, 1, none⟩ (.int .i64 (u m))).drew.heap[bx + 2]? = some (.cells #[.string (strT ty), .int .i64 (u m), .int .i64 (hd : Int), .bool true] 76 (0, 0))) := by
    have hb4 : Below W2.heap.size W2 (W3.setCell ⟨bx + 2, 1, none⟩ (.int .i64 (u m))).drew := (H3.out.2.2.2.2.2.setCell (p := ⟨bx + 2, 1, none⟩) (by rw [hw2]; exact Nat.le_refl _) _).drew
    refine ⟨HY.out.1.below hb4, HF.out.trans (F2.of hb4), (hb4.block _ (blk_lt HY.out.2.1)).trans HY.out.2.1, (hb4.block _ (blk_lt HY.out.2.2.1)).trans HY.out.2.2.1, ?_, ?_⟩
    · show (W3.setCell ⟨bx + 2, 1, none⟩ (.int .i64 (u m))).heap.size = _
      rw [← H3.out.2.2.2.1]; simp
    · show (W3.setCell ⟨bx + 2, 1, none⟩ (.int .i64 (u m))).heap[bx + 2]? = _
      exact heap_setCell_same W3 (bx + 2) 1 _ _ _ H3.out.2.2.2.2.1
  clear cu fzu i0 i1 i2 i3 i4 s0 s1 s2 s3 r0 r1 r2 r3 c7 H3 HY HF hw2
  generalize (W3.setCell ⟨bx + 2, 1, none⟩ (.int .i64 (u m))).drew = W4 at *
  obtain ⟨i0, i1, i2, i3, i4⟩ := cells5 H4.out.2.2.2.1
  obtain ⟨s0, s1, s2, s3⟩ := cells4s H4.out.2.2.1
  obtain ⟨r0, r1, r2, r3⟩ := cells4s H4.out.2.2.2.2.2
  have hw4 := H4.out.2.2.2.2.1
  go_upto_region 18 with fail
  go_region
  all_goals
    go_wp2_with fail
    first
      | (refine bodyPost_ret (v := .tuple #[.slice (some ⟨bx + 3, 0, none⟩) 2 2, .slice (some ⟨bx + 3 + 1, 0, none⟩) 2 2]) (by simp [results, Tryd.results55, go_sem]) rfl ?_
         obtain ⟨e1, e2, e3, e4⟩ := ends2 H4.out.1 H4.out.2.1 hw4 _ _ _ _
         exact ⟨_, _, _, _, rfl, Or.inr ⟨_, _, rfl, by rw [hbx]; omega, e1⟩, Or.inr ⟨_, _, rfl, by rw [hbx]; omega, e2⟩, e3, e4⟩)
      | (refine bodyPost_ret (v := .tuple #[.slice (some ⟨bx + 3 + 1, 0, none⟩) 2 2, .slice (some ⟨bx + 3, 0, none⟩) 2 2]) (by simp [results, Tryd.results55, go_sem]) rfl ?_
         obtain ⟨e1, e2, e3, e4⟩ := ends2 H4.out.1 H4.out.2.1 hw4 _ _ _ _
         exact ⟨_, _, _, _, rfl, Or.inr ⟨_, _, rfl, by rw [hbx]; omega, e2⟩, Or.inr ⟨_, _, rfl, by rw [hbx]; omega, e1⟩, e3, e4⟩)
end Go.Proofs.YtelbakkgobkdaaaDoor.Vf
