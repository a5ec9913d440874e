import Derived.Test.YtelbakkgobkdaaaDoorVfWout2
import Derived.Test.YtelbakkgobkdaaaDoorVfRd
import Derived.Laws.Tables
namespace Go.Proofs.YtelbakkgobkdaaaDoor.Vf
open Go.RowKit Go.Proofs.YtelbakkgobkdaaaDoor.Nm

theorem cells3 {W : World} {B : Nat} {v0 v1 v2 : Value} {T : TypeId} (h : W.heap[B]? = some (.cells #[v0, v1, v2] T (0, 0))) : W.cell? ⟨B, 0, none⟩ = some v0 ∧ W.cell? ⟨B, 1, none⟩ = some v1 ∧ W.cell? ⟨B, 2, none⟩ = some v2 :=
  ⟨cell_of (cs := [v0, v1, v2]) h rfl, cell_of (cs := [v0, v1, v2]) h rfl, cell_of (cs := [v0, v1, v2]) h rfl⟩
theorem cells5 {W : World} {B : Nat} {v0 v1 v2 v3 v4 : Value} {T : TypeId} (h : W.heap[B]? = some (.cells #[v0, v1, v2, v3, v4] T (0, 0))) : W.cell? ⟨B, 0, none⟩ = some v0 ∧ W.cell? ⟨B, 1, none⟩ = some v1 ∧ W.cell? ⟨B, 2, none⟩ = some v2 ∧ W.cell? ⟨B, 3, none⟩ = some v3 ∧ W.cell? ⟨B, 4, none⟩ = some v4 :=
  ⟨cell_of (cs := [v0, v1, v2, v3, v4]) h rfl, cell_of (cs := [v0, v1, v2, v3, v4]) h rfl, cell_of (cs := [v0, v1, v2, v3, v4]) h rfl, cell_of (cs := [v0, v1, v2, v3, v4]) h rfl, cell_of (cs := [v0, v1, v2, v3, v4]) h rfl⟩
theorem below_setRow {n : Nat} {w w' : World} {g : Nat} {cs : Array Value} (h : Below n w w') (hg : n ≤ g) : Below n w (w'.setRow g cs) := by
  refine ⟨h.os, h.tape, h.output, by simpa using h.size, fun k hk => ?_⟩
  have e : (w'.setRow g cs).heap[k]? = w'.heap[k]? := by
    unfold World.setRow
    simp only [Array.getElem?_modify]
    rw [if_neg (by omega)]
  exact e.trans (h.block k hk)
abbrev zOp : Array Value := #[.int .i64 0, .int .u64 0, .int .u64 0, .int .u64 0, .int .u64 0]
/-- three boxes of a call, behind what was -/
structure Bx3 (w W : World) (T0 T1 T2 : TypeId) (a b c : Array Value) : Prop where
  bel : Below w.heap.size w W
  h0 : W.heap[w.heap.size]? = some (.cells a T0 (0, 0))
  h1 : W.heap[w.heap.size + 1]? = some (.cells b T1 (0, 0))
  h2 : W.heap[w.heap.size + 1 + 1]? = some (.cells c T2 (0, 0))
theorem Bx3.new (w : World) (T0 T1 T2 : TypeId) (a b c : Array Value) : Bx3 w (((w.alloc (.cells a T0)).alloc (.cells b T1)).alloc (.cells c T2)) T0 T1 T2 a b c := by
  have s1 : (w.alloc (.cells a T0)).heap.size = w.heap.size + 1 := by simp
  have s2 : ((w.alloc (.cells a T0)).alloc (.cells b T1)).heap.size = w.heap.size + 1 + 1 := by simp
  have e0 := heap_alloc_new w (.cells a T0)
  have e1 := heap_alloc_new (w.alloc (.cells a T0)) (.cells b T1)
  have e2 := heap_alloc_new ((w.alloc (.cells a T0)).alloc (.cells b T1)) (.cells c T2)
  have b1 : Below (w.alloc (.cells a T0)).heap.size (w.alloc (.cells a T0)) ((w.alloc (.cells a T0)).alloc (.cells b T1)) := (Below.refl _ _).alloc (Nat.le_refl _) _
  have b2 : Below ((w.alloc (.cells a T0)).alloc (.cells b T1)).heap.size ((w.alloc (.cells a T0)).alloc (.cells b T1)) (((w.alloc (.cells a T0)).alloc (.cells b T1)).alloc (.cells c T2)) := (Below.refl _ _).alloc (Nat.le_refl _) _
  refine ⟨(((Below.refl _ w).alloc (Nat.le_refl _) _).alloc (by simp) _).alloc (by simp; omega) _, ?_, ?_, ?_⟩
  · exact (b2.block _ (by omega)).trans ((b1.block _ (by omega)).trans e0)
  · rw [← s1]; exact (b2.block _ (by omega)).trans e1
  · rw [← s2]; exact e2
theorem Bx3.below {w W W' : World} {T0 T1 T2 : TypeId} {a b c : Array Value} (h : Bx3 w W T0 T1 T2 a b c) (hb : Below W.heap.size W W') : Bx3 w W' T0 T1 T2 a b c :=
  ⟨h.bel.trans (hb.mono h.bel.size), (hb.block _ (Array.getElem?_eq_some_iff.1 h.h0).1).trans h.h0, (hb.block _ (Array.getElem?_eq_some_iff.1 h.h1).1).trans h.h1, (hb.block _ (Array.getElem?_eq_some_iff.1 h.h2).1).trans h.h2⟩
theorem Bx3.set0 {w W : World} {T0 T1 T2 : TypeId} {a b c : Array Value} (h : Bx3 w W T0 T1 T2 a b c) (x : Array Value) : Bx3 w (W.setRow w.heap.size x) T0 T1 T2 x b c :=
  ⟨below_setRow h.bel (Nat.le_refl _), setRow_heap _ _ _ _ _ _ h.h0, (setRow_other _ _ _ _ (by omega)).trans h.h1, (setRow_other _ _ _ _ (by omega)).trans h.h2⟩
theorem Bx3.set1 {w W : World} {T0 T1 T2 : TypeId} {a b c : Array Value} (h : Bx3 w W T0 T1 T2 a b c) (x : Array Value) : Bx3 w (W.setRow (w.heap.size + 1) x) T0 T1 T2 a x c :=
  ⟨below_setRow h.bel (by omega), (setRow_other _ _ _ _ (by omega)).trans h.h0, setRow_heap _ _ _ _ _ _ h.h1, (setRow_other _ _ _ _ (by omega)).trans h.h2⟩
set_option maxHeartbeats 3200000 in
set_option maxRecDepth 100000 in
/-- the operands behind an instruction -/
theorem behindT_any (ty : List Bool) (op : Nat) (hop : op < 42) (hh : ty.length ≤ 256) (hf : fitsB ty op = true) (w : World) (hE : Ef w) :
    Calls Tryd.prog 92 #[.agg (opV ty).toArray, .int .i64 (op : Int)] w fun e w' => e = .returned (.agg (opV (behT ty op)).toArray) ∧ Below w.heap.size w w' := by
  have hop1 : (op : Int) < 42 := by omega
  obtain ⟨c0, c1, c2⟩ := hE.cell op hop
  have hz : 0 < w.heap.size := hE.pos
  obtain ⟨l1, l2, l3, -⟩ := ef_le op hop
  have hf1 : (ef op).1 ≤ ty.length ∧ ((ef op).2.2 = 0 ∨ ty.length - (ef op).1 < 256) := by
    unfold fitsB at hf
    simp only [Bool.and_eq_true, Bool.or_eq_true, decide_eq_true_eq] at hf
    exact ⟨hf.1, hf.2.2⟩
  have hW := fun W => without_any ty (ef op).1 l1 hf1.1 hh W
  unfold behT
  have hlen : (ty.take (ty.length - (ef op).1)).length = ty.length - (ef op).1 := by rw [List.length_take]; omega
  have h012 : (ef op).2.2 = 0 ∨ (ef op).2.2 = 1 ∨ (ef op).2.2 = 2 := by omega
  have hN := fun hl W => with_num (ty.take (ty.length - (ef op).1)) hl W
  have hT := fun hl W => with_tru (ty.take (ty.length - (ef op).1)) hl W
  rw [hlen] at hN hT
  have hf2 := hf1.2
  clear hE hf hf1 l2 hlen
  generalize ty.take (ty.length - (ef op).1) = t2 at *
  generalize (ef op).2.1 = k at *
  generalize (ef op).2.2 = g at *
  generalize (ef op).1 = t at *
  have HX : Hid (Bx3 w (((w.alloc (.cells (opV ty).toArray 68)).alloc (.cells zOp 68)).alloc (.cells #[.int .i64 (t : Int), .int .i64 (k : Int), .int .i64 (g : Int)] 156)) 68 68 156 (opV ty).toArray zOp #[.int .i64 (t : Int), .int .i64 (k : Int), .int .i64 (g : Int)]) := Bx3.new w _ _ _ _ _ _
  rcases h012 with rfl | rfl | rfl
  · rw [if_pos rfl, List.append_nil]
    clear hN hT
    unfold opV at *
    go_enter Tryd.func92, Tryd.ntmps92
    go_wp2_with fail
    generalize ((w.alloc (.cells #[.int .i64 (ty.length : Int), .int .u64 (wd ty 0 : Int), .int .u64 (wd ty 1 : Int), .int .u64 (wd ty 2 : Int), .int .u64 (wd ty 3 : Int)] 68)).alloc (.cells zOp 68)).alloc (.cells #[.int .i64 (t : Int), .int .i64 (k : Int), .int .i64 0] 156) = w0 at *
    refine (hW _).mono ?_
    rintro e w1 ⟨rfl, hb1⟩
    have HX2 : Hid _ := HX.out.below hb1
    clear hb1 HX hW
    go_wp2_with (first | (refine wpList_store_row rfl 68 _ _ rfl w.heap.size _ rfl rfl 68 _ HX2.out.h0 (by kernel_rfl) rfl (by kernel_rfl) ?_; obtain ⟨w2, hw2, hx2⟩ : ∃ w2, w2 = w1.setRow w.heap.size #[.int .i64 (t2.length : Int), .int .u64 (wd t2 0 : Int), .int .u64 (wd t2 1 : Int), .int .u64 (wd t2 2 : Int), .int .u64 (wd t2 3 : Int)] ∧ Bx3 w w2 68 68 156 #[.int .i64 (t2.length : Int), .int .u64 (wd t2 0 : Int), .int .u64 (wd t2 1 : Int), .int .u64 (wd t2 2 : Int), .int .u64 (wd t2 3 : Int)] zOp #[.int .i64 (t : Int), .int .i64 (k : Int), .int .i64 0] := ⟨_, rfl, HX2.out.set0 _⟩; rw [← hw2]; clear hw2 HX2; obtain ⟨i0, i1, i2, i3, i4⟩ := cells5 hx2.h0; obtain ⟨j0, j1, j2⟩ := cells3 hx2.h2; have HX3 : Hid _ := hx2; clear hx2) | (refine wpList_store_row rfl 68 _ _ rfl (w.heap.size + 1) _ rfl rfl 68 _ HX3.out.h1 (by kernel_rfl) rfl (by kernel_rfl) ?_))
    have HX5 := HX3.out.set1 #[.int .i64 (t2.length : Int), .int .u64 (wd t2 0 : Int), .int .u64 (wd t2 1 : Int), .int .u64 (wd t2 2 : Int), .int .u64 (wd t2 3 : Int)]
    refine bodyPost_ret (results_cell_row (P := Tryd.prog) (fn := Tryd.f92) Tryd.results92 _ _ (w.heap.size + 1) 68 #[.int .i64 (t2.length : Int), .int .u64 (wd t2 0 : Int), .int .u64 (wd t2 1 : Int), .int .u64 (wd t2 2 : Int), .int .u64 (wd t2 3 : Int)] (0, 0) _ rfl HX5.h1 Tryd.underlying68 rfl (by kernel_rfl)) rfl ?_
    exact ⟨rfl, HX5.bel⟩
  · rw [if_neg (by omega), show decide (1 = 2) = false by rfl]
    generalize t2 ++ [false] = t3 at *
    clear hT
    unfold opV at *
    go_enter Tryd.func92, Tryd.ntmps92
    go_wp2_with fail
    generalize ((w.alloc (.cells #[.int .i64 (ty.length : Int), .int .u64 (wd ty 0 : Int), .int .u64 (wd ty 1 : Int), .int .u64 (wd ty 2 : Int), .int .u64 (wd ty 3 : Int)] 68)).alloc (.cells zOp 68)).alloc (.cells #[.int .i64 (t : Int), .int .i64 (k : Int), .int .i64 1] 156) = w0 at *
    refine (hW _).mono ?_
    rintro e w1 ⟨rfl, hb1⟩
    have HX2 : Hid _ := HX.out.below hb1
    clear hb1 HX hW
    go_wp2_with (refine wpList_store_row rfl 68 _ _ rfl w.heap.size _ rfl rfl 68 _ HX2.out.h0 (by kernel_rfl) rfl (by kernel_rfl) ?_; obtain ⟨w2, hw2, hx2⟩ : ∃ w2, w2 = w1.setRow w.heap.size #[.int .i64 (t2.length : Int), .int .u64 (wd t2 0 : Int), .int .u64 (wd t2 1 : Int), .int .u64 (wd t2 2 : Int), .int .u64 (wd t2 3 : Int)] ∧ Bx3 w w2 68 68 156 #[.int .i64 (t2.length : Int), .int .u64 (wd t2 0 : Int), .int .u64 (wd t2 1 : Int), .int .u64 (wd t2 2 : Int), .int .u64 (wd t2 3 : Int)] zOp #[.int .i64 (t : Int), .int .i64 (k : Int), .int .i64 1] := ⟨_, rfl, HX2.out.set0 _⟩; rw [← hw2]; clear hw2 HX2; obtain ⟨i0, i1, i2, i3, i4⟩ := cells5 hx2.h0; obtain ⟨j0, j1, j2⟩ := cells3 hx2.h2; have HX3 : Hid _ := hx2; clear hx2)
    refine (hN (by omega) _).mono ?_
    rintro e w3 ⟨rfl, hb3⟩
    have HX4 : Hid _ := HX3.out.below hb3
    clear hb3 HX3 i0 i1 i2 i3 i4 j0 j1 j2
    go_wp2_with (refine wpList_store_row rfl 68 _ _ rfl (w.heap.size + 1) _ rfl rfl 68 _ HX4.out.h1 (by kernel_rfl) rfl (by kernel_rfl) ?_)
    have HX5 := HX4.out.set1 #[.int .i64 (t3.length : Int), .int .u64 (wd t3 0 : Int), .int .u64 (wd t3 1 : Int), .int .u64 (wd t3 2 : Int), .int .u64 (wd t3 3 : Int)]
    refine bodyPost_ret (results_cell_row (P := Tryd.prog) (fn := Tryd.f92) Tryd.results92 _ _ (w.heap.size + 1) 68 #[.int .i64 (t3.length : Int), .int .u64 (wd t3 0 : Int), .int .u64 (wd t3 1 : Int), .int .u64 (wd t3 2 : Int), .int .u64 (wd t3 3 : Int)] (0, 0) _ rfl HX5.h1 Tryd.underlying68 rfl (by kernel_rfl)) rfl ?_
    exact ⟨rfl, HX5.bel⟩
  · rw [if_neg (by omega), show decide (2 = 2) = true by rfl]
    generalize t2 ++ [true] = t3 at *
    clear hN
    unfold opV at *
    go_enter Tryd.func92, Tryd.ntmps92
    go_wp2_with fail
    generalize ((w.alloc (.cells #[.int .i64 (ty.length : Int), .int .u64 (wd ty 0 : Int), .int .u64 (wd ty 1 : Int), .int .u64 (wd ty 2 : Int), .int .u64 (wd ty 3 : Int)] 68)).alloc (.cells zOp 68)).alloc (.cells #[.int .i64 (t : Int), .int .i64 (k : Int), .int .i64 2] 156) = w0 at *
    refine (hW _).mono ?_
    rintro e w1 ⟨rfl, hb1⟩
    have HX2 : Hid _ := HX.out.below hb1
    clear hb1 HX hW
    go_wp2_with (refine wpList_store_row rfl 68 _ _ rfl w.heap.size _ rfl rfl 68 _ HX2.out.h0 (by kernel_rfl) rfl (by kernel_rfl) ?_; obtain ⟨w2, hw2, hx2⟩ : ∃ w2, w2 = w1.setRow w.heap.size #[.int .i64 (t2.length : Int), .int .u64 (wd t2 0 : Int), .int .u64 (wd t2 1 : Int), .int .u64 (wd t2 2 : Int), .int .u64 (wd t2 3 : Int)] ∧ Bx3 w w2 68 68 156 #[.int .i64 (t2.length : Int), .int .u64 (wd t2 0 : Int), .int .u64 (wd t2 1 : Int), .int .u64 (wd t2 2 : Int), .int .u64 (wd t2 3 : Int)] zOp #[.int .i64 (t : Int), .int .i64 (k : Int), .int .i64 2] := ⟨_, rfl, HX2.out.set0 _⟩; rw [← hw2]; clear hw2 HX2; obtain ⟨i0, i1, i2, i3, i4⟩ := cells5 hx2.h0; obtain ⟨j0, j1, j2⟩ := cells3 hx2.h2; have HX3 : Hid _ := hx2; clear hx2)
    refine (hT (by omega) _).mono ?_
    rintro e w3 ⟨rfl, hb3⟩
    have HX4 : Hid _ := HX3.out.below hb3
    clear hb3 HX3 i0 i1 i2 i3 i4 j0 j1 j2
    go_wp2_with (refine wpList_store_row rfl 68 _ _ rfl (w.heap.size + 1) _ rfl rfl 68 _ HX4.out.h1 (by kernel_rfl) rfl (by kernel_rfl) ?_)
    have HX5 := HX4.out.set1 #[.int .i64 (t3.length : Int), .int .u64 (wd t3 0 : Int), .int .u64 (wd t3 1 : Int), .int .u64 (wd t3 2 : Int), .int .u64 (wd t3 3 : Int)]
    refine bodyPost_ret (results_cell_row (P := Tryd.prog) (fn := Tryd.f92) Tryd.results92 _ _ (w.heap.size + 1) 68 #[.int .i64 (t3.length : Int), .int .u64 (wd t3 0 : Int), .int .u64 (wd t3 1 : Int), .int .u64 (wd t3 2 : Int), .int .u64 (wd t3 3 : Int)] (0, 0) _ rfl HX5.h1 Tryd.underlying68 rfl (by kernel_rfl)) rfl ?_
    exact ⟨rfl, HX5.bel⟩
end Go.Proofs.YtelbakkgobkdaaaDoor.Vf
