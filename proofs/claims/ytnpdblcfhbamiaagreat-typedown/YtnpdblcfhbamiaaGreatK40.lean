import Derived.Test.YtnpdblcfhbamiaaGreatK39
import Derived.BigQuiet
import Derived.Laws.CopyOwn
import Derived.Laws.Externs
set_option maxHeartbeats 3200000
set_option maxRecDepth 100000
namespace Go.Proofs.YtnpdblcfhbamiaaGreat.Nm.Ty
open Go.RowKit Go.Maps Go.Proofs.YtnpdblcfhbamiaaGreat.Sp Go.Proofs.YtnpdblcfhbamiaaGreat.Lx Go.Proofs.YtnpdblcfhbamiaaGreat.Gr Go.Proofs.YtnpdblcfhbamiaaGreat.Nm
theorem rz5_set (l : List Rz) (i : Nat) (r r' : Rz) (h : l[i]? = some r) : (l.set i r').flatMap rz5 = (((((l.flatMap rz5).set (i * 5) (.int .i64 r'.kind)).set (i * 5 + 1) (.string r'.name)).set (i * 5 + 2) (.int .i64 r'.stop)).set (i * 5 + 3) (.int .i64 r'.n)).set (i * 5 + 4) (.int .i64 r'.kids) := by
  induction l generalizing i with
  | nil => simp at h
  | cons y l ih =>
    cases i with
    | zero =>
      rw [List.set_cons_zero, List.flatMap_cons, List.flatMap_cons]
      simp [rz5]
    | succ i =>
      have e : ∀ k, (i + 1) * 5 + k = i * 5 + k + 1 + 1 + 1 + 1 + 1 := fun k => by omega
      rw [List.set_cons_succ, List.flatMap_cons, List.flatMap_cons, ih i (by simpa using h)]
      rw [show (i + 1) * 5 = i * 5 + 1 + 1 + 1 + 1 + 1 by omega]
      rw [show i * 5 + 1 + 1 + 1 + 1 + 1 + 1 = i * 5 + 1 + 1 + 1 + 1 + 1 + 1 from rfl]
      simp only [rz5, List.cons_append, List.nil_append]
      simp only [show i * 5 + 1 + 1 + 1 + 1 + 1 + 1 = (i * 5 + 1) + 1 + 1 + 1 + 1 + 1 by omega, show i * 5 + 1 + 1 + 1 + 1 + 1 + 2 = (i * 5 + 2) + 1 + 1 + 1 + 1 + 1 by omega, show i * 5 + 1 + 1 + 1 + 1 + 1 + 3 = (i * 5 + 3) + 1 + 1 + 1 + 1 + 1 by omega, show i * 5 + 1 + 1 + 1 + 1 + 1 + 4 = (i * 5 + 4) + 1 + 1 + 1 + 1 + 1 by omega, List.set_cons_succ]
/-- rows in a block of their own -/
def RowZ (w : World) (g : Nat) (l : List Rz) : Prop := w.heap[g]? = some (.cells (l.flatMap rz5).toArray 51 (0, 0))
theorem RowZ.lt {w : World} {g : Nat} {l : List Rz} (h : RowZ w g l) : g < w.heap.size := (Array.getElem?_eq_some_iff.1 h).1
theorem RowZ.cell {w : World} {g : Nat} {l : List Rz} (h : RowZ w g l) {i : Nat} {r : Rz} (hi : l[i]? = some r) (j : Nat) (hj : j < 5) : w.cell? ⟨g, i * 5 + j, none⟩ = (rz5 r)[j]? := by
  rw [World.cell?, h, ← rz5_at l i j r hi hj]
  simp
theorem RowZ.frozen {w : World} {g : Nat} {l : List Rz} (h : RowZ w g l) (j : Nat) : w.frozen? ⟨g, j, none⟩ = false := by rw [World.frozen?, h]; simp
theorem RowZ.cells {w : World} {g : Nat} {l : List Rz} (h : RowZ w g l) {i : Nat} {r : Rz} (hi : l[i]? = some r) : w.cell? ⟨g, i * 5, none⟩ = some (.int .i64 r.kind) ∧ w.cell? ⟨g, i * 5 + 1, none⟩ = some (.string r.name) ∧ w.cell? ⟨g, i * 5 + 2, none⟩ = some (.int .i64 r.stop) ∧ w.cell? ⟨g, i * 5 + 3, none⟩ = some (.int .i64 r.n) ∧ w.cell? ⟨g, i * 5 + 4, none⟩ = some (.int .i64 r.kids) :=
  ⟨h.cell hi 0 (by omega), h.cell hi 1 (by omega), h.cell hi 2 (by omega), h.cell hi 3 (by omega), h.cell hi 4 (by omega)⟩
theorem RowZ.below {w w' : World} {g : Nat} {l : List Rz} (h : RowZ w g l) {b : Nat} (hb : Below b w w') (hg : g < b) : RowZ w' g l := (hb.block g hg).trans h
theorem RowZ.reads {w : World} {g : Nat} {l l' : List Rz} (h : RowZ w g (l ++ l')) : IsRz w (some ⟨g, 0, none⟩) l := by
  intro i x hx
  have hx' : (l ++ l')[i]? = some x := by rw [List.getElem?_append_left (List.getElem?_eq_some_iff.1 hx).1]; exact hx
  obtain ⟨c0, c1, c2, c3, c4⟩ := h.cells hx'
  refine ⟨g, 0, rfl, h.lt, ?_, ?_, ?_, ?_, ?_⟩ <;> simp only [Nat.zero_add] <;> assumption
abbrev storeRow (w : World) (g i : Nat) (r : Rz) : World := ((((w.setCell ⟨g, i * 5, none⟩ (.int .i64 r.kind)).setCell ⟨g, i * 5 + 1, none⟩ (.string r.name)).setCell ⟨g, i * 5 + 2, none⟩ (.int .i64 r.stop)).setCell ⟨g, i * 5 + 3, none⟩ (.int .i64 r.n)).setCell ⟨g, i * 5 + 4, none⟩ (.int .i64 r.kids)
theorem RowZ.set {w : World} {g : Nat} {l : List Rz} (h : RowZ w g l) {i : Nat} {r : Rz} (hi : l[i]? = some r) (r' : Rz) : RowZ (storeRow w g i r') g (l.set i r') := by
  have h1 := heap_setCell_same w g (i * 5) _ _ (.int .i64 r'.kind) h
  have h2 := heap_setCell_same _ g (i * 5 + 1) _ _ (.string r'.name) h1
  have h3 := heap_setCell_same _ g (i * 5 + 2) _ _ (.int .i64 r'.stop) h2
  have h4 := heap_setCell_same _ g (i * 5 + 3) _ _ (.int .i64 r'.n) h3
  have h5 := heap_setCell_same _ g (i * 5 + 4) _ _ (.int .i64 r'.kids) h4
  unfold RowZ storeRow
  rw [h5, rz5_set l i r r' hi]
  simp
theorem mk_cells (n : Nat) : madeCells (Value.agg #[.int .i64 0, .string ⟨#[]⟩, .int .i64 0, .int .i64 0, .int .i64 0]).cells (n * 5) = ((List.replicate n rz0).flatMap rz5).toArray := by
  apply Array.ext'
  apply List.ext_getElem?
  intro j
  have e1 : (Value.agg #[.int .i64 0, .string ⟨#[]⟩, .int .i64 0, .int .i64 0, .int .i64 0]).cells = #[.int .i64 0, .string ⟨#[]⟩, .int .i64 0, .int .i64 0, .int .i64 0] := rfl
  rw [e1]
  by_cases hj : j < n * 5
  · have hq : (List.replicate n rz0)[j / 5]? = some rz0 := by rw [List.getElem?_replicate, if_pos (by omega)]
    have h2 := rz5_at (List.replicate n rz0) (j / 5) (j % 5) rz0 hq (by omega)
    rw [show j / 5 * 5 + j % 5 = j by omega] at h2
    rw [List.toList_toArray, h2, Array.getElem?_toList]
    simp only [madeCells]
    have hm : j % 5 < 5 := by omega
    simp [hj]
    generalize j % 5 = m at hm
    match m, hm with
    | 0, _ => rfl
    | 1, _ => rfl
    | 2, _ => rfl
    | 3, _ => rfl
    | 4, _ => rfl
  · rw [List.getElem?_eq_none (by rw [Array.length_toList, size_madeCells]; omega), List.getElem?_eq_none (by rw [List.toList_toArray, rz5_len, List.length_replicate]; omega)]
/-- make([]api.Row, n) -/
theorem mk_rows (n : Nat) (hn : n ≤ 2932031007330) : ∃ M : List Value, (∀ u : World, (Instr.makeSlice 22 (.int .i64 (n : Int)) (.int .i64 (n : Int))).run Tryz.prog u = .ok (.slice (some ⟨u.heap.size, 0, none⟩) n n) (u.alloc (.cells M.toArray 51))) ∧ M = (List.replicate n rz0).flatMap rz5 := by
  obtain ⟨i0, hi, hz0, hz1, hz2⟩ := info_parts infoRw
  refine ⟨_, fun u => ?_, rfl⟩
  have h := run_make (P := Tryz.prog) u 22 51 i0 (.agg #[.int .i64 0, .string ⟨#[]⟩, .int .i64 0, .int .i64 0, .int .i64 0]) Tryz.underlying22 hi hz0 .i64 .i64 (n : Int) (n : Int) (by omega) (Int.le_refl _) (by rw [hz2]; omega) (by omega)
  have e : (n : Int).toNat = n := by omega
  rw [e, hz1] at h
  refine h.trans ?_
  have key : madeCells (Value.agg #[.int .i64 0, .string ⟨#[]⟩, .int .i64 0, .int .i64 0, .int .i64 0]).cells (n * 5) = ((List.replicate n rz0).flatMap rz5).toArray := mk_cells n
  rw [key]
/-- a mark -/
def mkL (i : Nat) : Rz := ⟨-9, ⟨#[]⟩, 0, i, 0⟩
def fillL (l : List Rz) (k : Nat) : List Rz := l ++ ((List.range k).map (fun j => mkL (l.length + j)) ++ List.replicate (9 - k) rz0)
theorem fillL_len (l : List Rz) (k : Nat) (hk : k ≤ 9) : (fillL l k).length = l.length + 9 := by
  simp [fillL]
  omega
theorem fillL_at (l : List Rz) (k : Nat) (hk : k < 9) : (fillL l k)[l.length + k]? = some rz0 := by
  unfold fillL
  rw [List.getElem?_append_right (by omega), show l.length + k - l.length = k by omega, List.getElem?_append_right (by simp), List.length_map, List.length_range, Nat.sub_self, List.getElem?_replicate, if_pos (by omega)]
theorem fillL_set (l : List Rz) (k : Nat) (hk : k < 9) : (fillL l k).set (l.length + k) (mkL (l.length + k)) = fillL l (k + 1) := by
  unfold fillL
  rw [List.set_append_right _ _ (by omega), show l.length + k - l.length = k by omega]
  congr 1
  rw [List.set_append_right _ _ (by simp), List.length_map, List.length_range, Nat.sub_self, show 9 - k = (9 - (k + 1)) + 1 by omega, List.replicate_succ, List.set_cons_zero, List.range_succ, List.map_append, List.append_assoc]
  rfl
theorem fillL_mark (l : List Rz) (k : Nat) (hk : k < 9) : (fillL l 9)[l.length + k]? = some (mkL (l.length + k)) := by
  unfold fillL
  rw [List.getElem?_append_right (by omega), show l.length + k - l.length = k by omega, List.getElem?_append_left (by simpa using hk), List.getElem?_map, List.getElem?_range hk]
  rfl
theorem copied_rows (ao : Option Addr) (l : List Rz) (cap : Nat) (w : World) (M : List Value) (hM : M = (List.replicate (l.length + 9) rz0).flatMap rz5) (h : IsRz w ao l) :
    ∃ W2, (Builtin.copy_ #[22, 22] 3 #[.slice (some ⟨w.heap.size, 0, none⟩) (l.length + 9) (l.length + 9), .slice ao l.length cap]).run Tryz.prog (w.alloc (.cells M.toArray 51)) = .ok (goInt l.length) W2 ∧
      RowZ W2 w.heap.size (fillL l 0) ∧ Below w.heap.size w W2 := by
  obtain ⟨i0, hi, hz0, hz1, hz2⟩ := info_parts infoRw
  have hB : Below w.heap.size w (w.alloc (.cells M.toArray 51)) := (Below.refl _ w).alloc (Nat.le_refl _) _
  by_cases h0 : l.length = 0
  · obtain rfl : l = [] := List.eq_nil_of_length_eq_zero h0
    refine ⟨w.alloc (.cells M.toArray 51), ?_, ?_, hB⟩
    · simp [Builtin.copy_, run_underlying Tryz.underlying22, Builtin.lenOf, Builtin.firstCells, sizeOf, typeInfo, hi]
      cases ao <;> simp [storeCells, loadCells, go_sem]
    · show _ = _
      rw [heap_alloc_new, hM]
      rfl
  · obtain ⟨g, o, rfl, hg, hc⟩ := rz_cells h (by omega)
    have hr := run_copyS (P := Tryz.prog) (w.alloc (.cells M.toArray 51)) 22 22 3 51 i0 hi w.heap.size 0 (l.length + 9) (l.length + 9) ⟨g, o, none⟩ l.length cap l.length (Nat.min_eq_left (by omega)) M 51 (l.flatMap rz5) Tryz.underlying22 (heap_alloc_new w _)
      (by rw [rz5_len, hz1]) (fun j v hv => by
        have h1 := hc j v hv
        rw [Lib.addr_add] at h1 ⊢
        exact (World.cell?_of_block (a := ⟨g, o + j, none⟩) (Below.heap_alloc w _ g hg)).trans h1) (by rw [rz5_len, hM, rz5_len, List.length_replicate]; omega) (rz5_one l)
    refine ⟨_, hr, ?_, below_setRow hB (Nat.le_refl _) _⟩
    have this : ∀ n, ((List.replicate (n + 9) rz0).flatMap rz5).drop (n * 5) = (List.replicate 9 rz0).flatMap rz5 := by
      intro n
      induction n with
      | zero => rfl
      | succ n ih =>
        rw [show n + 1 + 9 = (n + 9) + 1 by omega, List.replicate_succ, List.flatMap_cons, show (n + 1) * 5 = (rz5 rz0).length + n * 5 by show _ = 5 + _; omega, List.drop_length_add_append, ih]
    have key : splice M 0 (l.flatMap rz5) = (fillL l 0).flatMap rz5 := by
      unfold splice fillL
      rw [List.take_zero, List.nil_append, List.flatMap_append, Nat.zero_add, rz5_len, hM, this]
      rfl
    have h5 := setRow_heap (w.alloc (.cells M.toArray 51)) w.heap.size M.toArray (splice M 0 (l.flatMap rz5)).toArray 51 (0, 0) (heap_alloc_new w _)
    rw [key] at h5
    unfold RowZ
    rw [key]
    exact h5
/-- a field that holds an owned row -/
structure Ow where
  i : Nat
  T : TypeId
  sz : Nat
  v : Value
  n : Nat
  xs : List Value
theorem qF_one (l : List (ByteArray × Bool)) : ∀ u ∈ qF l, u.oneCell' = true := fun u hu => by
  obtain ⟨x, _, hx⟩ := List.mem_flatMap.1 hu
  simp only [List.mem_cons, List.not_mem_nil, or_false] at hx
  rcases hx with rfl | rfl <;> rfl
theorem qF_len (l : List (ByteArray × Bool)) : (qF l).length = l.length * 2 := by
  induction l with
  | nil => rfl
  | cons x l ih =>
    have e : qF (x :: l) = [.string x.1, .bool x.2] ++ qF l := by simp [qF]
    rw [e, List.length_append, ih]
    simp only [List.length_cons, List.length_nil]
    omega
theorem str_one (l : List ByteArray) : ∀ u ∈ l.map Value.string, u.oneCell' = true := fun u hu => by
  obtain ⟨x, _, rfl⟩ := List.mem_map.1 hu
  rfl
theorem row_own {u : World} {g base : Nat} {l : List Rz} (h : RowZ u g l) (hb : base ≤ g) (hl : l.length ≤ 2932031007330) : u.ownsRow base 51 5 (.slice (some ⟨g, 0, none⟩) l.length l.length) l.length (l.flatMap rz5) :=
  own_mk (cur := l.flatMap rz5) (rz5_len l) hb h (Nat.le_refl _) (by unfold maxLen; omega) (rz5_len l) (by rw [← rz5_len l, List.take_length])
/-- lists in memory of their own, apart from one another -/
structure Ls (W : World) (base : Nat) (os : List Ow) : Prop where
  own : ∀ o ∈ os, W.ownsRow base o.T o.sz o.v o.n o.xs
  dis : os.Pairwise fun a c => ∀ g, a.v.ownBlock = some g → c.v.ownBlock ≠ some g
/-- a policy that is being lent -/
structure Lq (w wx : World) (pc : Array Value) (qb : Nat) (cs : Array Value) (os : List Ow) : Prop where
  r : wx.heap[w.heap.size + 1]? = some (.cells #[.string ⟨#[]⟩, pz, pz, pz, pz, pz, pz, .int .i64 0] 30 (0, 0))
  p : wx.heap[w.heap.size]? = some (.cells pc 30 (0, 0))
  q : wx.heap[qb]? = some (.cells cs 30 (0, 0))
  b : Below w.heap.size w wx
  l : w.heap.size + 1 < qb
  own : ∀ o ∈ os, wx.ownsRow (w.heap.size + 2) o.T o.sz o.v o.n o.xs
  dis : os.Pairwise fun a c => ∀ g, a.v.ownBlock = some g → c.v.ownBlock ≠ some g
  nq : ∀ o ∈ os, o.v.ownBlock ≠ some qb
section
variable {w wx w' : World} {pc cs : Array Value} {qb : Nat} {os : List Ow}
theorem Lq.below (h : Lq w wx pc qb cs os) (hb : Below wx.heap.size wx w') : Lq w w' pc qb cs os :=
  ⟨(hb.block _ (blk_lt h.r)).trans h.r, (hb.block _ (blk_lt h.p)).trans h.p, (hb.block _ (blk_lt h.q)).trans h.q, h.b.trans (hb.mono h.b.size), h.l, fun o ho => own_below (h.own o ho) hb, h.dis, h.nq⟩
theorem Lq.cellp (h : Lq w wx pc qb cs os) (i : Nat) (v : Value) (hv : pc[i]? = some v) : wx.cell? ⟨w.heap.size, i, none⟩ = some v := by
  simp only [World.cell?, h.p]
  exact hv
/-- a list more -/
theorem Lq.put {T : TypeId} {sz n : Nat} {v : Value} {xs : List Value} (h : Lq w wx pc qb cs os) (hb : Below wx.heap.size wx w') (ho : w'.ownsRow wx.heap.size T sz v n xs) (i : Nat) (u : Value) : Lq w (w'.setCell ⟨qb, i, none⟩ u) pc qb (cs.setIfInBounds i u) (os ++ [⟨i, T, sz, v, n, xs⟩]) := by
  have h1 := h.below hb
  have hne : ∀ k, k ≠ qb → (w'.setCell ⟨qb, i, none⟩ u).heap[k]? = w'.heap[k]? := fun k hk => Below.heap_setCell w' _ u k (fun e => hk e)
  have hl := h.l
  have hr := blk_lt h.r
  have hq := blk_lt h.q
  refine ⟨(hne _ (by omega)).trans h1.r, (hne _ (by omega)).trans h1.p, heap_setCell_same w' qb i cs 30 u h1.q, below_set h1.b (by omega) i u, h.l, fun o hm => ?_, ?_, fun o hm => ?_⟩
  · rcases List.mem_append.1 hm with hm | hm
    · exact own_keepB (h1.own o hm) (fun k hk => hne k (fun e => h.nq o hm (by rw [hk, e])))
    · simp only [List.mem_cons, List.not_mem_nil, or_false] at hm
      subst hm
      exact own_base (own_keepB ho (fun k hk => hne k (by have := (World.ownsRow.lt ho k hk).1; omega))) (by omega)
  · refine List.pairwise_append.2 ⟨h.dis, by simp, fun a ha c hc gg hg => ?_⟩
    simp only [List.mem_cons, List.not_mem_nil, or_false] at hc
    subst hc
    intro e
    have := (World.ownsRow.lt ho gg e).1
    have := (World.ownsRow.lt (h.own a ha) gg hg).2
    omega
  · rcases List.mem_append.1 hm with hm | hm
    · exact h.nq o hm
    · simp only [List.mem_cons, List.not_mem_nil, or_false] at hm
      subst hm
      intro e
      have := (World.ownsRow.lt ho qb e).1
      omega
end
/-- numbers in a block of their own, the whole block -/
def RowJ (w : World) (g : Nat) (q : List Int) : Prop := w.heap[g]? = some (.cells (iv q).toArray 3 (0, 0))
theorem RowJ.lt {w : World} {g : Nat} {q : List Int} (h : RowJ w g q) : g < w.heap.size := (Array.getElem?_eq_some_iff.1 h).1
theorem RowJ.cell {w : World} {g : Nat} {q : List Int} (h : RowJ w g q) {i : Nat} {x : Int} (hi : q[i]? = some x) : w.cell? ⟨g, i, none⟩ = some (.int .i64 x) := by
  rw [World.cell?, h]
  simp [iv, hi]
theorem RowJ.frozen {w : World} {g : Nat} {q : List Int} (h : RowJ w g q) (j : Nat) : w.frozen? ⟨g, j, none⟩ = false := by rw [World.frozen?, h]; simp
theorem RowJ.below {w w' : World} {g : Nat} {q : List Int} (h : RowJ w g q) {b : Nat} (hb : Below b w w') (hg : g < b) : RowJ w' g q := (hb.block g hg).trans h
theorem RowJ.vals {w : World} {g : Nat} {q q' : List Int} (h : RowJ w g (q ++ q')) : IsVals w (some ⟨g, 0, none⟩) (iv q) := fun k x hx => by
  rw [List.getElem?_map] at hx
  obtain ⟨y, hy, rfl⟩ := Option.map_eq_some_iff.1 hx
  refine ⟨g, 0, rfl, h.lt, ?_⟩
  rw [Nat.zero_add]
  exact h.cell (by rw [List.getElem?_append_left (List.getElem?_eq_some_iff.1 hy).1]; exact hy)
theorem RowJ.set {w : World} {g : Nat} {q : List Int} (h : RowJ w g q) (i : Nat) (x : Int) : RowJ (w.setCell ⟨g, i, none⟩ (.int .i64 x)) g (q.set i x) := by
  have h1 := heap_setCell_same w g i _ _ (.int .i64 x) h
  unfold RowJ
  rw [h1]
  simp [iv, List.map_set]
/-- what is lent: the numbers, k marks, the rest of five -/
def fillI (l : List Int) (k : Nat) : List Int := l ++ ((List.range k).map (fun i => -77 - ((l.length + i : Nat) : Int)) ++ List.replicate (5 - k) 0)
theorem fillI_len (l : List Int) (k : Nat) (hk : k ≤ 5) : (fillI l k).length = l.length + 5 := by simp [fillI]; omega
theorem fillI_at (l : List Int) (k : Nat) (hk : k < 5) : (fillI l k)[l.length + k]? = some 0 := by
  unfold fillI
  rw [List.getElem?_append_right (by omega), show l.length + k - l.length = k by omega, List.getElem?_append_right (by simp), List.length_map, List.length_range, Nat.sub_self, List.getElem?_replicate, if_pos (by omega)]
theorem fillI_set (l : List Int) (k : Nat) (hk : k < 5) : (fillI l k).set (l.length + k) (-77 - ((l.length + k : Nat) : Int)) = fillI l (k + 1) := by
  unfold fillI
  rw [List.set_append_right _ _ (by omega), show l.length + k - l.length = k by omega]
  congr 1
  rw [List.set_append_right _ _ (by simp), List.length_map, List.length_range, Nat.sub_self, show 5 - k = (5 - (k + 1)) + 1 by omega, List.replicate_succ, List.set_cons_zero, List.range_succ, List.map_append, List.append_assoc]
  rfl
theorem fillI_mark (l : List Int) (k : Nat) (hk : k < 5) : (fillI l 5)[l.length + k]? = some (-77 - ((l.length + k : Nat) : Int)) := by
  unfold fillI
  rw [List.getElem?_append_right (by omega), show l.length + k - l.length = k by omega, List.getElem?_append_left (by simpa using hk), List.getElem?_map, List.getElem?_range hk]
  rfl
/-- make([]int, n) -/
theorem mk_num (n : Nat) (hn : n ≤ 17592186043910) : ∀ u : World, (Instr.makeSlice 23 (.int .i64 (n : Int)) (.int .i64 (n : Int))).run Tryz.prog u = .ok (.slice (some ⟨u.heap.size, 0, none⟩) n n) (u.alloc (.cells (iv (List.replicate n 0)).toArray 3)) := fun u => by
  obtain ⟨i0, hi, hz0, hz1, hz2⟩ := info_parts infoI
  have h := run_make (P := Tryz.prog) u 23 3 i0 (.int .i64 0) Tryz.underlying23 hi hz0 .i64 .i64 (n : Int) (n : Int) (by omega) (Int.le_refl _) (by rw [hz2]; omega) (by omega)
  rw [hz1] at h
  have e : madeCells (Value.int .i64 0).cells (n * 1) = (iv (List.replicate n 0)).toArray := by
    rw [Nat.mul_one]
    apply Array.ext
    · simp [madeCells]
    · intro k h1 h2
      simp [madeCells, Value.cells, Nat.mod_one]
  rw [h]
  simp only [Int.toNat_natCast, e]
theorem copied_num (ao : Option Addr) (l : List Int) (cap : Nat) (w : World) (h : IsVals w ao (iv l)) :
    ∃ W2, (Builtin.copy_ #[23, 23] 3 #[.slice (some ⟨w.heap.size, 0, none⟩) (l.length + 5) (l.length + 5), .slice ao l.length cap]).run Tryz.prog (w.alloc (.cells (iv (List.replicate (l.length + 5) 0)).toArray 3)) = .ok (goInt l.length) W2 ∧
      RowJ W2 w.heap.size (fillI l 0) ∧ Below w.heap.size w W2 := by
  obtain ⟨i0, hi, hz0, hz1, hz2⟩ := info_parts infoI
  have hin : (Tryz.prog.info? 3).map (·.size) = some 1 := by rw [hi, ← hz1]; rfl
  have hB : Below w.heap.size w (w.alloc (.cells (iv (List.replicate (l.length + 5) 0)).toArray 3)) := (Below.refl _ w).alloc (Nat.le_refl _) _
  by_cases h0 : l.length = 0
  · obtain rfl : l = [] := List.eq_nil_of_length_eq_zero h0
    refine ⟨w.alloc (.cells (iv (List.replicate 5 0)).toArray 3), ?_, ?_, hB⟩
    · exact run_copy_none (P := Tryz.prog) _ 23 23 3 3 _ ao _ _ _ cap Tryz.underlying23 hin (by simp)
    · show _ = _
      rw [heap_alloc_new]
      rfl
  · cases ao with
    | none => exact absurd (vals_nil (m := l.length) (sz := 1) h (by simp) (by decide) rfl) h0
    | some ad =>
      have hsrc := vals_src (h.below hB) ad rfl
      have hr := run_copy_row (P := Tryz.prog) _ 23 23 3 3 w.heap.size 0 (l.length + 5) (l.length + 5) ad l.length cap _ 3 (iv l) Tryz.underlying23 hin (heap_alloc_new w _) (by simp) hsrc (by simp) (iv_one l)
      have e : goInt ((iv l).length : Nat) = goInt l.length := by simp
      rw [e] at hr
      refine ⟨_, hr, ?_, below_setRow hB (Nat.le_refl _) _⟩
      have h5 := setRow_heap _ w.heap.size _ ((iv (List.replicate (l.length + 5) 0)).toArray.toList.take 0 ++ iv l ++ (iv (List.replicate (l.length + 5) 0)).toArray.toList.drop (0 + (iv l).length)).toArray 3 (0, 0) (heap_alloc_new w (.cells (iv (List.replicate (l.length + 5) 0)).toArray 3))
      unfold RowJ
      rw [h5]
      simp [fillI, iv]
/-- numbers lent -/
theorem lend17 {w : World} {ao : Option Addr} {l : List Int} {cap : Nat} (h : IsVals w ao (iv l)) (hn : l.length ≤ 17592186043904) :
    Calls Tryz.prog 30 #[.slice ao l.length cap] w fun e w' => e = .returned (.slice (some ⟨w.heap.size, 0, none⟩) l.length (l.length + 5)) ∧ RowJ w' w.heap.size (fillI l 5) ∧ Below w.heap.size w w' := by
  have hmk := mk_num (l.length + 5) (by omega)
  have hmk2 : ∀ u : World, (Instr.makeSlice 23 (.int .i64 ((l.length : Int) + 5)) (.int .i64 ((l.length : Int) + 5))).run Tryz.prog u = .ok (.slice (some ⟨u.heap.size, 0, none⟩) (l.length + 5) (l.length + 5)) (u.alloc (.cells (iv (List.replicate (l.length + 5) 0)).toArray 3)) := fun u => by
    have := hmk u
    rw [show ((l.length + 5 : Nat) : Int) = (l.length : Int) + 5 by omega] at this
    exact this
  obtain ⟨W2, hcp, hR, hB⟩ := copied_num ao l cap w h
  have H0 : Hid (RowJ W2 w.heap.size (fillI l 0) ∧ Below w.heap.size w W2) := ⟨hR, hB⟩
  have hln : (l.length : Int) ≤ 17592186043904 := by omega
  generalize (iv (List.replicate (l.length + 5) 0)).toArray = M at hmk2 hcp
  clear hmk h hn hR hB
  go_enter Tryz.func30, Tryz.ntmps30
  go_wp2_with fail
  go_loopg [4] 5 (fun gq i wr => ∃ k : Nat, k ≤ 5 ∧ gq = 5 - k ∧ i = .int .i64 ((l.length : Int) + k) ∧ RowJ wr w.heap.size (fillI l k) ∧ Below w.heap.size w wr)
  case atStart => exact ⟨0, by omega, rfl, by go_num, H0.out.1, H0.out.2⟩
  case round =>
    obtain ⟨k, hk, hgk, rfl, hR, hB⟩ := hrel
    have HG : Hid (gk = 5 - k) := hgk
    have HR : Hid (RowJ wr w.heap.size (fillI l k) ∧ Below w.heap.size w wr) := ⟨hR, hB⟩
    have hk3 : (k : Int) ≤ 5 := by omega
    clear hgk hB
    by_cases hlt : k < 5
    · have hlt' : (l.length : Int) + (k : Int) < (l.length : Int) + 5 := by omega
      have c0 := hR.cell (fillI_at l k hlt)
      have hf := hR.frozen
      have hs := hR.set (l.length + k) (-77 - ((l.length + k : Nat) : Int))
      rw [fillI_set l k hlt] at hs
      have HS : Hid (RowJ (wr.setCell ⟨w.heap.size, l.length + k, none⟩ (.int .i64 (-77 - ((l.length + k : Nat) : Int)))) w.heap.size (fillI l (k + 1))) := hs
      have htn : ((l.length : Int) + (k : Int)).toNat = l.length + k := by omega
      have hcast : ((l.length + k : Nat) : Int) = (l.length : Int) + (k : Int) := by omega
      clear hR hs hlt
      rw [← hcast] at hlt' ⊢
      go_wp2_with fail
      go_roundg (5 - (k + 1))
      case measure => have h1 := HG.out; omega
      case rel => exact ⟨k + 1, by omega, rfl, by go_num, HS.out, HR.out.2.setCell (p := ⟨w.heap.size, l.length + k, none⟩) (Nat.le_refl _) _⟩
    · have hlt' : ¬ ((l.length : Int) + (k : Int) < (l.length : Int) + 5) := by omega
      have hke : k = 5 := by omega
      have HF : Hid (RowJ wr w.heap.size (fillI l 5) ∧ Below w.heap.size w wr) := by rw [hke] at HR; exact HR
      clear hR hke hlt
      go_wp2_with fail
      go_ret
      exact ⟨rfl, HF.out⟩
end Go.Proofs.YtnpdblcfhbamiaaGreat.Nm.Ty
