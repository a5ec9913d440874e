import Derived.Test.YtelbakkgobkdaaaDoorVfMk
import Derived.Test.YtelbakkgobkdaaaDoorVfBeh
import Derived.Laws.CopyOwn
import Derived.Laws.Externs
namespace Go.Proofs.YtelbakkgobkdaaaDoor.Vf
open Go.RowKit Go.Proofs.YtelbakkgobkdaaaDoor.Nm

/-- a row that is made -/
theorem mk_row {ts e : TypeId} {z : Value} {sz by_ : Nat} (hu : Tryd.prog.underlying ts = some (.slice e)) (hinfo : (Tryd.prog.info? e).map (fun i => (i.zero, i.size, i.bytes)) = some (some z, sz, by_)) (n : Nat) (hn : n ≤ 1000000) (hb : by_ ≤ 100) :
    ∀ u : World, (Instr.makeSlice ts (.int .i64 (n : Int)) (.int .i64 (n : Int))).run Tryd.prog u = .ok (.slice (some ⟨u.heap.size, 0, none⟩) n n) (u.alloc (.cells (madeCells z.cells (n * sz)) e)) := fun u => by
  obtain ⟨i0, hi, hz0, hz1, hz2⟩ := info_parts hinfo
  have hm : (by_ : Int) * (n : Int) ≤ 100 * 1000000 := Int.mul_le_mul (by omega) (by omega) (by omega) (by omega)
  have h := run_make (P := Tryd.prog) u ts e i0 z hu hi hz0 .i64 .i64 (n : Int) (n : Int) (by omega) (Int.le_refl _) (by rw [hz2]; omega) (by omega)
  rw [hz1] at h
  rw [h]
  simp only [Int.toNat_natCast]
/-- copy of elements of several cells, into a row that is known -/
theorem run_copy_rows {P : Program} (w : World) (dT sT ty elem : TypeId) (i : TypeInfo) (hq : P.info? elem = some i) (g o dLen dCap : Nat) (a : Addr) (sLen sCap k : Nat) (hk : Nat.min sLen dLen = k) (cur : List Value) (t : TypeId) (cs : List Value)
    (hu : P.underlying dT = some (.slice elem))
    (hg : w.heap[g]? = some (.cells cur.toArray t (0, 0))) (hn : cs.length = k * i.size)
    (hsrc : ∀ j v, cs[j]? = some v → w.cell? (a.add j) = some v) (hfit : o + cs.length ≤ cur.length) (h1 : ∀ v ∈ cs, v.oneCell' = true) :
    (Builtin.copy_ #[dT, sT] ty #[.slice (some ⟨g, o, none⟩) dLen dCap, .slice (some a) sLen sCap]).run P w = .ok (goInt k) (w.setRow g (splice cur o cs).toArray) := by
  have hl := run_loadCells_list (P := P) w a cs hsrc
  have hst := run_storeCells_at P g o t cs 0 cur.toArray w hg (by simpa using hfit) h1
  simp only [Nat.add_zero] at hst
  simp [Builtin.copy_, run_underlying hu, Builtin.lenOf, Builtin.firstCells, sizeOf, typeInfo, hq, hk, ← hn, hl, hst, splice]
theorem run_copy_zero {P : Program} (w : World) (dT sT ty elem : TypeId) (i : TypeInfo) (hq : P.info? elem = some i) (d a : Option Addr) (dLen dCap sLen sCap : Nat) (hu : P.underlying dT = some (.slice elem)) (hn : Nat.min sLen dLen = 0) :
    (Builtin.copy_ #[dT, sT] ty #[.slice d dLen dCap, .slice a sLen sCap]).run P w = .ok (goInt 0) w := by
  have hl : ∀ (x : Addr), (loadCells x 0).run P w = .ok #[] w := fun x => by simpa using run_loadCells_list (P := P) w x [] (by simp)
  cases d <;> cases a <;> simp [Builtin.copy_, run_underlying hu, Builtin.lenOf, Builtin.firstCells, sizeOf, typeInfo, hq, hn, storeCells, hl]
/-- a list with room behind it, in a block of its own -/
def Bk (W : World) (g : Nat) (e : TypeId) (xs : List Value) (k : Nat) : Prop := ∃ rest : List Value, rest.length = k ∧ W.heap[g]? = some (.cells (xs ++ rest).toArray e (0, 0))
theorem Bk.rd {W : World} {g : Nat} {e : TypeId} {xs : List Value} {k : Nat} (h : Bk W g e xs k) : Rd W (some ⟨g, 0, none⟩) xs := fun j x hx => by
  obtain ⟨rest, -, hb⟩ := h
  refine ⟨g, 0, rfl, blk_lt hb, ?_⟩
  rw [Nat.zero_add]
  exact cell_of hb (by rw [List.getElem?_append_left (List.getElem?_eq_some_iff.1 hx).1]; exact hx)
theorem Bk.lt {W : World} {g : Nat} {e : TypeId} {xs : List Value} {k : Nat} (h : Bk W g e xs k) : g < W.heap.size := by
  obtain ⟨rest, -, hb⟩ := h
  exact blk_lt hb
theorem Bk.below {W W' : World} {g : Nat} {e : TypeId} {xs : List Value} {k : Nat} (h : Bk W g e xs k) (hb : Below W.heap.size W W') : Bk W' g e xs k := by
  obtain ⟨rest, hl, h1⟩ := h
  exact ⟨rest, hl, (hb.block _ (blk_lt h1)).trans h1⟩
theorem Bk.frozen {W : World} {g : Nat} {e : TypeId} {xs : List Value} {k : Nat} (h : Bk W g e xs k) (j : Nat) : W.frozen? ⟨g, j, none⟩ = false := by
  obtain ⟨rest, -, hb⟩ := h
  rw [World.frozen?, hb]
  simp
/-- a cell of the room -/
theorem Bk.cell {W : World} {g : Nat} {e : TypeId} {xs : List Value} {k : Nat} (h : Bk W g e xs k) {j : Nat} (hj : j < xs.length + k) : ∃ v, W.cell? ⟨g, j, none⟩ = some v := by
  obtain ⟨rest, hl, hb⟩ := h
  have hlt : j < (xs ++ rest).length := by rw [List.length_append]; omega
  exact ⟨_, cell_of hb (List.getElem?_eq_getElem hlt)⟩
theorem Bk.set {W : World} {g : Nat} {e : TypeId} {xs : List Value} {k : Nat} (h : Bk W g e xs k) {j : Nat} (hj : xs.length ≤ j) (v : Value) : Bk (W.setCell ⟨g, j, none⟩ v) g e xs k := by
  obtain ⟨rest, hl, hb⟩ := h
  refine ⟨rest.set (j - xs.length) v, by simpa using hl, ?_⟩
  rw [heap_setCell_same W g j _ _ v hb]
  rw [show (xs ++ rest.set (j - xs.length) v) = (xs ++ rest).set j v by rw [List.set_append_right _ _ hj]]
  simp
theorem Bk.other {W : World} {g b : Nat} {e : TypeId} {xs : List Value} {k : Nat} (h : Bk W g e xs k) (hn : g ≠ b) (j : Nat) (v : Value) : Bk (W.setCell ⟨b, j, none⟩ v) g e xs k := by
  obtain ⟨rest, hl, hb⟩ := h
  exact ⟨rest, hl, (heap_setCell_other W ⟨b, j, none⟩ g v hn).trans hb⟩
theorem Bk.same {W X : World} {g : Nat} {e : TypeId} {xs : List Value} {k : Nat} (h : Bk W g e xs k) (hx : X.heap[g]? = W.heap[g]?) : Bk X g e xs k := by
  obtain ⟨rest, hl, hb⟩ := h
  exact ⟨rest, hl, hx.trans hb⟩
/-- a list is copied into a row that was made -/
theorem copied {ts e : TypeId} {z : Value} {sz by_ : Nat} (hu : Tryd.prog.underlying ts = some (.slice e)) (hinfo : (Tryd.prog.info? e).map (fun i => (i.zero, i.size, i.bytes)) = some (some z, sz, by_)) (hsz : 0 < sz) (n k cap : Nat) (ao : Option Addr) (xs : List Value) (hx : xs.length = n * sz) (h1 : ∀ v ∈ xs, v.oneCell' = true) (w : World) (h : Rd w ao xs) :
    ∃ W2, (Builtin.copy_ #[ts, ts] 3 #[.slice (some ⟨w.heap.size, 0, none⟩) (n + k) (n + k), .slice ao n cap]).run Tryd.prog (w.alloc (.cells (madeCells z.cells ((n + k) * sz)) e)) = .ok (goInt n) W2 ∧ Bk W2 w.heap.size e xs (k * sz) ∧ Below w.heap.size w W2 := by
  obtain ⟨i0, hi, hz0, hz1, hz2⟩ := info_parts hinfo
  have hB : Below w.heap.size w (w.alloc (.cells (madeCells z.cells ((n + k) * sz)) e)) := (Below.refl _ w).alloc (Nat.le_refl _) _
  have hM : (madeCells z.cells ((n + k) * sz)).toList.length = (n + k) * sz := by rw [Array.length_toList, size_madeCells]
  have hadd : (n + k) * sz = n * sz + k * sz := Nat.add_mul _ _ _
  by_cases h0 : n = 0
  · subst h0
    have hx0 : xs = [] := List.eq_nil_of_length_eq_zero (by rw [hx, Nat.zero_mul])
    subst hx0
    refine ⟨_, run_copy_zero _ ts ts 3 e i0 hi _ ao _ _ _ cap hu (by simp), ⟨(madeCells z.cells ((0 + k) * sz)).toList, by rw [hM, Nat.zero_add], ?_⟩, hB⟩
    rw [heap_alloc_new]
    simp
  · have hpos : 0 < xs.length := by rw [hx]; exact Nat.mul_pos (by omega) hsz
    obtain ⟨g, f, rfl, -, -⟩ := h 0 xs[0] (List.getElem?_eq_getElem hpos)
    have hsrc : ∀ j v, xs[j]? = some v → (w.alloc (.cells (madeCells z.cells ((n + k) * sz)) e)).cell? ((⟨g, f, none⟩ : Addr).add j) = some v := fun j v hv => by
      obtain ⟨g', f', e', hl, hc⟩ := h j v hv
      cases e'
      rw [Lib.addr_add]
      exact (hB.cell (p := ⟨g, f + j, none⟩) hl).trans hc
    have hnew : (w.alloc (.cells (madeCells z.cells ((n + k) * sz)) e)).heap[w.heap.size]? = some (.cells (madeCells z.cells ((n + k) * sz)).toList.toArray e (0, 0)) := by rw [heap_alloc_new]
    have hr := run_copy_rows (P := Tryd.prog) _ ts ts 3 e i0 hi w.heap.size 0 (n + k) (n + k) ⟨g, f, none⟩ n cap n (by simp) _ e xs hu hnew (by rw [hz1]; exact hx) hsrc (by rw [hM]; omega) h1
    refine ⟨_, hr, ⟨(madeCells z.cells ((n + k) * sz)).toList.drop xs.length, by rw [List.length_drop, hM]; omega, ?_⟩, below_setRow hB (Nat.le_refl _)⟩
    rw [setRow_heap _ w.heap.size _ _ e (0, 0) hnew]
    simp [splice]
end Go.Proofs.YtelbakkgobkdaaaDoor.Vf
