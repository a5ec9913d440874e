import Derived.Test.YtflcplnmeimbcabLxBase
namespace Go.Proofs.Ytflcplnmeimbcab.Lx
open Go.RowKit Go.Proofs.Ytflcplnmeimbcab.Sp

/-- block g is a row of n bytes, the i-th of them f i -/
def Row (w : World) (g n : Nat) (f : Nat → Int) : Prop := ∃ cur : Array Value, w.heap[g]? = some (.cells cur 5 (0, 0)) ∧ cur.size = n ∧ ∀ i, i < n → cur[i]? = some (.int .u8 (f i))
theorem Row.lt {w : World} {g n : Nat} {f : Nat → Int} (h : Row w g n f) : g < w.heap.size := by
  obtain ⟨cur, h1, _⟩ := h
  exact (Array.getElem?_eq_some_iff.1 h1).1
theorem Row.cell {w : World} {g n : Nat} {f : Nat → Int} (h : Row w g n f) {i : Nat} (hi : i < n) : w.cell? ⟨g, i, none⟩ = some (.int .u8 (f i)) := by
  obtain ⟨cur, h1, h2, h3⟩ := h
  have hc := Lib.cells_of_row h1 cur.size i _ (by rw [List.take_of_length_le (by simp), Array.getElem?_toList]; exact h3 i hi)
  rw [Lib.addr_add] at hc
  simpa using hc
theorem Row.frozen {w : World} {g n : Nat} {f : Nat → Int} (h : Row w g n f) (i : Nat) : w.frozen? ⟨g, i, none⟩ = false := by
  obtain ⟨cur, h1, h2, h3⟩ := h
  simp [World.frozen?, h1]
theorem Row.below {w w' : World} {g n : Nat} {f : Nat → Int} (h : Row w g n f) (hb : Below w.heap.size w w') : Row w' g n f := by
  have hl := h.lt
  obtain ⟨cur, h1, h2⟩ := h
  exact ⟨cur, (hb.block g hl).trans h1, h2⟩
theorem Row.set {w : World} {g n : Nat} {f : Nat → Int} (h : Row w g n f) (i : Nat) (v : Int) : Row (w.setCell ⟨g, i, none⟩ (.int .u8 v)) g n (fun j => if j = i then v else f j) := by
  obtain ⟨cur, h1, h2, h3⟩ := h
  refine ⟨cur.setIfInBounds i (.int .u8 v), ?_, by simpa using h2, fun j hj => ?_⟩
  · simp [World.setCell, Array.getElem?_modify, h1]
  · rw [Array.getElem?_setIfInBounds]
    by_cases e : i = j
    · subst e; simp; omega
    · have e' : ¬ j = i := fun x => e x.symm
      simp only [e, e', if_false]; exact h3 j hj
theorem Row.ext {w : World} {g n : Nat} {f f' : Nat → Int} (h : Row w g n f) (e : ∀ i, i < n → f i = f' i) : Row w g n f' := by
  obtain ⟨cur, h1, h2, h3⟩ := h
  exact ⟨cur, h1, h2, fun i hi => by rw [h3 i hi, e i hi]⟩

/-- what Lend lays -/
def lent (s : ByteArray) (i : Nat) : Int := if i < s.size then ((nb s i : Nat) : Int) else 169

theorem copied (ao : Option Addr) (s : ByteArray) (cap : Nat) (w : World) (M : Array Value) (hM : M.size = s.size + 67) (hMi : ∀ i, i < M.size → ∃ x, M[i]? = some (.int .u8 x)) (h : IsBytes w ao s) :
    ∃ W2 f, (Builtin.copy_ #[22, 22] 3 #[.slice (some ⟨w.heap.size, 0, none⟩) (s.size + 67) (s.size + 67), .slice ao s.size cap]).run Try.prog (w.alloc (.cells M 5)) = .ok (goInt s.size) W2 ∧
      Row W2 w.heap.size (s.size + 67) f ∧ (∀ i, i < s.size → f i = ((nb s i : Nat) : Int)) ∧ Below w.heap.size w W2 := by
  obtain ⟨i0, hi, hz0, hz1, hz2⟩ := info_parts info5
  have hin : (Try.prog.info? 5).map (·.size) = some 1 := by rw [hi]; simp [hz1]
  obtain ⟨m, hm⟩ : ∃ m : Nat → Int, ∀ i, i < M.size → M[i]? = some (.int .u8 (m i)) := by
    refine ⟨fun i => if h : i < M.size then (hMi i h).choose else 0, fun i hi => ?_⟩
    simp only [hi, dif_pos]
    exact (hMi i hi).choose_spec
  have hR : Row (w.alloc (.cells M 5)) w.heap.size (s.size + 67) m := ⟨M, heap_alloc_new w _, hM, fun i hi => hm i (by omega)⟩
  have hB : Below w.heap.size w (w.alloc (.cells M 5)) := (Below.refl _ w).alloc (Nat.le_refl _) _
  by_cases h0 : s.size = 0
  · refine ⟨_, m, ?_, hR, fun i hi => by omega, hB⟩
    have := run_copy_none (P := Try.prog) (w.alloc (.cells M 5)) 22 22 3 5 (some ⟨w.heap.size, 0, none⟩) ao (s.size + 67) (s.size + 67) s.size cap Try.underlying22 hin (by rw [h0]; simp)
    rw [this, h0]
    rfl
  · obtain ⟨g, o, rfl, hg, _⟩ := h 0 (by omega)
    have hl : (Lib.byteCells s.data.toList).length = s.size := by rw [Lib.byteCells_length]; simp
    have hb : ∀ j, j < s.size → (Lib.byteCells s.data.toList)[j]? = some (.int .u8 (((nb s j : Nat) : Int))) := fun j hj => by
      unfold Lib.byteCells
      rw [List.getElem?_map, byte_at s j hj, nb_get s j hj]
      rfl
    have := run_copy_row (P := Try.prog) (w.alloc (.cells M 5)) 22 22 3 5 w.heap.size 0 (s.size + 67) (s.size + 67) ⟨g, o, none⟩ s.size cap M 5 (Lib.byteCells s.data.toList) Try.underlying22 hin (heap_alloc_new w _)
      (by rw [hl]; exact (Nat.min_eq_left (by omega)).symm) (fun j v hj => by
        have hjs : j < s.size := by
          rcases Nat.lt_or_ge j s.size with h' | h'
          · exact h'
          · rw [List.getElem?_eq_none (by omega)] at hj; cases hj
        rw [hb j hjs] at hj
        obtain ⟨g', o', e, hg', hc⟩ := h j hjs
        simp at e
        obtain ⟨rfl, rfl⟩ := e
        rw [Lib.addr_add, ← hj]
        exact (hB.cell (p := ⟨g, o + j, none⟩) hg).trans hc) (by rw [hl]; omega) (Lib.byteCells_one _)
    rw [hl] at this
    refine ⟨_, fun i => if i < s.size then ((nb s i : Nat) : Int) else m i, this, ?_, fun i hi => by simp [hi], below_setRow hB (Nat.le_refl _) _⟩
    refine ⟨_, setRow_heap _ _ M _ 5 (0, 0) (heap_alloc_new w _), ?_, fun i hi => ?_⟩
    · simp [hl]; omega
    · simp only [List.getElem?_toArray, List.take_zero, List.nil_append]
      by_cases his : i < s.size
      · rw [List.getElem?_append_left (by omega), hb i his, if_pos his]
      · rw [List.getElem?_append_right (by omega), if_neg his, hl, List.getElem?_drop, Array.getElem?_toList, show 0 + s.size + (i - s.size) = i by omega]
        exact hm i (by omega)

set_option maxHeartbeats 800000 in
theorem lend_any (ao : Option Addr) (s : ByteArray) (cap : Nat) (w : World) (h : IsBytes w ao s) (hs : s.size ≤ 140737488351232) :
    Calls Try.prog 6 #[.slice ao s.size cap] w fun e w' => e = .returned (.slice (some ⟨w.heap.size, 0, none⟩) s.size (s.size + 67)) ∧ Row w' w.heap.size (s.size + 67) (lent s) ∧ Below w.heap.size w w' := by
  obtain ⟨i0, hi, hz0, hz1, hz2⟩ := info_parts info5
  obtain ⟨M, hM⟩ : ∃ M, M = madeCells (Value.int .u8 0).cells (((s.size : Int) + 67).toNat * i0.size) := ⟨_, rfl⟩
  have hMs : M.size = s.size + 67 := by rw [hM, size_madeCells, hz1]; simp; omega
  have hMi : ∀ i, i < M.size → ∃ x, M[i]? = some (.int .u8 x) := fun i hi => ⟨0, by
    have e : (Value.int .u8 0).cells = #[.int .u8 0] := rfl
    rw [← Array.getElem?_toList, hM, e, toList_madeCells_one, List.getElem?_replicate, if_pos (by rw [hz1]; omega)]⟩
  have hmk : ∀ u : World, (Instr.makeSlice 22 (.int .i64 ((s.size : Int) + 67)) (.int .i64 ((s.size : Int) + 67))).run Try.prog u = .ok (.slice (some ⟨u.heap.size, 0, none⟩) (s.size + 67) (s.size + 67)) (u.alloc (.cells M 5)) := fun u => by
    have h := run_make (P := Try.prog) u 22 5 i0 (.int .u8 0) Try.underlying22 hi hz0 .i64 .i64 ((s.size : Int) + 67) ((s.size : Int) + 67) (by omega) (Int.le_refl _) (by rw [hz2]; omega) (by omega)
    rw [← hM] at h
    have e : ((s.size : Int) + 67).toNat = s.size + 67 := by omega
    rw [e] at h
    exact h
  clear hM
  obtain ⟨W2, f, hcp, hR, hf, hB⟩ := copied ao s cap w M hMs hMi h
  have H0 : Hid (Row W2 w.heap.size (s.size + 67) f ∧ (∀ i, i < s.size → f i = ((nb s i : Nat) : Int)) ∧ Below w.heap.size w W2) := ⟨hR, hf, hB⟩
  clear hR hf hB hMi h
  go_enter Try.func6, Try.ntmps6
  go_wp2
  go_loopw [4] (fun i wr => ∃ (k : Nat) (f : Nat → Int), s.size ≤ k ∧ k ≤ s.size + 67 ∧ i = .int .i64 k ∧ Row wr w.heap.size (s.size + 67) f ∧ (∀ i, i < s.size → f i = ((nb s i : Nat) : Int)) ∧ (∀ i, s.size ≤ i → i < k → f i = 169) ∧ Below w.heap.size w wr) (fun i _ => s.size + 67 - (intOf i).toNat)
  case atStart => exact ⟨s.size, f, by omega, by omega, rfl, H0.out.1, H0.out.2.1, fun i h1 h2 => by omega, H0.out.2.2⟩
  case round =>
    obtain ⟨k, f, k1, k2, rfl, r1, r2, r3, r4⟩ := hrel
    have HR : Hid (Row wr w.heap.size (s.size + 67) f ∧ (∀ i, i < s.size → f i = ((nb s i : Nat) : Int)) ∧ (∀ i, s.size ≤ i → i < k → f i = 169) ∧ Below w.heap.size w wr) := ⟨r1, r2, r3, r4⟩
    by_cases hlt : k < s.size + 67
    · have hc := r1.cell hlt
      have hz := r1.frozen k
      generalize f k = y at hc
      clear r1 r2 r3 r4
      go_wp2
      go_roundw
      case rel =>
        obtain ⟨r1, r2, r3, r4⟩ := HR.out
        refine ⟨k + 1, _, by omega, by omega, by go_num, r1.set k 169, fun i hi => ?_, fun i h1 h2 => ?_, r4.setCell (Nat.le_refl _) _⟩
        · rw [if_neg (by omega)]; exact r2 i hi
        · by_cases e : i = k
          · rw [if_pos e]
          · rw [if_neg e]; exact r3 i h1 (by omega)
      case measure => simp [intOf]; omega
    · clear r1 r2 r3 r4
      go_wp2
      go_ret
      obtain ⟨r1, r2, r3, r4⟩ := HR.out
      refine ⟨rfl, r1.ext fun i hi => ?_, r4⟩
      unfold lent
      by_cases e : i < s.size
      · rw [if_pos e]; exact r2 i e
      · rw [if_neg e]; exact r3 i (by omega) (by omega)

/-- block g alone has turned -/
structure Only (g : Nat) (w w' : World) : Prop where
  os : w'.os = w.os
  tape : w'.tape = w.tape
  output : w'.output = w.output
  size : w'.heap.size = w.heap.size
  block : ∀ k, k ≠ g → w'.heap[k]? = w.heap[k]?
theorem Only.refl (g : Nat) (w : World) : Only g w w := ⟨rfl, rfl, rfl, rfl, fun _ _ => rfl⟩
theorem Only.set {g : Nat} {w w' : World} (h : Only g w w') (i : Nat) (v : Value) : Only g w (w'.setCell ⟨g, i, none⟩ v) :=
  ⟨h.os, h.tape, h.output, by simpa [World.setCell] using h.size, fun k hk => (Below.heap_setCell w' _ v k hk).trans (h.block k hk)⟩
theorem Only.below {g : Nat} {w w' : World} (h : Only g w w') : Below g w w' :=
  ⟨h.os, h.tape, h.output, by rw [h.size]; exact Nat.le_refl _, fun k hk => h.block k (by omega)⟩

theorem Row.bytes {w : World} {g : Nat} {s : ByteArray} (h : Row w g (s.size + 67) (lent s)) : IsBytes w (some ⟨g, 0, none⟩) s := by
  intro i hi
  refine ⟨g, 0, rfl, h.lt, ?_⟩
  have := h.cell (i := i) (by omega)
  unfold lent at this
  rw [if_pos hi] at this
  simpa using this
end Go.Proofs.Ytflcplnmeimbcab.Lx
