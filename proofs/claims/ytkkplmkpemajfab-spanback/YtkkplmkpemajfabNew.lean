import Derived.Test.YtkkplmkpemajfabMade
namespace Go.Proofs.Ytkkplmkpemajfab.Sp
open Go.RowKit

/-- the slice at ao holds the bytes of s (as many as it has) -/
def IsBytes (w : World) (ao : Option Addr) (s : ByteArray) : Prop := ∀ i, i < s.size → ∃ g o, ao = some ⟨g, o, none⟩ ∧ g < w.heap.size ∧ w.cell? ⟨g, o + i, none⟩ = some (.int .u8 (bt s i))
theorem IsBytes.below {w w' : World} {ao : Option Addr} {s : ByteArray} (h : IsBytes w ao s) (hb : Below w.heap.size w w') : IsBytes w' ao s := by
  intro i hi
  obtain ⟨g, o, e, hg, hc⟩ := h i hi
  exact ⟨g, o, e, Nat.lt_of_lt_of_le hg hb.size, (hb.cell (p := ⟨g, o + i, none⟩) hg).trans hc⟩

theorem bt_get (s : ByteArray) (i : Nat) (h : i < s.size) : bt s i = (s[i].toNat : Int) := by
  unfold bt
  have e : s.data.toList[i]? = some s[i] := byte_at s i h
  simp only [List.getD, e, Option.getD_some]

/-- a text of no byte -/
theorem conv_none (ao : Option Addr) (cap : Nat) (w : World) : (convert 22 9 (.slice ao 0 cap)).run Try.prog w = .ok (.string ByteArray.empty) w := by
  rw [run_convert_bytes_string w 22 9 5 ao 0 cap Try.underlying22 Try.underlying5 Try.underlying9]
  cases ao with
  | none => simp [Conv.bytesToString]
  | some a =>
    have hl : (loadCells a 0).run Try.prog w = .ok (([] : List Int).map (Value.int .u8)).toArray w := run_loadCells_list (P := Try.prog) w a [] (fun j v h => by simp at h)
    rw [run_bytesToString w a 0 cap [] hl]
    rfl
theorem empty_of_size {s : ByteArray} (h : s.size = 0) : s = ByteArray.empty := by
  apply ByteArray.ext
  exact Array.eq_empty_of_size_eq_zero h
/-- string(b[j:j+n]) at whatever address such a cut has -/
theorem conv_any (ao : Option Addr) (s : ByteArray) (cap : Nat) (w : World) (h : IsBytes w ao s) : (convert 22 9 (.slice ao s.size cap)).run Try.prog w = .ok (.string s) w := by
  by_cases h0 : s.size = 0
  · rw [h0, conv_none, empty_of_size h0]
  · obtain ⟨g, o, rfl, _, _⟩ := h 0 (by omega)
    refine Lib.run_convert_whole (P := Try.prog) w 22 5 9 Try.underlying22 Try.underlying5 Try.underlying9 g o s (fun i hi => ?_) cap
    obtain ⟨g', o', e, _, hc⟩ := h i hi
    simp at e
    obtain ⟨rfl, rfl⟩ := e
    rw [hc, bt_get s i hi]

theorem ints_cells {w : World} {base : Nat} {v : Value} {n : Nat} {l : List Nat} (h : w.ownsRow base 3 1 v n (l.map fun x : Nat => Value.int .i64 (x : Int))) : ∃ ao c, v = .slice ao l.length c ∧ n = l.length ∧ ∀ i, i < l.length → ∃ g, ao = some ⟨g, 0, none⟩ ∧ base ≤ g ∧ g < w.heap.size ∧ w.cell? ⟨g, i, none⟩ = some (.int .i64 (l.getD i 0 : Nat)) := by
  obtain ⟨h1, h2⟩ := h
  simp at h1
  rcases h2 with ⟨rfl, h0⟩ | ⟨g, cap, cur, rfl, hb, hg, h3, h4, h5, h6⟩
  · refine ⟨none, 0, by rw [h1, h0], h1.symm, fun i hi => by omega⟩
  · refine ⟨some ⟨g, 0, none⟩, cap, by rw [h1], h1.symm, fun i hi => ⟨g, rfl, hb, ?_, ?_⟩⟩
    · exact (Array.getElem?_eq_some_iff.1 hg).1
    · have hc := Lib.cells_of_row hg (n * 1) i (.int .i64 (l.getD i 0 : Nat)) (by rw [h6]; simp [List.getD, List.getElem?_map, List.getElem?_eq_getElem hi])
      rw [Lib.addr_add] at hc
      simpa using hc

/-- what holds of the Text in the making at block b, behind k bytes -/
structure Rel (w wr : World) (s : ByteArray) (k : Nat) (bo : Option Addr) (bn bc : Nat) : Prop where
  size : w.heap.size < wr.heap.size
  c0 : wr.cell? ⟨w.heap.size, 0, none⟩ = some (.string s)
  c1 : wr.cell? ⟨w.heap.size, 1, none⟩ = some (.slice bo bn bc)
  fz : wr.frozen? ⟨w.heap.size, 1, none⟩ = false
  own : wr.ownsRow (w.heap.size + 1) 3 1 (.slice bo bn bc) (brk s k).length ((brk s k).map fun x : Nat => Value.int .i64 (x : Int))
  bel : Below w.heap.size w wr

theorem Rel.first (w : World) (s : ByteArray) : Rel w (w.alloc (.cells #[.string s, .slice none 0 0] 48)) s 0 none 0 0 :=
  ⟨by simp, by simp, by simp, by simp, World.ownsRow_nil _ _ _ _, (Below.refl _ w).alloc (Nat.le_refl _) _⟩
theorem Rel.skip {w wr : World} {s : ByteArray} {k : Nat} {bo : Option Addr} {bn bc : Nat} (h : Rel w wr s k bo bn bc) (hn : ¬ bt s k = 10) : Rel w wr s (k + 1) bo bn bc :=
  ⟨h.size, h.c0, h.c1, h.fz, by rw [brk_no hn]; exact h.own, h.bel⟩
/-- behind the append, ahead of the store -/
theorem Rel.grew {w wr w1 : World} {s : ByteArray} {k : Nat} {bo : Option Addr} {bn bc : Nat} {o : Obj} {v' : Value} (h : Rel w wr s k bo bn bc) (hy : bt s k = 10)
    (hown : w1.ownsRow (w.heap.size + 1) 3 1 v' ((brk s k).length + 1) (((brk s k).map fun x : Nat => Value.int .i64 (x : Int)) ++ [.int .i64 (k : Int)])) (hg : (wr.alloc o).grownBy w1 (Value.slice bo bn bc).ownBlock) :
    w.heap.size < w1.heap.size ∧ w1.frozen? ⟨w.heap.size, 1, none⟩ = false ∧ (∃ x, w1.cell? ⟨w.heap.size, 1, none⟩ = some x) ∧ ∃ bo' bn' bc', v' = .slice bo' bn' bc' ∧ Rel w (w1.setCell ⟨w.heap.size, 1, none⟩ (.slice bo' bn' bc')) s (k + 1) bo' bn' bc' := by
  have hsz := hg.size
  have hs0 := h.size
  simp only [World.size_alloc] at hsz
  have hne : some w.heap.size ≠ (Value.slice bo bn bc).ownBlock := fun e => by have := (h.own.lt _ e.symm).1; omega
  have hbk : w1.heap[w.heap.size]? = wr.heap[w.heap.size]? := (hg.block w.heap.size (by simp; omega) hne).trans (Below.heap_alloc wr o _ hs0)
  have c0 : w1.cell? ⟨w.heap.size, 0, none⟩ = some (.string s) := (World.cell?_of_block (w := wr) hbk).trans h.c0
  have c1 : w1.cell? ⟨w.heap.size, 1, none⟩ = some (.slice bo bn bc) := (World.cell?_of_block (w := wr) hbk).trans h.c1
  have fz : w1.frozen? ⟨w.heap.size, 1, none⟩ = false := (World.frozen?_of_block (w := wr) hbk).trans h.fz
  have bel : Below w.heap.size w w1 := (h.bel.alloc (by omega) o).grown hg (by simp; omega) (fun j hj => by have := (h.own.lt _ hj).1; omega)
  have hv : ∃ bo' bn' bc', v' = .slice bo' bn' bc' := by
    rcases hown.2 with ⟨rfl, _⟩ | ⟨g, cap, cur, rfl, _⟩
    · exact ⟨_, _, _, rfl⟩
    · exact ⟨_, _, _, rfl⟩
  obtain ⟨bo', bn', bc', rfl⟩ := hv
  refine ⟨by omega, fz, ⟨_, c1⟩, bo', bn', bc', rfl, ?_⟩
  refine ⟨by simp [World.setCell]; omega, ?_, ?_, ?_, ?_, bel.setCell (Nat.le_refl _) _⟩
  · rw [World.cell?_setCell_other _ _ _ _ (by simp)]; exact c0
  · exact World.cell?_setCell_same _ _ _ c1
  · rw [← fz]; simp
  · rw [brk_yes hy, List.map_append, List.length_append]
    exact ownsRow_setCell_below hown (by simp) _

set_option maxHeartbeats 800000 in
theorem new_any (ao : Option Addr) (s : ByteArray) (cap : Nat) (w : World) (h : IsBytes w ao s) (hs : s.size ≤ 2097152) :
    Calls Try.prog 19 #[.slice ao s.size cap] w fun e w' => ∃ b, e = .returned (.pointer (some ⟨b, 0, none⟩)) ∧ IsText w' b s ∧ w.heap.size ≤ b ∧ Below w.heap.size w w' ∧ Hid (∀ w'' : World, w'.heap.size ≤ w''.heap.size → (∀ k, w.heap.size ≤ k → k < w'.heap.size → w''.heap[k]? = w'.heap[k]?) → IsText w'' b s) := by
  have hcv := conv_any ao s cap w h
  obtain ⟨i0, hi, hz0, hz1, hz2⟩ := info_parts info3
  have HB : Hid (IsBytes w ao s) := h
  clear h
  go_enter Try.func19, Try.ntmps19
  go_wp2
  go_loopw [12] (fun i wr => ∃ (k : Nat) (bo : Option Addr) (bn bc : Nat), k ≤ s.size ∧ i = .int .i64 k ∧ Rel w wr s k bo bn bc) (fun i _ => s.size - (intOf i).toNat)
  case atStart => exact ⟨0, none, 0, 0, Nat.zero_le _, rfl, Rel.first w s⟩
  case round =>
    obtain ⟨k, bo, bn, bc, hk, rfl, hR⟩ := hrel
    have HR : Hid (Rel w wr s k bo bn bc) := hR
    have r0 := hR.size
    have r1 := hR.c0
    have r2 := hR.c1
    have r3 := hR.fz
    clear hR
    by_cases hlt : k < s.size
    · obtain ⟨g, o, rfl, hg, hc⟩ := HB.out k hlt
      have hcw : wr.cell? ⟨g, o + k, none⟩ = some (.int .u8 (bt s k)) := (HR.out.bel.cell (p := ⟨g, o + k, none⟩) hg).trans hc
      clear hc
      by_cases hy : bt s k = 10
      · have hq : (bt s k == 10) = true := by simp [hy]
        have HY : Hid (bt s k = 10) := hy
        have hl := brk_len s k
        clear hy
        go_wp2_with (at_builtin; refine wpList_append_own _ rfl _ _ 39 rfl (w.heap.size + 1) 3 i0 (.int .i64 0) 1 8 Try.underlying39 hi hz0 hz1 hz2 rfl (by decide) _ _ _ rfl (HR.out.own.alloc _) ⟨wr.heap.size, 0, none⟩ 1 1 [.int .i64 (k : Int)] rfl rfl ?c1 ?c2 ?c3 ?c4 ?c5 ?_)
        case c1 => exact cell_one_new _ _ _
        case c2 => intro u hu; simp at hu; subst hu; rfl
        case c3 => unfold maxLen; omega
        case c4 => omega
        case c5 => simp; omega
        intro v' w1 hown' hgrow _
        obtain ⟨s1, f1, ⟨x1, x2⟩, bo', bn', bc', hv, hR'⟩ := HR.out.grew HY.out hown' hgrow
        rw [hv]
        have HR' : Hid (Rel w (w1.setCell ⟨w.heap.size, 1, none⟩ (.slice bo' bn' bc')) s (k + 1) bo' bn' bc') := hR'
        clear hv hR' hown' hgrow r1 r2 r3 hcw hl
        go_wp2
        go_roundw
        case rel => exact ⟨k + 1, bo', bn', bc', by omega, by go_num, HR'.out⟩
        case measure => simp [intOf]; omega
      · have hq : (bt s k == 10) = false := by simp [hy]
        have HY : Hid (¬ bt s k = 10) := hy
        clear hy
        go_wp2
        go_roundw
        case rel => exact ⟨k + 1, bo, bn, bc, by omega, by go_num, HR.out.skip HY.out⟩
        case measure => simp [intOf]; omega
    · go_wp2
      go_ret
      obtain rfl : k = s.size := by omega
      have hR := HR.out
      obtain ⟨ao', c', e1, e2, e3⟩ := ints_cells hR.own
      simp at e1
      obtain ⟨rfl, rfl, rfl⟩ := e1
      refine ⟨_, rfl, ⟨hR.size, hR.c0, ⟨_, _, hR.c1, fun i hi => ?_⟩, hs⟩, Nat.le_refl _, hR.bel, fun w2 h2 h3 => ⟨Nat.lt_of_lt_of_le hR.size h2, ?_, ⟨bo, bc, ?_, fun i hi => ?_⟩, hs⟩⟩
      · obtain ⟨g, x1, _, x2, x3⟩ := e3 i hi
        exact ⟨g, x1, x2, x3⟩
      · exact (World.cell?_of_block (w := wr) (h3 _ (Nat.le_refl _) hR.size)).trans hR.c0
      · exact (World.cell?_of_block (w := wr) (h3 _ (Nat.le_refl _) hR.size)).trans hR.c1
      · obtain ⟨g, x1, x0, x2, x3⟩ := e3 i hi
        exact ⟨g, x1, Nat.lt_of_lt_of_le x2 h2, (World.cell?_of_block (w := wr) (a := ⟨g, i, none⟩) (h3 g (by omega) x2)).trans x3⟩
end Go.Proofs.Ytkkplmkpemajfab.Sp
