import Derived.Test.YtkkplmkpemajfabMade
import Derived.Test.YtkkplmkpemajfabPureMark
import Derived.Lib.Builder
import Derived.Lib.OthersKept
import Derived.Laws.Externs
namespace Go.Proofs.Ytkkplmkpemajfab.Sp
open Go.RowKit

/-- below base, and but for block b, nothing has turned -/
structure Keep (b base : Nat) (w w' : World) : Prop where
  os : w'.os = w.os
  tape : w'.tape = w.tape
  output : w'.output = w.output
  size : w.heap.size ≤ w'.heap.size
  block : ∀ k, k < base → k ≠ b → w'.heap[k]? = w.heap[k]?

theorem sizeB : (Try.prog.info? 65).map (·.size) = some 2 := by kernel_rfl
theorem liesB : liesAt Try.prog Try.prog.depth 65 (2 / Try.prog.cellsOf 65) 0 65 1 = true := by kernel_rfl

/-- a strings.Builder at block b that holds the bytes l -/
structure IsB (w : World) (b base : Nat) (l : List UInt8) : Prop where
  lt : b < base
  le : base ≤ w.heap.size
  ex : ∃ p v, (p = .pointer none ∨ p = .pointer (some ⟨b, 0, none⟩)) ∧ w.heap[b]? = some (.cells #[p, v] 65 (0, 0)) ∧ w.ownsRow base 5 1 v l.length (Lib.byteCells l) ∧ (l = [] → v = .slice none 0 0)

theorem cell_h {w : World} {b : Nat} {p v : Value} (h : w.heap[b]? = some (.cells #[p, v] 65 (0, 0))) : w.cell? ⟨b, 0, none⟩ = some p ∧ w.cell? ⟨b, 1, none⟩ = some v ∧ w.frozen? ⟨b, 0, none⟩ = false ∧ w.frozen? ⟨b, 1, none⟩ = false ∧ w.shape? b = some (65, 2) := by
  refine ⟨?_, ?_, ?_, ?_, ?_⟩
  · rw [Lib.cell_of_heap h]; rfl
  · rw [Lib.cell_of_heap h]; rfl
  · simp [World.frozen?, h]
  · simp [World.frozen?, h]
  · simp [World.shape?, h]

set_option maxHeartbeats 1000000 in
set_option maxRecDepth 100000 in
theorem check_any (b : Nat) (p v : Value) (w : World) (hp : p = .pointer none ∨ p = .pointer (some ⟨b, 0, none⟩)) (h : w.heap[b]? = some (.cells #[p, v] 65 (0, 0))) :
    Calls Try.prog 39 #[.pointer (some ⟨b, 0, none⟩)] w fun e w' => e = .returned (.tuple #[]) ∧ w'.heap[b]? = some (.cells #[.pointer (some ⟨b, 0, none⟩), v] 65 (0, 0)) ∧ (w' = w ∨ w' = w.setCell ⟨b, 0, none⟩ (.pointer (some ⟨b, 0, none⟩))) := by
  obtain ⟨j, hj, hjs⟩ := Option.map_eq_some_iff.1 sizeB
  obtain ⟨c0, c1, f0, f1, hsh⟩ := cell_h h
  rcases hp with rfl | rfl
  · have hx : (w.setCell ⟨b, 0, none⟩ (.pointer (some ⟨b, 0, none⟩))).heap[b]? = some (.cells #[.pointer (some ⟨b, 0, none⟩), v] 65 (0, 0)) := by
      simp [World.setCell, Array.getElem?_modify, h]
    have HX : Hid ((w.setCell ⟨b, 0, none⟩ (.pointer (some ⟨b, 0, none⟩))).heap[b]? = some (.cells #[.pointer (some ⟨b, 0, none⟩), v] 65 (0, 0))) := hx
    clear hx
    go_enter Try.func39, Try.ntmps39
    go_wp2
    rw [Lib.run_to_unsafe w ⟨b, 0, none⟩ Try.underlying63 Try.underlying71 hj (by rw [hjs]; decide) hsh (Nat.zero_lt_succ 1)]
    simp only [Result.andThen]
    rw [Oper.upon_value]
    go_wp2
    rw [run_callFunc_extern Try.func40 (by kernel_rfl) (by kernel_rfl) (by kernel_rfl) (e := Extern.AbiNoEscape.same) (by kernel_rfl)]
    rw [Lib.run_noEscape]
    simp only [Result.andThen]
    rw [Oper.upon_value]
    go_wp2
    rw [Lib.run_from_unsafe w ⟨b, 0, none⟩ Try.underlying71 Try.underlying63 hj hsh liesB]
    simp only [Result.andThen]
    rw [Oper.upon_value]
    go_wp2
    go_end0
    exact ⟨rfl, HX.out, Or.inr rfl⟩
  · go_enter Try.func39, Try.ntmps39
    go_wp2
    rw [Lib.run_neq_ptr_same w _ Try.underlying63 hj]
    go_wp2
    go_end0
    exact ⟨rfl, h, Or.inl rfl⟩

theorem IsB.set0 {w : World} {b base : Nat} {v p : Value} {n : Nat} {xs : List Value} (h : w.ownsRow base 5 1 v n xs) (hb : b < base) : (w.setCell ⟨b, 0, none⟩ p).ownsRow base 5 1 v n xs :=
  ownsRow_setCell_below h hb _

set_option maxHeartbeats 1000000 in
set_option maxRecDepth 100000 in
theorem wb_any (b base : Nat) (l : List UInt8) (c : UInt8) (C : Int) (w : World) (h : IsB w b base l) (hl : l.length ≤ 4194304) (hC : C = (c.toNat : Int)) :
    Calls Try.prog 36 #[.pointer (some ⟨b, 0, none⟩), .int .u8 C] w fun e w' => e = .returned .nilIface ∧ IsB w' b base (l ++ [c]) ∧ Keep b base w w' := by
  obtain ⟨i0, hi, hz0, hz1, hz2⟩ := info_parts info5
  obtain ⟨hlt, hle, p, v, hp, hbk, hown, _⟩ := h
  have HC : Hid (C = (c.toNat : Int)) := hC
  clear hC
  go_enter Try.func36, Try.ntmps36
  go_wp2_with fail
  refine (check_any b p v _ hp hbk).mono ?_
  rintro e w1 ⟨rfl, hbk1, hw1⟩
  have hown1 : w1.ownsRow base 5 1 v l.length (Lib.byteCells l) := by
    rcases hw1 with rfl | rfl
    · exact hown
    · exact ownsRow_setCell_below hown hlt _
  have K1 : Hid (Keep b base w w1) := by
    rcases hw1 with rfl | rfl
    · exact ⟨rfl, rfl, rfl, Nat.le_refl _, fun _ _ _ => rfl⟩
    · exact ⟨rfl, rfl, rfl, by simp [World.setCell], fun k _ hk => Below.heap_setCell _ _ _ _ hk⟩
  have hle1 : base ≤ w1.heap.size := Nat.le_trans hle K1.out.size
  clear hw1 hbk hown
  obtain ⟨c0, c1, f0, f1, hsh⟩ := cell_h hbk1
  have hv : ∃ ao n cap, v = .slice ao n cap := by
    rcases hown1.2 with ⟨hv, _⟩ | ⟨g, cap, cur, hv, _⟩
    · exact ⟨_, _, _, hv⟩
    · exact ⟨_, _, _, hv⟩
  obtain ⟨ao, n, cap, rfl⟩ := hv
  have hne : some b ≠ (Value.slice ao n cap).ownBlock := fun e => by have := (hown1.lt _ e.symm).1; omega
  have HO : Hid (w1.ownsRow base 5 1 (.slice ao n cap) l.length (Lib.byteCells l) ∧ w1.heap[b]? = some (.cells #[.pointer (some ⟨b, 0, none⟩), .slice ao n cap] 65 (0, 0)) ∧ some b ≠ (Value.slice ao n cap).ownBlock) := ⟨hown1, hbk1, hne⟩
  clear hown1 hbk1 hne hsh f0 c0
  go_wp2_with (at_builtin; refine wpList_append_own _ rfl _ _ 22 rfl base 5 i0 (.int .u8 0) 1 1 Try.underlying22 hi hz0 hz1 hz2 rfl (by decide) _ _ _ rfl (HO.out.1.alloc _) ⟨w1.heap.size, 0, none⟩ 1 1 [.int .u8 C] rfl rfl ?c1 ?c2 ?c3 ?c4 ?c5 ?_)
  case c1 => exact cell_one_new _ _ _
  case c2 => intro u hu; simp at hu; subst hu; rfl
  case c3 => unfold maxLen; omega
  case c4 => omega
  case c5 => simp; omega
  intro v' w2 hown' hgrow _
  have hsz := hgrow.size
  simp only [World.size_alloc] at hsz
  have hb2 : w2.heap[b]? = some (.cells #[.pointer (some ⟨b, 0, none⟩), .slice ao n cap] 65 (0, 0)) := by
    rw [hgrow.block b (by simp; omega) HO.out.2.2, Below.heap_alloc w1 _ b (by omega)]
    exact HO.out.2.1
  obtain ⟨d0, d1, g0, g1, _⟩ := cell_h hb2
  have hv' : ∃ ao' n' cap', v' = .slice ao' n' cap' := by
    rcases hown'.2 with ⟨hv, _⟩ | ⟨g, cap, cur, hv, _⟩
    · exact ⟨_, _, _, hv⟩
    · exact ⟨_, _, _, hv⟩
  obtain ⟨ao', n', cap', hv'⟩ := hv'
  have HZ : Hid (IsB (w2.setCell ⟨b, 1, none⟩ (.slice ao' n' cap')) b base (l ++ [c]) ∧ Keep b base w (w2.setCell ⟨b, 1, none⟩ (.slice ao' n' cap'))) := by
    subst hv'
    refine ⟨⟨hlt, by simp [World.setCell]; omega, _, .slice ao' n' cap', Or.inr rfl, ?_, ?_, fun e => by simp at e⟩, ?_⟩
    · simp [World.setCell, Array.getElem?_modify, hb2]
    · rw [Lib.byteCells_append, List.length_append]
      have e : Lib.byteCells [c] = [.int .u8 C] := by rw [HC.out]; rfl
      rw [e]
      exact ownsRow_setCell_below (a := ⟨b, 1, none⟩) hown' hlt _
    · have k := K1.out
      refine ⟨hgrow.os.trans k.os, hgrow.tape.trans k.tape, hgrow.output.trans k.output, by have := k.size; simp [World.setCell]; omega, fun j hj hjb => ?_⟩
      rw [Below.heap_setCell _ _ _ _ hjb, hgrow.block j (by simp; omega) (fun e => by have := (HO.out.1.lt _ e.symm).1; omega), Below.heap_alloc w1 _ j (by omega)]
      exact k.block j hj hjb
  rw [hv']
  clear hv' hown' hgrow hb2 d0 g0 c1 f1
  go_wp2
  go_ret
  exact ⟨rfl, HZ.out.1, HZ.out.2⟩

theorem below_of_keep {B b base : Nat} {w w' : World} (h : Keep b base w w') (hB : B ≤ b) (hb : B ≤ base) : Below B w w' :=
  ⟨h.os, h.tape, h.output, h.size, fun k hk => h.block k (by omega) (by omega)⟩

set_option maxHeartbeats 1000000 in
set_option maxRecDepth 100000 in
theorem str_any (b base B : Nat) (l : List UInt8) (w : World) (h : IsB w b base l) (hB : B ≤ base) (hl : l.length ≤ 4194304) :
    Calls Try.prog 37 #[.pointer (some ⟨b, 0, none⟩)] w fun e w' => e = .returned (.string ⟨l.toArray⟩) ∧ Below B w w' := by
  obtain ⟨hlt, hle, p, v, hp, hbk, hown, hnil⟩ := h
  obtain ⟨_, c1, _, _, _⟩ := cell_h hbk
  rcases hown.2 with ⟨rfl, h0⟩ | ⟨g, cap, cur, rfl, hbg, hg, hnc, hcm, hcs, htake⟩
  · have hUS := fun W q => Lib.run_unsafeString_none (P := Try.prog) W 70 3 9 q
    have hSD : ∀ W, (Builtin.unsafeSliceData_ #[22] 70 #[.slice none 0 0]).run Try.prog W = .ok (.pointer none) W := fun W => rfl
    obtain rfl : l = [] := List.eq_nil_of_length_eq_zero h0
    clear hown
    have c1' : w.drew.cell? ⟨b, 1, none⟩ = some (.slice none 0 0) := by simpa using c1
    go_enter Try.func37, Try.ntmps37
    go_wp2
    go_region
    all_goals
      go_wp2
      go_ret
      exact ⟨rfl, (Below.refl B w).drew⟩
  · have h0 : l ≠ [] := fun e => by have := hnil e; simp at this
    have hl0 : l.length ≠ 0 := by simpa using h0
    have hSD : ∀ W, (Builtin.unsafeSliceData_ #[22] 70 #[.slice (some ⟨g, 0, none⟩) l.length cap]).run Try.prog W = .ok (.pointer (some ⟨g, 0, none⟩)) W := fun W => Lib.run_unsafeSliceData_row _ _ _ _ _ _ (by omega)
    have hg' : w.drew.heap[g]? = some (.cells cur 5 (0, 0)) := hg
    have hUS : (Builtin.unsafeString_ #[70, 3] 9 #[.pointer (some ⟨g, 0, none⟩), .int .i64 l.length]).run Try.prog w.drew = .ok (.string ⟨l.toArray⟩) (w.drew.freeze ⟨g, 0, none⟩ l.length) := by
      refine Lib.run_unsafeString_row w.drew 70 3 9 5 Try.underlying70 cells5 g cur.size (by simp [World.shape?, hg']) l h0 (by omega) (by omega) ?_
      intro j x hx
      refine Lib.cells_of_row hg' (l.length * 1) j _ ?_
      rw [htake]
      simp [Lib.byteCells, hx]
    have c1' : w.drew.cell? ⟨b, 1, none⟩ = some (.slice (some ⟨g, 0, none⟩) l.length cap) := by simpa using c1
    clear hg' hg htake hown hnil
    go_enter Try.func37, Try.ntmps37
    go_wp2
    go_region
    all_goals
      go_wp2
      go_ret
      exact ⟨rfl, Lib.below_freeze (Below.refl B w).drew (p := ⟨g, 0, none⟩) (Nat.le_trans hB hbg) _⟩
end Go.Proofs.Ytkkplmkpemajfab.Sp
