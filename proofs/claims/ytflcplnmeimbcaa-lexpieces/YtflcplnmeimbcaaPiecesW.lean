import Derived.Test.YtflcplnmeimbcaaScansW
import Derived.Test.YtflcplnmeimbcaaLxStrs
import Derived.Lib.AppendStr
namespace Go.Proofs.Ytflcplnmeimbcaa.lexPieces
open Go.RowKit Go.Proofs.Ytflcplnmeimbcaa.Sp Go.Proofs.Ytflcplnmeimbcaa.Lx

/-- the row of bytes in the making -/
structure BRow (w wr : World) (l : List UInt8) (v : Value) : Prop where
  own : wr.ownsRow w.heap.size 5 1 v l.length (Lib.byteCells l)
  bel : Below w.heap.size w wr
theorem BRow.slice {w wr : World} {l : List UInt8} {v : Value} (h : BRow w wr l v) : ∃ ao cap, v = .slice ao l.length cap ∧ l.length ≤ cap ∧ IsBytes wr ao ⟨l.toArray⟩ := by
  have hsz : (⟨l.toArray⟩ : ByteArray).size = l.length := by simp [ByteArray.size]
  rcases h.own.2 with ⟨h0, h1⟩ | ⟨g, cap, cur, hv, hbg, hg, h3, h4, h5, h6⟩
  · exact ⟨none, 0, by rw [h0, h1], by omega, fun i hi => by omega⟩
  · refine ⟨_, _, hv, h3, fun i hi => ⟨g, 0, rfl, (Array.getElem?_eq_some_iff.1 hg).1, ?_⟩⟩
    have hc := Lib.cells_of_row hg (l.length * 1) i (.int .u8 (nb ⟨l.toArray⟩ i : Nat)) (by
      rw [h6]
      unfold Lib.byteCells
      have e := byte_at ⟨l.toArray⟩ i hi
      rw [nb_get _ i hi, List.getElem?_map]
      have e' : l[i]? = some (⟨l.toArray⟩ : ByteArray)[i] := by simpa using e
      rw [e']
      rfl)
    rw [Lib.addr_add] at hc
    exact hc
theorem BRow.push {w wr w1 : World} {l : List UInt8} {v v' : Value} {y : ByteArray} (h : BRow w wr l v) (ho : w1.ownsRow w.heap.size 5 1 v' (l.length + y.size) (Lib.byteCells l ++ Lib.strCells y)) (hg : wr.grownBy w1 v.ownBlock) : BRow w w1 (l ++ y.data.toList) v' := by
  refine ⟨?_, h.bel.grown hg h.bel.size (fun j hj => (World.ownsRow.lt h.own j hj).1)⟩
  have e : (l ++ y.data.toList).length = l.length + y.size := by simp
  rw [e, Lib.byteCells_append, ← Lib.strCells_eq]
  exact ho
theorem scans_row {w wr : World} {l : List UInt8} {ao : Option Addr} {cap : Nat} (h : BRow w wr l (.slice ao l.length cap)) (hl : l.length ≤ 140737488351232) :
    Calls Try.prog 3 #[.slice ao l.length cap] wr fun e w' => e = .returned (.bool true) ∧ Below wr.heap.size wr w' := by
  obtain ⟨ao', cap', e, h1, h2⟩ := h.slice
  cases e
  have hsz : (⟨l.toArray⟩ : ByteArray).size = l.length := by simp [ByteArray.size]
  have := lexScans.walk ao ⟨l.toArray⟩ cap wr h2 (by omega) (by omega)
  rw [hsz] at this
  exact this

set_option maxHeartbeats 6400000 in
set_option maxRecDepth 100000 in
theorem walk (ao : Option Addr) (ss : List ByteArray) (cap : Nat) (x : Int) (t : ByteArray) (w : World) (h : IsStrs w ao ss) (hn : ss.length ≤ 140737488351232) (_hs : ∀ x ∈ ss, x.size ≤ 140737488351232) (_ht : t.size ≤ 140737488351232) :
    Calls Try.prog 4 #[.slice ao ss.length cap, .int .i64 x, .string t] w fun e w' => e = .returned (.bool true) ∧ Below w.heap.size w w' := by
  have HI : Hid (IsStrs w ao ss) := h
  clear h _hs
  obtain ⟨i0, hi, hz0, hz1, hz2⟩ := info_parts info5
  by_cases h1 : 1000 < t.size
  · have q1 : (1000 : Int) < (t.size : Int) := by omega
    go_enter Try.func4, Try.ntmps4
    go_wp2_with fail
    refine (known_any _).mono ?_
    rintro e w1 ⟨rfl, hB1⟩
    go_wp2
    go_ret
    exact ⟨rfl, hB1⟩
  · by_cases h2 : 1000 < ss.length
    · have q1 : decide ((1000 : Int) < (t.size : Int)) = false := by simp; omega
      have q2 : (1000 : Int) < (ss.length : Int) := by omega
      go_enter Try.func4, Try.ntmps4
      go_wp2_with fail
      refine (known_any _).mono ?_
      rintro e w1 ⟨rfl, hB1⟩
      go_wp2
      go_ret
      exact ⟨rfl, hB1⟩
    · have q1 : decide ((1000 : Int) < (t.size : Int)) = false := by simp; omega
      have q2 : decide ((1000 : Int) < (ss.length : Int)) = false := by simp; omega
      obtain ⟨R, HR⟩ : ∃ R, Hid (R = rnd x 70000) := ⟨_, rfl⟩
      have hR : R < 70000 := by rw [HR.out]; exact rnd_lt x 70000 (by omega)
      have HRn : Hid (∀ W, Calls Try.prog 15 #[.int .i64 x, .int .i64 70000] W fun e w' => e = .returned (.int .i64 (R : Nat)) ∧ w' = W) := fun W => by
        rw [HR.out]
        exact round_any x 70000 _ W (by omega) (by omega) (by omega)
      go_enter Try.func4, Try.ntmps4
      go_wp2_with fail
      go_loopw [7, 8] (fun b i wr => ∃ (k : Nat) (l : List UInt8) (bo : Option Addr) (bc : Nat), k ≤ 70000 ∧ i = .int .i64 k ∧ b = .slice bo l.length bc ∧ l.length ≤ 3000000 ∧ BRow w wr l (.slice bo l.length bc)) (fun _ i _ => 70001 - (intOf i).toNat)
      case atStart => exact ⟨0, [], none, 0, by omega, rfl, rfl, by simp, ⟨World.ownsRow_nil _ _ _ _, Below.refl _ _⟩⟩
      case round =>
        obtain ⟨k, l, bo, bc, hk, rfl, rfl, hl, hB⟩ := hrel
        have HB : Hid (BRow w wr l (.slice bo l.length bc)) := hB
        clear hB q1 q2
        by_cases hgo : k < 1 + R ∧ l.length ≤ 1048576 ∧ 0 < ss.length
        · obtain ⟨g1, g2, g3⟩ := hgo
          have g1' : (k : Int) < 1 + (R : Int) := by omega
          have g2' : (l.length : Int) ≤ 1048576 := by omega
          have g3' : (0 : Int) < (ss.length : Int) := by omega
          have hm : k % ss.length < ss.length := Nat.mod_lt _ g3
          obtain ⟨y, hy⟩ : ∃ y, ss[k % ss.length]? = some y := ⟨_, List.getElem?_eq_getElem hm⟩
          obtain ⟨g, o, rfl, hg, hcl⟩ := (HI.out.below HB.out.bel) _ y hy
          have hne : ¬ (ss.length : Int) = 0 := by omega
          clear hy
          by_cases hy2 : 1048576 < y.size
          · have hy3 : (1048576 : Int) < (y.size : Int) := by omega
            have hze : (y.extract 0 1048576).size = 1048576 := by simp [ByteArray.size_extract]; omega
            go_wp2_with (first | (go_at_call 15; refine (HRn.out _).mono ?_; rintro e w' ⟨rfl, rfl⟩) | (at_builtin; refine Lib.wpList_append_own_string _ rfl _ _ 22 9 rfl w.heap.size 5 i0 Try.underlying22 Try.underlying9 hi hz0 hz1 hz2 _ _ _ rfl HB.out.own (y.extract 0 1048576) rfl ?c3 ?c4 ?c5 ?_))
            case c3 => unfold maxLen; omega
            case c4 => omega
            case c5 => exact HB.out.bel.size
            intro v6 w6 hO6 hg6 _
            have H6 : Hid (BRow w w6 (l ++ (y.extract 0 1048576).data.toList) v6) := HB.out.push (by rw [hze]; exact hO6) hg6
            have hl6 : (l ++ (y.extract 0 1048576).data.toList).length ≤ 2097152 := by simp; omega
            clear hO6 hg6
            generalize l ++ (y.extract 0 1048576).data.toList = l6 at *
            go_wp2_with (at_builtin; refine Lib.wpList_append_own_string _ rfl _ _ 22 9 rfl w.heap.size 5 i0 Try.underlying22 Try.underlying9 hi hz0 hz1 hz2 _ _ _ rfl H6.out.own t rfl ?d3 ?d4 ?d5 ?_)
            case d3 => unfold maxLen; omega
            case d4 => omega
            case d5 => exact H6.out.bel.size
            intro v7 w7 hO7 hg7 _
            have H7 : Hid (BRow w w7 (l6 ++ t.data.toList) v7) := H6.out.push hO7 hg7
            have hl7 : (l6 ++ t.data.toList).length ≤ 3000000 := by simp; omega
            clear hO7 hg7
            generalize l6 ++ t.data.toList = l7 at *
            obtain ⟨bo7, bc7, hv7, _, _⟩ := H7.out.slice
            subst hv7
            go_wp2_with fail
            go_roundw
            case rel => exact ⟨k + 1, l7, bo7, bc7, by omega, by go_num, rfl, hl7, H7.out⟩
            case measure => simp [intOf]; omega
          · have hy3 : decide ((1048576 : Int) < (y.size : Int)) = false := by simp; omega
            go_wp2_with (first | (go_at_call 15; refine (HRn.out _).mono ?_; rintro e w' ⟨rfl, rfl⟩) | (at_builtin; refine Lib.wpList_append_own_string _ rfl _ _ 22 9 rfl w.heap.size 5 i0 Try.underlying22 Try.underlying9 hi hz0 hz1 hz2 _ _ _ rfl HB.out.own (y) rfl ?c3 ?c4 ?c5 ?_))
            case c3 => unfold maxLen; omega
            case c4 => omega
            case c5 => exact HB.out.bel.size
            intro v6 w6 hO6 hg6 _
            have H6 : Hid (BRow w w6 (l ++ (y).data.toList) v6) := HB.out.push hO6 hg6
            have hl6 : (l ++ (y).data.toList).length ≤ 2097152 := by simp; omega
            clear hO6 hg6
            generalize l ++ (y).data.toList = l6 at *
            go_wp2_with (at_builtin; refine Lib.wpList_append_own_string _ rfl _ _ 22 9 rfl w.heap.size 5 i0 Try.underlying22 Try.underlying9 hi hz0 hz1 hz2 _ _ _ rfl H6.out.own t rfl ?d3 ?d4 ?d5 ?_)
            case d3 => unfold maxLen; omega
            case d4 => omega
            case d5 => exact H6.out.bel.size
            intro v7 w7 hO7 hg7 _
            have H7 : Hid (BRow w w7 (l6 ++ t.data.toList) v7) := H6.out.push hO7 hg7
            have hl7 : (l6 ++ t.data.toList).length ≤ 3000000 := by simp; omega
            clear hO7 hg7
            generalize l6 ++ t.data.toList = l7 at *
            obtain ⟨bo7, bc7, hv7, _, _⟩ := H7.out.slice
            subst hv7
            go_wp2_with fail
            go_roundw
            case rel => exact ⟨k + 1, l7, bo7, bc7, by omega, by go_num, rfl, hl7, H7.out⟩
            case measure => simp [intOf]; omega
        · by_cases g1 : k < 1 + R
          · have g1' : (k : Int) < 1 + (R : Int) := by omega
            by_cases g2 : l.length ≤ 1048576
            · have g2' : (l.length : Int) ≤ 1048576 := by omega
              have g3' : decide ((0 : Int) < (ss.length : Int)) = false := by simp only [decide_eq_false_iff_not]; omega
              go_wp2_with (go_at_call 15; refine (HRn.out _).mono ?_; rintro e w' ⟨rfl, rfl⟩)
              refine (scans_row HB.out (by omega)).mono ?_
              rintro e w9 ⟨rfl, hB9⟩
              go_wp2
              go_ret
              exact ⟨rfl, HB.out.bel.trans (hB9.mono HB.out.bel.size)⟩
            · have g2' : decide ((l.length : Int) ≤ 1048576) = false := by simp only [decide_eq_false_iff_not]; omega
              go_wp2_with (go_at_call 15; refine (HRn.out _).mono ?_; rintro e w' ⟨rfl, rfl⟩)
              refine (scans_row HB.out (by omega)).mono ?_
              rintro e w9 ⟨rfl, hB9⟩
              go_wp2
              go_ret
              exact ⟨rfl, HB.out.bel.trans (hB9.mono HB.out.bel.size)⟩
          · have g1' : decide ((k : Int) < 1 + (R : Int)) = false := by simp only [decide_eq_false_iff_not]; omega
            go_wp2_with (go_at_call 15; refine (HRn.out _).mono ?_; rintro e w' ⟨rfl, rfl⟩)
            refine (scans_row HB.out (by omega)).mono ?_
            rintro e w9 ⟨rfl, hB9⟩
            go_wp2
            go_ret
            exact ⟨rfl, HB.out.bel.trans (hB9.mono HB.out.bel.size)⟩
end Go.Proofs.Ytflcplnmeimbcaa.lexPieces
