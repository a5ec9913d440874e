import Derived.Test.YtkkplmkpemajfabOpen
import Derived.Test.YtkkplmkpemajfabPureWhole
import Derived.Lib.AppendStr
namespace Go.Proofs.Ytkkplmkpemajfab.Sp
open Go.RowKit

theorem far_any (ao : Option Addr) (n cap : Nat) (w : World) : Calls Try.prog 7 #[.slice ao n cap] w fun e w' => e = .returned (.bool (decide ((4096 : Int) < (n : Int)))) ∧ w' = w := by
  go_enter Try.func7, Try.ntmps7
  go_wp2
  go_ret
  exact ⟨rfl, rfl⟩

theorem owns_below {w w' : World} {base n : Nat} {v : Value} {xs : List Value} (h : w.ownsRow base 5 1 v n xs) (hb : Below w.heap.size w w') : w'.ownsRow base 5 1 v n xs := by
  refine ⟨h.1, ?_⟩
  rcases h.2 with h0 | ⟨g, cap, cur, hv, hbg, hg, r⟩
  · exact Or.inl h0
  · exact Or.inr ⟨g, cap, cur, hv, hbg, (hb.block g (Array.getElem?_eq_some_iff.1 hg).1).trans hg, r⟩
theorem owns_slice {w : World} {base n : Nat} {v : Value} {xs : List Value} (h : w.ownsRow base 5 1 v n xs) : ∃ ao cap, v = .slice ao n cap := by
  rcases h.2 with ⟨h0, h1⟩ | ⟨g, cap, cur, hv, _⟩
  · exact ⟨none, 0, by rw [h0, h1]⟩
  · exact ⟨_, _, hv⟩
theorem owns_bytes {w : World} {base : Nat} {ao : Option Addr} {n cap : Nat} {s : ByteArray} (h : w.ownsRow base 5 1 (.slice ao n cap) n (Lib.byteCells s.data.toList)) : n = s.size ∧ IsBytes w ao s := by
  have hn : n = s.size := by
    have := h.1
    rw [Lib.byteCells_length] at this
    simp at this
    exact this.symm
  refine ⟨hn, fun i hi => ?_⟩
  rcases h.2 with ⟨h0, h1⟩ | ⟨g, cap', cur, hv, hbg, hg, h3, h4, h5, h6⟩
  · omega
  · simp at hv
    obtain ⟨rfl, _⟩ := hv
    refine ⟨g, 0, rfl, (Array.getElem?_eq_some_iff.1 hg).1, ?_⟩
    have hc := Lib.cells_of_row hg (n * 1) i (.int .u8 (bt s i)) (by
      rw [h6]
      unfold Lib.byteCells
      rw [List.getElem?_map, byte_at s i hi, bt_get s i hi]
      rfl)
    rw [Lib.addr_add] at hc
    exact hc
/-- what the rounds keep -/
structure Whl (w1 wr : World) (s : ByteArray) (k : Nat) (v : Value) : Prop where
  own : wr.ownsRow w1.heap.size 5 1 v (upTo s k).length (Lib.byteCells (upTo s k))
  bel : Below w1.heap.size w1 wr
theorem Whl.step {w1 wr w2 : World} {s : ByteArray} {k : Nat} {v : Value} (h : Whl w1 wr s k v) (hb : Below wr.heap.size wr w2) : Whl w1 w2 s k v :=
  ⟨owns_below h.own hb, h.bel.trans (hb.mono h.bel.size)⟩
end Go.Proofs.Ytkkplmkpemajfab.Sp
namespace Go.Proofs.Ytkkplmkpemajfab.spanWhole
open Go.RowKit Go.Proofs.Ytkkplmkpemajfab.Sp

set_option maxHeartbeats 3200000 in
set_option maxRecDepth 100000 in
theorem walk (ao : Option Addr) (s : ByteArray) (cap : Nat) (w : World) (h : IsBytes w ao s) (_hc : s.size ≤ cap) (hs : s.size ≤ 2097152) :
    Calls Try.prog 4 #[.slice ao s.size cap] w fun e w' => e = .returned (.bool true) ∧ Below w.heap.size w w' := by
  by_cases hf : (4096 : Int) < (s.size : Int)
  · go_enter Try.func4, Try.ntmps4
    go_wp2_with fail
    refine (far_any ao s.size cap _).mono ?_
    rintro e w' ⟨rfl, rfl⟩
    go_wp2_with fail
    refine (head_any _).mono ?_
    rintro e w6 ⟨rfl, hB6⟩
    go_wp2
    go_ret
    exact ⟨rfl, hB6⟩
  · have hfd : decide ((4096 : Int) < (s.size : Int)) = false := by simpa using hf
    obtain ⟨i0, hi, hz0, hz1, hz2⟩ := info_parts info5
    have hnl := nl_le s
    have hn1 := nl_pos s
    have hd1 : decide ((s.size : Int) + 1 < (nl s : Int)) = false := by simp; omega
    clear hf
    go_enter Try.func4, Try.ntmps4
    go_wp2_with fail
    refine (far_any ao s.size cap _).mono ?_
    rintro e w' ⟨rfl, rfl⟩
    go_wp2_with fail
    refine (made_any ao s cap _ h hs).mono ?_
    rintro e w1 ⟨b, rfl, hT, hB⟩
    have H1 : Hid (IsText w1 b s ∧ Below w'.heap.size w' w1) := ⟨hT, hB⟩
    clear hT hB
    go_wp2_with fail
    refine (lines_any b s _ H1.out.1).mono ?_
    rintro e w2 ⟨rfl, rfl⟩
    go_wp2
    clear hd1
    go_loopw [5, 6] (fun o i wr => ∃ k : Nat, 1 ≤ k ∧ k ≤ nl s + 1 ∧ i = .int .i64 k ∧ Whl w2 wr s k o) (fun _ i _ => nl s + 1 - (intOf i).toNat)
    case atStart => exact ⟨1, by omega, by omega, rfl, by rw [upTo_one]; exact World.ownsRow_nil _ _ _ _, Below.refl _ _⟩
    case round =>
      obtain ⟨k, k1, k2, rfl, hW⟩ := hrel
      obtain ⟨vo, vc, rfl⟩ := owns_slice hW.own
      have T0 : Hid (Whl w2 wr s k (.slice vo (upTo s k).length vc)) := hW
      clear hW
      by_cases hk : k ≤ nl s
      · have HF : Hid _ := line_facts s k k1 hk
        have HP : Hid _ := PE_first s k k1 hk
        have hlz := HF.out.2.2.1
        have hst := HF.out.2.2.2
        have hul := upTo_len s k k1 hk
        rw [hul] at T0 ⊢
        have hd2 : decide ((s.size : Int) < ((ln s k).size : Int)) = false := by simp; omega
        have HQ : Hid _ := PE_far s k (((ln s k).size : Int) + 2) (by omega)
        clear hul
        go_wp2_with fail
        refine (lineF_any b s _ _ (H1.out.1.below T0.out.bel)).mono ?_
        rintro e w3 ⟨rfl, hB3⟩
        rw [HF.out.1, HF.out.2.1]
        have T3 : Hid (Whl w2 w3 s k (.slice vo (st s k) vc)) := T0.out.step hB3
        clear hB3
        go_wp2_with fail
        refine (place_any b s _ _ _ (H1.out.1.below T3.out.bel)).mono ?_
        rintro e w4 ⟨rfl, hB4⟩
        rw [HP.out.1, HP.out.2]
        have T4 : Hid (Whl w2 w4 s k (.slice vo (st s k) vc)) := T3.out.step hB4
        clear hB4
        go_wp2_with fail
        refine (place_any b s _ _ _ (H1.out.1.below T4.out.bel)).mono ?_
        rintro e w5 ⟨rfl, hB5⟩
        rw [HQ.out]
        have T5 : Hid (Whl w2 w5 s k (.slice vo (st s k) vc)) := T4.out.step hB5
        clear hB5
        have T5o : Hid (w5.ownsRow w2.heap.size 5 1 (.slice vo (st s k) vc) (st s k) (Lib.byteCells (upTo s k))) := by
          have := T5.out.own
          rw [upTo_len s k k1 hk] at this
          exact this
        by_cases hlt : k < nl s
        · go_wp2_with (at_builtin; refine Lib.wpList_append_own_string _ rfl _ _ 22 9 rfl w2.heap.size 5 i0 Try.underlying22 Try.underlying9 hi hz0 hz1 hz2 _ _ _ rfl T5o.out (ln s k) rfl ?c3 ?c4 ?c5 ?_)
          case c3 => unfold maxLen; omega
          case c4 => omega
          case c5 => exact T5.out.bel.size
          intro v6 w6 hO6 hg6 _
          have H6 : Hid (w6.ownsRow w2.heap.size 5 1 v6 (st s k + (ln s k).size) (Lib.byteCells (upTo s k ++ (ln s k).data.toList)) ∧ Below w2.heap.size w2 w6) := by
            refine ⟨by rw [Lib.byteCells_append, ← Lib.strCells_eq]; exact hO6, T5.out.bel.grown hg6 T5.out.bel.size (fun j hj => (T5o.out.lt j hj).1)⟩
          clear hO6 hg6
          go_wp2_with (at_builtin; refine wpList_append_own _ rfl _ _ 22 rfl w2.heap.size 5 i0 (.int .u8 0) 1 1 Try.underlying22 hi hz0 hz1 hz2 rfl (by decide) _ _ _ rfl (H6.out.1.alloc _) ⟨w6.heap.size, 0, none⟩ 1 1 [.int .u8 10] rfl rfl ?c1 ?c2 ?c3 ?c4 ?c5 ?_)
          case c1 => exact cell_one_new _ _ _
          case c2 => intro u hu; simp at hu; subst hu; rfl
          case c3 => unfold maxLen; omega
          case c4 => omega
          case c5 => have := H6.out.2.size; simp; omega
          intro v7 w7 hO7 hg7 _
          have H7 : Hid (Whl w2 w7 s (k + 1) v7) := by
            refine ⟨?_, (H6.out.2.alloc H6.out.2.size _).grown hg7 (by have := H6.out.2.size; simp; omega) (fun j hj => (H6.out.1.lt j hj).1)⟩
            have e := upTo_next s k k1 hlt
            have el := congrArg List.length e
            have e1 := upTo_len s k k1 hk
            have e2 : (ln s k).data.toList.length = (ln s k).size := by simp
            simp only [List.length_append, List.length_cons, List.length_nil, e1, e2] at el
            rw [← el, ← e, Lib.byteCells_append]
            exact hO7
          clear hO7 hg7
          go_wp2
          go_roundw
          case rel => exact ⟨k + 1, by omega, by omega, by go_num, H7.out⟩
          case measure => simp [intOf]; omega
        · go_wp2_with (at_builtin; refine Lib.wpList_append_own_string _ rfl _ _ 22 9 rfl w2.heap.size 5 i0 Try.underlying22 Try.underlying9 hi hz0 hz1 hz2 _ _ _ rfl T5o.out (ln s k) rfl ?c3 ?c4 ?c5 ?_)
          case c3 => unfold maxLen; omega
          case c4 => omega
          case c5 => exact T5.out.bel.size
          intro v6 w6 hO6 hg6 _
          have H6 : Hid (w6.ownsRow w2.heap.size 5 1 v6 (st s k + (ln s k).size) (Lib.byteCells (upTo s k ++ (ln s k).data.toList)) ∧ Below w2.heap.size w2 w6) := by
            refine ⟨by rw [Lib.byteCells_append, ← Lib.strCells_eq]; exact hO6, T5.out.bel.grown hg6 T5.out.bel.size (fun j hj => (T5o.out.lt j hj).1)⟩
          clear hO6 hg6
          have H7 : Hid (Whl w2 w6 s (k + 1) v6) := by
            refine ⟨?_, H6.out.2⟩
            have e := upTo_last s k k1 (by omega)
            have el := congrArg List.length e
            have e1 := upTo_len s k k1 hk
            have e2 : (ln s k).data.toList.length = (ln s k).size := by simp
            simp only [List.length_append, e1, e2] at el
            rw [← el, ← e]
            exact H6.out.1
          go_wp2
          go_roundw
          case rel => exact ⟨k + 1, by omega, by omega, by go_num, H7.out⟩
          case measure => simp [intOf]; omega
      · have hua := upTo_all s k (by omega)
        have HX := T0.out.own
        rw [hua] at HX
        have hue : (upTo s k).length = s.data.toList.length := by rw [hua]
        rw [← hue] at HX
        clear hua hue
        generalize (upTo s k).length = m at *
        obtain ⟨hm, hIB⟩ := owns_bytes HX
        have HI : Hid (m = s.size ∧ IsBytes wr vo s) := ⟨hm, hIB⟩
        have HG : Hid _ := past_facts s ((nl s : Int) + 1) (by omega)
        have hbel := T0.out.bel
        have T1 : Hid (Below w2.heap.size w2 wr) := hbel
        clear HX hm hIB hbel
        go_wp2_with fail
        refine (lineF_any b s _ _ (H1.out.1.below T1.out)).mono ?_
        rintro e w3 ⟨rfl, hB3⟩
        rw [HG.out.1]
        have T3 : Hid (IsBytes w3 vo s ∧ Below w2.heap.size w2 w3) := ⟨HI.out.2.below hB3, T1.out.trans (hB3.mono T1.out.size)⟩
        clear hB3
        go_wp2_with fail
        refine (place_any b s _ _ _ (H1.out.1.below T3.out.2)).mono ?_
        rintro e w4 ⟨rfl, hB4⟩
        rw [HG.out.2]
        have T4 : Hid (IsBytes w4 vo s ∧ Below w2.heap.size w2 w4) := ⟨T3.out.1.below hB4, T3.out.2.trans (hB4.mono T3.out.2.size)⟩
        clear hB4
        have T5 : Hid (Below w'.heap.size w' w4) := H1.out.2.trans (T4.out.2.mono H1.out.2.size)
        have hc1 : (convert 22 9 (.slice vo m vc)).run Try.prog w4 = .ok (.string s) w4 := by
          rw [HI.out.1]
          exact conv_any vo s vc w4 T4.out.1
        have hc2 := conv_any ao s cap w4 (h.below T5.out)
        go_wp2_with fail
        refine (head_any _).mono ?_
        rintro e w6 ⟨rfl, hB6⟩
        go_wp2
        go_ret
        exact ⟨rfl, T5.out.trans (hB6.mono T5.out.size)⟩
end Go.Proofs.Ytkkplmkpemajfab.spanWhole
