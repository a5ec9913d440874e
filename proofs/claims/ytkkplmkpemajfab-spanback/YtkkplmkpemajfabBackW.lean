import Derived.Test.YtkkplmkpemajfabBegins
import Derived.Test.YtkkplmkpemajfabWholeW
namespace Go.Proofs.Ytkkplmkpemajfab.spanBack
open Go.RowKit Go.Proofs.Ytkkplmkpemajfab.Sp

structure Bkw (w wr : World) (g b : Nat) (s : ByteArray) : Prop where
  txt : IsText wr b s
  row : RowB wr g (s.size + 1) (bg s)
  bel : Below w.heap.size w wr
theorem Bkw.step {w wr w2 : World} {g b : Nat} {s : ByteArray} (h : Bkw w wr g b s) (hb : Below wr.heap.size wr w2) : Bkw w w2 g b s :=
  ⟨h.txt.below hb, h.row.keep (hb.block _ h.row.lt), h.bel.trans (hb.mono h.bel.size)⟩

set_option maxHeartbeats 3200000 in
set_option maxRecDepth 100000 in
theorem walk (ao : Option Addr) (s : ByteArray) (cap : Nat) (w : World) (h : IsBytes w ao s) (hc : s.size ≤ cap) (hs : s.size ≤ 2097152) :
    Calls Try.prog 3 #[.slice ao s.size cap] w fun e w' => e = .returned (.bool true) ∧ Below w.heap.size w w' := by
  by_cases hf : (4096 : Int) < (s.size : Int)
  · go_enter Try.func3, Try.ntmps3
    go_wp2_with fail
    refine (far_any ao s.size cap _).mono ?_
    rintro e w' ⟨rfl, rfl⟩
    go_wp2_with fail
    refine (head_any _).mono ?_
    rintro e w6 ⟨rfl, hB6⟩
    go_wp2
    go_ret
    exact ⟨rfl, hB6⟩
  · have hfd : decide ((4096 : Int) < (s.size : Int)) = false := by simpa using hf
    clear hf
    go_enter Try.func3, Try.ntmps3
    go_wp2_with fail
    refine (far_any ao s.size cap _).mono ?_
    rintro e w' ⟨rfl, rfl⟩
    go_wp2_with fail
    refine (made_any ao s cap _ h hs).mono ?_
    rintro e w1 ⟨b, rfl, hT, hB⟩
    have H1 : Hid (IsText w1 b s ∧ Below w'.heap.size w' w1) := ⟨hT, hB⟩
    clear hT hB
    go_wp2_with fail
    refine (begins_any ao s cap _ (h.below H1.out.2) hc hs).mono ?_
    rintro e w2 ⟨rfl, hR, hB⟩
    have H2 : Hid (Bkw w' w2 w1.heap.size b s) := ⟨H1.out.1.below hB, hR, H1.out.2.trans (hB.mono H1.out.2.size)⟩
    generalize w1.heap.size = g at *
    clear hR hB H1
    go_wp2_with fail
    go_loopw [5, 6, 7, 8] (fun la li co i wr => ∃ a line col last : Nat, a ≤ s.size + 1 ∧ i = .int .i64 a ∧ li = .int .i64 line ∧ co = .int .i64 col ∧ la = .int .i64 last ∧ line ≤ 2097153 ∧ col ≤ 2097153 ∧ Bk s a line col last ∧ Bkw w' wr g b s) (fun _ _ _ i _ => s.size + 1 - (intOf i).toNat)
    case atStart => exact ⟨0, 1, 0, 0, by omega, rfl, rfl, rfl, rfl, by omega, by omega, ⟨fun _ => ⟨rfl, rfl, rfl⟩, fun q e => by omega⟩, H2.out⟩
    case round =>
      obtain ⟨a, line, col, last, ha, rfl, rfl, rfl, rfl, hl1, hc1, hBk, hW⟩ := hrel
      have T0 : Hid (Bkw w' wr g b s) := hW
      have HK : Hid (Bk s a line col last) := hBk
      clear hW hBk
      by_cases hle : a ≤ s.size
      · obtain ⟨k0, k3, k5, k4, k8, kc⟩ := off_facts s a hle
        have hnl := nl_le s
        have hen := en_le s (spL s a) k0 k3
        have hcl := colN_le (ln s (spL s a)) ((a - st s (spL s a) : Nat) : Int)
        rw [← kc] at hcl
        have HS : Hid (SL s a = (spL s a : Nat) ∧ SC s a = (spC s a : Nat) ∧ SE s a = 0) := by
          have hin : inB s a = true := by simp [inB]; omega
          refine ⟨?_, ?_, ?_⟩ <;> simp [SL, SC, SE, hin]
        have HP : Hid _ := back_place s a hle
        have HN : Hid (Bk s (a + 1) (spL s a) (spC s a) (lst s a)) := Bk.next s a
        have hb1 : spL s a ≤ 2097153 := by omega
        have hb2 : spC s a ≤ 2097153 := by omega
        have hstep := HK.out.step hle
        have hbn : (a : Int) < (s.size : Int) + 1 := by omega
        have hc1' := T0.out.row.cell (i := a) (by omega)
        clear k0 k3 k5 k4 k8 kc hnl hen hcl
        go_wp2_with fail
        refine (spot_any b s _ _ T0.out.txt).mono ?_
        rintro e w3 ⟨rfl, hB3⟩
        rw [HS.out.1, HS.out.2.1, HS.out.2.2]
        have T3 : Hid (Bkw w' w3 g b s) := T0.out.step hB3
        clear hB3 hc1'
        have hc3 := T3.out.row.cell (i := a) (by omega)
        obtain ⟨y, hy⟩ : ∃ y, bg s a = y := ⟨_, rfl⟩
        have HY : Hid (bg s a = y) := hy
        rw [hy] at hc3 hstep
        clear hy
        generalize spL s a = L at *
        generalize spC s a = c at *
        generalize lst s a = zz at *
        rcases hstep with ⟨rfl, rfl, rfl, e4⟩ | ⟨rfl, rfl, rfl, e4⟩ | ⟨rfl, rfl, rfl, e4⟩
        · obtain rfl := e4.symm
          have hx : ((col : Int) + 1 == (col : Int) + 1) = true := by simp
          go_wp2_with fail
          refine (place_any b s _ _ _ T3.out.txt).mono ?_
          rintro e w4 ⟨rfl, hB4⟩
          have e1 := HP.out.1
          have e2 := HP.out.2.1
          rw [show (((col + 1 : Nat)) : Int) = (col : Int) + 1 by omega] at e1 e2
          rw [e1, e2]
          have T4 : Hid (Bkw w' w4 g b s) := T3.out.step hB4
          have hc4 := T4.out.row.cell (i := a) (by omega)
          rw [HY.out] at hc4
          clear hB4 hc3 e1 e2
          go_wp2
          go_roundw
          case rel => exact ⟨a + 1, _, _, _, by omega, by go_num, rfl, by go_num, rfl, by omega, by omega, HN.out, T4.out⟩
          case measure => simp [intOf]; omega
        · obtain rfl := e4.symm
          have hx : ((line : Int) + 1 == (line : Int)) = false := beq_eq_false_iff_ne.2 (by omega)
          go_wp2_with fail
          refine (place_any b s _ _ _ T3.out.txt).mono ?_
          rintro e w4 ⟨rfl, hB4⟩
          have e1 := HP.out.1
          have e2 := HP.out.2.1
          rw [show (((line + 1 : Nat)) : Int) = (line : Int) + 1 by omega, show (((1 : Nat)) : Int) = 1 by omega] at e1 e2
          rw [e1, e2]
          have T4 : Hid (Bkw w' w4 g b s) := T3.out.step hB4
          have hc4 := T4.out.row.cell (i := a) (by omega)
          rw [HY.out] at hc4
          clear hB4 hc3 e1 e2
          go_wp2
          go_roundw
          case rel => exact ⟨a + 1, _, _, _, by omega, by go_num, by go_num, rfl, rfl, by omega, by omega, HN.out, T4.out⟩
          case measure => simp [intOf]; omega
        · obtain rfl := e4.symm
          go_wp2_with fail
          refine (place_any b s _ _ _ T3.out.txt).mono ?_
          rintro e w4 ⟨rfl, hB4⟩
          have e1 := HP.out.1
          have e2 := HP.out.2.1
          rw [e1, e2]
          have T4 : Hid (Bkw w' w4 g b s) := T3.out.step hB4
          have hc4 := T4.out.row.cell (i := a) (by omega)
          rw [HY.out] at hc4
          clear hB4 hc3 e1 e2
          go_wp2
          go_roundw
          case rel => exact ⟨a + 1, _, _, _, by omega, by go_num, rfl, rfl, rfl, by omega, by omega, HN.out, T4.out⟩
          case measure => simp [intOf]; omega
      · obtain ⟨e1, e2, e3⟩ := HK.out.succ s.size (by omega)
        have e4 : line = nl s := by rw [e1]; rfl
        clear e1 e2 e3
        subst e4
        go_wp2_with fail
        refine (lines_any b s _ T0.out.txt).mono ?_
        rintro e w3 ⟨rfl, rfl⟩
        go_wp2_with fail
        refine (head_any _).mono ?_
        rintro e w6 ⟨rfl, hB6⟩
        go_wp2
        go_ret
        exact ⟨rfl, T0.out.bel.trans (hB6.mono T0.out.bel.size)⟩
end Go.Proofs.Ytkkplmkpemajfab.spanBack
