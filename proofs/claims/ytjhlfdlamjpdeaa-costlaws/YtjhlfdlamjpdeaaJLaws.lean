import Derived.Test.YtjhlfdlamjpdeaaJB
import Derived.Test.YtjhlfdlamjpdeaaJLendL
import Derived.Deep.RegionHeld3
namespace Go.Proofs.Ytjhlfdlamjpdeaa.Nm
open Go.RowKit Go.Maps Go.Proofs.Ytjhlfdlamjpdeaa.Sp Go.Proofs.Ytjhlfdlamjpdeaa.Lx Go.Proofs.Ytjhlfdlamjpdeaa.Gr

theorem vals_take {w : World} {ao : Option Addr} {l : List Int} (h : IsVals w ao (iv l)) (k : Nat) : IsVals w ao (iv (l.take k)) := fun i x hx => h i x (by
  have hi : i < (l.take k).length := by simpa [iv] using (List.getElem?_eq_some_iff.1 hx).1
  have hi2 : i < k := by simp at hi; omega
  rw [← hx]
  simp [iv, hi2])
theorem vals_dropJ {w : World} {g o : Nat} {l : List Int} (h : IsVals w (some ⟨g, o, none⟩) (iv l)) (k : Nat) : IsVals w (some ⟨g, o + k, none⟩) (iv (l.drop k)) := fun i x hx => by
  have : (iv l)[k + i]? = some x := by
    rw [← hx]
    simp [iv]
  obtain ⟨g', o', e, h1, h2⟩ := h (k + i) x this
  cases e
  exact ⟨_, _, rfl, h1, by rw [Nat.add_assoc]; exact h2⟩
theorem sum2J (W : World) (x y : Nat) : Calls Try.prog 9 #[.slice (some ⟨W.heap.size, 0, none⟩) 2 2] (W.alloc (.cells #[.int .i64 (x : Int), .int .i64 (y : Int)] 3)) fun e w' => e = .returned (.int .i64 (sumL [(x : Int), (y : Int)] : Nat)) ∧ w' = W.alloc (.cells #[.int .i64 (x : Int), .int .i64 (y : Int)] 3) := sum_any (l := [(x : Int), (y : Int)]) (c := 2) (vals_new W _ _) (show 2 ≤ 17592186043904 by decide)
theorem times2J (W : World) (x y : Nat) : Calls Try.prog 10 #[.slice (some ⟨W.heap.size, 0, none⟩) 2 2] (W.alloc (.cells #[.int .i64 (x : Int), .int .i64 (y : Int)] 3)) fun e w' => e = .returned (.int .i64 (timL [(x : Int), (y : Int)] : Nat)) ∧ w' = W.alloc (.cells #[.int .i64 (x : Int), .int .i64 (y : Int)] 3) := times_any (l := [(x : Int), (y : Int)]) (c := 2) (vals_new W _ _) (show 2 ≤ 17592186043904 by decide)
set_option maxHeartbeats 12800000 in
set_option maxRecDepth 100000 in
theorem lawsWalk (ao : Option Addr) (l : List Int) (c : Nat) (cut turn : Int) (w : World) (h : IsVals w ao (iv l)) (hn : l.length ≤ 17592186043904) (hcap : l.length ≤ c) (hcm : c ≤ maxLen) :
    Calls Try.prog 5 #[.slice ao l.length c, .int .i64 cut, .int .i64 turn] w fun e w' => e = .returned (.bool true) ∧ Below w.heap.size w w' := by
  have HH := show Hid _ from head10 w
  have hn2 : (l.length : Int) ≤ 17592186043904 := by omega
  by_cases hA : l.length < 2 ∨ 4096 < l.length
  · by_cases hA1 : l.length < 2
    · have hb1 : decide ((l.length : Int) < 2) = true := decide_eq_true (by omega)
      have hb2 : (l.length : Int) < 2 := by omega
      clear hA h hcap hcm hn
      go_enter Try.func5, Try.ntmps5
      go_wp2_with fail
      refine Calls.mono HH.out ?_
      rintro e w1 ⟨rfl, hb⟩
      have HB := show Hid _ from hb
      clear hb
      go_wp2
      go_ret
      exact ⟨rfl, HB.out⟩
    · have hb1 : decide ((l.length : Int) < 2) = false := decide_eq_false (by omega)
      have hb2 : decide (l.length < 2) = false := decide_eq_false hA1
      have hb3 : decide ((4096 : Int) < (l.length : Int)) = true := decide_eq_true (by omega)
      have hb4 : (4096 : Int) < (l.length : Int) := by omega
      clear hA h hcap hcm hn hA1
      go_enter Try.func5, Try.ntmps5
      go_wp2_with fail
      refine Calls.mono HH.out ?_
      rintro e w1 ⟨rfl, hb⟩
      have HB := show Hid _ from hb
      clear hb
      go_wp2
      go_ret
      exact ⟨rfl, HB.out⟩
  · have ha1 : decide ((l.length : Int) < 2) = false := decide_eq_false (by omega)
    have ha2 : decide ((4096 : Int) < (l.length : Int)) = false := decide_eq_false (by omega)
    have ha3 : decide (l.length < 2) = false := decide_eq_false (by omega)
    have ha4 : decide (4096 < l.length) = false := decide_eq_false (by omega)
    have hL1 : 2 ≤ l.length := by omega
    have hL2 : l.length ≤ 4096 := by omega
    have hL3 : (l.length : Int) ≤ 4096 := by omega
    have hL4 : (2 : Int) ≤ (l.length : Int) := by omega
    obtain ⟨g, o, rfl, hg, -⟩ := h 0 _ (iv_at (by omega))
    have HV : Hid (IsVals w (some ⟨g, o, none⟩) (iv l) ∧ 2 ≤ l.length ∧ l.length ≤ 4096 ∧ l.length ≤ c ∧ c ≤ maxLen) := ⟨h, hL1, hL2, hcap, hcm⟩
    have hsub : IntKind.i64.wrap ((l.length : Int) - 1) = ((l.length - 1 : Nat) : Int) := by rw [IntKind.wrap_i64]; omega
    have HWc := show Hid _ from within_any cut (l.length - 1) (by omega) (by omega) w
    have hwc := wtn10_lt cut (n := l.length - 1) (by omega)
    have HWt : Hid (∀ W, Calls Try.prog 14 #[.int .i64 turn, .int .i64 (l.length : Int)] W fun r w' => r = .returned (.int .i64 (wtn10 turn l.length : Nat)) ∧ w' = W) := fun W => within_any turn l.length (by omega) (by omega) W
    have hwt := wtn10_lt turn (n := l.length) (by omega)
    generalize wtn10 cut (l.length - 1) = cu at *
    generalize wtn10 turn l.length = tu at *
    have hcu : IntKind.i64.wrap (1 + (cu : Int)) = ((cu + 1 : Nat) : Int) := by rw [IntKind.wrap_i64]; omega
    have HC : Hid (cu + 1 < l.length ∧ tu < l.length) := ⟨by omega, hwt⟩
    clear h hn hcap hcm hA hL1 hL2
    go_enter Try.func5, Try.ntmps5
    go_wp2_with fail
    refine Calls.mono HWc.out ?_
    rintro e w1 ⟨rfl, hw1⟩
    subst hw1
    clear HWc hwc
    obtain ⟨ct, hct⟩ : ∃ ct : Nat, cu + 1 = ct := ⟨_, rfl⟩
    rw [hct] at hcu HC
    clear hct
    go_wp2_with fail
    obtain ⟨i0, hi, hz0, hz1, hz2⟩ := info_parts infoI
    have HRt : Hid ((rotL l tu).length = l.length ∧ ∀ i, i < l.length → (rotL l tu)[i]? = l[(i + tu) % l.length]?) := ⟨rotL_len l tu (by have := HC.out.2; omega), fun i hi => rotL_at HC.out.2 hi⟩
    go_loopg [8, 9] l.length (fun gq x y wr => ∃ k : Nat, k + gq = l.length ∧ y = .int .i64 (k : Int) ∧ wr.ownsRow w1.heap.size 3 1 x k (iv ((rotL l tu).take k)) ∧ Below w1.heap.size w1 wr)
    case atStart => exact ⟨0, by omega, rfl, ⟨rfl, Or.inl ⟨rfl, rfl⟩⟩, Below.refl _ _⟩
    case round =>
      obtain ⟨k, hkg, rfl, hown, hbw⟩ := hrel
      obtain ⟨so, sc, rfl⟩ := own_form hown
      have HG : Hid (k + gk = l.length ∧ wr.ownsRow w1.heap.size 3 1 (.slice so k sc) k (iv ((rotL l tu).take k)) ∧ Below w1.heap.size w1 wr) := ⟨hkg, hown, hbw⟩
      by_cases hlt : k < l.length
      · have hk' : (k : Int) < (l.length : Int) := by omega
        have hk2 : (k : Int) ≤ 4096 := by omega
        have HLt : Hid (k < l.length) := hlt
        have hmi : (k + tu) % l.length < l.length := Nat.mod_lt _ (by omega)
        have hadd : IntKind.i64.wrap ((k : Int) + (tu : Int)) = (k : Int) + (tu : Int) := by
          have := HC.out.2
          rw [IntKind.wrap_i64]
          omega
        obtain ⟨g', o', e', hg', d0⟩ := (IsVals.below HV.out.1 hbw) ((k + tu) % l.length) _ (iv_at hmi)
        cases e'
        have HT : Hid ((rotL l tu).take (k + 1) = (rotL l tu).take k ++ [l[(k + tu) % l.length]]) := take_step (by rw [HRt.out.2 k hlt, List.getElem?_eq_getElem hmi])
        generalize l[(k + tu) % l.length] = lx at *
        have hrem : ((k : Int) + (tu : Int)) % (l.length : Int) = (((k + tu) % l.length : Nat) : Int) := by simp
        generalize (k + tu) % l.length = md at *
        have hmi2 : (md : Int) < (l.length : Int) := by omega
        have hmi3 : (md : Int) ≤ 4096 := by omega
        have hne1 : ¬ l = [] := fun e => by rw [e] at hL4; exact absurd hL4 (by decide)
        have HW2 := show Hid _ from HWt.out wr
        clear hkg hown hbw hlt hmi
        go_wp2_with fail
        refine Calls.mono HW2.out ?_
        rintro e w2 ⟨rfl, hw2⟩
        subst hw2
        have hbU : Below w2.heap.size w2 (w2.alloc (.cells #[.int .i64 lx] 3)) := (Below.refl _ w2).alloc (Nat.le_refl _) _
        have HOw : Hid ((w2.alloc (.cells #[.int .i64 lx] 3)).ownsRow w1.heap.size 3 1 (.slice so k sc) k (iv ((rotL l tu).take k)) ∧ Below w1.heap.size w1 (w2.alloc (.cells #[.int .i64 lx] 3)) ∧ k ≤ 4096) := ⟨own_below HG.out.2.1 hbU, HG.out.2.2.trans (hbU.mono HG.out.2.2.size), by omega⟩
        clear hbU HW2
        go_wp2_with (at_builtin; refine wpl_app _ rfl _ _ 25 rfl w1.heap.size 3 i0 (.int .i64 0) 1 8 Try.underlying25 hi hz0 hz1 hz2 rfl (by decide) (.slice so k sc) k (iv ((rotL l tu).take k)) rfl HOw.out.1 (some ⟨w2.heap.size, 0, none⟩) 1 1 [.int .i64 lx] rfl rfl (fun e => by cases e) (fun ad e => by cases e; exact cell_one w2 _ _) (by intro u hu; simp only [List.mem_cons, List.not_mem_nil, or_false] at hu; subst hu; rfl) ?c3 ?c4 HOw.out.2.1.size ?_)
        case c3 => have := HOw.out.2.2; unfold maxLen; omega
        case c4 => have := HOw.out.2.2; omega
        intro v2 w4 ho2 hg2 _
        have H4 : Hid (w4.ownsRow w1.heap.size 3 1 v2 (k + 1) (iv ((rotL l tu).take (k + 1))) ∧ Below w1.heap.size w1 w4) := ⟨by rw [HT.out]; simpa [iv] using ho2, HOw.out.2.1.grown hg2 HOw.out.2.1.size (fun q e => (World.ownsRow.lt HOw.out.1 q e).1)⟩
        obtain ⟨bo, bc, rfl⟩ := own_form ho2
        clear ho2 hg2 HOw d0
        go_wp2_with fail
        go_roundg (l.length - (k + 1))
        case measure => have := HG.out.1; have := HLt.out; omega
        case rel => exact ⟨k + 1, by have := HLt.out; omega, by go_num, H4.out.1, H4.out.2⟩
      · have hk' : decide (k < l.length) = false := decide_eq_false hlt
        have hk3 : decide ((k : Int) < (l.length : Int)) = false := decide_eq_false (by omega)
        have hke : k = l.length := by omega
        subst hke
        have hown' := hown
        rw [List.take_of_length_le (by rw [HRt.out.1]; exact Nat.le_refl _)] at hown'
        have HS1 := show Hid _ from sum_any (c := c) (HV.out.1.below hbw) (by have := HV.out.2.2.1; omega)
        have HS2 := show Hid _ from times_any (c := c) (HV.out.1.below hbw) (by have := HV.out.2.2.1; omega)
        have HS3 : Hid (Calls Try.prog 9 #[.slice so l.length sc] wr fun e w' => e = .returned (.int .i64 (sumL l : Nat)) ∧ w' = wr) := by
          have := sum_any (c := sc) (vals_of hown') (by rw [HRt.out.1]; have := HV.out.2.2.1; omega)
          rw [HRt.out.1, rotL_sum] at this
          exact this
        have HS4 : Hid (Calls Try.prog 10 #[.slice so l.length sc] wr fun e w' => e = .returned (.int .i64 (timL l : Nat)) ∧ w' = wr) := by
          have := times_any (c := sc) (vals_of hown') (by rw [HRt.out.1]; have := HV.out.2.2.1; omega)
          rw [HRt.out.1, rotL_tim] at this
          exact this
        have HVr : Hid (IsVals wr (some ⟨g, o, none⟩) (iv l) ∧ Below w1.heap.size w1 wr) := ⟨HV.out.1.below hbw, hbw⟩
        obtain ⟨sl, hsl⟩ : ∃ sl, sumL l = sl := ⟨_, rfl⟩
        obtain ⟨tl, htl⟩ : ∃ tl, timL l = tl := ⟨_, rfl⟩
        have HSl : Hid (sumL l = sl ∧ timL l = tl) := ⟨hsl, htl⟩
        rw [hsl] at HS1 HS3
        rw [htl] at HS2 HS4
        have q1 : ((sl : Int) != (sl : Int)) = false := by simp
        have q2 : ((tl : Int) != (tl : Int)) = false := by simp
        clear hkg hown hbw hlt hown' hsl htl HWt HRt HG
        go_wp2_with fail
        refine Calls.mono HS1.out ?_
        rintro e w2 ⟨rfl, hw2⟩
        subst hw2
        go_wp2_with fail
        refine Calls.mono HS2.out ?_
        rintro e w2 ⟨rfl, hw2⟩
        subst hw2
        go_wp2_with fail
        refine Calls.mono HS3.out ?_
        rintro e w2 ⟨rfl, hw2⟩
        subst hw2
        go_wp2_with fail
        refine Calls.mono HS4.out ?_
        rintro e w2 ⟨rfl, hw2⟩
        subst hw2
        clear HS1 HS2 HS3 HS4
        have hc1 : (ct : Int) ≤ (c : Int) := by have := HC.out.1; have := HV.out.2.2.2.1; omega
        have hc2 : (ct : Int) ≤ (l.length : Int) := by have := HC.out.1; omega
        have hc3 : (l.length : Int) ≤ (c : Int) := by have := HV.out.2.2.2.1; omega
        have hc4 : (c : Int) ≤ 9223372036854775807 := by have := HV.out.2.2.2.2; unfold maxLen at this; omega
        have hc5 : ¬ c = ct := by have := HC.out.1; have := HV.out.2.2.2.1; omega
        have hc6 : ct ≤ l.length := by have := HC.out.1; omega
        have hc7 : ct ≤ c := by have := HC.out.1; have := HV.out.2.2.2.1; omega
        have hc8 : l.length ≤ c := by have := HV.out.2.2.2.1; omega
        have hTk : (l.take ct).length = ct := by rw [List.length_take]; omega
        have HSa : Hid (∀ W, Below w2.heap.size w2 W → Calls Try.prog 9 #[.slice (some ⟨g, o, none⟩) ct c] W fun e w' => e = .returned (.int .i64 (sumL (l.take ct) : Nat)) ∧ w' = W) := fun W hW => by
          have := sum_any (c := c) (vals_take (HVr.out.1.below hW) ct) (by rw [hTk]; have := HV.out.2.2.1; omega)
          rw [hTk] at this
          exact this
        have HTa : Hid (∀ W, Below w2.heap.size w2 W → Calls Try.prog 10 #[.slice (some ⟨g, o, none⟩) ct c] W fun e w' => e = .returned (.int .i64 (timL (l.take ct) : Nat)) ∧ w' = W) := fun W hW => by
          have := times_any (c := c) (vals_take (HVr.out.1.below hW) ct) (by rw [hTk]; have := HV.out.2.2.1; omega)
          rw [hTk] at this
          exact this
        have HSb : Hid (∀ W, Below w2.heap.size w2 W → Calls Try.prog 9 #[.slice (some ⟨g, o + ct, none⟩) (l.length - ct) (c - ct)] W fun e w' => e = .returned (.int .i64 (sumL (l.drop ct) : Nat)) ∧ w' = W) := fun W hW => by
          have := sum_any (c := c - ct) (vals_dropJ (HVr.out.1.below hW) ct) (by rw [List.length_drop]; have := HV.out.2.2.1; omega)
          rw [List.length_drop] at this
          exact this
        have HTb : Hid (∀ W, Below w2.heap.size w2 W → Calls Try.prog 10 #[.slice (some ⟨g, o + ct, none⟩) (l.length - ct) (c - ct)] W fun e w' => e = .returned (.int .i64 (timL (l.drop ct) : Nat)) ∧ w' = W) := fun W hW => by
          have := times_any (c := c - ct) (vals_dropJ (HVr.out.1.below hW) ct) (by rw [List.length_drop]; have := HV.out.2.2.1; omega)
          rw [List.length_drop] at this
          exact this
        have HSs : Hid (sumL [(sumL (l.take ct) : Nat), (sumL (l.drop ct) : Nat)] = sl) := by show _ = _; rw [sum_cut]; exact HSl.out.1
        have HSt : Hid (timL [(timL (l.take ct) : Nat), (timL (l.drop ct) : Nat)] = tl) := by show _ = _; rw [tim_cut]; exact HSl.out.2
        generalize sumL (l.take ct) = sa at *
        generalize sumL (l.drop ct) = sb at *
        generalize timL (l.take ct) = ta at *
        generalize timL (l.drop ct) = tb at *
        clear hTk
        go_wp2_with fail
        refine wp_region_held (S := fun _ => True) (by kernel_rfl) ?_
        have hS : (fun _ : World => True) w2.drew := trivial
        change wpAnyH _ _ _ _ _ _ _ _ w2.drew
        have HBd : Hid (Below w2.heap.size w2 w2.drew) := (Below.refl _ _).drew
        obtain ⟨W3, hW3⟩ : ∃ W3, W3 = w2.drew := ⟨_, rfl⟩
        rw [← hW3] at hS HBd ⊢
        clear hW3
        refine wpAnyH_take (i := 0) (v := ?v0) rfl (by kernel_rfl) (by kernel_rfl) (by kernel_rfl) (fun _ _ _ h => h) (Or.inl ⟨by rfl, ?y0⟩) hS ?r0
        case y0 =>
          intro w hSw
          first
            | (go_simp; done)
            | (go_simp; with_reducible rfl)
        refine wpAnyH_take (i := 1) (v := ?v1) rfl (by kernel_rfl) (by kernel_rfl) (by kernel_rfl) (fun _ _ _ h => h) (Or.inl ⟨by rfl, ?y1⟩) hS ?r1
        case y1 =>
          intro w hSw
          first
            | (go_simp; done)
            | (go_simp; with_reducible rfl)
        refine wpAnyH_take (i := 2) (v := ?v2) rfl (by kernel_rfl) (by kernel_rfl) (by kernel_rfl) (fun _ _ _ h => h) (Or.inl ⟨by rfl, ?y2⟩) hS ?r2
        case y2 =>
          intro w hSw
          first
            | (go_simp; done)
            | (go_simp; with_reducible rfl)
        refine wpAnyH_take (i := 3) (v := ?v3) rfl (by kernel_rfl) (by kernel_rfl) (by kernel_rfl) (fun _ _ _ h => h) (Or.inl ⟨by rfl, ?y3⟩) hS ?r3
        case y3 =>
          intro w hSw
          first
            | (go_simp; done)
            | (go_simp; with_reducible rfl)
        refine wpAnyH_take (i := 5) (v := ?v5) rfl (by kernel_rfl) (by kernel_rfl) (by kernel_rfl) (fun _ _ _ h => h) (Or.inl ⟨by rfl, ?y5⟩) hS ?r5
        case y5 =>
          intro w hSw
          first
            | (go_simp; done)
            | (go_simp; with_reducible rfl)
        refine wpAnyH_take (i := 6) (v := ?v6) rfl (by kernel_rfl) (by kernel_rfl) (by kernel_rfl) (fun _ _ _ h => h) (Or.inl ⟨by rfl, ?y6⟩) hS ?r6
        case y6 =>
          intro w hSw
          first
            | (go_simp; done)
            | (go_simp; with_reducible rfl)
        refine wpAnyH_take (i := 7) (v := ?v7) rfl (by kernel_rfl) (by kernel_rfl) (by kernel_rfl) (fun _ _ _ h => h) (Or.inl ⟨by rfl, ?y7⟩) hS ?r7
        case y7 =>
          intro w hSw
          first
            | (go_simp; done)
            | (go_simp; with_reducible rfl)
        refine wpAnyH_ready (rs := [4]) (by kernel_rfl) (by simp) ?_
        refine AllReadyH.cons rfl (fun K hK => ?_) AllReadyH.nil
        go_simp
        refine Calls.mono (HSa.out _ HBd.out) ?_
        rintro e w5 ⟨rfl, hw5⟩
        rw [hw5]
        clear hw5 w5
        refine hK.out _ _ trivial (fun hS => ?_)
        clear hK K
        refine wpAnyH_ready (rs := [8]) (by kernel_rfl) (by simp) ?_
        refine AllReadyH.cons rfl (fun K hK => ?_) AllReadyH.nil
        go_simp
        refine Calls.mono (HSb.out _ HBd.out) ?_
        rintro e w5 ⟨rfl, hw5⟩
        rw [hw5]
        clear hw5 w5
        refine hK.out _ _ trivial (fun hS => ?_)
        clear hK K
        refine wpAnyH_ready (rs := [9]) (by kernel_rfl) (by simp) ?_
        refine AllReadyH.cons rfl (fun K hK => ?_) AllReadyH.nil
        go_simp
        refine hK.out _ _ trivial (fun hS => ?_)
        clear hK K
        have HBe : Hid (Below w2.heap.size w2 (W3.alloc (.cells #[.int .i64 (sa : Int), .int .i64 (sb : Int)] 3))) := HBd.out.alloc HBd.out.size _
        have HSc := show Hid _ from sum2J W3 sa sb
        rw [HSs.out] at HSc
        generalize W3.alloc (.cells #[.int .i64 (sa : Int), .int .i64 (sb : Int)] 3) = W4 at *
        refine wpAnyH_ready (rs := [10]) (by kernel_rfl) (by simp) ?_
        refine AllReadyH.cons rfl (fun K hK => ?_) AllReadyH.nil
        go_simp
        refine Calls.mono (HSc.out) ?_
        rintro e w5 ⟨rfl, hw5⟩
        rw [hw5]
        clear hw5 w5
        refine hK.out _ _ trivial (fun hS => ?_)
        clear hK K
        refine wpAnyH_take (i := 11) (v := ?v11) rfl (by kernel_rfl) (by kernel_rfl) (by kernel_rfl) (fun _ _ _ h => h) (Or.inl ⟨by rfl, ?y11⟩) hS ?r11
        case y11 =>
          intro w hSw
          first
            | (go_simp; done)
            | (go_simp; with_reducible rfl)
        refine wpAnyH_take (i := 12) (v := ?v12) rfl (by kernel_rfl) (by kernel_rfl) (by kernel_rfl) (fun _ _ _ h => h) (Or.inl ⟨by rfl, ?y12⟩) hS ?r12
        case y12 =>
          intro w hSw
          first
            | (go_simp; done)
            | (go_simp; with_reducible rfl)
        refine wpAnyH_take (i := 13) (v := ?v13) rfl (by kernel_rfl) (by kernel_rfl) (by kernel_rfl) (fun _ _ _ h => h) (Or.inl ⟨by kernel_rfl, ?y13⟩) hS ?r13
        case y13 =>
          intro w hSw
          first
            | (go_simp; done)
            | (go_simp; with_reducible rfl)
        refine wpAnyH_take (i := 14) (v := ?v14) rfl (by kernel_rfl) (by kernel_rfl) (by kernel_rfl) (fun _ _ _ h => h) (Or.inl ⟨by kernel_rfl, ?y14⟩) hS ?r14
        case y14 =>
          intro w hSw
          first
            | (go_simp; done)
            | (go_simp; with_reducible rfl)
        refine wpAnyH_take (i := 15) (v := ?v15) rfl (by kernel_rfl) (by kernel_rfl) (by kernel_rfl) (fun _ _ _ h => h) (Or.inl ⟨by kernel_rfl, ?y15⟩) hS ?r15
        case y15 =>
          intro w hSw
          first
            | (go_simp; done)
            | (go_simp; with_reducible rfl)
        refine wpAnyH_take (i := 16) (v := ?v16) rfl (by kernel_rfl) (by kernel_rfl) (by kernel_rfl) (fun _ _ _ h => h) (Or.inl ⟨by kernel_rfl, ?y16⟩) hS ?r16
        case y16 =>
          intro w hSw
          first
            | (go_simp; done)
            | (go_simp; with_reducible rfl)
        refine wpAnyH_take (i := 18) (v := ?v18) rfl (by kernel_rfl) (by kernel_rfl) (by kernel_rfl) (fun _ _ _ h => h) (Or.inl ⟨by kernel_rfl, ?y18⟩) hS ?r18
        case y18 =>
          intro w hSw
          first
            | (go_simp; done)
            | (go_simp; with_reducible rfl)
        refine wpAnyH_take (i := 19) (v := ?v19) rfl (by kernel_rfl) (by kernel_rfl) (by kernel_rfl) (fun _ _ _ h => h) (Or.inl ⟨by kernel_rfl, ?y19⟩) hS ?r19
        case y19 =>
          intro w hSw
          first
            | (go_simp; done)
            | (go_simp; with_reducible rfl)
        refine wpAnyH_take (i := 20) (v := ?v20) rfl (by kernel_rfl) (by kernel_rfl) (by kernel_rfl) (fun _ _ _ h => h) (Or.inl ⟨by kernel_rfl, ?y20⟩) hS ?r20
        case y20 =>
          intro w hSw
          first
            | (go_simp; done)
            | (go_simp; with_reducible rfl)
        refine wpAnyH_ready (rs := [17]) (by kernel_rfl) (by simp) ?_
        refine AllReadyH.cons rfl (fun K hK => ?_) AllReadyH.nil
        go_simp
        refine Calls.mono (HTa.out _ HBe.out) ?_
        rintro e w5 ⟨rfl, hw5⟩
        rw [hw5]
        clear hw5 w5
        refine hK.out _ _ trivial (fun hS => ?_)
        clear hK K
        refine wpAnyH_ready (rs := [21]) (by kernel_rfl) (by simp) ?_
        refine AllReadyH.cons rfl (fun K hK => ?_) AllReadyH.nil
        go_simp
        refine Calls.mono (HTb.out _ HBe.out) ?_
        rintro e w5 ⟨rfl, hw5⟩
        rw [hw5]
        clear hw5 w5
        refine hK.out _ _ trivial (fun hS => ?_)
        clear hK K
        refine wpAnyH_ready (rs := [22]) (by kernel_rfl) (by simp) ?_
        refine AllReadyH.cons rfl (fun K hK => ?_) AllReadyH.nil
        go_simp
        refine hK.out _ _ trivial (fun hS => ?_)
        clear hK K
        have HBf : Hid (Below w2.heap.size w2 (W4.alloc (.cells #[.int .i64 (ta : Int), .int .i64 (tb : Int)] 3))) := HBe.out.alloc HBe.out.size _
        have HTc := show Hid _ from times2J W4 ta tb
        rw [HSt.out] at HTc
        generalize W4.alloc (.cells #[.int .i64 (ta : Int), .int .i64 (tb : Int)] 3) = W6 at *
        refine wpAnyH_ready (rs := [23]) (by kernel_rfl) (by simp) ?_
        refine AllReadyH.cons rfl (fun K hK => ?_) AllReadyH.nil
        go_simp
        refine Calls.mono (HTc.out) ?_
        rintro e w5 ⟨rfl, hw5⟩
        rw [hw5]
        clear hw5 w5
        refine hK.out _ _ trivial (fun hS => ?_)
        clear hK K
        refine wpAnyH_take (i := 24) (v := ?v24) rfl (by kernel_rfl) (by kernel_rfl) (by kernel_rfl) (fun _ _ _ h => h) (Or.inl ⟨by kernel_rfl, ?y24⟩) hS ?r24
        case y24 =>
          intro w hSw
          first
            | (go_simp; done)
            | (go_simp; with_reducible rfl)
        refine wpAnyH_take (i := 25) (v := ?v25) rfl (by kernel_rfl) (by kernel_rfl) (by kernel_rfl) (fun _ _ _ h => h) (Or.inl ⟨by rfl, ?y25⟩) hS ?r25
        case y25 =>
          intro w hSw
          first
            | (go_simp; done)
            | (go_simp; with_reducible rfl)
        refine wpAnyH_done (by kernel_rfl) ?_ _
        clear HSa HSb HTa HTb HSs HSt HSc HTc hS
        have HVf : Hid (IsVals W6 (some ⟨g, o, none⟩) (iv l) ∧ Below w1.heap.size w1 W6) := ⟨HVr.out.1.below HBf.out, HVr.out.2.trans (HBf.out.mono HVr.out.2.size)⟩
        have hsl2 : (sl : Int) ≤ 4611686018427387904 := by have := sumL_le l; have := HSl.out.1; omega
        have htl2 : (tl : Int) ≤ 4611686018427387904 := by have := timL_le l; have := HSl.out.2; omega
        have HGe : Hid (∀ k (hk : k < l.length), (l[k] ≤ (sl : Int) ∨ sl = 4611686018427387904) ∧ (l.all (fun z => decide (0 < z)) = true → l[k] ≤ (tl : Int) ∨ tl = 4611686018427387904)) := fun k hk => by
          refine ⟨?_, fun hp => ?_⟩
          · have := sum_ge (List.getElem_mem hk)
            rwa [HSl.out.1] at this
          · have := tim_ge (fun x hx => by simpa using List.all_eq_true.1 hp x hx) (List.getElem_mem hk)
            rwa [HSl.out.2] at this
        have HHd := show Hid _ from head10 W6
        clear HVr HBf HBe HBd HSl hc1 hc2 hc3 hc4 hc5 hc6 hc7 hc8
        go_wp2_with fail
        go_loopg [12, 13] l.length (fun gq x y wr => ∃ k : Nat, k + gq = l.length ∧ y = .int .i64 (k : Int) ∧ x = .bool ((l.take k).all (fun z => decide (0 < z))) ∧ wr = W6)
        case atStart => exact ⟨0, by omega, rfl, rfl, rfl⟩
        case round =>
          obtain ⟨k, hkg, rfl, rfl, hw⟩ := hrel
          have HG : Hid (k + gk = l.length) := hkg
          subst hw
          by_cases hlt : k < l.length
          · have hk' : (k : Int) < (l.length : Int) := by omega
            have hk2 : (k : Int) ≤ 4096 := by omega
            obtain ⟨g', o', e', _, d0⟩ := HVf.out.1 k _ (iv_at hlt)
            cases e'
            have HS : Hid ((l.take (k + 1)).all (fun z => decide (0 < z)) = ((l.take k).all (fun z => decide (0 < z)) && decide (0 < l[k]))) := by
              show _ = _
              rw [take_step (List.getElem?_eq_getElem hlt), List.all_append]
              simp
            have HLt : Hid (k < l.length) := hlt
            generalize l[k] = lx at *
            cases hb : (l.take k).all (fun z => decide (0 < z)) with
            | true =>
              have HB1 : Hid ((l.take (k + 1)).all (fun z => decide (0 < z)) = decide (0 < lx)) := by show _ = _; rw [HS.out, hb]; rfl
              clear hkg hlt hb HS
              go_wp2_with fail
              go_roundg (l.length - (k + 1))
              case measure => have := HG.out; have := HLt.out; omega
              case rel => exact ⟨k + 1, by have := HLt.out; omega, by go_num, by rw [HB1.out], rfl⟩
            | false =>
              have HB1 : Hid ((l.take (k + 1)).all (fun z => decide (0 < z)) = false) := by show _ = _; rw [HS.out, hb]; rfl
              clear hkg hlt hb HS
              go_wp2_with fail
              go_roundg (l.length - (k + 1))
              case measure => have := HG.out; have := HLt.out; omega
              case rel => exact ⟨k + 1, by have := HLt.out; omega, by go_num, by rw [HB1.out], rfl⟩
          · have hk' : decide (k < l.length) = false := decide_eq_false hlt
            have hk3 : decide ((k : Int) < (l.length : Int)) = false := decide_eq_false (by omega)
            have hke : k = l.length := by omega
            subst hke
            rw [List.take_length]
            clear hkg hlt
            have HGe2 := show Hid _ from HGe.out
            generalize l.all (fun z => decide (0 < z)) = pp at *
            clear HGe
            go_wp2_with fail
            go_loopg [14] l.length (fun gq y wq => ∃ k : Nat, k + gq = l.length ∧ y = .int .i64 (k : Int) ∧ wq = wr)
            case atStart => exact ⟨0, by omega, rfl, rfl⟩
            case round =>
              obtain ⟨k, hkg, rfl, hw⟩ := hrel
              have HG2 : Hid (k + gk = l.length) := hkg
              rw [hw]
              clear hw
              by_cases hlt : k < l.length
              · have hk' : (k : Int) < (l.length : Int) := by omega
                have hk2 : (k : Int) ≤ 4096 := by omega
                obtain ⟨g', o', e', _, d0⟩ := HVf.out.1 k _ (iv_at hlt)
                cases e'
                have HLt2 : Hid (k < l.length) := hlt
                obtain ⟨he1, he2⟩ := HGe2.out k hlt
                generalize l[k] = lx at *
                have hf : ∃ bs : Bool, decide ((sl : Int) < lx) = bs ∧ (bs = true → ((sl : Int) != 4611686018427387904) = false) := ⟨_, rfl, fun e => by
                  have e' := of_decide_eq_true e
                  rcases he1 with h | h
                  · omega
                  · rw [h]; rfl⟩
                obtain ⟨bs, hbs, hbs2⟩ := hf
                have hg : pp = true → ∃ bt : Bool, decide ((tl : Int) < lx) = bt ∧ (bt = true → ((tl : Int) != 4611686018427387904) = false) := fun hp => ⟨_, rfl, fun e => by
                  have e' := of_decide_eq_true e
                  rcases he2 hp with h | h
                  · omega
                  · rw [h]; rfl⟩
                clear he1 he2 hkg hlt
                cases pp with
                | false =>
                  clear hg
                  cases bs with
                  | false =>
                    clear hbs2
                    go_wp2_with fail
                    go_roundg (l.length - (k + 1))
                    case measure => have := HG2.out; have := HLt2.out; omega
                    case rel => exact ⟨k + 1, by have := HLt2.out; omega, by go_num, rfl⟩
                  | true =>
                    have hq := hbs2 rfl
                    clear hbs2
                    go_wp2_with fail
                    go_roundg (l.length - (k + 1))
                    case measure => have := HG2.out; have := HLt2.out; omega
                    case rel => exact ⟨k + 1, by have := HLt2.out; omega, by go_num, rfl⟩
                | true =>
                  obtain ⟨bt, hbt, hbt2⟩ := hg rfl
                  clear hg
                  cases bs with
                  | false =>
                    clear hbs2
                    cases bt with
                    | false =>
                      clear hbt2
                      go_wp2_with fail
                      go_roundg (l.length - (k + 1))
                      case measure => have := HG2.out; have := HLt2.out; omega
                      case rel => exact ⟨k + 1, by have := HLt2.out; omega, by go_num, rfl⟩
                    | true =>
                      have hq := hbt2 rfl
                      clear hbt2
                      go_wp2_with fail
                      go_roundg (l.length - (k + 1))
                      case measure => have := HG2.out; have := HLt2.out; omega
                      case rel => exact ⟨k + 1, by have := HLt2.out; omega, by go_num, rfl⟩
                  | true =>
                    have hq := hbs2 rfl
                    clear hbs2
                    cases bt with
                    | false =>
                      clear hbt2
                      go_wp2_with fail
                      go_roundg (l.length - (k + 1))
                      case measure => have := HG2.out; have := HLt2.out; omega
                      case rel => exact ⟨k + 1, by have := HLt2.out; omega, by go_num, rfl⟩
                    | true =>
                      have hq2 := hbt2 rfl
                      clear hbt2
                      go_wp2_with fail
                      go_roundg (l.length - (k + 1))
                      case measure => have := HG2.out; have := HLt2.out; omega
                      case rel => exact ⟨k + 1, by have := HLt2.out; omega, by go_num, rfl⟩
              · have hk' : decide (k < l.length) = false := decide_eq_false hlt
                have hk3 : decide ((k : Int) < (l.length : Int)) = false := decide_eq_false (by omega)
                have hs4 : decide ((sl : Int) ≤ 4611686018427387904) = true := decide_eq_true hsl2
                have ht4 : decide ((tl : Int) ≤ 4611686018427387904) = true := decide_eq_true htl2
                clear hkg hlt
                go_wp2_with fail
                refine Calls.mono HHd.out ?_
                rintro e w8 ⟨rfl, hb8⟩
                have HB8 := show Hid _ from hb8
                clear hb8
                go_wp2
                go_ret
                exact ⟨rfl, HVf.out.2.trans (HB8.out.mono HVf.out.2.size)⟩
end Go.Proofs.Ytjhlfdlamjpdeaa.Nm
namespace Go.Proofs.Ytjhlfdlamjpdeaa.costLaws
open Go.RowKit Go.Proofs.Ytjhlfdlamjpdeaa.Sp Go.Proofs.Ytjhlfdlamjpdeaa.Lx Go.Proofs.Ytjhlfdlamjpdeaa.Gr
theorem walk (a : Option Addr) (len cap : Nat) (z : Nat → Int) (cut turn : Int) (W : World) (h : IsInts W a len z) (hr : len ≤ 17592186043904) (hc : len ≤ cap ∧ cap ≤ maxLen) :
    Calls Try.prog 5 #[.slice a len cap, .int .i64 cut, .int .i64 turn] W fun e w' => e = .returned (.bool true) ∧ Below W.heap.size W w' := by
  have := Nm.lawsWalk a ((List.range len).map z) cap cut turn W (Nm.ints_valsJ h) (by simpa using hr) (by simpa using hc.1) hc.2
  simpa using this
end Go.Proofs.Ytjhlfdlamjpdeaa.costLaws

namespace Go.Proofs.Ytjhlfdlamjpdeaa.costLaws
open Go.ChangeShapes Go.WideShapes Go.ChangeAt Go.RowKit
open Go.Proofs.Ytjhlfdlamjpdeaa.Sp Go.Proofs.Ytjhlfdlamjpdeaa.Lx Go.Proofs.Ytjhlfdlamjpdeaa.Gr

set_option maxRecDepth 100000 in
theorem contractF (H : Type) (enc : TypeId × Value → H) (W : World) (base : Nat) (args : Array Value) (ds gs : List (DataW H)) (before : List MemPlace)
    (hval : ∀ (j : Nat) t v, Try.f5.params[j]? = some t → args[j]? = some v → Value.okWide Try.prog W .any base t v)
    (hW : DataW.Whole enc Try.prog Try.f5.params.toList Rows.costLawsSpec.vars false W args.toList ds gs before)
    (hsz : (DataW.weightsEach Try.prog (Try.f5.params.toList ++ Rows.costLawsSpec.plain.varTypes Try.prog) (ds ++ gs)).all (· ≤ reachBytes) = true) :
    Calls Try.prog 5 args W fun e W' => ∃ v, e = .returned v ∧ Rows.costLawsSpec.post enc Try.prog Try.f5 false true false false W args v W' := by
  have hW' := hW
  obtain ⟨p, q, hA0, hV, rfl, hfz, hnd⟩ := hW
  have hA : DataW.TrodAll enc Try.prog W 0 (fun _ => true) true Try.f5.params.toList args.toList ds p := hA0
  rw [Try.params5] at hA hval hsz
  obtain ⟨v0, vs0, d0, ds0, p0, q0, hargs, rfl, rfl, h0, r0⟩ := trodAll_cons hA
  obtain ⟨v1, vs1, d1, ds1, p1, q1, rfl, rfl, rfl, h1, r1⟩ := trodAll_cons r0
  obtain ⟨v2, vs2, d2, ds2, p2, q2, rfl, rfl, rfl, h2, r2⟩ := trodAll_cons r1
  obtain ⟨rfl, rfl, rfl⟩ := trodAll_nil r2
  obtain rfl : args = #[v0, v1, v2] := by cases args; simp_all
  obtain ⟨rfl, rfl⟩ := trodVars_none hV
  obtain ⟨a0, len0, cap0, rfl⟩ := okWide_slice Try.underlying25 (hval 0 25 v0 rfl rfl)
  have lt0 : ∀ x ∈ p0, x.block < W.heap.size := by obtain ⟨m, hm⟩ := h0; exact DataW.trod_lt m _ _ _ hm
  obtain ⟨z0, ib0, dd0⟩ := open_nums h0
  obtain ⟨a1, rfl, rfl, rfl, w1⟩ := open_int Try.underlying3 (hval 1 3 v1 rfl rfl) h1
  obtain ⟨a2, rfl, rfl, rfl, w2⟩ := open_int Try.underlying3 (hval 2 3 v2 rfl rfl) h2
  refine (walk a0 len0 cap0 z0 a1 a2 W ib0 (Nm.nums_reachJ hsz (j := 0) rfl rfl dd0) (Nm.cap_leI h0)).mono fun e W2 ⟨he, bel⟩ => ?_
  subst he
  exact ⟨_, rfl, _, _, _, [], _, [], hW', trodAll_mk1 (shut_bool Try.underlying4 _), (trodAll_cons_mk (Below.trod laidOut (by kernel_rfl) (of_decide_eq_true (by kernel_rfl)) h0 bel lt0) (trodAll_cons_mk (shut_int Try.underlying3 w1) (trodAll_cons_mk (shut_int Try.underlying3 w2) trodAll_mk0))), rfl, bel.frame _, fun h => by cases h⟩

set_option maxRecDepth 100000 in
theorem liftedF (os : Os) (started : os.Started) (H : Type) (enc : TypeId × Value → H) :
    ReturnsInHanded {} Try.checked os 5 .any (Rows.costLawsSpec.pre6 enc Try.prog Try.f5 Rows.costLawsRow.domain false) (Rows.costLawsSpec.post enc Try.prog Try.f5 false true false false) := by
  refine returnsInHanded_of_change_sized (C := Try.checked) own started (by kernel_rfl) Try.func5
    (ChangeSpec.witness6 (enc := enc) (C := Try.checked) false ⟨#[], #[.slice none 0 0, .int .i64 0, .int .i64 0], []⟩ 8 (by kernel_rfl) (by kernel_rfl) (by kernel_rfl) (by kernel_rfl)) ?_
  intro W base args ds gs before hval hW _ hsz _
  exact contractF H enc W base args ds gs before hval hW hsz

theorem provedF : Rows.CostLawsSaid :=
  OpenClaim.holds_of_wide 5 Try.f5 rfl rfl rfl rfl rfl rfl rfl ⟨rfl, rfl, rfl, rfl, rfl⟩ rfl rfl rfl rfl rfl (by kernel_rfl) Try.func5 (by kernel_rfl)
    (of_decide_eq_true (by kernel_rfl)) (by unfold Func.isWrapper; first | (rw [if_pos (by decide +kernel)]; kernel_rfl) | (rw [if_neg (by decide +kernel)]; exact ⟨rfl, rfl⟩))
    (fun os started H enc _ => liftedF os started H enc)
end Go.Proofs.Ytjhlfdlamjpdeaa.costLaws
