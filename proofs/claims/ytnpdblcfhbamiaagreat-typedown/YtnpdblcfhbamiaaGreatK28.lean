import Derived.Test.YtnpdblcfhbamiaaGreatK27
set_option maxHeartbeats 25600000
set_option maxRecDepth 100000
namespace Go.Proofs.YtnpdblcfhbamiaaGreat.Nm.Ty
open Go.RowKit Go.Maps Go.Proofs.YtnpdblcfhbamiaaGreat.Sp Go.Proofs.YtnpdblcfhbamiaaGreat.Lx Go.Proofs.YtnpdblcfhbamiaaGreat.Gr
theorem cells2 {wq : World} {B : Nat} {v0 v1 : Value} {T : TypeId} (h : wq.heap[B]? = some (.cells #[v0, v1] T (0, 0))) : wq.cell? ⟨B, 0, none⟩ = some v0 ∧ wq.cell? ⟨B, 1, none⟩ = some v1 := by
  refine ⟨?_, ?_⟩
  all_goals
    simp only [World.cell?, h]
    rfl
theorem put2L {n : Nat} {w wx : World} {B : Nat} {T : TypeId} {a b v0 v1 : Value} (hb : Below n w wx) (hB : n ≤ B) (hz : wx.heap[B]? = some (.cells #[a, b] T (0, 0))) : ((wx.setCell ⟨B, 0, none⟩ v0).setCell ⟨B, 1, none⟩ v1).heap[B]? = some (.cells #[v0, v1] T (0, 0)) ∧ Below n w ((wx.setCell ⟨B, 0, none⟩ v0).setCell ⟨B, 1, none⟩ v1) := by
  have h0 := set_at hz v0 (cs' := #[v0, b]) (i := 0) rfl
  have h1 := set_at h0 v1 (cs' := #[v0, v1]) (i := 1) rfl
  exact ⟨h1, (hb.trans ((Below.refl n wx).setCell (p := ⟨B, 0, none⟩) hB _)).trans ((Below.refl n _).setCell (p := ⟨B, 1, none⟩) hB _)⟩
theorem flt_stop {l : List Rz} {gh : Nat → Bool} {m : Nat} (h : (fltN l gh m).1 ≠ 0) : ∀ d, fltN l gh (m + d) = fltN l gh m := by
  intro d
  induction d with
  | zero => rfl
  | succ d ih =>
    show (if (fltN l gh (m + d)).1 ≠ 0 then fltN l gh (m + d) else _) = _
    rw [ih, if_pos h]
theorem flt_at {l : List Rz} {gh : Nat → Bool} {m n : Nat} (h0 : fltN l gh m = (0, 0)) (hc : fltZ l gh m ≠ 0) (hm : m < n) : fltN l gh n = (fltZ l gh m, m) := by
  have e : fltN l gh (m + 1) = (fltZ l gh m, m) := by
    show (if (fltN l gh m).1 ≠ 0 then fltN l gh m else if fltZ l gh m ≠ 0 then (fltZ l gh m, m) else (0, 0)) = _
    rw [h0, if_neg (by simp), if_pos hc]
  have := flt_stop (m := m + 1) (by rw [e]; exact hc) (n - (m + 1))
  rw [show m + 1 + (n - (m + 1)) = n by omega, e] at this
  exact this
theorem flt_no {l : List Rz} {gh : Nat → Bool} {m : Nat} (h0 : fltN l gh m = (0, 0)) (hc : fltZ l gh m = 0) : fltN l gh (m + 1) = (0, 0) := by
  show (if (fltN l gh m).1 ≠ 0 then fltN l gh m else if fltZ l gh m ≠ 0 then (fltZ l gh m, m) else (0, 0)) = _
  rw [h0, if_neg (by simp), if_neg (by simp [hc])]
theorem con_le {l : List Rz} (hT : TreeZ l) (hL : ∀ i, i < l.length → (rat l i).kind = 13 → i + 1 < l.length) : ∀ m, m ≤ l.length → conN l m ≤ l.length := by
  intro m
  induction m with
  | zero => intro _; exact Nat.zero_le _
  | succ m ih =>
    intro hm
    have h1 := ih (by omega)
    have h2 := (end_kid hT.whole (i := m) (by omega)).2.2
    have h3 : (rat l m).kind = 13 → endp l (m + 1) ≤ l.length := fun h => (end_kid hT.whole (hL m (by omega) h)).2.2
    show max (conN l m) (tillZ l m) ≤ _
    unfold tillZ
    dsimp only
    split
    · omega
    · split
      · rename_i h; have := h3 h; omega
      · omega
theorem fault_any {l : List Rz} {qs : List (ByteArray × Bool)} {ao qo po eo : Option Addr} {ac qc pc ec : Nat} {w : World} (h : IsRg w l (qF qs) ao qo po eo) (hn : l.length ≤ 2932031007317) (hT : TreeZ l) (hQ : Qs l qs) (hql : qs.length ≤ 2932031007317) (hL : ∀ i, i < l.length → (rat l i).kind = 13 → i + 1 < l.length) :
    Calls Tryz.prog 51 #[.agg (rgC l qs.length ao qo po eo ac qc pc ec)] w fun e w' => e = .returned (.agg #[.int .i64 ((fltN l (ghL qs) l.length).1 : Nat), .int .i64 ((fltN l (ghL qs) l.length).2 : Nat)]) ∧ Below w.heap.size w w' := by
  have HI : Hid (IsRg w l (qF qs) ao qo po eo) := h
  have HCl : Hid (∀ m, m ≤ l.length → conN l m ≤ l.length) := con_le hT hL
  have hln : (l.length : Int) ≤ 2932031007317 := by omega
  have hient := is_enter
  have hifn := is_fn
  have HAs : Hid (∀ W : World, IsRg W l (qF qs) ao qo po eo → Calls Tryz.prog 67 #[.agg (rgC l qs.length ao qo po eo ac qc pc ec)] W fun e w' => ∃ g, e = .returned (.slice (some ⟨g, 0, none⟩) l.length l.length) ∧ W.heap.size ≤ g ∧ RowI w' g l.length (asksN l l.length) ∧ Below W.heap.size W w') := fun W hW => asks_any hW hn hT
  have HOt : Hid (∀ (i : Nat) (W : World), IsRg W l (qF qs) ao qo po eo → i < l.length → Calls Tryz.prog 68 #[.agg (rgC l qs.length ao qo po eo ac qc pc ec), .int .i64 i] W fun e w' => e = .returned (.bool (othZ l (ghL qs) i)) ∧ Below W.heap.size W w') := fun i W hW hi => other_any i hW hn hi hQ hql
  have HTi : Hid (∀ (i : Nat) (W : World), IsRg W l (qF qs) ao qo po eo → i < l.length → Calls Tryz.prog 69 #[.agg (rgC l qs.length ao qo po eo ac qc pc ec), .int .i64 i] W fun e w' => e = .returned (.int .i64 (tillZ l i : Nat)) ∧ Below W.heap.size W w') := fun i W hW hi => till_any i hW hn hi (hL i hi)
  have H0 : Hid (Below w.heap.size w ((w.alloc (.cells (rgC l qs.length ao qo po eo ac qc pc ec) 72)).alloc (.cells #[.int .i64 0, .int .i64 0] 33)) ∧ ((w.alloc (.cells (rgC l qs.length ao qo po eo ac qc pc ec) 72)).alloc (.cells #[.int .i64 0, .int .i64 0] 33)).heap[w.heap.size]? = some (.cells (rgC l qs.length ao qo po eo ac qc pc ec) 72 (0, 0)) ∧ ((w.alloc (.cells (rgC l qs.length ao qo po eo ac qc pc ec) 72)).alloc (.cells #[.int .i64 0, .int .i64 0] 33)).heap[w.heap.size + 1]? = some (.cells #[.int .i64 0, .int .i64 0] 33 (0, 0))) :=
    ⟨((Below.refl _ w).alloc (Nat.le_refl _) _).alloc (by simp) _, (Below.heap_alloc _ _ _ (by simp)).trans (heap_alloc_new w _), by have := heap_alloc_new (w.alloc (.cells (rgC l qs.length ao qo po eo ac qc pc ec) 72)) (.cells #[.int .i64 0, .int .i64 0] 33); rw [World.size_alloc] at this; exact this⟩
  dsimp only [rgC] at *
  clear h hn hT hQ hql hL
  have HA1 := show Hid _ from HAs.out _ (HI.out.below H0.out.1)
  obtain ⟨b0, b1, b2, b3⟩ := cells4 H0.out.2.1
  go_enter Tryz.func51, Tryz.ntmps51
  go_wp2_with fail
  generalize ((w.alloc (.cells #[.slice ao l.length ac, .slice qo qs.length qc, .slice po l.length pc, .slice eo l.length ec] 72)).alloc (.cells #[.int .i64 0, .int .i64 0] 33)) = w1 at *
  refine Calls.mono HA1.out ?_
  rintro e w2 ⟨gA, rfl, hgA, hRA, hb2⟩
  have H2 : Hid ((RowI w2 gA l.length (asksN l l.length) ∧ w.heap.size + 1 < gA) ∧ Below w.heap.size w w2 ∧ w2.heap[w.heap.size]? = some (.cells #[.slice ao l.length ac, .slice qo qs.length qc, .slice po l.length pc, .slice eo l.length ec] 72 (0, 0)) ∧ w2.heap[w.heap.size + 1]? = some (.cells #[.int .i64 0, .int .i64 0] 33 (0, 0))) := ⟨⟨hRA, by have := blk_lt H0.out.2.2; omega⟩, H0.out.1.trans (hb2.mono H0.out.1.size), (hb2.block _ (blk_lt H0.out.2.1)).trans H0.out.2.1, (hb2.block _ (blk_lt H0.out.2.2)).trans H0.out.2.2⟩
  clear hgA hRA hb2 HA1 H0 b0 b1 b2 b3 HAs
  obtain ⟨b0, b1, b2, b3⟩ := cells4 H2.out.2.2.1
  go_wp2_with fail
  clear b0 b1 b2 b3
  go_loopg [4, 12] l.length (fun gq c x wr => ∃ m : Nat, m ≤ l.length ∧ gq = l.length - m ∧ c = .int .i64 (conN l m : Nat) ∧ x = .int .i64 m ∧ fltN l (ghL qs) m = (0, 0) ∧ (RowI wr gA l.length (asksN l l.length) ∧ w.heap.size + 1 < gA) ∧ Below w.heap.size w wr ∧ wr.heap[w.heap.size]? = some (.cells #[.slice ao l.length ac, .slice qo qs.length qc, .slice po l.length pc, .slice eo l.length ec] 72 (0, 0)) ∧ wr.heap[w.heap.size + 1]? = some (.cells #[.int .i64 0, .int .i64 0] 33 (0, 0)))
  case atStart => exact ⟨0, Nat.zero_le _, rfl, by go_num, by go_num, rfl, H2.out⟩
  case round =>
    obtain ⟨m, hm, hgk, rfl, rfl, hf0, hrel⟩ := hrel
    have HR : Hid ((RowI wr gA l.length (asksN l l.length) ∧ w.heap.size + 1 < gA) ∧ Below w.heap.size w wr ∧ wr.heap[w.heap.size]? = some (.cells #[.slice ao l.length ac, .slice qo qs.length qc, .slice po l.length pc, .slice eo l.length ec] 72 (0, 0)) ∧ wr.heap[w.heap.size + 1]? = some (.cells #[.int .i64 0, .int .i64 0] 33 (0, 0))) := hrel
    have HF0 : Hid (fltN l (ghL qs) m = (0, 0)) := hf0
    have HG : Hid (gk = l.length - m) := hgk
    have HCn : Hid (conN l (m + 1) = max (conN l m) (tillZ l m)) := rfl
    have hcn : (conN l m : Int) ≤ 2932031007317 := by have := HCl.out m hm; omega
    clear hgk hrel hf0 H2
    by_cases hlt : m < l.length
    · have hlt' : (m : Int) < (l.length : Int) := by omega
      have HFz : Hid (fltZ l (ghL qs) m = if asksN l l.length m ≠ 0 ∧ asksN l l.length m ≠ (rP l m).is then 41 else if m < conN l m ∧ (rP l m).changing = true then 42 else if othZ l (ghL qs) m = true then 46 else 0) := rfl
      have HFat := show Hid _ from fun hc => flt_at (n := l.length) HF0.out hc hlt
      have HFno := show Hid _ from flt_no (l := l) (gh := ghL qs) HF0.out
      obtain ⟨gp, op, rfl, hgp, cp⟩ := (HI.out.below HR.out.2.1).part hlt
      have ca := HR.out.1.1.cell hlt
      have ya : ∀ y : Kin wr, y.u.cell? ⟨gA, m, none⟩ = some (.int .i64 (asksN l l.length m)) := fun y => y.cell (a := ⟨gA, m, none⟩) HR.out.1.1.lt ca
      have HCi : Hid (∀ y : Kin wr, Calls Tryz.prog (rP l m).isF #[(rP l m).D] y.u fun e w' => e = .returned (.int .i64 (rP l m).is) ∧ Below y.u.heap.size y.u w') := fun y => is_any _ _
      have HCc : Hid (∀ W : World, Calls Tryz.prog 54 #[(rP l m).V] W fun e w' => e = .returned (.bool (rP l m).changing) ∧ Below W.heap.size W w') := fun W => changing_any _ _
      have HCo := show Hid _ from fun (W : World) (hW : Below wr.heap.size wr W) => HOt.out m W ((HI.out.below HR.out.2.1).below hW) hlt
      have HCt := show Hid _ from fun (W : World) (hW : Below wr.heap.size wr W) => HTi.out m W ((HI.out.below HR.out.2.1).below hW) hlt
      have HTl : Hid (tillZ l m ≤ l.length) := by have h1 := HCl.out (m + 1) (by omega); rw [HCn.out] at h1; show _ ≤ _; omega
      generalize rP l m = x at *
      generalize asksN l l.length m = ak at *
      generalize othZ l (ghL qs) m = ot at *
      generalize fltZ l (ghL qs) m = fz at *
      generalize hcg : conN l m = cn at *
      generalize tillZ l m = tl at *
      clear hcg HOt HTi
      have HFz0 : ∀ {W : World}, W.heap[w.heap.size + 1]? = some (.cells #[.int .i64 0, .int .i64 0] 33 (0, 0)) → ∀ j, W.frozen? ⟨w.heap.size + 1, j, none⟩ = false := fun h j => by simp only [World.frozen?, h]; rfl
      by_cases hA0 : ak = 0
      case' pos =>
        have HnA : Hid (¬ (ak ≠ 0 ∧ ak ≠ x.is)) := fun h => h.1 hA0
        have hA0' : (ak != 0) = false := by simp [hA0]
        go_wp2_with fail
        refine wp_region_kin (by kernel_rfl) (by kernel_rfl) ?_
        iterate 15 quiet_step (first | with_reducible rfl | exact kin_of (HCi.out _))
        refine wpQuiet_nil ?_
        rintro _ ⟨y, rfl⟩
        have HBq : Hid (Below w.heap.size w y.u ∧ y.u.heap[w.heap.size]? = some (.cells #[.slice ao l.length ac, .slice qo qs.length qc, .slice (some ⟨gp, op, none⟩) l.length pc, .slice eo l.length ec] 72 (0, 0)) ∧ y.u.heap[w.heap.size + 1]? = some (.cells #[.int .i64 0, .int .i64 0] 33 (0, 0)) ∧ Below wr.heap.size wr y.u) := ⟨HR.out.2.1.trans (y.ok.mono HR.out.2.1.size), (y.ok.block _ (blk_lt HR.out.2.2.1)).trans HR.out.2.2.1, (y.ok.block _ (blk_lt HR.out.2.2.2)).trans HR.out.2.2.2, y.ok⟩
        clear ya HCi
        generalize y.u = w4 at *
        clear y
      case' neg =>
        have hA0' : (ak != 0) = true := by simp [hA0]
        by_cases hAe : ak = x.is
        case' pos =>
          have HnA : Hid (¬ (ak ≠ 0 ∧ ak ≠ x.is)) := fun h => h.2 hAe
          have hAe' : (ak != x.is) = false := by simp [hAe]
          clear hAe
          go_wp2_with fail
          refine wp_region_kin (by kernel_rfl) (by kernel_rfl) ?_
          iterate 15 quiet_step (first | with_reducible rfl | exact kin_of (HCi.out _))
          refine wpQuiet_nil ?_
          rintro _ ⟨y, rfl⟩
          have HBq : Hid (Below w.heap.size w y.u ∧ y.u.heap[w.heap.size]? = some (.cells #[.slice ao l.length ac, .slice qo qs.length qc, .slice (some ⟨gp, op, none⟩) l.length pc, .slice eo l.length ec] 72 (0, 0)) ∧ y.u.heap[w.heap.size + 1]? = some (.cells #[.int .i64 0, .int .i64 0] 33 (0, 0)) ∧ Below wr.heap.size wr y.u) := ⟨HR.out.2.1.trans (y.ok.mono HR.out.2.1.size), (y.ok.block _ (blk_lt HR.out.2.2.1)).trans HR.out.2.2.1, (y.ok.block _ (blk_lt HR.out.2.2.2)).trans HR.out.2.2.2, y.ok⟩
          clear ya HCi
          generalize y.u = w4 at *
          clear y
        case' neg =>
          have HZ : Hid (fz = 41) := by show _ = _; rw [HFz.out, if_pos ⟨hA0, hAe⟩]
          have hAe' : (ak != x.is) = true := by simp [hAe]
          clear hAe
          go_wp2_with fail
          refine wp_region_kin (by kernel_rfl) (by kernel_rfl) ?_
          iterate 15 quiet_step (first | with_reducible rfl | exact kin_of (HCi.out _))
          refine wpQuiet_nil ?_
          rintro _ ⟨y, rfl⟩
          have HBq : Hid (Below w.heap.size w y.u ∧ y.u.heap[w.heap.size]? = some (.cells #[.slice ao l.length ac, .slice qo qs.length qc, .slice (some ⟨gp, op, none⟩) l.length pc, .slice eo l.length ec] 72 (0, 0)) ∧ y.u.heap[w.heap.size + 1]? = some (.cells #[.int .i64 0, .int .i64 0] 33 (0, 0)) ∧ Below wr.heap.size wr y.u) := ⟨HR.out.2.1.trans (y.ok.mono HR.out.2.1.size), (y.ok.block _ (blk_lt HR.out.2.2.1)).trans HR.out.2.2.1, (y.ok.block _ (blk_lt HR.out.2.2.2)).trans HR.out.2.2.2, y.ok⟩
          clear ya HCi
          generalize y.u = w4 at *
          clear y
          obtain ⟨b0, b1, b2, b3⟩ := cells4 HBq.out.2.1
          obtain ⟨f0, f1⟩ := cells2 HBq.out.2.2.1
          have g0 := HFz0 HBq.out.2.2.1 0
          have g1 := HFz0 HBq.out.2.2.1 1
          go_wp2_with fail
          obtain ⟨x1, x2⟩ := put2L (B := w.heap.size + 1) (v0 := .int .i64 41) (v1 := .int .i64 (m : Int)) HBq.out.1 (Nat.le_succ _) HBq.out.2.2.1
          obtain ⟨y0, y1⟩ := cells2 x1
          refine bodyPost_ret (v := .agg #[.int .i64 41, .int .i64 (m : Int)]) (by simp [results, Tryz.results51, go_sem, y0, y1]) rfl ?_
          refine ⟨?_, x2⟩
          rw [HFat.out (by rw [HZ.out]; decide), HZ.out]
          rfl
      all_goals
        by_cases hcon : m < cn
        · have hcon' : (m : Int) < (cn : Int) := by omega
          have HC1 := show Hid _ from HCc.out w4
          obtain ⟨b0, b1, b2, b3⟩ := cells4 HBq.out.2.1
          obtain ⟨f0, f1⟩ := cells2 HBq.out.2.2.1
          have g0 := HFz0 HBq.out.2.2.1 0
          have g1 := HFz0 HBq.out.2.2.1 1
          go_wp2_with fail
          refine Calls.mono HC1.out ?_
          rintro e w5 ⟨rfl, hb5⟩
          clear HC1 b0 b1 b2 b3 f0 f1 g0 g1
          have HBq2 : Hid (Below w.heap.size w w5 ∧ w5.heap[w.heap.size]? = some (.cells #[.slice ao l.length ac, .slice qo qs.length qc, .slice (some ⟨gp, op, none⟩) l.length pc, .slice eo l.length ec] 72 (0, 0)) ∧ w5.heap[w.heap.size + 1]? = some (.cells #[.int .i64 0, .int .i64 0] 33 (0, 0)) ∧ Below wr.heap.size wr w5) := ⟨HBq.out.1.trans (hb5.mono HBq.out.1.size), (hb5.block _ (blk_lt HBq.out.2.1)).trans HBq.out.2.1, (hb5.block _ (blk_lt HBq.out.2.2.1)).trans HBq.out.2.2.1, HBq.out.2.2.2.trans (hb5.mono HBq.out.2.2.2.size)⟩
          clear hb5 HBq
          have HBq := show Hid _ from HBq2.out
          clear HBq2
          cases hchg : x.changing with
          | true =>
            have HZ : Hid (fz = 42) := by show _ = _; rw [HFz.out, if_neg HnA.out, if_pos ⟨hcon, hchg⟩]
            obtain ⟨b0, b1, b2, b3⟩ := cells4 HBq.out.2.1
            obtain ⟨f0, f1⟩ := cells2 HBq.out.2.2.1
            have g0 := HFz0 HBq.out.2.2.1 0
            have g1 := HFz0 HBq.out.2.2.1 1
            clear hchg
            go_wp2_with fail
            obtain ⟨x1, x2⟩ := put2L (B := w.heap.size + 1) (v0 := .int .i64 42) (v1 := .int .i64 (m : Int)) HBq.out.1 (Nat.le_succ _) HBq.out.2.2.1
            obtain ⟨y0, y1⟩ := cells2 x1
            refine bodyPost_ret (v := .agg #[.int .i64 42, .int .i64 (m : Int)]) (by simp [results, Tryz.results51, go_sem, y0, y1]) rfl ?_
            refine ⟨?_, x2⟩
            rw [HFat.out (by rw [HZ.out]; decide), HZ.out]
            rfl
          | false =>
            have HnB : Hid (¬ (m < cn ∧ x.changing = true)) := fun h => by rw [hchg] at h; cases h.2
            clear hchg
            have HCx := show Hid _ from HCo.out _ HBq.out.2.2.2
            obtain ⟨b0, b1, b2, b3⟩ := cells4 HBq.out.2.1
            obtain ⟨f0, f1⟩ := cells2 HBq.out.2.2.1
            have g0 := HFz0 HBq.out.2.2.1 0
            have g1 := HFz0 HBq.out.2.2.1 1
            go_wp2_with fail
            refine Calls.mono HCx.out ?_
            rintro e w6 ⟨rfl, hb6⟩
            clear HCx b0 b1 b2 b3 f0 f1 g0 g1
            have HBq2 : Hid (Below w.heap.size w w6 ∧ w6.heap[w.heap.size]? = some (.cells #[.slice ao l.length ac, .slice qo qs.length qc, .slice (some ⟨gp, op, none⟩) l.length pc, .slice eo l.length ec] 72 (0, 0)) ∧ w6.heap[w.heap.size + 1]? = some (.cells #[.int .i64 0, .int .i64 0] 33 (0, 0)) ∧ Below wr.heap.size wr w6) := ⟨HBq.out.1.trans (hb6.mono HBq.out.1.size), (hb6.block _ (blk_lt HBq.out.2.1)).trans HBq.out.2.1, (hb6.block _ (blk_lt HBq.out.2.2.1)).trans HBq.out.2.2.1, HBq.out.2.2.2.trans (hb6.mono HBq.out.2.2.2.size)⟩
            clear hb6 HBq
            have HBq := show Hid _ from HBq2.out
            clear HBq2
            obtain ⟨b0, b1, b2, b3⟩ := cells4 HBq.out.2.1
            obtain ⟨f0, f1⟩ := cells2 HBq.out.2.2.1
            have g0 := HFz0 HBq.out.2.2.1 0
            have g1 := HFz0 HBq.out.2.2.1 1
            cases ot with
            | true =>
              have HZ : Hid (fz = 46) := by show _ = _; rw [HFz.out, if_neg HnA.out, if_neg HnB.out, if_pos rfl]
              go_wp2_with fail
              obtain ⟨x1, x2⟩ := put2L (B := w.heap.size + 1) (v0 := .int .i64 46) (v1 := .int .i64 (m : Int)) HBq.out.1 (Nat.le_succ _) HBq.out.2.2.1
              obtain ⟨y0, y1⟩ := cells2 x1
              refine bodyPost_ret (v := .agg #[.int .i64 46, .int .i64 (m : Int)]) (by simp [results, Tryz.results51, go_sem, y0, y1]) rfl ?_
              refine ⟨?_, x2⟩
              rw [HFat.out (by rw [HZ.out]; decide), HZ.out]
              rfl
            | false =>
              have HZ : Hid (fz = 0) := by show _ = _; rw [HFz.out, if_neg HnA.out, if_neg HnB.out, if_neg (by simp)]
              have HCy := show Hid _ from HCt.out _ HBq.out.2.2.2
              go_wp2_with fail
              refine Calls.mono HCy.out ?_
              rintro e w7 ⟨rfl, hb7⟩
              clear HCy b0 b1 b2 b3 f0 f1 g0 g1
              have HBq2 : Hid (Below w.heap.size w w7 ∧ w7.heap[w.heap.size]? = some (.cells #[.slice ao l.length ac, .slice qo qs.length qc, .slice (some ⟨gp, op, none⟩) l.length pc, .slice eo l.length ec] 72 (0, 0)) ∧ w7.heap[w.heap.size + 1]? = some (.cells #[.int .i64 0, .int .i64 0] 33 (0, 0)) ∧ Below wr.heap.size wr w7) := ⟨HBq.out.1.trans (hb7.mono HBq.out.1.size), (hb7.block _ (blk_lt HBq.out.2.1)).trans HBq.out.2.1, (hb7.block _ (blk_lt HBq.out.2.2.1)).trans HBq.out.2.2.1, HBq.out.2.2.2.trans (hb7.mono HBq.out.2.2.2.size)⟩
              clear hb7 HBq
              have HBq := show Hid _ from HBq2.out
              clear HBq2
              have hmx : max (cn : Int) (tl : Int) = ((max cn tl : Nat) : Int) := by omega
              go_wp2_with fail
              go_roundg (l.length - (m + 1))
              case measure => have := HG.out; omega
              case rel => exact ⟨m + 1, by omega, rfl, by rw [HCn.out, ← hmx], by go_num, HFno.out HZ.out, ⟨HR.out.1.1.below HBq.out.2.2.2 HR.out.1.1.lt, HR.out.1.2⟩, HBq.out.1, HBq.out.2.1, HBq.out.2.2.1⟩
        · have hcon' : ¬ (m : Int) < (cn : Int) := by omega
          have HnB : Hid (¬ (m < cn ∧ x.changing = true)) := fun h => hcon h.1
          have HCx := show Hid _ from HCo.out _ HBq.out.2.2.2
          obtain ⟨b0, b1, b2, b3⟩ := cells4 HBq.out.2.1
          obtain ⟨f0, f1⟩ := cells2 HBq.out.2.2.1
          have g0 := HFz0 HBq.out.2.2.1 0
          have g1 := HFz0 HBq.out.2.2.1 1
          go_wp2_with fail
          refine Calls.mono HCx.out ?_
          rintro e w6 ⟨rfl, hb6⟩
          clear HCx b0 b1 b2 b3 f0 f1 g0 g1
          have HBq2 : Hid (Below w.heap.size w w6 ∧ w6.heap[w.heap.size]? = some (.cells #[.slice ao l.length ac, .slice qo qs.length qc, .slice (some ⟨gp, op, none⟩) l.length pc, .slice eo l.length ec] 72 (0, 0)) ∧ w6.heap[w.heap.size + 1]? = some (.cells #[.int .i64 0, .int .i64 0] 33 (0, 0)) ∧ Below wr.heap.size wr w6) := ⟨HBq.out.1.trans (hb6.mono HBq.out.1.size), (hb6.block _ (blk_lt HBq.out.2.1)).trans HBq.out.2.1, (hb6.block _ (blk_lt HBq.out.2.2.1)).trans HBq.out.2.2.1, HBq.out.2.2.2.trans (hb6.mono HBq.out.2.2.2.size)⟩
          clear hb6 HBq
          have HBq := show Hid _ from HBq2.out
          clear HBq2
          obtain ⟨b0, b1, b2, b3⟩ := cells4 HBq.out.2.1
          obtain ⟨f0, f1⟩ := cells2 HBq.out.2.2.1
          have g0 := HFz0 HBq.out.2.2.1 0
          have g1 := HFz0 HBq.out.2.2.1 1
          cases ot with
          | true =>
            have HZ : Hid (fz = 46) := by show _ = _; rw [HFz.out, if_neg HnA.out, if_neg HnB.out, if_pos rfl]
            go_wp2_with fail
            obtain ⟨x1, x2⟩ := put2L (B := w.heap.size + 1) (v0 := .int .i64 46) (v1 := .int .i64 (m : Int)) HBq.out.1 (Nat.le_succ _) HBq.out.2.2.1
            obtain ⟨y0, y1⟩ := cells2 x1
            refine bodyPost_ret (v := .agg #[.int .i64 46, .int .i64 (m : Int)]) (by simp [results, Tryz.results51, go_sem, y0, y1]) rfl ?_
            refine ⟨?_, x2⟩
            rw [HFat.out (by rw [HZ.out]; decide), HZ.out]
            rfl
          | false =>
            have HZ : Hid (fz = 0) := by show _ = _; rw [HFz.out, if_neg HnA.out, if_neg HnB.out, if_neg (by simp)]
            have HCy := show Hid _ from HCt.out _ HBq.out.2.2.2
            go_wp2_with fail
            refine Calls.mono HCy.out ?_
            rintro e w7 ⟨rfl, hb7⟩
            clear HCy b0 b1 b2 b3 f0 f1 g0 g1
            have HBq2 : Hid (Below w.heap.size w w7 ∧ w7.heap[w.heap.size]? = some (.cells #[.slice ao l.length ac, .slice qo qs.length qc, .slice (some ⟨gp, op, none⟩) l.length pc, .slice eo l.length ec] 72 (0, 0)) ∧ w7.heap[w.heap.size + 1]? = some (.cells #[.int .i64 0, .int .i64 0] 33 (0, 0)) ∧ Below wr.heap.size wr w7) := ⟨HBq.out.1.trans (hb7.mono HBq.out.1.size), (hb7.block _ (blk_lt HBq.out.2.1)).trans HBq.out.2.1, (hb7.block _ (blk_lt HBq.out.2.2.1)).trans HBq.out.2.2.1, HBq.out.2.2.2.trans (hb7.mono HBq.out.2.2.2.size)⟩
            clear hb7 HBq
            have HBq := show Hid _ from HBq2.out
            clear HBq2
            have hmx : max (cn : Int) (tl : Int) = ((max cn tl : Nat) : Int) := by omega
            go_wp2_with fail
            go_roundg (l.length - (m + 1))
            case measure => have := HG.out; omega
            case rel => exact ⟨m + 1, by omega, rfl, by rw [HCn.out, ← hmx], by go_num, HFno.out HZ.out, ⟨HR.out.1.1.below HBq.out.2.2.2 HR.out.1.1.lt, HR.out.1.2⟩, HBq.out.1, HBq.out.2.1, HBq.out.2.2.1⟩
    · have hlt' : ¬ (m : Int) < (l.length : Int) := by omega
      have hme : m = l.length := by omega
      have HZ : Hid (fltN l (ghL qs) l.length = (0, 0)) := by show _ = _; rw [← hme]; exact HF0.out
      obtain ⟨f0, f1⟩ := cells2 HR.out.2.2.2
      have hfz : ∀ j, wr.frozen? ⟨w.heap.size + 1, j, none⟩ = false := fun j => by have := HR.out.2.2.2; simp only [World.frozen?, this]; rfl
      clear hme
      go_wp2_with fail
      obtain ⟨x1, x2⟩ := put2L (B := w.heap.size + 1) (v0 := .int .i64 0) (v1 := .int .i64 0) HR.out.2.1 (Nat.le_succ _) HR.out.2.2.2
      obtain ⟨y0, y1⟩ := cells2 x1
      refine bodyPost_ret (v := .agg #[.int .i64 0, .int .i64 0]) (by simp [results, Tryz.results51, go_sem, y0, y1]) rfl ?_
      refine ⟨?_, x2⟩
      rw [HZ.out]
      rfl
end Go.Proofs.YtnpdblcfhbamiaaGreat.Nm.Ty
