import Derived.Test.YtnpdblcfhbamiaaGreatK26
import Derived.Test.YtnpdblcfhbamiaaGreatK24
set_option maxHeartbeats 12800000
set_option maxRecDepth 100000
namespace Go.Proofs.YtnpdblcfhbamiaaGreat.Nm.Ty
open Go.RowKit Go.Maps Go.Proofs.YtnpdblcfhbamiaaGreat.Sp Go.Proofs.YtnpdblcfhbamiaaGreat.Lx Go.Proofs.YtnpdblcfhbamiaaGreat.Gr Go.Proofs.YtnpdblcfhbamiaaGreat.Nm
theorem settle_tag {l : List Rz} {qv : List Value} {nq : Nat} {ao qo po eo vo : Option Addr} {ac qc pc ec vcap i tb rb : Nat} {w0 w : World} {v : Nat → Int} {vv tv : Value} {vs : List (Int × Int × Int)} {ts : List Int} {rf : Nat → Int} (h : IsRg w0 l qv ao qo po eo) (hB : Below w0.heap.size w0 w) (hn : l.length ≤ 2932031007317) (hi : i < l.length) (hv : IsVals w0 vo (fL l.length (fun j => .int .i64 (v j)))) (hS : Sd w l.length tb rb vv tv vs ts rf) (hr : w0.heap.size ≤ rb) (hk : (rat l i).kind = 5) (hi5 : i + 1 < l.length) (htl : ts.length ≤ 2932031007317) :
    Calls Tryz.prog 52 #[.agg (rgC l nq ao qo po eo ac qc pc ec), .pointer (some ⟨tb, 0, none⟩), .slice vo l.length vcap, .int .i64 (i : Int)] w (SetQ l v i tb rb vs ts rf w0 w) := by
  have hb1 : Below w.heap.size w (w.alloc (.cells (rgC l nq ao qo po eo ac qc pc ec) 72)) := (Below.refl _ w).alloc (Nat.le_refl _) _
  have HX := show Hid _ from heap_alloc_new w (.cells (rgC l nq ao qo po eo ac qc pc ec) 72)
  have hB1 := hB.trans (hb1.mono hB.size)
  have HS1 : Hid (Sd (w.alloc (.cells (rgC l nq ao qo po eo ac qc pc ec) 72)) l.length tb rb vv tv vs ts rf) := hS.below hb1
  have HB1 : Hid (Below w0.heap.size w (w.alloc (.cells (rgC l nq ao qo po eo ac qc pc ec) 72))) := hb1.mono hB.size
  have HRb : Hid (w0.heap.size ≤ rb) := hr
  obtain ⟨ga, oa, rfl, hga, c0, c1, c2, c3, c4⟩ := row_cells (h.below hB1).r hi
  obtain ⟨b0, b1, b2, b3⟩ := cells4 HX.out
  have hln : (l.length : Int) ≤ 2932031007317 := by omega
  have hi1 : (i : Int) < (l.length : Int) := by omega
  have HQ : Hid (∀ m : Nat, (if v (i + 1) < 1 ∨ 255 < v (i + 1) then 43 else 0) = m → setE l v i = m) := fun m e => by show setE l v i = m; unfold setE; rw [if_neg (by omega), if_pos hk]; exact e
  have HQ2 : Hid (∀ (W' : World) (tv' : Value), setE l v i = 0 → Below w0.heap.size w W' → Sd W' l.length tb rb vv tv' vs (ts ++ [v (i + 1)]) rf → SetQ l v i tb rb vs ts rf w0 w (.returned (.int .i64 (0 : Int))) W') := fun W' _ e hb hs => setQ_of e hb (fun _ => hs) (if_neg (by omega)).symm (if_pos hk).symm (if_neg (by omega)).symm
  have HQ3 : Hid (∀ W' : World, setE l v i = 43 → Below w0.heap.size w W' → SetQ l v i tb rb vs ts rf w0 w (.returned (.int .i64 (43 : Int))) W') := fun W' e hb => setQ_of (vv' := vv) (tv' := tv) e hb (fun e => by cases e) rfl rfl rfl
  obtain ⟨j0, hj, hj0, hj1, hj2⟩ := info_parts info3
  have HTl : Hid (ts.length ≤ 2932031007317) := htl
  have hi2 : (i : Int) + 1 < (l.length : Int) := by omega
  obtain ⟨gv, ov, rfl, hgv, cv⟩ := (IsVals.below hv hB1) (i + 1) _ (fL_at hi5)
  have HK : Hid ((rat l i).kind = 5) := hk
  rw [hk] at c0
  dsimp only [rgC] at *
  clear h hB hn hv hS hr hb1 hB1 hk hi5
  generalize v (i + 1) = y at *
  go_enter Tryz.func52, Tryz.ntmps52
  by_cases hy : y < 1
  · have HE := HQ.out 43 (if_pos (Or.inl hy))
    have HE2 := show Hid _ from HQ3.out _ HE HB1.out
    have hy' : decide (y < 1) = true := decide_eq_true hy
    clear HQ HQ2 HQ3 HE htl
    go_wp2_with fail
    go_ret
    exact HE2.out
  · by_cases hz : 255 < y
    · have HE := HQ.out 43 (if_pos (Or.inr hz))
      have HE2 := show Hid _ from HQ3.out _ HE HB1.out
      have hy' : decide (y < 1) = false := decide_eq_false hy
      have hz' : decide (y > 255) = true := decide_eq_true hz
      clear HQ HQ2 HQ3 HE htl
      go_wp2_with fail
      go_ret
      exact HE2.out
    · have HE := HQ.out 0 (if_neg (by omega))
      have HE2 := show Hid _ from fun W' tv' => HQ2.out W' tv' HE
      have hy' : decide (y < 1) = false := decide_eq_false hy
      have hz' : decide (y > 255) = false := decide_eq_false hz
      clear HQ HQ2 HQ3 HE htl
      generalize hw1 : w.alloc (.cells #[.slice (some ⟨ga, oa, none⟩) l.length ac, .slice qo nq qc, .slice po l.length pc, .slice eo l.length ec] 72) = w1 at *
      go_upto_region 12 with fail
      clear hw1
      have hb2 : Below w1.heap.size w1 (w1.alloc (.cells #[.int .i64 y] 3)) := (Below.refl _ w1).alloc (Nat.le_refl _) _
      have HS2 : Hid (Sd (w1.alloc (.cells #[.int .i64 y] 3)) l.length tb rb vv tv vs ts rf) := HS1.out.below hb2
      obtain ⟨k0, k1, k2⟩ := cells3 HS1.out.b
      have HB2 : Hid (Below w0.heap.size w (w1.alloc (.cells #[.int .i64 y] 3))) := HB1.out.trans (hb2.mono (by have h1 := HS1.out.lts; have h2 := HS1.out.lt; have := HRb.out; omega))
      clear hb2 c0 c1 c2 c3 c4 b0 b1 b2 b3 cv
      obtain ⟨bo, bc, rfl⟩ := own_form HS1.out.t
      go_wp2_with (at_builtin; refine append_gone _ rfl _ _ 23 rfl (tb + 1) 3 j0 (.int .i64 0) 1 8 Tryz.underlying23 hj hj0 hj1 hj2 rfl (by decide) (.slice bo ts.length bc) _ (tC ts) rfl HS2.out.t ⟨w1.heap.size, 0, none⟩ 1 1 [.int .i64 y] rfl rfl (cell_one w1 _ _) (by intro u hu; simp only [List.mem_cons, List.not_mem_nil, or_false] at hu; subst hu; rfl) (by have := HTl.out; unfold maxLen; omega) (by have := HTl.out; omega) HS2.out.lts (by decide) ?_)
      intro v4 w4 ho hG
      have HS4 := show Hid _ from HS2.out.pushT hG.1 ho
      have HB4 : Hid (Below w0.heap.size w w4) := HB2.out.trans (((Went.gone hG).low (fun j hj => (World.ownsRow.lt HS2.out.t j hj).1) HS2.out.lts).mono (by have h2 := HS1.out.lt; have := HRb.out; omega))
      have hb4 : w4.heap[tb]? = some (.cells #[vv, .slice bo ts.length bc, .slice (some ⟨rb, 0, none⟩) l.length l.length] 40 (0, 0)) := (hG.1.block tb HS2.out.lts fun e => by have := (World.ownsRow.lt HS2.out.t tb e.symm).1; omega).trans HS2.out.b
      have f4 : w4.frozen? ⟨tb, 1, none⟩ = false := by simp only [World.frozen?, hb4]; rfl
      obtain ⟨bo4, bc4, rfl⟩ := own_form ho
      clear k0 k1 k2
      obtain ⟨k0, k1, k2⟩ := cells3 hb4
      clear ho hG hb4
      go_wp2_with fail
      go_ret
      exact HE2.out _ _ (HB4.out.trans ((Below.refl _ _).setCell (p := ⟨tb, 1, none⟩) (by have h2 := HS1.out.lt; have := HRb.out; show _ ≤ tb; omega) _)) HS4.out
end Go.Proofs.YtnpdblcfhbamiaaGreat.Nm.Ty
namespace Go.Proofs.YtnpdblcfhbamiaaGreat.Nm.Ty
open Go.RowKit Go.Shelf Go.Proofs.YtnpdblcfhbamiaaGreat.Sp Go.Proofs.YtnpdblcfhbamiaaGreat.Lx Go.Proofs.YtnpdblcfhbamiaaGreat.Gr
attribute [local go_sem] Oper.semAt_some
theorem ends_any {l : List Rz} {ao : Option Addr} {cap : Nat} {w : World} (h : IsRz w ao l) (hn : l.length ≤ 2932031007317) (hT : TreeZ l) (h0 : 0 < l.length) :
    Calls Tryz.prog 49 #[.slice ao l.length cap] w fun e w' => ∃ g, e = .returned (.slice (some ⟨g, 0, none⟩) l.length l.length) ∧ w.heap.size ≤ g ∧ RowI w' g l.length (fun i => (endp l i : Int)) ∧ Below w.heap.size w w' := by
  obtain ⟨M, hmk, hM⟩ := mk_ints l.length hn
  have hln : (l.length : Int) ≤ 2932031007317 := by omega
  have hbk := rbackward_any ao l.length cap
  have hb1 : Below w.heap.size w (((w.alloc (.cells M 3)).alloc (.cells #[.slice (some ⟨w.heap.size, 0, none⟩) l.length l.length] 23)).alloc (.cells #[.slice ao l.length cap] 22)) := (((Below.refl _ w).alloc (Nat.le_refl _) _).alloc (by simp) _).alloc (by simp; omega) _
  have hnil : ∀ (cp : Array Value) (u : World), (binOp BinOp.eql 127 (.func (.func 88) #[] cp) .nilFunc).run Tryz.prog u = .ok (.bool false) u := fun _ _ => rfl
  refine (callsIn_wide (n := 5)).1 ?_
  refine callsIn_of_wp_marks Tryz.func49 rfl trivial ?_ rfl
  simp only [Tryz.ntmps49, List.size_toArray, List.length_cons, List.length_nil, Nat.reduceAdd, Nat.reduceSub, Array.replicate_succ, Array.replicate_zero, List.push_toArray, List.append_toArray, List.nil_append, List.cons_append]
  gi_wp2
  refine ⟨trivial, (callsIn_wide.2 (hbk _)).mono ?_⟩
  rintro e w2 ⟨rfl, rfl⟩
  have hRb := row_cells h h0
  obtain ⟨b, bo, rfl, hb, _⟩ := hRb
  have hz2 : (((w.alloc (.cells M 3)).alloc (.cells #[.slice (some ⟨w.heap.size, 0, none⟩) l.length l.length] 23)).alloc (.cells #[.slice (some ⟨b, bo, none⟩) l.length cap] 22)).heap.size = w.heap.size + 3 := by simp
  have hR2 : RowI (((w.alloc (.cells M 3)).alloc (.cells #[.slice (some ⟨w.heap.size, 0, none⟩) l.length l.length] 23)).alloc (.cells #[.slice (some ⟨b, bo, none⟩) l.length cap] 22)) w.heap.size l.length (fun _ => 0) := (hM w).of_block ((alloc_old _ _ _ (by simp; omega)).trans (alloc_old _ _ _ (by simp)))
  have hX2 : (((w.alloc (.cells M 3)).alloc (.cells #[.slice (some ⟨w.heap.size, 0, none⟩) l.length l.length] 23)).alloc (.cells #[.slice (some ⟨b, bo, none⟩) l.length cap] 22)).heap[w.heap.size + 1]? = some (.cells #[.slice (some ⟨w.heap.size, 0, none⟩) l.length l.length] 23 (0, 0)) := by
    rw [alloc_old _ _ _ (by simp)]
    exact alloc_at _ _ _ (by simp)
  have hB2 : (((w.alloc (.cells M 3)).alloc (.cells #[.slice (some ⟨w.heap.size, 0, none⟩) l.length l.length] 23)).alloc (.cells #[.slice (some ⟨b, bo, none⟩) l.length cap] 22)).heap[w.heap.size + 1 + 1]? = some (.cells #[.slice (some ⟨b, bo, none⟩) l.length cap] 22 (0, 0)) := alloc_at _ _ _ (by simp)
  have hI2 := h.below hb1
  have hE0 : endp l 0 = l.length := by
    have := hT.whole
    unfold Whole at this
    simp [endp, this]
  gi_wp2
  generalize (((w.alloc (.cells M 3)).alloc (.cells #[.slice (some ⟨w.heap.size, 0, none⟩) l.length l.length] 23)).alloc (.cells #[.slice (some ⟨b, bo, none⟩) l.length cap] 22)) = w2 at *
  clear hmk hM hbk
  refine wpIn_rangeFunc_ownH rfl (by omega) (gf := 88) (lb := #[.pointer (some ⟨w.heap.size + 1 + 1, 0, none⟩)]) rfl trivial (enters_of Tryz.func88 (by kernel_rfl) rfl)
    (rback_stops Fence.wide 4 trivial rfl (by omega) (w.heap.size + 1 + 1) b bo cap l hn w2 (by omega) (by rw [World.cell?, hB2]; rfl) hI2) (fun h k => h.trans k) (fun W k o o' hk _ _ _ => ⟨by simp, fun i hi => World.putObj_heap_other (fun e => by simp at hi; omega)⟩) (Below.refl _ _) (fun _ => rfl)
    (fun pre W => (∃ f, RowI W w.heap.size l.length f ∧ Okf l f ∧ (pre = dnto l.length pre.length → ∀ j, l.length - pre.length ≤ j → j < l.length → f j = (endp l j : Int))) ∧ W.heap[w.heap.size + 1]? = some (.cells #[.slice (some ⟨w.heap.size, 0, none⟩) l.length l.length] 23 (0, 0)) ∧ Below w.heap.size w W ∧ W.heap[w.heap.size + 1 + 1]? = some (.cells #[.slice (some ⟨b, bo, none⟩) l.length cap] 22 (0, 0)))
    (fun (_ : Code) (_ : List Nat) (_ : World) => False)
    (fun s A B row hs hg hr => ⟨?oI, ?oX, ?oB, ?oS⟩)
    (fun _ s A B row hs _ _ => hs)
    ⟨⟨fun _ => 0, hR2, fun i _ => Or.inl rfl, fun _ j h1 h2 => by simp at h1; omega⟩, hX2, hb1, hB2⟩
    (fun x a' W => ∃ B5, a' = { tmps := #[.slice (some ⟨b, bo, none⟩) l.length cap, undef, .slice none 0 0, .pointer (some ⟨w.heap.size + 1, 0, none⟩), .int .i64 ((x % l.length : Nat) : Int), .pointer (some ⟨B5, 0, none⟩), undef, .slice (some ⟨b, bo, none⟩) l.length cap, .int .i64 (l.length : Int), .slice (some ⟨w.heap.size, 0, none⟩) l.length l.length, .slice (some ⟨b, bo, none⟩) l.length cap, .func (.func 88) #[] #[.pointer (some ⟨w.heap.size + 1 + 1, 0, none⟩)], .int .i64 ((x % l.length : Nat) : Int), rzV (rat l (x % l.length)), undef, undef, undef, undef, undef, undef, undef, undef, undef, undef, undef, undef, undef, undef, undef, undef], defers := [] } ∧ W.heap[B5]? = some (.cells #[.int .i64 (rat l (x % l.length)).kind, .string (rat l (x % l.length)).name, .int .i64 (rat l (x % l.length)).stop, .int .i64 (rat l (x % l.length)).n, .int .i64 (rat l (x % l.length)).kids] 51 (0, 0)) ∧ w.heap.size + 1 < B5)
    (fun x a' s A B row hs hg hr => ?oA) ?assign ?body ?done ?stop
  case oI =>
    obtain ⟨f, hf, h1⟩ := hs.1
    exact ⟨f, (grownBy_keeps_cells hg (fun r e => (hr r e).2) hf rfl).trans hf, h1⟩
  case oX => exact (grownBy_keeps_cells hg (fun r e => (hr r e).2) hs.2.1 rfl).trans hs.2.1
  case oS => exact (grownBy_keeps_cells hg (fun r e => (hr r e).2) hs.2.2.2 rfl).trans hs.2.2.2
  case oB => exact ownFrom_below (β := Unit) (w₀ := w) (Nat.le_refl _) (B := w2.heap.size) (by omega) () A B row hs.2.2.1 hg hr
  case oA =>
    obtain ⟨B5, h1, h2, h3⟩ := hs
    exact ⟨B5, h1, (grownBy_keeps_cells hg (fun r e => (hr r e).2) h2 rfl).trans h2, h3⟩
  case assign =>
    rintro q pre x W K ⟨⟨f, hf, h1⟩, h2, h3, h4⟩ hK
    dsimp only at hK ⊢
    generalize x % l.length = i at hK ⊢
    generalize rat l i = r at hK ⊢
    gi_wp2
    refine hK _ _ ((KeepsOthers.alloc W _).from _) ⟨by simp, fun k hk => alloc_old W _ k ?lt⟩ ⟨⟨f, hf.of_block (alloc_old W _ _ hf.lt), h1⟩, (alloc_old W _ _ (blk_lt h2)).trans h2, h3.alloc h3.size _, (alloc_old W _ _ (blk_lt h4)).trans h4⟩ ⟨W.heap.size, rfl, heap_alloc_new W _, blk_lt h2⟩
    have h5 := blk_lt h4
    simp at hk
    omega
  case body =>
    rintro q pre x a' W hq hloop ⟨⟨f, hf, hok, hpre⟩, hX, hB, hBx⟩ ⟨B5, rfl, hB5, hb5⟩ hplt
    have hiL : x % l.length < l.length := Nat.mod_lt _ h0
    have hkid := hT.kids (x % l.length) hiL
    have hxi : pre ++ [x] = dnto l.length (pre ++ [x]).length → pre = dnto l.length pre.length ∧ x % l.length = l.length - (pre.length + 1) := by
      intro he
      rw [List.length_append, List.length_singleton, dnto_succ] at he
      obtain ⟨e1, e2⟩ := List.append_inj' he rfl
      have e3 : x = l.length - 1 - pre.length := by simpa using e2
      exact ⟨e1, by rw [Nat.mod_eq_of_lt (by omega)]; omega⟩
    generalize x % l.length = i at *
    have hend := fun e (hs : Stf l f i (km l i) e) => stf_end hT.whole hok hiL hs
    have hstep := fun k e (hk : k < km l i) (hs : Stf l f i k e) => stf_step hT.whole hE0 hok hiL hk hs
    have hst0 := stf_zero l f i
    have hcx : W.cell? ⟨w.heap.size + 1, 0, none⟩ = some (.slice (some ⟨w.heap.size, 0, none⟩) l.length l.length) := by rw [World.cell?, hX]; rfl
    have hc4 : W.cell? ⟨B5, 4, none⟩ = some (.int .i64 (km l i : Int)) := by rw [World.cell?, hB5, ← hkid]; rfl
    have hci := hf.cell hiL
    have hfi := hf.frozen i
    have hi' : (i : Int) < (l.length : Int) := by omega
    have hkm : (km l i : Int) ≤ 2932031007317 := by have := km_le hT.whole hiL; omega
    generalize rat l i = r at *
    generalize hfy : f i = fy at hci
    clear hfy
    gi_wp2
    gi_loopw [6, 18] (fun e k wr => ∃ (kk e' : Nat), kk ≤ km l i ∧ e = .int .i64 (e' : Int) ∧ k = .int .i64 (kk : Int) ∧ Stf l f i kk e' ∧ wr = W) (fun _ k _ => km l i - (intOf k).toNat)
    case atStart => exact ⟨0, i + 1, Nat.zero_le _, by simp, rfl, hst0, rfl⟩
    case round =>
      obtain ⟨kk, e', hk, rfl, rfl, hs, hw⟩ := hrel
      rw [hw]
      clear hw
      have hkk : (kk : Int) ≤ 2932031007317 := by omega
      by_cases hlt : kk < km l i
      · have hlt' : (kk : Int) < (km l i : Int) := by omega
        obtain ⟨he1, e2, he2, hs2⟩ := hstep kk e' hlt hs
        have he1' : (e' : Int) < (l.length : Int) := by omega
        have hce := hf.cell he1
        rw [he2] at hce
        gi_wp2
        go_roundw
        case rel => exact ⟨kk + 1, e2, by omega, rfl, by simp, hs2, by first | rfl | trivial⟩
        case measure => simp [intOf]; omega
      · have hlt' : ¬ (kk : Int) < (km l i : Int) := by omega
        obtain rfl : kk = km l i := by omega
        obtain ⟨h1, h2, h3⟩ := hend e' hs
        gi_wp2
        refine ⟨(KeepsOthers.setCell _ _ _).from _, ⟨by simp, fun k hk => Below.heap_setCell W _ _ k ?ne⟩, ⟨setF f i (e' : Int), hf.set i (e' : Int), h2, fun he j hj1 hj2 => ?_⟩, (Below.heap_setCell W _ _ _ (by simp)).trans hX, hB.trans ((Below.refl w.heap.size W).setCell (p := ⟨w.heap.size, i, none⟩) (Nat.le_refl _) _), (Below.heap_setCell W _ _ _ (by simp; omega)).trans hBx⟩
        case ne => simp at hk; show k ≠ w.heap.size; omega
        obtain ⟨e1, e2⟩ := hxi he
        rw [List.length_append, List.length_singleton] at hj1
        exact h3 (fun j h4 h5 => hpre e1 j (by omega) h5) j (by omega) hj2
  case done =>
    rintro D ys W hD rfl ⟨⟨f, hf, hok, hpre⟩, hX, hB, hBx⟩ hK
    rw [dnto_length] at hpre
    have hcx : W.cell? ⟨w.heap.size + 1, 0, none⟩ = some (.slice (some ⟨w.heap.size, 0, none⟩) l.length l.length) := by rw [World.cell?, hX]; rfl
    gi_wp2
    refine ⟨by simp, .inl ⟨_, _, rfl, run_takeDeferred hK, ?_⟩⟩
    have hne : w.heap.size ≠ D := by omega
    refine ⟨.slice (some ⟨w.heap.size, 0, none⟩) l.length l.length, ?_, w.heap.size, rfl, Nat.le_refl _, (hf.of_block (World.putObj_heap_other hne)).ext fun j hj => hpre (by first | rfl | trivial) j (by omega) hj, hB.trans (belowK_b (w := w) (Nat.le_refl _) _ D _ _ (by omega) hK rfl rfl)⟩
    simp [results, Tryz.f49, go_sem]
  case stop =>
    rintro D cc pre W hD _ h _
    exact h.elim
end Go.Proofs.YtnpdblcfhbamiaaGreat.Nm.Ty
namespace Go.Proofs.YtnpdblcfhbamiaaGreat.Nm.Ty
open Go.RowKit Go.Maps Go.Proofs.YtnpdblcfhbamiaaGreat.Sp Go.Proofs.YtnpdblcfhbamiaaGreat.Lx Go.Proofs.YtnpdblcfhbamiaaGreat.Gr
theorem own_ints {w : World} {base n : Nat} {v : Value} {xs : List Value} (h : w.ownsRow base 3 1 v n xs) (h0 : 0 < n) : ∃ b c, v = .slice (some ⟨b, 0, none⟩) n c ∧ base ≤ b ∧ b < w.heap.size ∧ ∀ j u, xs[j]? = some u → w.cell? ⟨b, j, none⟩ = some u := by
  obtain ⟨hl, ⟨_, rfl⟩ | ⟨g, c, cur, rfl, hb, hc, hn, hm, hs, ht⟩⟩ := h
  · omega
  · refine ⟨g, c, rfl, hb, blk_lt hc, fun j u hj => ?_⟩
    rw [World.cell?, hc]
    rw [← ht, List.getElem?_take] at hj
    split at hj
    · simpa using hj
    · cases hj
theorem asks_any {l : List Rz} {qv : List Value} {nq : Nat} {ao qo po eo : Option Addr} {ac qc pc ec : Nat} {w : World} (h : IsRg w l qv ao qo po eo) (hn : l.length ≤ 2932031007317) (hT : TreeZ l) :
    Calls Tryz.prog 67 #[.agg (rgC l nq ao qo po eo ac qc pc ec)] w fun e w' => ∃ g, e = .returned (.slice (some ⟨g, 0, none⟩) l.length l.length) ∧ w.heap.size ≤ g ∧ RowI w' g l.length (asksN l l.length) ∧ Below w.heap.size w w' := by
  obtain ⟨M, hmk, hM⟩ := mk_ints l.length hn
  have HI : Hid (IsRg w l qv ao qo po eo) := h
  have HT : Hid (TreeZ l) := hT
  have hln : (l.length : Int) ≤ 2932031007317 := by omega
  have hient := is_enter
  have hifn := is_fn
  have HKs : Hid (∀ (i : Nat) (W : World), IsRg W l qv ao qo po eo → i < l.length → Calls Tryz.prog 70 #[.agg (rgC l nq ao qo po eo ac qc pc ec), .int .i64 i] W fun e w' => ∃ v, e = .returned v ∧ w'.ownsRow W.heap.size 3 1 v (km l i) ((kl l i (km l i)).map nc) ∧ Below W.heap.size W w') := fun i W hW hi => kids_any i hW hn hT hi
  have H0 : Hid (RowI ((w.alloc (.cells (rgC l nq ao qo po eo ac qc pc ec) 72)).alloc (.cells M 3)) (w.heap.size + 1) l.length (fun _ => 0) ∧ Below w.heap.size w ((w.alloc (.cells (rgC l nq ao qo po eo ac qc pc ec) 72)).alloc (.cells M 3)) ∧ ((w.alloc (.cells (rgC l nq ao qo po eo ac qc pc ec) 72)).alloc (.cells M 3)).heap[w.heap.size]? = some (.cells (rgC l nq ao qo po eo ac qc pc ec) 72 (0, 0))) := by
    have e := hM (w.alloc (.cells (rgC l nq ao qo po eo ac qc pc ec) 72))
    rw [World.size_alloc] at e
    exact ⟨e, ((Below.refl _ w).alloc (Nat.le_refl _) _).alloc (by simp) _, (Below.heap_alloc _ _ _ (by simp)).trans (heap_alloc_new w _)⟩
  dsimp only [rgC] at *
  clear h hn hM hT
  go_enter Tryz.func67, Tryz.ntmps67
  go_wp2_with fail
  generalize ((w.alloc (.cells #[.slice ao l.length ac, .slice qo nq qc, .slice po l.length pc, .slice eo l.length ec] 72)).alloc (.cells M 3)) = w1 at *
  clear hmk
  go_loopg [15] l.length (fun gq x wr => ∃ m : Nat, m ≤ l.length ∧ gq = l.length - m ∧ x = .int .i64 m ∧ RowI wr (w.heap.size + 1) l.length (asksN l m) ∧ Below w.heap.size w wr ∧ wr.heap[w.heap.size]? = some (.cells #[.slice ao l.length ac, .slice qo nq qc, .slice po l.length pc, .slice eo l.length ec] 72 (0, 0)))
  case atStart => exact ⟨0, Nat.zero_le _, rfl, by go_num, H0.out.1, H0.out.2.1, H0.out.2.2⟩
  case round =>
    obtain ⟨m, hm, hgk, rfl, hR, hB, hX⟩ := hrel
    have HR : Hid (RowI wr (w.heap.size + 1) l.length (asksN l m)) := hR
    have HB := show Hid _ from hB
    have HX := show Hid _ from hX
    have HG : Hid (gk = l.length - m) := hgk
    obtain ⟨b0, b1, b2, b3⟩ := cells4 hX
    clear hgk hR hB hX
    by_cases hlt : m < l.length
    · have hlt' : (m : Int) < (l.length : Int) := by omega
      obtain ⟨gp, op, rfl, hgp, cp⟩ := (HI.out.below HB.out).part hlt
      have HC := show Hid _ from HKs.out m wr (HI.out.below HB.out) hlt
      have HKm : Hid (km l m ≤ l.length ∧ (0 < km l m → m + 1 < l.length)) := ⟨km_le HT.out.whole hlt, fun h0 => by have := (kid_at HT.out.whole hlt h0).1; rwa [kid_zero] at this⟩
      have hkm : (km l m : Int) ≤ 2932031007317 := by have := HKm.out.1; omega
      have HS : Hid (asksN l (m + 1) = askRow l m (asksN l m) (km l m)) := rfl
      have HAx : Hid (∀ k, askRow l m (asksN l m) (k + 1) = setF (askRow l m (asksN l m) k) (kidp l m k) ((rP l m).asked k (rP l (m + 1)).is)) := fun k => rfl
      have HA0 : Hid (askRow l m (asksN l m) 0 = asksN l m) := rfl
      generalize hxm : rP l m = x at *
      clear hxm
      go_wp2_with fail
      refine Calls.mono HC.out ?_
      rintro e w2 ⟨v, rfl, ho2, hb2⟩
      have HB2 : Hid (Below w.heap.size w w2 ∧ RowI w2 (w.heap.size + 1) l.length (asksN l m) ∧ w2.heap[w.heap.size]? = some (.cells #[.slice ao l.length ac, .slice qo nq qc, .slice (some ⟨gp, op, none⟩) l.length pc, .slice eo l.length ec] 72 (0, 0))) := ⟨HB.out.trans (hb2.mono HB.out.size), HR.out.below hb2 HR.out.lt, (hb2.block _ (blk_lt HX.out)).trans HX.out⟩
      obtain ⟨vo, vc, rfl⟩ := own_form ho2
      have HO2 : Hid (0 < km l m → ∃ b, vo = some ⟨b, 0, none⟩ ∧ w.heap.size + 1 < b ∧ b < w2.heap.size ∧ ∀ j, j < km l m → w2.cell? ⟨b, j, none⟩ = some (.int .i64 (kidp l m j : Nat))) := by
        intro h0
        obtain ⟨b, c, e, hb, hlt2, hc⟩ := own_ints ho2 h0
        cases e
        refine ⟨b, rfl, by have := HR.out.lt; omega, hlt2, fun j hj => hc j _ ?_⟩
        simp [kl, nc, hj]
      clear hb2 ho2 HC b0 b1 b2 b3
      go_wp2_with fail
      have HG1 : Hid (gk = l.length - m) := HG.out
      clear HG HR HB HX
      go_loopg [24] (km l m) (fun gq kk wr' => ∃ k : Nat, k ≤ km l m ∧ gq = km l m - k ∧ kk = .int .i64 k ∧ RowI wr' (w.heap.size + 1) l.length (askRow l m (asksN l m) k) ∧ Below w.heap.size w wr' ∧ wr'.heap[w.heap.size]? = some (.cells #[.slice ao l.length ac, .slice qo nq qc, .slice (some ⟨gp, op, none⟩) l.length pc, .slice eo l.length ec] 72 (0, 0)) ∧ (0 < km l m → ∃ b, vo = some ⟨b, 0, none⟩ ∧ w.heap.size + 1 < b ∧ b < wr'.heap.size ∧ ∀ j, j < km l m → wr'.cell? ⟨b, j, none⟩ = some (.int .i64 (kidp l m j : Nat))))
      case atStart => exact ⟨0, Nat.zero_le _, rfl, by go_num, HB2.out.2.1, HB2.out.1, HB2.out.2.2, HO2.out⟩
      case round =>
        obtain ⟨k, hk, hgk, rfl, hrel⟩ := hrel
        have HR : Hid (RowI wr (w.heap.size + 1) l.length (askRow l m (asksN l m) k) ∧ Below w.heap.size w wr ∧ wr.heap[w.heap.size]? = some (.cells #[.slice ao l.length ac, .slice qo nq qc, .slice (some ⟨gp, op, none⟩) l.length pc, .slice eo l.length ec] 72 (0, 0)) ∧ (0 < km l m → ∃ b, vo = some ⟨b, 0, none⟩ ∧ w.heap.size + 1 < b ∧ b < wr.heap.size ∧ ∀ j, j < km l m → wr.cell? ⟨b, j, none⟩ = some (.int .i64 (kidp l m j : Nat)))) := hrel
        have HG : Hid (gk = km l m - k) := hgk
        obtain ⟨b0, b1, b2, b3⟩ := cells4 HR.out.2.2.1
        clear hgk hrel HB2 HO2
        by_cases hkl : k < km l m
        · have hkl' : (k : Int) < (km l m : Int) := by omega
          obtain ⟨b, rfl, hb1, hb2, hbc⟩ := HR.out.2.2.2 (by omega)
          have ck := hbc k hkl
          have HKp : Hid (kidp l m k < l.length) := (kid_at HT.out.whole hlt hkl).1
          have hkp : (kidp l m k : Int) < (l.length : Int) := by have := HKp.out; omega
          have hm1 : m + 1 < l.length := HKm.out.2 (by omega)
          have hm1' : (m : Int) + 1 < (l.length : Int) := by omega
          obtain ⟨gp2, op2, hgp0, _, cp2⟩ := (HI.out.below HR.out.2.1).part hm1
          obtain ⟨rfl, rfl⟩ : gp = gp2 ∧ op = op2 := by cases hgp0; exact ⟨rfl, rfl⟩
          have hm2 : ((m + 1 : Nat) : Int) = (m : Int) + 1 := by omega
          have HN : Hid (∀ W : World, Below wr.heap.size wr W → (W.cell? ⟨w.heap.size + 1, kidp l m k, none⟩ = some (.int .i64 (askRow l m (asksN l m) k (kidp l m k))) ∧ W.frozen? ⟨w.heap.size + 1, kidp l m k, none⟩ = false) ∧ (RowI (W.setCell ⟨w.heap.size + 1, kidp l m k, none⟩ (.int .i64 (x.asked k (rP l (m + 1)).is))) (w.heap.size + 1) l.length (askRow l m (asksN l m) (k + 1)) ∧ Below w.heap.size w (W.setCell ⟨w.heap.size + 1, kidp l m k, none⟩ (.int .i64 (x.asked k (rP l (m + 1)).is))) ∧ (W.setCell ⟨w.heap.size + 1, kidp l m k, none⟩ (.int .i64 (x.asked k (rP l (m + 1)).is))).heap[w.heap.size]? = some (.cells #[.slice ao l.length ac, .slice qo nq qc, .slice (some ⟨gp, op, none⟩) l.length pc, .slice eo l.length ec] 72 (0, 0)) ∧ (0 < km l m → ∃ b1, (some ⟨b, 0, none⟩ : Option Addr) = some ⟨b1, 0, none⟩ ∧ w.heap.size + 1 < b1 ∧ b1 < (W.setCell ⟨w.heap.size + 1, kidp l m k, none⟩ (.int .i64 (x.asked k (rP l (m + 1)).is))).heap.size ∧ ∀ j, j < km l m → (W.setCell ⟨w.heap.size + 1, kidp l m k, none⟩ (.int .i64 (x.asked k (rP l (m + 1)).is))).cell? ⟨b1, j, none⟩ = some (.int .i64 (kidp l m j : Nat))))) := by
            intro W hW
            have hRW := HR.out.1.below hW HR.out.1.lt
            refine ⟨⟨hRW.cell HKp.out, hRW.frozen _⟩, ?_, (HR.out.2.1.trans (hW.mono HR.out.2.1.size)).trans ((Below.refl w.heap.size W).setCell (p := ⟨w.heap.size + 1, kidp l m k, none⟩) (by simp) _), ?_, fun _ => ⟨b, rfl, hb1, ?_, fun j hj => ?_⟩⟩
            · rw [HAx.out]
              exact hRW.set _ _
            · exact (Below.heap_setCell _ _ _ _ (by simp)).trans ((hW.block _ (blk_lt HR.out.2.2.1)).trans HR.out.2.2.1)
            · rw [World.size_setCell]
              exact Nat.lt_of_lt_of_le hb2 hW.size
            · rw [World.cell?_of_block (a := ⟨b, j, none⟩) (Below.heap_setCell W _ _ b (by show b ≠ w.heap.size + 1; omega))]
              exact (hW.cell (p := ⟨b, j, none⟩) hb2).trans (hbc j hj)
          have HCi := show Hid _ from is_any (rP l (m + 1)) wr
          clear hbc hgp0 HR HAx
          generalize rP l (m + 1) = x1 at *
          generalize kidp l m k = kp at *
          go_wp2_with fail
          refine Calls.mono HCi.out ?_
          rintro e w3 ⟨rfl, hb3⟩
          have HB3 := show Hid _ from hb3
          have HCa := show Hid _ from asked_any x k x1.is w3
          clear hb3 HCi
          go_wp2_with fail
          refine Calls.mono HCa.out ?_
          rintro e w4 ⟨rfl, hb4⟩
          obtain ⟨⟨hc, hf⟩, hN⟩ := HN.out w4 (HB3.out.trans (hb4.mono HB3.out.size))
          have HN2 := show Hid _ from hN
          clear hb4 HCa HN hN HB3
          generalize x.asked k x1.is = y at *
          generalize askRow l m (asksN l m) k kp = y0 at hc
          go_wp2_with fail
          go_roundg (km l m - (k + 1))
          case measure => have := HG.out; omega
          case rel => exact ⟨k + 1, by omega, rfl, by go_num, HN2.out.1, HN2.out.2.1, HN2.out.2.2.1, HN2.out.2.2.2⟩
        · have hkl' : ¬ (k : Int) < (km l m : Int) := by omega
          have hke : k = km l m := by omega
          have HF : Hid (RowI wr (w.heap.size + 1) l.length (asksN l (m + 1)) ∧ Below w.heap.size w wr ∧ wr.heap[w.heap.size]? = some (.cells #[.slice ao l.length ac, .slice qo nq qc, .slice (some ⟨gp, op, none⟩) l.length pc, .slice eo l.length ec] 72 (0, 0))) := by
            refine ⟨?_, HR.out.2.1, HR.out.2.2.1⟩
            rw [HS.out, ← hke]
            exact HR.out.1
          clear hke hkl HR
          go_wp2_with fail
          go_roundg (l.length - (m + 1))
          case measure => have := HG1.out; omega
          case rel => exact ⟨m + 1, by omega, rfl, by go_num, HF.out.1, HF.out.2.1, HF.out.2.2⟩
    · have hlt' : ¬ (m : Int) < (l.length : Int) := by omega
      have hme : m = l.length := by omega
      have HF : Hid (RowI wr (w.heap.size + 1) l.length (asksN l l.length)) := by rw [hme] at HR; exact HR
      clear hme hlt
      go_wp2_with fail
      go_ret
      exact ⟨w.heap.size + 1, rfl, by omega, HF.out, HB.out⟩
end Go.Proofs.YtnpdblcfhbamiaaGreat.Nm.Ty
