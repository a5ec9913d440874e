import Derived.Test.YtjoflihimpipcabGreatK27
import Derived.BigRegion
set_option maxHeartbeats 12800000
set_option maxRecDepth 100000
namespace Go.Proofs.YtjoflihimpipcabGreat.Nm.Ty
open Go.RowKit Go.Maps Go.Proofs.YtjoflihimpipcabGreat.Sp Go.Proofs.YtjoflihimpipcabGreat.Lx Go.Proofs.YtjoflihimpipcabGreat.Gr Go.Proofs.YtjoflihimpipcabGreat.Nm
theorem cell_threeD (w : World) (T : TypeId) (a b c : Value) : ∀ j u, [a, b, c][j]? = some u → (w.alloc (.cells #[a, b, c] T)).drew.cell? ((⟨w.heap.size, 0, none⟩ : Addr).add j) = some u := by
  intro j u h
  have := Lib.cells_of_row (heap_alloc_new w (.cells #[a, b, c] T)) 3 j u (by simpa using h)
  exact this
theorem step_run {P : Program} {w w' : World} {ops : Array Oper} {o : Oper} {a : Act} {K : Act → World → Prop} {Q : Exit → Act → World → Prop} {E : Prop} {v x v' : Value} (hgd : o.guard = none) (s y : Operand) (t : TypeId)
    (ho : o.op = .call { callee := .builtin .append, args := #[s, y], argTypes := #[t, t] }) (hs : a.eval s = v) (hx : a.eval y = x) (hr : (Builtin.append_ #[t, t] o.type #[v, x]).run P w = .ok v' w') (h : K (a.put o.dst v') w') : if Region.wanted o (yielded ops a.tmps) = true then Oper.wp P o a w K Q else E := by
  have hw : Region.wanted o (yielded ops a.tmps) = true := by simp [Region.wanted, hgd]
  rw [if_pos hw]
  unfold Oper.wp execOp
  simp only [ho, resolve, invoke, builtin, Sem.run_bind, Sem.run_pure, Result.andThen_ok, List.map_toArray, List.map_cons, List.map_nil, hs, hx, hr]
  exact h
theorem kl_three (l : List Rz) (i : Nat) : (kl l i 3).map nc = [.int .i64 (kidp l i 0 : Int), .int .i64 (kidp l i 1 : Int), .int .i64 (kidp l i 2 : Int)] := by simp [kl, nc, List.range_succ]
theorem settle_var {l : List Rz} {qv : List Value} {nq : Nat} {ao qo po eo vo : Option Addr} {ac qc pc ec vcap i tb rb : Nat} {w0 w : World} {v : Nat → Int} {vv tv : Value} {vs : List (Int × Int × Int)} {ts : List Int} {rf : Nat → Int} (h : IsRg w0 l qv ao qo po eo) (hB : Below w0.heap.size w0 w) (hn : l.length ≤ 2932031007317) (hi : i < l.length) (hv : IsVals w0 vo (fL l.length (fun j => .int .i64 (v j)))) (hS : Sd w l.length tb rb vv tv vs ts rf) (hr : w0.heap.size ≤ rb) (hk : (rat l i).kind = 4) (hT : TreeZ l) (hk3 : km l i = 3) (hvl : vs.length ≤ 2932031007317) :
    Calls Tryz.prog 54 #[.agg (rgC l nq ao qo po eo ac qc pc ec), .pointer (some ⟨tb, 0, none⟩), .slice vo l.length vcap, .int .i64 (i : Int)] w (SetQ l v i tb rb vs ts rf w0 w) := by
  have hb1 : Below w.heap.size w (w.alloc (.cells (rgC l nq ao qo po eo ac qc pc ec) 77)) := (Below.refl _ w).alloc (Nat.le_refl _) _
  have HX := show Hid _ from heap_alloc_new w (.cells (rgC l nq ao qo po eo ac qc pc ec) 77)
  have hB1 := hB.trans (hb1.mono hB.size)
  have HS1 : Hid (Sd (w.alloc (.cells (rgC l nq ao qo po eo ac qc pc ec) 77)) l.length tb rb vv tv vs ts rf) := hS.below hb1
  have HB1 : Hid (Below w0.heap.size w (w.alloc (.cells (rgC l nq ao qo po eo ac qc pc ec) 77))) := hb1.mono hB.size
  have HRb : Hid (w0.heap.size ≤ rb) := hr
  obtain ⟨ga, oa, rfl, hga, c0, c1, c2, c3, c4⟩ := row_cells (h.below hB1).r hi
  obtain ⟨b0, b1, b2, b3⟩ := cells4 HX.out
  have hln : (l.length : Int) ≤ 2932031007317 := by omega
  have hi1 : (i : Int) < (l.length : Int) := by omega
  have HQ : Hid (∀ m : Nat, (if v (kidp l i 0) < v (kidp l i 1) ∨ v (kidp l i 2) < v (kidp l i 0) then 43 else 0) = m → setE l v i = m) := fun m e => by show setE l v i = m; unfold setE; rw [if_pos hk]; exact e
  have HQ2 : Hid (∀ (W' : World) (vv' : Value), setE l v i = 0 → Below w0.heap.size w W' → Sd W' l.length tb rb vv' tv (vs ++ [(v (kidp l i 0), v (kidp l i 1), v (kidp l i 2))]) ts rf → SetQ l v i tb rb vs ts rf w0 w (.returned (.int .i64 (0 : Int))) W') := fun W' _ e hb hs => setQ_of e hb (fun _ => hs) (if_pos hk).symm (if_neg (by omega)).symm (if_neg (by omega)).symm
  have HQ3 : Hid (∀ W' : World, setE l v i = 43 → Below w0.heap.size w W' → SetQ l v i tb rb vs ts rf w0 w (.returned (.int .i64 (43 : Int))) W') := fun W' e hb => setQ_of (vv' := vv) (tv' := tv) e hb (fun e => by cases e) rfl rfl rfl
  obtain ⟨j0, hj, hj0, hj1, hj2⟩ := info_parts infoV
  have HVl : Hid (vs.length ≤ 2932031007317) := hvl
  have HKd := show Hid _ from kids_any (nq := nq) (ac := ac) (qc := qc) (pc := pc) (ec := ec) i (h.below hB1) (by omega) hT hi
  have hl0 := (kid_at hT.whole hi (k := 0) (by omega)).1
  have hl1 := (kid_at hT.whole hi (k := 1) (by omega)).1
  have hl2 := (kid_at hT.whole hi (k := 2) (by omega)).1
  have HVa : Hid (∀ W : World, Below w0.heap.size w0 W → ∃ gv ov, vo = some ⟨gv, ov, none⟩ ∧ gv < W.heap.size ∧ W.cell? ⟨gv, ov + kidp l i 0, none⟩ = some (.int .i64 (v (kidp l i 0))) ∧ W.cell? ⟨gv, ov + kidp l i 1, none⟩ = some (.int .i64 (v (kidp l i 1))) ∧ W.cell? ⟨gv, ov + kidp l i 2, none⟩ = some (.int .i64 (v (kidp l i 2)))) := fun W hW => by
    obtain ⟨g0, o0, e0, h0, d0⟩ := (IsVals.below hv hW) _ _ (fL_at hl0)
    obtain ⟨g1, o1, e1, _, d1⟩ := (IsVals.below hv hW) _ _ (fL_at hl1)
    obtain ⟨g2, o2, e2, _, d2⟩ := (IsVals.below hv hW) _ _ (fL_at hl2)
    rw [e0] at e1 e2
    cases e1
    cases e2
    exact ⟨g0, o0, e0, h0, d0, d1, d2⟩
  have HB01 : Hid (Below w0.heap.size w0 (w.alloc (.cells (rgC l nq (some ⟨ga, oa, none⟩) qo po eo ac qc pc ec) 77))) := hB1
  rw [hk3, kl_three] at HKd
  rw [hk] at c0
  dsimp only [rgC] at *
  clear h hB hn hv hS hr hb1 hB1 hk hT hk3 hvl
  generalize v (kidp l i 0) = x0 at *
  generalize v (kidp l i 1) = x1 at *
  generalize v (kidp l i 2) = x2 at *
  generalize kidp l i 0 = p0 at *
  generalize kidp l i 1 = p1 at *
  generalize kidp l i 2 = p2 at *
  have hl0' : (p0 : Int) < (l.length : Int) := by omega
  have hl1' : (p1 : Int) < (l.length : Int) := by omega
  have hl2' : (p2 : Int) < (l.length : Int) := by omega
  go_enter Tryz.func54, Tryz.ntmps54
  go_wp2_with fail
  generalize (w.alloc (.cells #[.slice (some ⟨ga, oa, none⟩) l.length ac, .slice qo nq qc, .slice po l.length pc, .slice eo l.length ec] 77)) = w1 at *
  refine Calls.mono HKd.out ?_
  rintro e w2 ⟨kv, rfl, hko, hb2⟩
  have HS2 : Hid (Sd w2 l.length tb rb vv tv vs ts rf) := HS1.out.below hb2
  have HLo : Hid (w0.heap.size ≤ w1.heap.size) := by have h1 := HS1.out.lts; have h2 := HS1.out.lt; have := HRb.out; show _ ≤ _; omega
  have HB2 : Hid (Below w0.heap.size w w2) := HB1.out.trans (hb2.mono HLo.out)
  obtain ⟨gv, ov, rfl, hgv, d0, d1, d2⟩ := HVa.out w2 (HB01.out.trans (hb2.mono HB01.out.size))
  obtain ⟨ko, kc, rfl⟩ := own_form hko
  obtain ⟨gk, ok, rfl, hgk, m0⟩ := (vals_of hko) 0 _ rfl
  obtain ⟨gk1, ok1, e1, _, m1⟩ := (vals_of hko) 1 _ rfl
  obtain ⟨gk2, ok2, e2, _, m2⟩ := (vals_of hko) 2 _ rfl
  cases e1
  cases e2
  rw [Nat.add_zero] at m0
  clear hko hb2 HKd HS1 HB1 HVa HB01 c0 c1 c2 c3 c4 b0 b1 b2 b3 HX
  go_upto_region 4 with fail
  go_region
  have hb3 : Below w2.heap.size w2 (w2.alloc (.cells #[.int .i64 x0, .int .i64 x1, .int .i64 x2] 55)).drew := ((Below.refl _ w2).alloc (Nat.le_refl _) _).drew
  have HS3 : Hid (Sd (w2.alloc (.cells #[.int .i64 x0, .int .i64 x1, .int .i64 x2] 55)).drew l.length tb rb vv tv vs ts rf) := HS2.out.below hb3
  have HLo2 : Hid (w0.heap.size ≤ w2.heap.size) := by have h1 := HS2.out.lts; have h2 := HS2.out.lt; have := HRb.out; show _ ≤ _; omega
  have HB3 : Hid (Below w0.heap.size w (w2.alloc (.cells #[.int .i64 x0, .int .i64 x1, .int .i64 x2] 55)).drew) := HB2.out.trans (hb3.mono HLo2.out)
  obtain ⟨f0, f1, f2⟩ := cells3 (heap_alloc_new w2 (.cells #[.int .i64 x0, .int .i64 x1, .int .i64 x2] 55))
  have hvb : w2.heap.size < (w2.alloc (.cells #[.int .i64 x0, .int .i64 x1, .int .i64 x2] 55)).drew.heap.size := by simp
  have F0 : (w2.alloc (.cells #[.int .i64 x0, .int .i64 x1, .int .i64 x2] 55)).drew.cell? ⟨w2.heap.size, 0, none⟩ = some (.int .i64 x0) := f0
  have F1 : (w2.alloc (.cells #[.int .i64 x0, .int .i64 x1, .int .i64 x2] 55)).drew.cell? ⟨w2.heap.size, 1, none⟩ = some (.int .i64 x1) := f1
  have F2 : (w2.alloc (.cells #[.int .i64 x0, .int .i64 x1, .int .i64 x2] 55)).drew.cell? ⟨w2.heap.size, 2, none⟩ = some (.int .i64 x2) := f2
  have HVb : Hid ((w2.alloc (.cells #[.int .i64 x0, .int .i64 x1, .int .i64 x2] 55)).drew.heap[w2.heap.size]? = some (.cells #[.int .i64 x0, .int .i64 x1, .int .i64 x2] 55 (0, 0)) ∧ (∀ k, vv.ownBlock = some k → k < w2.heap.size) ∧ tb < w2.heap.size) := ⟨heap_alloc_new w2 _, fun k hk => (World.ownsRow.lt HS2.out.v k hk).2, HS2.out.lts⟩
  clear hb3 f0 f1 f2 HS2 HB2 d0 d1 d2 m0 m1 m2 HLo HLo2
  generalize (w2.alloc (.cells #[.int .i64 x0, .int .i64 x1, .int .i64 x2] 55)).drew = w3 at *
  generalize w2.heap.size = vb at *
  by_cases hy : x0 < x1
  · have HE := HQ.out 43 (if_pos (Or.inl hy))
    have HE2 := show Hid _ from HQ3.out _ HE HB3.out
    have hy' : decide (x0 < x1) = true := decide_eq_true hy
    clear HQ HQ2 HQ3 HE
    go_wp2_with fail
    go_ret
    exact HE2.out
  · by_cases hz : x2 < x0
    · have HE := HQ.out 43 (if_pos (Or.inr hz))
      have HE2 := show Hid _ from HQ3.out _ HE HB3.out
      have hy' : decide (x0 < x1) = false := decide_eq_false hy
      have hz' : decide (x0 > x2) = true := decide_eq_true hz
      clear HQ HQ2 HQ3 HE
      go_wp2_with fail
      go_ret
      exact HE2.out
    · have HE := HQ.out 0 (if_neg (by omega))
      have HE2 := show Hid _ from fun W' vv' => HQ2.out W' vv' HE
      have hy' : decide (x0 < x1) = false := decide_eq_false hy
      have hz' : decide (x0 > x2) = false := decide_eq_false hz
      clear HQ HQ2 HQ3 HE
      go_upto_region 7 with fail
      have hb4 : Below w3.heap.size w3 (w3.alloc (.cells #[.int .i64 x0, .int .i64 x1, .int .i64 x2] 55)).drew := ((Below.refl _ w3).alloc (Nat.le_refl _) _).drew
      have HS4 : Hid (Sd (w3.alloc (.cells #[.int .i64 x0, .int .i64 x1, .int .i64 x2] 55)).drew l.length tb rb vv tv vs ts rf) := HS3.out.below hb4
      have HB4 : Hid (Below w0.heap.size w (w3.alloc (.cells #[.int .i64 x0, .int .i64 x1, .int .i64 x2] 55)).drew) := HB3.out.trans (hb4.mono (by have h1 := HS3.out.lts; have h2 := HS3.out.lt; have := HRb.out; omega))
      obtain ⟨k0, k1, k2⟩ := cells3 HS3.out.b
      have K0 : w3.drew.cell? ⟨tb, 0, none⟩ = some vv := k0
      have K1 : (w3.alloc (.cells #[.int .i64 x0, .int .i64 x1, .int .i64 x2] 55)).drew.cell? ⟨tb, 0, none⟩ = some vv := (cells3 HS4.out.b).1
      have HVc : Hid ((w3.alloc (.cells #[.int .i64 x0, .int .i64 x1, .int .i64 x2] 55)).drew.heap[vb]? = some (.cells #[.int .i64 x0, .int .i64 x1, .int .i64 x2] 55 (0, 0))) := (hb4.block vb (blk_lt HVb.out.1)).trans HVb.out.1
      obtain ⟨xv', w5, hrun, ho, hG, -⟩ := run_app (P := Tryz.prog) (w3.alloc (.cells #[.int .i64 x0, .int .i64 x1, .int .i64 x2] 55)).drew (tb + 1) 38 38 55 j0 (.agg #[.int .i64 0, .int .i64 0, .int .i64 0]) 3 24 Tryz.underlying38 hj hj0 hj1 hj2 rfl (by decide) vv _ (vC vs) HS4.out.v (some ⟨w3.heap.size, 0, none⟩) 1 1 [.int .i64 x0, .int .i64 x1, .int .i64 x2] rfl (fun e => by cases e) (fun ad e => by cases e; exact cell_threeD w3 _ _ _ _) (by intro u hu; simp only [List.mem_cons, List.not_mem_nil, or_false] at hu; rcases hu with rfl | rfl | rfl <;> rfl) (by have := HVl.out; unfold maxLen; omega) (by have := HVl.out; omega) HS4.out.lts
      have HS5 := show Hid _ from HS4.out.pushV hG ho
      have HB5 : Hid (Below w0.heap.size w w5) := HB4.out.trans ⟨hG.os, hG.tape, hG.output, hG.size, fun k hk => hG.block k (by have h1 := HS4.out.lts; have h2 := HS4.out.lt; have := HRb.out; omega) fun e => by have h1 := (World.ownsRow.lt HS4.out.v k e.symm).1; have h2 := HS4.out.lt; have := HRb.out; omega⟩
      have eb5 : w5.heap[tb]? = some (.cells #[vv, tv, .slice (some ⟨rb, 0, none⟩) l.length l.length] 40 (0, 0)) := (hG.block tb HS4.out.lts fun e => by have := (World.ownsRow.lt HS4.out.v tb e.symm).1; omega).trans HS4.out.b
      have e5 : w5.cell? ⟨tb, 0, none⟩ = some vv := (cells3 eb5).1
      have f5 : w5.frozen? ⟨tb, 0, none⟩ = false := by simp only [World.frozen?, eb5]; rfl
      have HV5 : Hid (w5.heap[vb]? = some (.cells #[.int .i64 x0, .int .i64 x1, .int .i64 x2] 55 (0, 0))) := (hG.block vb (blk_lt HVc.out) fun e => by have := HVb.out.2.1 vb e.symm; omega).trans HVc.out
      obtain ⟨bo5, bc5, rfl⟩ := own_form ho
      have HRun := show Hid _ from hrun
      clear ho hG eb5 hb4 hrun hy hz
      refine wp_region_held (S := fun W => W.heap[vb]? = some (.cells #[.int .i64 x0, .int .i64 x1, .int .i64 x2] 55 (0, 0))) (by kernel_rfl) ?_
      have hS : (fun W : World => W.heap[vb]? = some (.cells #[.int .i64 x0, .int .i64 x1, .int .i64 x2] 55 (0, 0))) w3.drew := HVb.out.1
      change wpAnyH _ _ _ _ _ _ _ _ w3.drew
      refine wpAnyH_take (i := 0) (v := ?v0) rfl (by kernel_rfl) (by kernel_rfl) (by kernel_rfl) (fun _ _ _ h => h) (Or.inl ⟨by rfl, ?y0⟩) hS ?r0
      case y0 =>
        intro w hSw
        clear hSw
        first
          | (go_simp; done)
          | (go_simp; with_reducible rfl)
      refine wpAnyH_take (i := 1) (v := ?v1) rfl (by kernel_rfl) (by kernel_rfl) (by kernel_rfl) (fun _ _ _ h => h) (Or.inl ⟨by rfl, ?y1⟩) hS ?r1
      case y1 =>
        intro w hSw
        clear hSw
        first
          | (go_simp; done)
          | (go_simp; with_reducible rfl)
      refine wpAnyH_take (i := 2) (v := ?v2) rfl (by kernel_rfl) (by kernel_rfl) (by kernel_rfl) (fun _ _ _ h => h) (Or.inl ⟨by rfl, ?y2⟩) hS ?r2
      case y2 =>
        intro w hSw
        clear hSw
        first
          | (go_simp; done)
          | (go_simp; with_reducible rfl)
      refine wpAnyH_take (i := 3) (v := ?v3) rfl (by kernel_rfl) (by kernel_rfl) (by kernel_rfl) (fun _ _ _ h => h) (Or.inl ⟨by rfl, ?y3⟩) hS ?r3
      case y3 =>
        intro w hSw
        clear hSw
        first
          | (go_simp; done)
          | (go_simp; with_reducible rfl)
      refine wpAnyH_take (i := 5) (v := ?v5) rfl (by kernel_rfl) (by kernel_rfl) (by kernel_rfl) (fun _ _ _ h => h) (Or.inl ⟨by rfl, ?y5⟩) hS ?r5
      case y5 =>
        intro w hSw
        obtain ⟨g0, g1, g2⟩ := cells3 hSw
        first
          | (go_simp; done)
          | (go_simp; with_reducible rfl)
      refine wpAnyH_ready (rs := [4, 6]) (by kernel_rfl) (by simp) ?_
      refine AllReadyH.cons rfl (fun K hK => ?_) (AllReadyH.cons rfl (fun K hK => ?_) AllReadyH.nil)
      · go_simp
        refine hK.out _ _ HVb.out.1 (fun hS => ?_)
        refine wpAnyH_ready (rs := [6]) (by kernel_rfl) (by simp) ?_
        refine AllReadyH.cons rfl (fun K hK => ?_) AllReadyH.nil
        go_simp
        refine hK.out _ _ HVc.out (fun hS => ?_)
        refine wpAnyH_ready (rs := [7]) (by kernel_rfl) (by simp) ?_
        refine AllReadyH.cons rfl (fun K hK => ?_) AllReadyH.nil
        refine step_run rfl (.tmp 59) (.tmp 61) 38 rfl (by simp [Act.eval]) (by simp [Act.eval]) HRun.out ?_
        refine hK.out _ _ HV5.out (fun hS => ?_)
        refine wpAnyH_ready (rs := [8]) (by kernel_rfl) (by simp) ?_
        refine AllReadyH.cons rfl (fun K hK => ?_) AllReadyH.nil
        go_simp
        refine hK.out _ _ HV5.out (fun hS => ?_)
        refine wpAnyH_ready (rs := [9]) (by kernel_rfl) (by simp) ?_
        refine AllReadyH.cons rfl (fun K hK => ?_) AllReadyH.nil
        go_simp
        refine hK.out _ _ HV5.out (fun hS => ?_)
        refine wpAnyH_ready (rs := [10]) (by kernel_rfl) (by simp) ?_
        refine AllReadyH.cons rfl (fun K hK => ?_) AllReadyH.nil
        go_simp
        refine hK.out _ _ ((Below.heap_setCell w5 _ _ vb (by have := HVb.out.2.2; show vb ≠ tb; omega)).trans HV5.out) (fun hS => ?_)
        refine wpAnyH_done (by kernel_rfl) ?_ _
        go_wp2
        go_ret
        exact HE2.out _ _ (HB5.out.trans ((Below.refl _ _).setCell (p := ⟨tb, 0, none⟩) (by have h2 := HS4.out.lt; have := HRb.out; show _ ≤ tb; omega) _)) HS5.out
      · go_simp
        refine hK.out _ _ HVc.out (fun hS => ?_)
        refine wpAnyH_ready (rs := [4]) (by kernel_rfl) (by simp) ?_
        refine AllReadyH.cons rfl (fun K hK => ?_) AllReadyH.nil
        go_simp
        refine hK.out _ _ HVc.out (fun hS => ?_)
        refine wpAnyH_ready (rs := [7]) (by kernel_rfl) (by simp) ?_
        refine AllReadyH.cons rfl (fun K hK => ?_) AllReadyH.nil
        refine step_run rfl (.tmp 59) (.tmp 61) 38 rfl (by simp [Act.eval]) (by simp [Act.eval]) HRun.out ?_
        refine hK.out _ _ HV5.out (fun hS => ?_)
        refine wpAnyH_ready (rs := [8]) (by kernel_rfl) (by simp) ?_
        refine AllReadyH.cons rfl (fun K hK => ?_) AllReadyH.nil
        go_simp
        refine hK.out _ _ HV5.out (fun hS => ?_)
        refine wpAnyH_ready (rs := [9]) (by kernel_rfl) (by simp) ?_
        refine AllReadyH.cons rfl (fun K hK => ?_) AllReadyH.nil
        go_simp
        refine hK.out _ _ HV5.out (fun hS => ?_)
        refine wpAnyH_ready (rs := [10]) (by kernel_rfl) (by simp) ?_
        refine AllReadyH.cons rfl (fun K hK => ?_) AllReadyH.nil
        go_simp
        refine hK.out _ _ ((Below.heap_setCell w5 _ _ vb (by have := HVb.out.2.2; show vb ≠ tb; omega)).trans HV5.out) (fun hS => ?_)
        refine wpAnyH_done (by kernel_rfl) ?_ _
        go_wp2
        go_ret
        exact HE2.out _ _ (HB5.out.trans ((Below.refl _ _).setCell (p := ⟨tb, 0, none⟩) (by have h2 := HS4.out.lt; have := HRb.out; show _ ≤ tb; omega) _)) HS5.out
end Go.Proofs.YtjoflihimpipcabGreat.Nm.Ty
