import Derived.Test.YtelbakkgobkdaaaDoorVfInv
import Derived.Test.YtelbakkgobkdaaaDoorVfNew2
import Derived.ScopeJumps
import Derived.WalkMore
namespace Go.Proofs.YtelbakkgobkdaaaDoor.Vf
open Go.RowKit Go.Proofs.YtelbakkgobkdaaaDoor.Nm

/-- of the blocks that were, only one has turned -/
structure Fg (b : Nat) (w w' : World) : Prop where
  os : w'.os = w.os
  tape : w'.tape = w.tape
  output : w'.output = w.output
  size : w.heap.size ≤ w'.heap.size
  block : ∀ k, k < w.heap.size → k ≠ b → w'.heap[k]? = w.heap[k]?
theorem Fg.refl (b : Nat) (w : World) : Fg b w w := ⟨rfl, rfl, rfl, Nat.le_refl _, fun _ _ _ => rfl⟩
theorem Fg.trans {b : Nat} {w w' w'' : World} (h : Fg b w w') (h2 : Fg b w' w'') : Fg b w w'' :=
  ⟨h2.os.trans h.os, h2.tape.trans h.tape, h2.output.trans h.output, Nat.le_trans h.size h2.size, fun k hk hn => (h2.block k (Nat.lt_of_lt_of_le hk h.size) hn).trans (h.block k hk hn)⟩
theorem Fg.of {b : Nat} {w w' : World} (h : Below w.heap.size w w') : Fg b w w' := ⟨h.os, h.tape, h.output, h.size, fun k hk _ => h.block k hk⟩
theorem Fg.put {b k : Nat} {s : Sd} (w : World) : Fg b w (put8 w b k s) := by
  have hb : Below 0 w (put8 w b k s) := put8_below (Below.refl 0 w) (Nat.zero_le _)
  refine ⟨hb.os, hb.tape, hb.output, ?_, fun j _ hn => put8_old hn⟩
  simp [put8]
theorem Fg.row {b : Nat} {W w' : World} (cs : Array Value) {k : Nat} (hk : W.heap.size ≤ k) (hs : W.heap.size ≤ w'.heap.size) : Fg b W w' → Fg b W (w'.setRow k cs) := fun h =>
  ⟨h.os, h.tape, h.output, by simpa using hs, fun j hj hn => (setRow_other _ _ _ _ (by omega)).trans (h.block j hj hn)⟩
theorem Wa.row {w W : World} {wb gb : Nat} {v : PV} {p : Pg} {eo : Option Addr} {ec gc : Nat} {g : Nat → Option Sd} (h : Wa w W wb gb v p eo ec gc g) (kb : Nat) (cs : Array Value) (h0 : w.heap.size ≤ kb) (h1 : wb ≠ kb) (h2 : gb ≠ kb) (h3 : ∀ b o, eo = some ⟨b, o, none⟩ → b ≠ kb) : Wa w (W.setRow kb cs) wb gb v p eo ec gc g :=
  ⟨⟨(setRow_other _ _ _ _ h1).trans h.wk.hw, h.pg.below (below_setRow h.bel h0), fun j x hx => by
      obtain ⟨b, f, e, hl, hc⟩ := h.wk.ev j x hx
      have hs : (W.setRow kb cs).heap[b]? = W.heap[b]? := setRow_other _ _ _ _ (h3 b f e)
      exact ⟨b, f, e, by simpa using hl, (World.cell?_of_block (a := ⟨b, f + j, none⟩) hs).trans hc⟩, (setRow_other _ _ _ _ h2).trans h.wk.gt⟩, h.pg, below_setRow h.bel h0, h.lw, h.lg, h.ne, h.en⟩
/-- what walk tells -/
structure WlP (w0 W : World) (wb gb : Nat) (v : PV) (p : Pg) (eo : Option Addr) (ec gc : Nat) (R : Except (Nat × Nat) (Nat → Option Sd)) (e : Ending) (W' : World) : Prop where
  fg : Fg gb W W'
  bel : Below w0.heap.size w0 W'
  err : ∀ er i, R = .error (er, i) → e = .returned (.agg #[.int .i64 (er : Int), .int .i64 (i : Int)]) ∧ er ≠ 0
  ok : ∀ g, R = .ok g → e = .returned (.agg #[.int .i64 0, .int .i64 0]) ∧ Wa w0 W' wb gb v p eo ec gc g ∧ Inv p g
theorem idxw0 (a0 a1 a2 a3 a4 a5 a6 a7 a8 b0 b1 b2 b3 b4 b5 b6 b7 b8 : Value) (u : World) : (Instr.index 103 (.agg #[a0, a1, a2, a3, a4, a5, a6, a7, a8, b0, b1, b2, b3, b4, b5, b6, b7, b8]) (.int .i64 0)).run Tryd.prog u = .ok (.agg #[a0, a1, a2, a3, a4, a5, a6, a7, a8]) u := by kernel_rfl
theorem idxw1 (a0 a1 a2 a3 a4 a5 a6 a7 a8 b0 b1 b2 b3 b4 b5 b6 b7 b8 : Value) (u : World) : (Instr.index 103 (.agg #[a0, a1, a2, a3, a4, a5, a6, a7, a8, b0, b1, b2, b3, b4, b5, b6, b7, b8]) (.int .i64 1)).run Tryd.prog u = .ok (.agg #[b0, b1, b2, b3, b4, b5, b6, b7, b8]) u := by kernel_rfl
/-- the cells of one way -/
theorem wy_run (l : List (Int × Sd)) (m : Nat) (hm : m < 2) : ∀ u : World, (Instr.index 103 (.agg (wysC l).toArray) (.int .i64 (m : Int))).run Tryd.prog u = .ok (.agg (wyC l[m]?).toArray) u := by
  intro u
  have h2 : m = 0 ∨ m = 1 := by omega
  unfold wysC
  rcases h2 with rfl | rfl
  · cases l[0]? with
    | none => cases l[1]? with
      | none => exact idxw0 _ _ _ _ _ _ _ _ _ _ _ _ _ _ _ _ _ _ u
      | some y => exact idxw0 _ _ _ _ _ _ _ _ _ _ _ _ _ _ _ _ _ _ u
    | some x => cases l[1]? with
      | none => exact idxw0 _ _ _ _ _ _ _ _ _ _ _ _ _ _ _ _ _ _ u
      | some y => exact idxw0 _ _ _ _ _ _ _ _ _ _ _ _ _ _ _ _ _ _ u
  · cases l[0]? with
    | none => cases l[1]? with
      | none => exact idxw1 _ _ _ _ _ _ _ _ _ _ _ _ _ _ _ _ _ _ u
      | some y => exact idxw1 _ _ _ _ _ _ _ _ _ _ _ _ _ _ _ _ _ _ u
    | some x => cases l[1]? with
      | none => exact idxw1 _ _ _ _ _ _ _ _ _ _ _ _ _ _ _ _ _ _ u
      | some y => exact idxw1 _ _ _ _ _ _ _ _ _ _ _ _ _ _ _ _ _ _ u
/-- where the walk stands, with the box of a way -/
structure St (w0 W : World) (wb gb : Nat) (v : PV) (p : Pg) (eo : Option Addr) (ec gc : Nat) (g : Nat → Option Sd) (bx : Nat) (cs : Array Value) (X : World) : Prop where
  wa : Wa w0 X wb gb v p eo ec gc g
  fg : Fg gb W X
  ef : Ef X
  fb : X.heap[W.heap.size]? = some (.cells #[.int .i64 0, .int .i64 0] 35 (0, 0))
  bh : X.heap[bx]? = some (.cells cs 102 (0, 0))
theorem St.below {w0 W X X' : World} {wb gb : Nat} {v : PV} {p : Pg} {eo : Option Addr} {ec gc : Nat} {g : Nat → Option Sd} {bx : Nat} {cs : Array Value} (h : St w0 W wb gb v p eo ec gc g bx cs X) (hb : Below X.heap.size X X') : St w0 W wb gb v p eo ec gc g bx cs X' :=
  ⟨h.wa.below hb, h.fg.trans (Fg.of hb), h.ef.below hb, (hb.block _ (blk_lt h.fb)).trans h.fb, (hb.block _ (blk_lt h.bh)).trans h.bh⟩
theorem Ef.put {w : World} {b k : Nat} {s : Sd} (h : Ef w) (hb : b ≠ 0) : Ef (put8 w b k s) :=
  ⟨Nat.lt_of_lt_of_le h.pos (Fg.put (b := b) w).size, fun op ho => ⟨(World.cell?_of_block (a := ⟨0, op * 3, none⟩) (put8_old (Ne.symm hb))).trans (h.cell op ho).1, (World.cell?_of_block (a := ⟨0, op * 3 + 1, none⟩) (put8_old (Ne.symm hb))).trans (h.cell op ho).2.1, (World.cell?_of_block (a := ⟨0, op * 3 + 2, none⟩) (put8_old (Ne.symm hb))).trans (h.cell op ho).2.2⟩⟩
theorem give_nil {n : Nat} {g : Nat → Option Sd} : giveW n [] g = .ok g := rfl
set_option maxHeartbeats 25600000 in
set_option maxRecDepth 100000 in
/-- walk -/
theorem walk_any {w0 W : World} {wb gb : Nat} {v : PV} {p : Pg} {eo : Option Addr} {ec gc : Nat} {g0 : Nat → Option Sd} (hA : Wa w0 W wb gb v p eo ec gc g0) (hI : Inv p g0) (hE : Ef W) (hgz : gb ≠ 0) (hk : ∀ i, i < p.cd.length → OkI p (p.at i)) (hl : p.cd.length ≤ 262144) :
    Calls Tryd.prog 27 #[.pointer (some ⟨wb, 0, none⟩)] W (WlP w0 W wb gb v p eo ec gc (walkP p p.cd.length 0 g0)) := by
  obtain ⟨qo, qc, vo, vc, tto, tc, oo, oc, co, cc⟩ := v
  have hl' : (p.cd.length : Int) ≤ 262144 := by omega
  obtain ⟨R, hR⟩ : ∃ R, R = walkP p p.cd.length 0 g0 := ⟨_, rfl⟩
  rw [← hR]
  have HK : Hid (∀ i, i < p.cd.length → OkI p (p.at i)) := hk
  have hbA : Below W.heap.size W (W.alloc (.cells #[.int .i64 0, .int .i64 0] 35)) := (Below.refl _ W).alloc (Nat.le_refl _) _
  have H0 : Hid (Wa w0 (W.alloc (.cells #[.int .i64 0, .int .i64 0] 35)) wb gb ⟨qo, qc, vo, vc, tto, tc, oo, oc, co, cc⟩ p eo ec gc g0 ∧ Inv p g0 ∧ Fg gb W (W.alloc (.cells #[.int .i64 0, .int .i64 0] 35)) ∧ Ef (W.alloc (.cells #[.int .i64 0, .int .i64 0] 35)) ∧ (W.alloc (.cells #[.int .i64 0, .int .i64 0] 35)).heap[W.heap.size]? = some (.cells #[.int .i64 0, .int .i64 0] 35 (0, 0)) ∧ R = walkP p p.cd.length 0 g0) := ⟨hA.below hbA, hI, Fg.of hbA, hE.below hbA, heap_alloc_new _ _, hR⟩
  have HC : Hid (gb < W.heap.size ∧ gb ≠ 0 ∧ w0.heap.size ≤ W.heap.size) := ⟨blk_lt hA.wk.gt, hgz, hA.bel.size⟩
  have HD : Hid (wb < W.heap.size ∧ ∀ b o, eo = some ⟨b, o, none⟩ → b < W.heap.size) := ⟨blk_lt hA.wk.hw, fun b o e => by
    have hz0 : 0 < (evs p).length := by unfold evs; simp
    obtain ⟨g1, f1, e1, hl1, -⟩ := rd_int hA.wk.ev hz0
    rw [e] at e1
    cases e1
    exact hl1⟩
  obtain ⟨-, -, -, -, -, c5, -, -⟩ := cells8 (hA.below hbA).wk.hw
  dsimp only at c5
  clear hA hI hE hbA hk hR hgz
  go_enter Tryd.func27, Tryd.ntmps27
  go_wp2_with fail
  generalize W.alloc (.cells #[.int .i64 0, .int .i64 0] 35) = W0 at *
  refine wp_scope_jumps 0 (fun a' w' => ∃ (er i : Nat), R = .error (er, i) ∧ er ≠ 0 ∧ Fg gb W w' ∧ Below w0.heap.size w0 w' ∧ w'.heap[W.heap.size]? = some (.cells #[.int .i64 0, .int .i64 0] 35 (0, 0)) ∧ ∃ u0 u1 u5 u6 u7 u8 u9 u10 u11 u12 u13 u14 u15 u16 u17 u18 u19 u20 u21 u22 u23 u24 u25 u26 u27 u28 u29 u30 u31 u32 u33 u34 u35 u36 u37 u38 u39 u40 u41 u42 u43 u44 u45 u46 u47 u48 u49 u50 u51 u52 u53 u54 u55 u56 u57 u58 u59 u60 u61 u62 u63 u64 u65 u66 u67 u68 u69 u70 u71 u72 u73 u74 u75 u76 u77 u78, a' = { tmps := #[u0, u1, .pointer (some ⟨W.heap.size, 0, none⟩), (.int .i64 (i : Int)), (.int .i64 (er : Int)), u5, u6, u7, u8, u9, u10, u11, u12, u13, u14, u15, u16, u17, u18, u19, u20, u21, u22, u23, u24, u25, u26, u27, u28, u29, u30, u31, u32, u33, u34, u35, u36, u37, u38, u39, u40, u41, u42, u43, u44, u45, u46, u47, u48, u49, u50, u51, u52, u53, u54, u55, u56, u57, u58, u59, u60, u61, u62, u63, u64, u65, u66, u67, u68, u69, u70, u71, u72, u73, u74, u75, u76, u77, u78], defers := [] }) (fun _ _ => 0) rfl ?_ ?_
  rotate_left
  · rintro a' w' ⟨er, i, hr, hne, hfg, hbe, hfb, u0, u1, u5, u6, u7, u8, u9, u10, u11, u12, u13, u14, u15, u16, u17, u18, u19, u20, u21, u22, u23, u24, u25, u26, u27, u28, u29, u30, u31, u32, u33, u34, u35, u36, u37, u38, u39, u40, u41, u42, u43, u44, u45, u46, u47, u48, u49, u50, u51, u52, u53, u54, u55, u56, u57, u58, u59, u60, u61, u62, u63, u64, u65, u66, u67, u68, u69, u70, u71, u72, u73, u74, u75, u76, u77, u78, rfl⟩
    have HJ : Hid (R = .error (er, i) ∧ er ≠ 0 ∧ Fg gb W w' ∧ Below w0.heap.size w0 w') := ⟨hr, hne, hfg, hbe⟩
    clear hr hne hfg hbe
    go_wp2_with (refine wpList_store_row rfl 35 _ _ rfl W.heap.size _ rfl rfl 35 _ hfb (by kernel_rfl) rfl (by kernel_rfl) ?_)
    have hh := setRow_heap _ _ _ #[.int .i64 (er : Int), .int .i64 (i : Int)] _ _ hfb
    have hl0 : w0.heap.size ≤ W.heap.size := by have := HC.out.2.2; omega
    refine bodyPost_ret (results_cell_row (P := Tryd.prog) (fn := Tryd.f27) Tryd.results27 _ _ W.heap.size 35 #[.int .i64 (er : Int), .int .i64 (i : Int)] (0, 0) _ rfl hh Tryd.underlying35 rfl (by kernel_rfl)) rfl ?_
    refine ⟨Fg.row _ (Nat.le_refl _) HJ.out.2.2.1.size HJ.out.2.2.1, below_setRow HJ.out.2.2.2 hl0, fun er' i' e => ?_, fun g e => ?_⟩
    · rw [HJ.out.1] at e
      cases e
      exact ⟨rfl, HJ.out.2.1⟩
    · rw [HJ.out.1] at e
      cases e
  go_wp2_with fail
  go_step3
  go_wp2_with fail
  clear c5
  go_loopg [13] p.cd.length (fun gq x wr => ∃ (i : Nat) (g : Nat → Option Sd), i ≤ p.cd.length ∧ gq = p.cd.length - i ∧ x = .int .i64 (i : Int) ∧ Wa w0 wr wb gb ⟨qo, qc, vo, vc, tto, tc, oo, oc, co, cc⟩ p eo ec gc g ∧ Inv p g ∧ Fg gb W wr ∧ Ef wr ∧ wr.heap[W.heap.size]? = some (.cells #[.int .i64 0, .int .i64 0] 35 (0, 0)) ∧ R = walkP p (p.cd.length - i) i g)
  case atStart => exact ⟨0, g0, Nat.zero_le _, rfl, rfl, H0.out.1, H0.out.2.1, H0.out.2.2.1, H0.out.2.2.2.1, H0.out.2.2.2.2.1, H0.out.2.2.2.2.2⟩
  case round =>
    obtain ⟨i, g, hi, hgk, rfl, hwa, hinv, hfg, hef, hfb, hr⟩ := hrel
    clear H0
    by_cases hlt : i < p.cd.length
    case neg =>
      have hlt' : ¬ (i : Int) < (p.cd.length : Int) := by omega
      obtain rfl : i = p.cd.length := by omega
      have hr2 : R = .ok g := by rw [hr, Nat.sub_self]; rfl
      have hlF : W.heap.size < wr.heap.size := blk_lt hfb
      have hl0 : w0.heap.size ≤ W.heap.size := HC.out.2.2
      have HF : Hid (WlP w0 W wb gb ⟨qo, qc, vo, vc, tto, tc, oo, oc, co, cc⟩ p eo ec gc R (.returned (.agg #[.int .i64 0, .int .i64 0])) (wr.setRow W.heap.size #[.int .i64 0, .int .i64 0])) := by
        have hW1 : Wa w0 (wr.setRow W.heap.size #[.int .i64 0, .int .i64 0]) wb gb ⟨qo, qc, vo, vc, tto, tc, oo, oc, co, cc⟩ p eo ec gc g := hwa.row W.heap.size _ hl0 (by have := HD.out.1; omega) (by have := HC.out.1; omega) (fun b o e => by have := HD.out.2 b o e; omega)
        exact ⟨Fg.row _ (Nat.le_refl _) hfg.size hfg, below_setRow hwa.bel hl0, fun er i e => (by rw [hr2] at e; cases e), fun g' e => (by rw [hr2] at e; cases e; exact ⟨rfl, hW1, hinv⟩)⟩
      have HFb : Hid (wr.heap[W.heap.size]? = some (.cells #[.int .i64 0, .int .i64 0] 35 (0, 0))) := hfb
      clear hgk hi hlt hwa hinv hfg hef hfb hr hr2
      go_wp2_with (refine wpList_store_row rfl 35 _ _ rfl W.heap.size _ rfl rfl 35 _ HFb.out (by kernel_rfl) rfl (by kernel_rfl) ?_)
      have hh := setRow_heap _ _ _ #[.int .i64 0, .int .i64 0] _ _ HFb.out
      simp only [Exit.jump]
      refine bodyPost_ret (results_cell_row (P := Tryd.prog) (fn := Tryd.f27) Tryd.results27 _ _ W.heap.size 35 #[.int .i64 0, .int .i64 0] (0, 0) _ rfl hh Tryd.underlying35 rfl (by kernel_rfl)) rfl ?_
      exact HF.out
    have hlt' : (i : Int) < (p.cd.length : Int) := by omega
    have HLo : Hid (Calls Tryd.prog 42 #[.pointer (some ⟨wb, 0, none⟩), .int .i64 (i : Int)] wr fun e w' => e = .returned (.int .i64 (lookN p g i : Int)) ∧ Below wr.heap.size wr w') := by
      cases hg : g i with
      | none =>
        have e : lookN p g i = 99 := by unfold lookN; rw [hg]
        rw [e]
        exact look_none hwa.wk i hlt hg
      | some s => exact look_some hwa.wk hef hinv i hlt (HK.out i hlt) s hg
    have HG : Hid (gk = p.cd.length - i ∧ i < p.cd.length ∧ Wa w0 wr wb gb ⟨qo, qc, vo, vc, tto, tc, oo, oc, co, cc⟩ p eo ec gc g ∧ Inv p g ∧ Fg gb W wr ∧ Ef wr ∧ wr.heap[W.heap.size]? = some (.cells #[.int .i64 0, .int .i64 0] 35 (0, 0)) ∧ R = walkP p (p.cd.length - i) i g) := ⟨hgk, hlt, hwa, hinv, hfg, hef, hfb, hr⟩
    clear hi hgk hwa hinv hfg hef hfb hr hlt
    go_wp2_with fail
    refine Calls.mono HLo.out ?_
    rintro e w1 ⟨rfl, hb1⟩
    have HB1 : Hid (Below wr.heap.size wr w1) := hb1
    clear hb1 HLo
    by_cases hlk : lookN p g i = 0
    case neg =>
      have hlk' : ¬ (lookN p g i : Int) = 0 := by omega
      have hr2 : R = .error (lookN p g i, i) := by
        rw [HG.out.2.2.2.2.2.2.2, show p.cd.length - i = (p.cd.length - i - 1) + 1 by have := HG.out.2.1; omega]
        show (match stepP p g i with | .error e => _ | .ok g' => _) = _
        have e : stepP p g i = .error (lookN p g i) := by unfold stepP; rw [if_neg hlk]
        rw [e]
      have HR2 : Hid (R = .error (lookN p g i, i) ∧ lookN p g i ≠ 0) := ⟨hr2, hlk⟩
      have hfb1 : w1.heap[W.heap.size]? = some (.cells #[.int .i64 0, .int .i64 0] 35 (0, 0)) := (HB1.out.block _ (blk_lt HG.out.2.2.2.2.2.2.1)).trans HG.out.2.2.2.2.2.2.1
      clear hr2 hlk
      have HJ2 : Hid (Fg gb W w1 ∧ Below w0.heap.size w0 w1) := ⟨HG.out.2.2.2.2.1.trans (Fg.of HB1.out), HG.out.2.2.1.bel.trans (HB1.out.mono HG.out.2.2.1.bel.size)⟩
      have HFb1 : Hid (w1.heap[W.heap.size]? = some (.cells #[.int .i64 0, .int .i64 0] 35 (0, 0))) := hfb1
      clear hfb1
      generalize lookN p g i = er at *
      go_wp2_with fail
      go_step3
      exact ⟨rfl, er, i, HR2.out.1, HR2.out.2, HJ2.out.1, HJ2.out.2, HFb1.out, by repeat (first | exact rfl | apply Exists.intro)⟩
    obtain ⟨s, hs⟩ := look_some_of hlk
    obtain ⟨hf, hgo⟩ := look_fits hs hlk
    have hwa1 := HG.out.2.2.1.below HB1.out
    have HWy : Hid (Calls Tryd.prog 43 #[.pointer (some ⟨wb, 0, none⟩), .int .i64 (i : Int)] w1 fun e w' => e = .returned (.agg (wysC (waysL p g i s)).toArray) ∧ Below w1.heap.size w1 w') := ways_any hwa1.wk (HG.out.2.2.2.2.2.1.below HB1.out) HG.out.2.2.2.1 i HG.out.2.1 (HK.out i HG.out.2.1) s hs hf (fun e => go_turn hgo e)
    have HWo : Hid (∀ x ∈ waysL p g i s, WOk p g x) := ways_ok HG.out.2.2.2.1 HG.out.2.1 (HK.out i HG.out.2.1) hs hf hgo
    have HLn : Hid ((waysL p g i s).length ≤ 2) := by
      show _ ≤ 2
      unfold waysL
      dsimp only
      repeat (first | split | simp)
    have HRs : Hid (R = match giveW p.cd.length (waysL p g i s) g with | .error e => .error (e, i) | .ok g' => walkP p (p.cd.length - (i + 1)) (i + 1) g') := by
      show _ = _
      rw [HG.out.2.2.2.2.2.2.2, show p.cd.length - i = (p.cd.length - (i + 1)) + 1 by have := HG.out.2.1; omega]
      have e : stepP p g i = giveW p.cd.length (waysL p g i s) g := by unfold stepP; rw [if_pos hlk, hs]
      show (match stepP p g i with | .error e => _ | .ok g' => _) = _
      rw [e]
    generalize waysL p g i s = l at *
    have hlk0 : (lookN p g i : Int) = 0 := by omega
    clear hwa1 hs hf hgo hlk
    go_wp2_with fail
    refine Calls.mono HWy.out ?_
    rintro e w2 ⟨rfl, hb2⟩
    have hb12 : Below wr.heap.size wr w2 := HB1.out.trans (hb2.mono HB1.out.size)
    have HI0 : Hid (Wa w0 w2 wb gb ⟨qo, qc, vo, vc, tto, tc, oo, oc, co, cc⟩ p eo ec gc g ∧ Inv p g ∧ Fg gb W w2 ∧ Ef w2 ∧ w2.heap[W.heap.size]? = some (.cells #[.int .i64 0, .int .i64 0] 35 (0, 0))) := ⟨HG.out.2.2.1.below hb12, HG.out.2.2.2.1, HG.out.2.2.2.2.1.trans (Fg.of hb12), HG.out.2.2.2.2.2.1.below hb12, (hb12.block _ (blk_lt HG.out.2.2.2.2.2.2.1)).trans HG.out.2.2.2.2.2.2.1⟩
    have HG2 : Hid (gk = p.cd.length - i ∧ i < p.cd.length) := ⟨HG.out.1, HG.out.2.1⟩
    obtain ⟨gko, hgko⟩ : ∃ q, q = gk := ⟨_, rfl⟩
    clear hb2 hb12 HWy HB1 HG hlk0
    go_wp2_with fail
    go_loopg [24] 2 (fun gq x wr => ∃ (m : Nat) (gq' : Nat → Option Sd), m ≤ 2 ∧ gq = 2 - m ∧ x = .int .i64 (m : Int) ∧ Wa w0 wr wb gb ⟨qo, qc, vo, vc, tto, tc, oo, oc, co, cc⟩ p eo ec gc gq' ∧ Inv p gq' ∧ Fg gb W wr ∧ Ef wr ∧ wr.heap[W.heap.size]? = some (.cells #[.int .i64 0, .int .i64 0] 35 (0, 0)) ∧ (∀ x ∈ l.drop m, WOk p gq' x) ∧ giveW p.cd.length (l.drop m) gq' = giveW p.cd.length l g)
    case atStart => exact ⟨0, g, by omega, rfl, rfl, HI0.out.1, HI0.out.2.1, HI0.out.2.2.1, HI0.out.2.2.2.1, HI0.out.2.2.2.2, HWo.out, rfl⟩
    case round =>
      obtain ⟨m, g1, hm, hgk2, rfl, hwa, hinv, hfg, hef, hfb, hwo, hgv⟩ := hrel
      clear HI0 HWo
      have HS0 : Hid (Wa w0 wr wb gb ⟨qo, qc, vo, vc, tto, tc, oo, oc, co, cc⟩ p eo ec gc g1 ∧ Inv p g1 ∧ Fg gb W wr ∧ Ef wr ∧ wr.heap[W.heap.size]? = some (.cells #[.int .i64 0, .int .i64 0] 35 (0, 0))) := ⟨hwa, hinv, hfg, hef, hfb⟩
      have HV : Hid ((∀ x ∈ l.drop m, WOk p g1 x) ∧ giveW p.cd.length (l.drop m) g1 = giveW p.cd.length l g ∧ gk = 2 - m ∧ m ≤ 2) := ⟨hwo, hgv, hgk2, hm⟩
      clear hwa hinv hfg hef hfb hwo hgv hgk2
      by_cases hm2 : m < 2
      case neg =>
        obtain rfl : m = 2 := by omega
        have hd0 : l.drop 2 = [] := List.drop_eq_nil_of_le HLn.out
        have HRn : Hid (R = walkP p (p.cd.length - (i + 1)) (i + 1) g1) := by
          have h1 := HV.out.2.1
          rw [hd0, give_nil] at h1
          have h2 := HRs.out
          rw [← h1] at h2
          exact h2
        clear hd0 hm hm2 HV
        go_wp2_with fail
        go_roundg (p.cd.length - (i + 1))
        case measure => have h1 := HG2.out.1; have := HG2.out.2; omega
        case rel => exact ⟨i + 1, g1, HG2.out.2, rfl, by go_num, HS0.out.1, HS0.out.2.1, HS0.out.2.2.1, HS0.out.2.2.2.1, HS0.out.2.2.2.2, HRn.out⟩
      have hm2' : (m : Int) < 2 := by omega
      have hrun := wy_run l m hm2
      cases hlm : l[m]? with
      | none =>
        have hd0 : l.drop m = [] := List.drop_eq_nil_of_le (by rw [List.getElem?_eq_none_iff] at hlm; exact hlm)
        have HRn : Hid (R = walkP p (p.cd.length - (i + 1)) (i + 1) g1) := by
          have h1 := HV.out.2.1
          rw [hd0, give_nil] at h1
          have h2 := HRs.out
          rw [← h1] at h2
          exact h2
        rw [hlm] at hrun
        have hrun2 : ∀ u : World, (Instr.index 103 (.agg (wysC l).toArray) (.int .i64 (m : Int))).run Tryd.prog u = .ok (.agg #[.int .i64 0, .int .u64 0, .int .u64 0, .int .u64 0, .int .u64 0, .bool false, .int .i64 0, .int .i64 0, .int .i64 (-1)]) u := hrun
        have hb3 : Below wr.heap.size wr (wr.alloc (.cells #[.int .i64 0, .int .u64 0, .int .u64 0, .int .u64 0, .int .u64 0, .bool false, .int .i64 0, .int .i64 0, .int .i64 (-1)] 102)) := (Below.refl _ wr).alloc (Nat.le_refl _) _
        have HS1 : Hid (Wa w0 (wr.alloc (.cells #[.int .i64 0, .int .u64 0, .int .u64 0, .int .u64 0, .int .u64 0, .bool false, .int .i64 0, .int .i64 0, .int .i64 (-1)] 102)) wb gb ⟨qo, qc, vo, vc, tto, tc, oo, oc, co, cc⟩ p eo ec gc g1 ∧ Inv p g1 ∧ Fg gb W (wr.alloc (.cells #[.int .i64 0, .int .u64 0, .int .u64 0, .int .u64 0, .int .u64 0, .bool false, .int .i64 0, .int .i64 0, .int .i64 (-1)] 102)) ∧ Ef (wr.alloc (.cells #[.int .i64 0, .int .u64 0, .int .u64 0, .int .u64 0, .int .u64 0, .bool false, .int .i64 0, .int .i64 0, .int .i64 (-1)] 102)) ∧ (wr.alloc (.cells #[.int .i64 0, .int .u64 0, .int .u64 0, .int .u64 0, .int .u64 0, .bool false, .int .i64 0, .int .i64 0, .int .i64 (-1)] 102)).heap[W.heap.size]? = some (.cells #[.int .i64 0, .int .i64 0] 35 (0, 0))) := ⟨HS0.out.1.below hb3, HS0.out.2.1, HS0.out.2.2.1.trans (Fg.of hb3), HS0.out.2.2.2.1.below hb3, (hb3.block _ (blk_lt HS0.out.2.2.2.2)).trans HS0.out.2.2.2.2⟩
        clear hrun hlm hd0 hb3 hm hm2 HV HS0
        go_wp2_with fail
        go_roundg (p.cd.length - (i + 1))
        case measure => have h1 := HG2.out.1; have := HG2.out.2; omega
        case rel => exact ⟨i + 1, g1, HG2.out.2, rfl, by go_num, HS1.out.1, HS1.out.2.1, HS1.out.2.2.1, HS1.out.2.2.2.1, HS1.out.2.2.2.2, HRn.out⟩
      | some xy =>
        obtain ⟨k, sx⟩ := xy
        have hml : m < l.length := (List.getElem?_eq_some_iff.1 hlm).1
        have hlm2 : l[m] = (k, sx) := (List.getElem?_eq_some_iff.1 hlm).2
        have hdm : l.drop m = (k, sx) :: l.drop (m + 1) := by rw [List.drop_eq_getElem_cons hml, hlm2]
        have hwk := HV.out.1 (k, sx) (by rw [hdm]; simp)
        obtain ⟨kn, rfl⟩ : ∃ kn : Nat, k = (kn : Int) := ⟨k.toNat, by have := hwk.lo; omega⟩
        have hkn : kn ≤ p.cd.length := by have := hwk.hi; omega
        have hgv1 := HV.out.2.1
        rw [hdm] at hgv1
        rw [hlm] at hrun
        have hrun2 : ∀ u : World, (Instr.index 103 (.agg (wysC l).toArray) (.int .i64 (m : Int))).run Tryd.prog u = .ok (.agg #[.int .i64 (sx.ty.length : Int), .int .u64 (wd sx.ty 0 : Int), .int .u64 (wd sx.ty 1 : Int), .int .u64 (wd sx.ty 2 : Int), .int .u64 (wd sx.ty 3 : Int), .bool true, .int .i64 (sx.hand : Int), .int .i64 sx.turn, .int .i64 (kn : Int)]) u := hrun
        have hb3 : Below wr.heap.size wr (wr.alloc (.cells #[.int .i64 (sx.ty.length : Int), .int .u64 (wd sx.ty 0 : Int), .int .u64 (wd sx.ty 1 : Int), .int .u64 (wd sx.ty 2 : Int), .int .u64 (wd sx.ty 3 : Int), .bool true, .int .i64 (sx.hand : Int), .int .i64 sx.turn, .int .i64 (kn : Int)] 102)) := (Below.refl _ wr).alloc (Nat.le_refl _) _
        have HS1 : Hid (St w0 W wb gb ⟨qo, qc, vo, vc, tto, tc, oo, oc, co, cc⟩ p eo ec gc g1 wr.heap.size #[.int .i64 (sx.ty.length : Int), .int .u64 (wd sx.ty 0 : Int), .int .u64 (wd sx.ty 1 : Int), .int .u64 (wd sx.ty 2 : Int), .int .u64 (wd sx.ty 3 : Int), .bool true, .int .i64 (sx.hand : Int), .int .i64 sx.turn, .int .i64 (kn : Int)] (wr.alloc (.cells #[.int .i64 (sx.ty.length : Int), .int .u64 (wd sx.ty 0 : Int), .int .u64 (wd sx.ty 1 : Int), .int .u64 (wd sx.ty 2 : Int), .int .u64 (wd sx.ty 3 : Int), .bool true, .int .i64 (sx.hand : Int), .int .i64 sx.turn, .int .i64 (kn : Int)] 102))) := ⟨HS0.out.1.below hb3, HS0.out.2.2.1.trans (Fg.of hb3), HS0.out.2.2.2.1.below hb3, (hb3.block _ (blk_lt HS0.out.2.2.2.2)).trans HS0.out.2.2.2.2, heap_alloc_new _ _⟩
        have hbn : wr.heap.size ≠ gb := by have := blk_lt HS0.out.1.wk.gt; omega
        have HIv : Hid (Inv p g1 ∧ WOk p g1 ((kn : Int), sx) ∧ (∀ x ∈ l.drop (m + 1), WOk p g1 x) ∧ giveW p.cd.length (((kn : Int), sx) :: l.drop (m + 1)) g1 = giveW p.cd.length l g ∧ wr.heap.size ≠ gb ∧ gk = 2 - m ∧ m < 2) := ⟨HS0.out.2.1, hwk, fun x hx => HV.out.1 x (by rw [hdm]; exact List.mem_cons_of_mem _ hx), hgv1, hbn, HV.out.2.2.1, hm2⟩
        clear hrun hlm hlm2 hdm hwk hgv1 hb3 hbn HV HS0 hml hm hm2
        go_upto_region 12 with fail
        generalize wr.heap.size = bx at *
        generalize wr.alloc (.cells #[.int .i64 (sx.ty.length : Int), .int .u64 (wd sx.ty 0 : Int), .int .u64 (wd sx.ty 1 : Int), .int .u64 (wd sx.ty 2 : Int), .int .u64 (wd sx.ty 3 : Int), .bool true, .int .i64 (sx.hand : Int), .int .i64 sx.turn, .int .i64 (kn : Int)] 102) = W1 at *
        obtain ⟨q0, q1, q2, q3, q4, q5, q6, q7, q8⟩ := cells9 HS1.out.bh
        obtain ⟨-, -, -, -, -, -, -, c7⟩ := cells8 HS1.out.wa.wk.hw
        have hfin : ∀ (er : Nat) (X : World), er ≠ 0 → giveW p.cd.length (((kn : Int), sx) :: l.drop (m + 1)) g1 = .error er → St w0 W wb gb ⟨qo, qc, vo, vc, tto, tc, oo, oc, co, cc⟩ p eo ec gc g1 bx #[.int .i64 (sx.ty.length : Int), .int .u64 (wd sx.ty 0 : Int), .int .u64 (wd sx.ty 1 : Int), .int .u64 (wd sx.ty 2 : Int), .int .u64 (wd sx.ty 3 : Int), .bool true, .int .i64 (sx.hand : Int), .int .i64 sx.turn, .int .i64 (kn : Int)] X → (R = .error (er, i) ∧ er ≠ 0 ∧ Fg gb W X ∧ Below w0.heap.size w0 X ∧ X.heap[W.heap.size]? = some (.cells #[.int .i64 0, .int .i64 0] 35 (0, 0))) := fun er X hne hg hX => by
          refine ⟨?_, hne, hX.fg, hX.wa.bel, hX.fb⟩
          have h2 := HRs.out
          rw [← HIv.out.2.2.2.1, hg] at h2
          exact h2
        have HFin : Hid (∀ (er : Nat) (X : World), er ≠ 0 → giveW p.cd.length (((kn : Int), sx) :: l.drop (m + 1)) g1 = .error er → St w0 W wb gb ⟨qo, qc, vo, vc, tto, tc, oo, oc, co, cc⟩ p eo ec gc g1 bx #[.int .i64 (sx.ty.length : Int), .int .u64 (wd sx.ty 0 : Int), .int .u64 (wd sx.ty 1 : Int), .int .u64 (wd sx.ty 2 : Int), .int .u64 (wd sx.ty 3 : Int), .bool true, .int .i64 (sx.hand : Int), .int .i64 sx.turn, .int .i64 (kn : Int)] X → (R = .error (er, i) ∧ er ≠ 0 ∧ Fg gb W X ∧ Below w0.heap.size w0 X ∧ X.heap[W.heap.size]? = some (.cells #[.int .i64 0, .int .i64 0] 35 (0, 0)))) := hfin
        clear hfin
        by_cases hkl : kn = p.cd.length
        · subst hkl
          have HQ : Hid (∀ nq, R = .error (98, i) ∧ 98 ≠ 0 ∧ Fg gb W (W1.drewN nq) ∧ Below w0.heap.size w0 (W1.drewN nq) ∧ (W1.drewN nq).heap[W.heap.size]? = some (.cells #[.int .i64 0, .int .i64 0] 35 (0, 0))) := fun nq => HFin.out 98 _ (by decide) (by unfold giveW; rw [if_pos rfl]) (HS1.out.below (drN _ _))
          clear HFin HIv HS1 HRs
          go_quiet (fail)
          go_wp2_with fail
          have HQ2 := show Hid _ from HQ.out nq
          go_step3
          exact ⟨rfl, 98, i, HQ2.out.1, HQ2.out.2.1, HQ2.out.2.2.1, HQ2.out.2.2.2.1, HQ2.out.2.2.2.2, by repeat (first | exact rfl | apply Exists.intro)⟩
        have hkl' : kn < p.cd.length := by omega
        have hkI : (kn : Int) < (p.cd.length : Int) := by omega
        have hkb : ((kn : Int) == (p.cd.length : Int)) = false := by simp; omega
        have hkN : ¬ (kn : Int) = (p.cd.length : Int) := by omega
        go_quiet (fail)
        go_upto_region 14 with fail
        have HS2 : Hid (St w0 W wb gb ⟨qo, qc, vo, vc, tto, tc, oo, oc, co, cc⟩ p eo ec gc g1 bx #[.int .i64 (sx.ty.length : Int), .int .u64 (wd sx.ty 0 : Int), .int .u64 (wd sx.ty 1 : Int), .int .u64 (wd sx.ty 2 : Int), .int .u64 (wd sx.ty 3 : Int), .bool true, .int .i64 (sx.hand : Int), .int .i64 sx.turn, .int .i64 (kn : Int)] (W1.drewN nq)) := HS1.out.below (drN _ _)
        clear q0 q1 q2 q3 q4 q5 q6 q7 q8 c7 HS1
        generalize W1.drewN nq = W2 at *
        obtain ⟨q0, q1, q2, q3, q4, q5, q6, q7, q8⟩ := cells9 HS2.out.bh
        obtain ⟨-, -, -, -, -, -, -, c7⟩ := cells8 HS2.out.wa.wk.hw
        cases hgk1 : g1 kn with
        | none =>
          obtain ⟨-, -, -, -, -, e5, -, -⟩ := HS2.out.wa.wk.isN hkl' hgk1
          have HNx : Hid (giveW p.cd.length (l.drop (m + 1)) (upd g1 kn sx) = giveW p.cd.length l g ∧ Inv p (upd g1 kn sx) ∧ (∀ x ∈ l.drop (m + 1), WOk p (upd g1 kn sx) x)) := by
            refine ⟨?_, ?_, fun x hx => (HIv.out.2.2.1 x hx).upd hgk1⟩
            · rw [← HIv.out.2.2.2.1]
              show _ = (if (kn : Int) = (p.cd.length : Int) then _ else match g1 (kn : Int).toNat with | none => _ | some t => _)
              rw [if_neg hkN, Int.toNat_natCast, hgk1]
            · have := Inv.upd HIv.out.1 HIv.out.2.1 hkI (by show g1 (kn : Int).toNat = none; rw [Int.toNat_natCast]; exact hgk1)
              rw [show ((kn : Int), sx).1.toNat = kn from Int.toNat_natCast kn] at this
              exact this
          go_quiet (fail)
          go_upto_region 15 with fail
          have HS3 : Hid (St w0 W wb gb ⟨qo, qc, vo, vc, tto, tc, oo, oc, co, cc⟩ p eo ec gc g1 bx #[.int .i64 (sx.ty.length : Int), .int .u64 (wd sx.ty 0 : Int), .int .u64 (wd sx.ty 1 : Int), .int .u64 (wd sx.ty 2 : Int), .int .u64 (wd sx.ty 3 : Int), .bool true, .int .i64 (sx.hand : Int), .int .i64 sx.turn, .int .i64 (kn : Int)] (W2.drewN nq)) := HS2.out.below (drN _ _)
          clear q0 q1 q2 q3 q4 q5 q6 q7 q8 c7 HS2 e5
          generalize W2.drewN nq = W3 at *
          refine wp_region_held (S := fun w' : World => w'.cell? ⟨bx, 0, none⟩ = some (.int .i64 (sx.ty.length : Int)) ∧ w'.cell? ⟨bx, 1, none⟩ = some (.int .u64 (wd sx.ty 0 : Int)) ∧ w'.cell? ⟨bx, 2, none⟩ = some (.int .u64 (wd sx.ty 1 : Int)) ∧ w'.cell? ⟨bx, 3, none⟩ = some (.int .u64 (wd sx.ty 2 : Int)) ∧ w'.cell? ⟨bx, 4, none⟩ = some (.int .u64 (wd sx.ty 3 : Int)) ∧ w'.cell? ⟨bx, 5, none⟩ = some (.bool true) ∧ w'.cell? ⟨bx, 6, none⟩ = some (.int .i64 (sx.hand : Int)) ∧ w'.cell? ⟨bx, 7, none⟩ = some (.int .i64 sx.turn) ∧ w'.cell? ⟨bx, 8, none⟩ = some (.int .i64 (kn : Int)) ∧ w'.cell? ⟨wb, 7, none⟩ = some (.slice (some ⟨gb, 0, none⟩) p.cd.length gc)) (by kernel_rfl) ?_
          change wpAnyH _ _ _ _ _ _ _ _ W3.drew
          have HS4 : Hid (St w0 W wb gb ⟨qo, qc, vo, vc, tto, tc, oo, oc, co, cc⟩ p eo ec gc g1 bx #[.int .i64 (sx.ty.length : Int), .int .u64 (wd sx.ty 0 : Int), .int .u64 (wd sx.ty 1 : Int), .int .u64 (wd sx.ty 2 : Int), .int .u64 (wd sx.ty 3 : Int), .bool true, .int .i64 (sx.hand : Int), .int .i64 sx.turn, .int .i64 (kn : Int)] W3.drew) := HS3.out.below (Below.refl _ W3).drew
          clear HS3
          generalize W3.drew = W4 at *
          have hS : (fun w' : World => w'.cell? ⟨bx, 0, none⟩ = some (.int .i64 (sx.ty.length : Int)) ∧ w'.cell? ⟨bx, 1, none⟩ = some (.int .u64 (wd sx.ty 0 : Int)) ∧ w'.cell? ⟨bx, 2, none⟩ = some (.int .u64 (wd sx.ty 1 : Int)) ∧ w'.cell? ⟨bx, 3, none⟩ = some (.int .u64 (wd sx.ty 2 : Int)) ∧ w'.cell? ⟨bx, 4, none⟩ = some (.int .u64 (wd sx.ty 3 : Int)) ∧ w'.cell? ⟨bx, 5, none⟩ = some (.bool true) ∧ w'.cell? ⟨bx, 6, none⟩ = some (.int .i64 (sx.hand : Int)) ∧ w'.cell? ⟨bx, 7, none⟩ = some (.int .i64 sx.turn) ∧ w'.cell? ⟨bx, 8, none⟩ = some (.int .i64 (kn : Int)) ∧ w'.cell? ⟨wb, 7, none⟩ = some (.slice (some ⟨gb, 0, none⟩) p.cd.length gc)) W4 := by
            obtain ⟨q0, q1, q2, q3, q4, q5, q6, q7, q8⟩ := cells9 HS4.out.bh
            obtain ⟨-, -, -, -, -, -, -, c7⟩ := cells8 HS4.out.wa.wk.hw
            exact ⟨q0, q1, q2, q3, q4, q5, q6, q7, q8, c7⟩
          have HSp : Hid ((fun w' : World => w'.cell? ⟨bx, 0, none⟩ = some (.int .i64 (sx.ty.length : Int)) ∧ w'.cell? ⟨bx, 1, none⟩ = some (.int .u64 (wd sx.ty 0 : Int)) ∧ w'.cell? ⟨bx, 2, none⟩ = some (.int .u64 (wd sx.ty 1 : Int)) ∧ w'.cell? ⟨bx, 3, none⟩ = some (.int .u64 (wd sx.ty 2 : Int)) ∧ w'.cell? ⟨bx, 4, none⟩ = some (.int .u64 (wd sx.ty 3 : Int)) ∧ w'.cell? ⟨bx, 5, none⟩ = some (.bool true) ∧ w'.cell? ⟨bx, 6, none⟩ = some (.int .i64 (sx.hand : Int)) ∧ w'.cell? ⟨bx, 7, none⟩ = some (.int .i64 sx.turn) ∧ w'.cell? ⟨bx, 8, none⟩ = some (.int .i64 (kn : Int)) ∧ w'.cell? ⟨wb, 7, none⟩ = some (.slice (some ⟨gb, 0, none⟩) p.cd.length gc)) (put8 W4 gb kn sx)) := by
            obtain ⟨q0, q1, q2, q3, q4, q5, q6, q7, q8⟩ := cells9 ((put8_old HIv.out.2.2.2.2.1).trans HS4.out.bh)
            obtain ⟨-, -, -, -, -, -, -, c7⟩ := cells8 (HS4.out.wa.put hkl' sx).wk.hw
            exact ⟨q0, q1, q2, q3, q4, q5, q6, q7, q8, c7⟩
          have HN4 : Hid (Wa w0 (put8 W4 gb kn sx) wb gb ⟨qo, qc, vo, vc, tto, tc, oo, oc, co, cc⟩ p eo ec gc (upd g1 kn sx) ∧ Fg gb W (put8 W4 gb kn sx) ∧ Ef (put8 W4 gb kn sx) ∧ (put8 W4 gb kn sx).heap[W.heap.size]? = some (.cells #[.int .i64 0, .int .i64 0] 35 (0, 0))) := ⟨HS4.out.wa.put hkl' sx, HS4.out.fg.trans (Fg.put _), Ef.put HS4.out.ef HC.out.2.1, (put8_old (by have := HC.out.1; omega)).trans HS4.out.fb⟩
          clear HFin HRs
          refine tqA 0 rfl hS ?_
          refine tqA 1 rfl hS ?_
          refine tqA 2 rfl hS ?_
          refine tqA 3 rfl hS ?_
          refine tqA 4 rfl hS ?_
          refine tqA 5 rfl hS ?_
          refine tqA 6 rfl hS ?_
          refine tqA 7 rfl hS ?_
          refine wpAnyH_ready (rs := [8]) (by kernel_rfl) (by simp) ?_
          refine AllReadyH.cons rfl (fun K hK => ?_) AllReadyH.nil
          go_simp
          refine hK.out _ _ hS (fun hS => ?_)
          obtain ⟨v0, v1, v2, v3, v4, v5, v6, v7, a0, a1, a2, a3, a4, a5, a6, a7⟩ := HS4.out.wa.wk.any hkl'
          have fz : ∀ j, W4.frozen? ⟨gb, j, none⟩ = false := fun j => by have := HS4.out.wa.wk.gt; simp only [World.frozen?, this]; rfl
          refine wpAnyH_ready (rs := [9]) (by kernel_rfl) (by simp) ?_
          refine AllReadyH.cons rfl (fun K hK => ?_) AllReadyH.nil
          go_simp
          refine hK.out _ _ HSp.out (fun hS => ?_)
          refine wpAnyH_done (by kernel_rfl) ?_ _
          have HN5 : Hid (Wa w0 ((((((((W4.setCell ⟨gb, kn * 8, none⟩ (.int .i64 (sx.ty.length : Int))).setCell ⟨gb, kn * 8 + 1, none⟩ (.int .u64 (wd sx.ty 0 : Int))).setCell ⟨gb, kn * 8 + 2, none⟩ (.int .u64 (wd sx.ty 1 : Int))).setCell ⟨gb, kn * 8 + 3, none⟩ (.int .u64 (wd sx.ty 2 : Int))).setCell ⟨gb, kn * 8 + 4, none⟩ (.int .u64 (wd sx.ty 3 : Int))).setCell ⟨gb, kn * 8 + 5, none⟩ (.bool true)).setCell ⟨gb, kn * 8 + 6, none⟩ (.int .i64 (sx.hand : Int))).setCell ⟨gb, kn * 8 + 7, none⟩ (.int .i64 sx.turn)) wb gb ⟨qo, qc, vo, vc, tto, tc, oo, oc, co, cc⟩ p eo ec gc (upd g1 kn sx) ∧ Fg gb W ((((((((W4.setCell ⟨gb, kn * 8, none⟩ (.int .i64 (sx.ty.length : Int))).setCell ⟨gb, kn * 8 + 1, none⟩ (.int .u64 (wd sx.ty 0 : Int))).setCell ⟨gb, kn * 8 + 2, none⟩ (.int .u64 (wd sx.ty 1 : Int))).setCell ⟨gb, kn * 8 + 3, none⟩ (.int .u64 (wd sx.ty 2 : Int))).setCell ⟨gb, kn * 8 + 4, none⟩ (.int .u64 (wd sx.ty 3 : Int))).setCell ⟨gb, kn * 8 + 5, none⟩ (.bool true)).setCell ⟨gb, kn * 8 + 6, none⟩ (.int .i64 (sx.hand : Int))).setCell ⟨gb, kn * 8 + 7, none⟩ (.int .i64 sx.turn)) ∧ Ef ((((((((W4.setCell ⟨gb, kn * 8, none⟩ (.int .i64 (sx.ty.length : Int))).setCell ⟨gb, kn * 8 + 1, none⟩ (.int .u64 (wd sx.ty 0 : Int))).setCell ⟨gb, kn * 8 + 2, none⟩ (.int .u64 (wd sx.ty 1 : Int))).setCell ⟨gb, kn * 8 + 3, none⟩ (.int .u64 (wd sx.ty 2 : Int))).setCell ⟨gb, kn * 8 + 4, none⟩ (.int .u64 (wd sx.ty 3 : Int))).setCell ⟨gb, kn * 8 + 5, none⟩ (.bool true)).setCell ⟨gb, kn * 8 + 6, none⟩ (.int .i64 (sx.hand : Int))).setCell ⟨gb, kn * 8 + 7, none⟩ (.int .i64 sx.turn)) ∧ ((((((((W4.setCell ⟨gb, kn * 8, none⟩ (.int .i64 (sx.ty.length : Int))).setCell ⟨gb, kn * 8 + 1, none⟩ (.int .u64 (wd sx.ty 0 : Int))).setCell ⟨gb, kn * 8 + 2, none⟩ (.int .u64 (wd sx.ty 1 : Int))).setCell ⟨gb, kn * 8 + 3, none⟩ (.int .u64 (wd sx.ty 2 : Int))).setCell ⟨gb, kn * 8 + 4, none⟩ (.int .u64 (wd sx.ty 3 : Int))).setCell ⟨gb, kn * 8 + 5, none⟩ (.bool true)).setCell ⟨gb, kn * 8 + 6, none⟩ (.int .i64 (sx.hand : Int))).setCell ⟨gb, kn * 8 + 7, none⟩ (.int .i64 sx.turn)).heap[W.heap.size]? = some (.cells #[.int .i64 0, .int .i64 0] 35 (0, 0))) := HN4.out
          clear hK K hS a0 a1 a2 a3 a4 a5 a6 a7 fz HSp HS4 HN4
          generalize ((((((((W4.setCell ⟨gb, kn * 8, none⟩ (.int .i64 (sx.ty.length : Int))).setCell ⟨gb, kn * 8 + 1, none⟩ (.int .u64 (wd sx.ty 0 : Int))).setCell ⟨gb, kn * 8 + 2, none⟩ (.int .u64 (wd sx.ty 1 : Int))).setCell ⟨gb, kn * 8 + 3, none⟩ (.int .u64 (wd sx.ty 2 : Int))).setCell ⟨gb, kn * 8 + 4, none⟩ (.int .u64 (wd sx.ty 3 : Int))).setCell ⟨gb, kn * 8 + 5, none⟩ (.bool true)).setCell ⟨gb, kn * 8 + 6, none⟩ (.int .i64 (sx.hand : Int))).setCell ⟨gb, kn * 8 + 7, none⟩ (.int .i64 sx.turn)) = W5 at *
          go_wp2_with fail
          go_roundg (2 - (m + 1))
          case measure => have h1 := HIv.out.2.2.2.2.2.1; have := HIv.out.2.2.2.2.2.2; omega
          case rel => exact ⟨m + 1, _, by have := HIv.out.2.2.2.2.2.2; omega, rfl, by go_num, HN5.out.1, HNx.out.2.1, HN5.out.2.1, HN5.out.2.2.1, HN5.out.2.2.2, HNx.out.2.2, HNx.out.1⟩
        | some tx =>
          obtain ⟨e0, e1, e2, e3, e4, e5, e6, e7⟩ := HS2.out.wa.wk.isS hkl' hgk1
          have HSm : Hid (∀ X, Calls Tryd.prog 44 #[.agg (sdV tx), .agg (sdV sx)] X fun e w' => e = .returned (.bool (sameS tx sx)) ∧ Below X.heap.size X w') := fun X => same_any tx sx HIv.out.2.1.ht X
          have hgv2 : giveW p.cd.length (((kn : Int), sx) :: l.drop (m + 1)) g1 = if sameS tx sx then giveW p.cd.length (l.drop (m + 1)) g1 else .error 94 := by
            show (if (kn : Int) = (p.cd.length : Int) then _ else match g1 (kn : Int).toNat with | none => _ | some t => _) = _
            rw [if_neg hkN, Int.toNat_natCast, hgk1]
          have HGv : Hid (giveW p.cd.length (((kn : Int), sx) :: l.drop (m + 1)) g1 = if sameS tx sx then giveW p.cd.length (l.drop (m + 1)) g1 else .error 94) := hgv2
          have HTx : Hid (g1 kn = some tx) := hgk1
          clear hgv2 hgk1
          generalize sameS tx sx = sm at *
          unfold sdV at HSm
          go_quiet (fail)
          go_upto_region 16 with fail
          have HS3 : Hid (St w0 W wb gb ⟨qo, qc, vo, vc, tto, tc, oo, oc, co, cc⟩ p eo ec gc g1 bx #[.int .i64 (sx.ty.length : Int), .int .u64 (wd sx.ty 0 : Int), .int .u64 (wd sx.ty 1 : Int), .int .u64 (wd sx.ty 2 : Int), .int .u64 (wd sx.ty 3 : Int), .bool true, .int .i64 (sx.hand : Int), .int .i64 sx.turn, .int .i64 (kn : Int)] (W2.drewN nq)) := HS2.out.below (drN _ _)
          clear q0 q1 q2 q3 q4 q5 q6 q7 q8 c7 HS2 e0 e1 e2 e3 e4 e5 e6 e7
          generalize W2.drewN nq = W3 at *
          refine wp_region_held (S := fun w' : World => w'.cell? ⟨bx, 0, none⟩ = some (.int .i64 (sx.ty.length : Int)) ∧ w'.cell? ⟨bx, 1, none⟩ = some (.int .u64 (wd sx.ty 0 : Int)) ∧ w'.cell? ⟨bx, 2, none⟩ = some (.int .u64 (wd sx.ty 1 : Int)) ∧ w'.cell? ⟨bx, 3, none⟩ = some (.int .u64 (wd sx.ty 2 : Int)) ∧ w'.cell? ⟨bx, 4, none⟩ = some (.int .u64 (wd sx.ty 3 : Int)) ∧ w'.cell? ⟨bx, 5, none⟩ = some (.bool true) ∧ w'.cell? ⟨bx, 6, none⟩ = some (.int .i64 (sx.hand : Int)) ∧ w'.cell? ⟨bx, 7, none⟩ = some (.int .i64 sx.turn) ∧ w'.cell? ⟨bx, 8, none⟩ = some (.int .i64 (kn : Int)) ∧ w'.cell? ⟨wb, 7, none⟩ = some (.slice (some ⟨gb, 0, none⟩) p.cd.length gc) ∧ w'.cell? ⟨gb, kn * 8, none⟩ = some (.int .i64 (tx.ty.length : Int)) ∧ w'.cell? ⟨gb, kn * 8 + 1, none⟩ = some (.int .u64 (wd tx.ty 0 : Int)) ∧ w'.cell? ⟨gb, kn * 8 + 2, none⟩ = some (.int .u64 (wd tx.ty 1 : Int)) ∧ w'.cell? ⟨gb, kn * 8 + 3, none⟩ = some (.int .u64 (wd tx.ty 2 : Int)) ∧ w'.cell? ⟨gb, kn * 8 + 4, none⟩ = some (.int .u64 (wd tx.ty 3 : Int)) ∧ w'.cell? ⟨gb, kn * 8 + 5, none⟩ = some (.bool true) ∧ w'.cell? ⟨gb, kn * 8 + 6, none⟩ = some (.int .i64 (tx.hand : Int)) ∧ w'.cell? ⟨gb, kn * 8 + 7, none⟩ = some (.int .i64 tx.turn)) (by kernel_rfl) ?_
          change wpAnyH _ _ _ _ _ _ _ _ W3.drew
          have HS4 : Hid (St w0 W wb gb ⟨qo, qc, vo, vc, tto, tc, oo, oc, co, cc⟩ p eo ec gc g1 bx #[.int .i64 (sx.ty.length : Int), .int .u64 (wd sx.ty 0 : Int), .int .u64 (wd sx.ty 1 : Int), .int .u64 (wd sx.ty 2 : Int), .int .u64 (wd sx.ty 3 : Int), .bool true, .int .i64 (sx.hand : Int), .int .i64 sx.turn, .int .i64 (kn : Int)] W3.drew) := HS3.out.below (Below.refl _ W3).drew
          clear HS3
          generalize W3.drew = W4 at *
          have HSS : Hid (∀ X, Below W4.heap.size W4 X → (fun w' : World => w'.cell? ⟨bx, 0, none⟩ = some (.int .i64 (sx.ty.length : Int)) ∧ w'.cell? ⟨bx, 1, none⟩ = some (.int .u64 (wd sx.ty 0 : Int)) ∧ w'.cell? ⟨bx, 2, none⟩ = some (.int .u64 (wd sx.ty 1 : Int)) ∧ w'.cell? ⟨bx, 3, none⟩ = some (.int .u64 (wd sx.ty 2 : Int)) ∧ w'.cell? ⟨bx, 4, none⟩ = some (.int .u64 (wd sx.ty 3 : Int)) ∧ w'.cell? ⟨bx, 5, none⟩ = some (.bool true) ∧ w'.cell? ⟨bx, 6, none⟩ = some (.int .i64 (sx.hand : Int)) ∧ w'.cell? ⟨bx, 7, none⟩ = some (.int .i64 sx.turn) ∧ w'.cell? ⟨bx, 8, none⟩ = some (.int .i64 (kn : Int)) ∧ w'.cell? ⟨wb, 7, none⟩ = some (.slice (some ⟨gb, 0, none⟩) p.cd.length gc) ∧ w'.cell? ⟨gb, kn * 8, none⟩ = some (.int .i64 (tx.ty.length : Int)) ∧ w'.cell? ⟨gb, kn * 8 + 1, none⟩ = some (.int .u64 (wd tx.ty 0 : Int)) ∧ w'.cell? ⟨gb, kn * 8 + 2, none⟩ = some (.int .u64 (wd tx.ty 1 : Int)) ∧ w'.cell? ⟨gb, kn * 8 + 3, none⟩ = some (.int .u64 (wd tx.ty 2 : Int)) ∧ w'.cell? ⟨gb, kn * 8 + 4, none⟩ = some (.int .u64 (wd tx.ty 3 : Int)) ∧ w'.cell? ⟨gb, kn * 8 + 5, none⟩ = some (.bool true) ∧ w'.cell? ⟨gb, kn * 8 + 6, none⟩ = some (.int .i64 (tx.hand : Int)) ∧ w'.cell? ⟨gb, kn * 8 + 7, none⟩ = some (.int .i64 tx.turn)) X) := fun X hb => by
            obtain ⟨q0, q1, q2, q3, q4, q5, q6, q7, q8⟩ := cells9 (HS4.out.below hb).bh
            obtain ⟨-, -, -, -, -, -, -, c7⟩ := cells8 (HS4.out.below hb).wa.wk.hw
            obtain ⟨e0, e1, e2, e3, e4, e5, e6, e7⟩ := (HS4.out.below hb).wa.wk.isS hkl' HTx.out
            exact ⟨q0, q1, q2, q3, q4, q5, q6, q7, q8, c7, e0, e1, e2, e3, e4, e5, e6, e7⟩
          have hS : (fun w' : World => w'.cell? ⟨bx, 0, none⟩ = some (.int .i64 (sx.ty.length : Int)) ∧ w'.cell? ⟨bx, 1, none⟩ = some (.int .u64 (wd sx.ty 0 : Int)) ∧ w'.cell? ⟨bx, 2, none⟩ = some (.int .u64 (wd sx.ty 1 : Int)) ∧ w'.cell? ⟨bx, 3, none⟩ = some (.int .u64 (wd sx.ty 2 : Int)) ∧ w'.cell? ⟨bx, 4, none⟩ = some (.int .u64 (wd sx.ty 3 : Int)) ∧ w'.cell? ⟨bx, 5, none⟩ = some (.bool true) ∧ w'.cell? ⟨bx, 6, none⟩ = some (.int .i64 (sx.hand : Int)) ∧ w'.cell? ⟨bx, 7, none⟩ = some (.int .i64 sx.turn) ∧ w'.cell? ⟨bx, 8, none⟩ = some (.int .i64 (kn : Int)) ∧ w'.cell? ⟨wb, 7, none⟩ = some (.slice (some ⟨gb, 0, none⟩) p.cd.length gc) ∧ w'.cell? ⟨gb, kn * 8, none⟩ = some (.int .i64 (tx.ty.length : Int)) ∧ w'.cell? ⟨gb, kn * 8 + 1, none⟩ = some (.int .u64 (wd tx.ty 0 : Int)) ∧ w'.cell? ⟨gb, kn * 8 + 2, none⟩ = some (.int .u64 (wd tx.ty 1 : Int)) ∧ w'.cell? ⟨gb, kn * 8 + 3, none⟩ = some (.int .u64 (wd tx.ty 2 : Int)) ∧ w'.cell? ⟨gb, kn * 8 + 4, none⟩ = some (.int .u64 (wd tx.ty 3 : Int)) ∧ w'.cell? ⟨gb, kn * 8 + 5, none⟩ = some (.bool true) ∧ w'.cell? ⟨gb, kn * 8 + 6, none⟩ = some (.int .i64 (tx.hand : Int)) ∧ w'.cell? ⟨gb, kn * 8 + 7, none⟩ = some (.int .i64 tx.turn)) W4 := HSS.out _ (Below.refl _ _)
          refine tqA 0 rfl hS ?_
          refine tqA 1 rfl hS ?_
          refine tqA 2 rfl hS ?_
          refine tqA 3 rfl hS ?_
          refine tqA 4 rfl hS ?_
          refine tqA 5 rfl hS ?_
          refine tqA 6 rfl hS ?_
          refine tqA 7 rfl hS ?_
          refine tqA 8 rfl hS ?_
          refine tqA 9 rfl hS ?_
          refine wpAnyH_ready (rs := [10]) (by kernel_rfl) (by simp) ?_
          refine AllReadyH.cons rfl (fun K hK => ?_) AllReadyH.nil
          go_simp
          refine Calls.mono (HSm.out _) ?_
          rintro e w7 ⟨rfl, hb7⟩
          have HS7 : Hid (St w0 W wb gb ⟨qo, qc, vo, vc, tto, tc, oo, oc, co, cc⟩ p eo ec gc g1 bx #[.int .i64 (sx.ty.length : Int), .int .u64 (wd sx.ty 0 : Int), .int .u64 (wd sx.ty 1 : Int), .int .u64 (wd sx.ty 2 : Int), .int .u64 (wd sx.ty 3 : Int), .bool true, .int .i64 (sx.hand : Int), .int .i64 sx.turn, .int .i64 (kn : Int)] w7) := HS4.out.below hb7
          refine hK.out _ _ (HSS.out _ hb7) (fun hS => ?_)
          refine tqA 11 rfl hS ?_
          refine wpAnyH_ready (rs := [12]) (by kernel_rfl) (by simp) ?_
          refine AllReadyH.cons rfl (fun K hK => ?_) AllReadyH.nil
          go_simp
          refine hK.out _ _ hS (fun hS => ?_)
          refine wpAnyH_done (by kernel_rfl) ?_ _
          clear hK K hS hb7 HSS HS4 HSm
          cases sm
          · have HQ := show Hid _ from HFin.out 94 _ (by decide) HGv.out HS7.out
            clear HFin HIv HS7 HRs HGv HTx
            go_wp2_with fail
            go_step3
            exact ⟨rfl, 94, i, HQ.out.1, HQ.out.2.1, HQ.out.2.2.1, HQ.out.2.2.2.1, HQ.out.2.2.2.2, by repeat (first | exact rfl | apply Exists.intro)⟩
          · have HNx : Hid (giveW p.cd.length (l.drop (m + 1)) g1 = giveW p.cd.length l g) := HGv.out.symm.trans HIv.out.2.2.2.1
            clear HFin HRs HGv HTx
            go_wp2_with fail
            go_roundg (2 - (m + 1))
            case measure => have h1 := HIv.out.2.2.2.2.2.1; have := HIv.out.2.2.2.2.2.2; omega
            case rel => exact ⟨m + 1, g1, by have := HIv.out.2.2.2.2.2.2; omega, rfl, by go_num, HS7.out.wa, HIv.out.1, HS7.out.fg, HS7.out.ef, HS7.out.fb, HIv.out.2.2.1, HNx.out⟩
end Go.Proofs.YtelbakkgobkdaaaDoor.Vf
