import Derived.Test.YtnededkmjmbioabDoorVfOpg
import Derived.Test.YtnededkmjmbioabDoorJCh
namespace Go.Proofs.YtnededkmjmbioabDoor.Vf
open Go.RowKit Go.Proofs.YtnededkmjmbioabDoor.Nm
/-- what Run tells, fault or not, in one form -/
structure RuO (W : World) (p : Pg) (fe ft : Int) (o1 : Option Addr) (n1 m1 : Nat) (cm : Int) (w' : World) : Prop where
  bel : Below W.heap.size W w'
  err : ∀ e n, judge p = .error (e, n) → fe = (e : Int) ∧ ft = n
  ok : ∀ g, judge p = .ok g → fe = 0 ∧ ft = 0 ∧ n1 = p.on.length ∧ cm = cst p p.miss ∧ ∃ b, o1 = some ⟨b, 0, none⟩ ∧ Rd w' (some ⟨b, 0, none⟩) (iC (p.on.map (cst p)))
theorem run_o (v : PV) (p : Pg) (w : World) (hP : IsPg w v p) (hE : Ef w) : Calls Tryd.prog 8 #[.agg (pvC v p)] w fun e w' => ∃ fe ft o1 n1 m1 cm, e = .returned (.tuple #[.agg #[.slice o1 n1 m1, .int .i64 cm], .agg #[.int .i64 fe, .int .i64 ft]]) ∧ RuO w p fe ft o1 n1 m1 cm w' := by
  refine (run_any v p w hP hE).mono ?_
  rintro r w' h
  cases hj : judge p with
  | error x =>
    obtain ⟨e, n⟩ := x
    exact ⟨_, _, _, _, _, _, h.err e n hj, h.bel, fun e' n' h' => by rw [hj] at h'; cases h'; exact ⟨rfl, rfl⟩, fun g h' => by rw [hj] at h'; cases h'⟩
  | ok g =>
    obtain ⟨b, hb, -, hr⟩ := h.ok g hj
    exact ⟨_, _, _, _, _, _, hb, h.bel, fun e' n' h' => by rw [hj] at h'; (cases h'), fun g' _ => ⟨rfl, rfl, rfl, rfl, b, rfl, hr⟩⟩
theorem rd_map {W : World} {g : Nat} {l : List Int} {f : Int → Int} (h : Rd W (some ⟨g, 0, none⟩) (iC (l.map f))) {k : Nat} (hk : k < l.length) : W.cell? ⟨g, k, none⟩ = some (.int .i64 (f (l.getD k 0))) := by
  obtain ⟨g', f', e, -, hc⟩ := h k (.int .i64 (f (l.getD k 0))) (by simp [iC, hk, List.getD_eq_getElem?_getD])
  cases e
  rwa [Nat.zero_add] at hc
theorem Fg.bel {n b : Nat} {w W W' : World} (h : Fg b W W') (hb : Below n w W) (hn : n ≤ b) (hs : n ≤ W.heap.size) : Below n w W' :=
  ⟨h.os.trans hb.os, h.tape.trans hb.tape, h.output.trans hb.output, Nat.le_trans hb.size h.size, fun k hk => (h.block k (by omega) (by omega)).trans (hb.block k hk)⟩
set_option maxHeartbeats 12800000 in
set_option maxRecDepth 100000 in
theorem roundsWalk (w : World) (v : PV) (p : Pg) (hp : RdPg w v p) (bo : Option Addr) (bc : Nat) (bl : List Int) (hr : Rd w bo (iC bl)) (hm : bl.length ≤ maxLen) (_ : ∀ n ∈ bl, -9223372036854775808 ≤ n ∧ n ≤ 9223372036854775807) (hE : Ef w) :
    Calls Tryd.prog 4 #[.agg (pvC v p), .slice bo bl.length bc] w fun e w' => e = .returned (.bool true) ∧ Below w.heap.size w w' := by
  have HEf : Hid (∀ W, Below w.heap.size w W → Ef W) := fun W hb => hE.below hb
  have HHd : Hid (∀ W, Below w.heap.size w W → Calls Tryd.prog 7 #[] W fun e w' => e = .returned (.bool true) ∧ Below W.heap.size W w') := fun W hb => head_any W (hE.below hb)
  have HFar : Hid (∀ W, Calls Tryd.prog 6 #[.agg (pvC v p)] W fun e w' => e = .returned (.bool (farB p)) ∧ Below W.heap.size W w') := fun W => far_any v p W
  have HLnd : Hid (farB p = false → ∀ W, Below w.heap.size w W → Calls Tryd.prog 9 #[.agg (pvC v p)] W (LdP W p)) := fun hf W hb => by
    obtain ⟨l1, l2, l3, l4, l5⟩ := farB_not hf
    exact lendP_any v p W ((hp.is l1 l2 l3 l4 l5).below hb) l1 l2 l3 l4 l5
  have HRd : Hid (Rd w bo (iC bl)) := hr
  unfold maxLen at hm
  have hm' : (bl.length : Int) ≤ 9223372036854775807 := by omega
  clear hE hp hr hm
  obtain ⟨qo, qc, vo, vc, tto, tc, oo, oc, co, cc⟩ := v
  show Calls _ _ #[.agg #[.slice qo p.gh.length qc, .slice vo p.vs.length vc, .slice tto p.ts.length tc, .slice oo p.on.length oc, .int .i64 p.miss, .slice co p.cd.length cc], _] _ _
  unfold pvC at HFar HLnd
  dsimp only at HFar HLnd
  have hb0 : Below w.heap.size w (w.alloc (.cells #[.slice qo p.gh.length qc, .slice vo p.vs.length vc, .slice tto p.ts.length tc, .slice oo p.on.length oc, .int .i64 p.miss, .slice co p.cd.length cc] 27)) := (Below.refl _ w).alloc (Nat.le_refl _) _
  have HB0 : Hid (Below w.heap.size w (w.alloc (.cells #[.slice qo p.gh.length qc, .slice vo p.vs.length vc, .slice tto p.ts.length tc, .slice oo p.on.length oc, .int .i64 p.miss, .slice co p.cd.length cc] 27)) ∧ (w.alloc (.cells #[.slice qo p.gh.length qc, .slice vo p.vs.length vc, .slice tto p.ts.length tc, .slice oo p.on.length oc, .int .i64 p.miss, .slice co p.cd.length cc] 27)).heap[w.heap.size]? = some (.cells #[.slice qo p.gh.length qc, .slice vo p.vs.length vc, .slice tto p.ts.length tc, .slice oo p.on.length oc, .int .i64 p.miss, .slice co p.cd.length cc] 27 (0, 0))) := ⟨hb0, heap_alloc_new _ _⟩
  clear hb0
  go_enter Tryd.func4, Tryd.ntmps4
  go_upto_region 1 with fail
  generalize w.alloc (.cells #[.slice qo p.gh.length qc, .slice vo p.vs.length vc, .slice tto p.ts.length tc, .slice oo p.on.length oc, .int .i64 p.miss, .slice co p.cd.length cc] 27) = W0 at *
  obtain ⟨i0, i1, i2, i3, i4, i5⟩ := cells6 HB0.out.2
  go_wp2_with fail
  refine (HFar.out _).mono ?_
  rintro e w1 ⟨rfl, hb1⟩
  have HB1 : Hid (Below w.heap.size w w1 ∧ w1.heap[w.heap.size]? = some (.cells #[.slice qo p.gh.length qc, .slice vo p.vs.length vc, .slice tto p.ts.length tc, .slice oo p.on.length oc, .int .i64 p.miss, .slice co p.cd.length cc] 27 (0, 0))) := ⟨bel_step HB0.out.1 hb1, (hb1.block _ (blk_lt HB0.out.2)).trans HB0.out.2⟩
  clear hb1 HB0 HFar i0 i1 i2 i3 i4 i5
  cases hfar : farB p with
  | true =>
    clear hfar
    go_wp2_with fail
    refine (HHd.out _ HB1.out.1).mono ?_
    rintro e w9 ⟨rfl, hb9⟩
    have HB9 : Hid (Below w.heap.size w w9) := bel_step HB1.out.1 hb9
    clear hb9
    go_wp2_with fail
    go_ret
    exact ⟨rfl, HB9.out⟩
  | false =>
    by_cases hl0 : bl.length = 0
    · have q1 : decide ((bl.length : Int) = 0) = true := by simp [hl0]
      have q2 : ((bl.length : Int) == 0) = true := by simp [hl0]
      have q3 : (bl.length : Int) = 0 := by omega
      clear hfar hl0
      go_wp2_with fail
      refine (HHd.out _ HB1.out.1).mono ?_
      rintro e w9 ⟨rfl, hb9⟩
      have HB9 : Hid (Below w.heap.size w w9) := bel_step HB1.out.1 hb9
      clear hb9
      go_wp2_with fail
      go_ret
      exact ⟨rfl, HB9.out⟩
    · have q1 : decide ((bl.length : Int) = 0) = false := by rw [decide_eq_false_iff_not]; omega
      have q2 : ((bl.length : Int) == 0) = false := by rw [beq_eq_false_iff_ne]; omega
      have q3 : ¬ (bl.length : Int) = 0 := by omega
      have HLen := show Hid _ from farB_not hfar
      have HL2 : Hid (∀ W, Below w.heap.size w W → Calls Tryd.prog 9 #[.agg #[.slice qo p.gh.length qc, .slice vo p.vs.length vc, .slice tto p.ts.length tc, .slice oo p.on.length oc, .int .i64 p.miss, .slice co p.cd.length cc]] W (LdP W p)) := HLnd.out hfar
      have HLp : Hid (0 < bl.length) := by show 0 < _; omega
      clear hfar HLnd hl0
      obtain ⟨i0, i1, i2, i3, i4, i5⟩ := cells6 HB1.out.2
      go_wp2_with fail
      refine (HL2.out _ HB1.out.1).mono ?_
      rintro e w2 ⟨hb2, ga, gb, gc, gd, ge, rfl, hg0, hg1, hg2, hg3, hg4, r0, r1, r2, r3, hbk⟩
      have HP2 : Hid (IsPg w2 ⟨some ⟨ga, 0, none⟩, p.gh.length + 3, some ⟨gb, 0, none⟩, p.vs.length + 3, some ⟨gc, 0, none⟩, p.ts.length + 5, some ⟨gd, 0, none⟩, p.on.length + 5, some ⟨ge, 0, none⟩, p.cd.length + 9⟩ p) := by
        have hl := HLen.out
        exact ⟨r0, r1, r2, r3, hbk.rd, by omega, by omega, by omega, by omega, by omega⟩
      have HB2 : Hid (Below w.heap.size w w2 ∧ w2.heap[w.heap.size]? = some (.cells #[.slice qo p.gh.length qc, .slice vo p.vs.length vc, .slice tto p.ts.length tc, .slice oo p.on.length oc, .int .i64 p.miss, .slice co p.cd.length cc] 27 (0, 0))) := ⟨bel_step HB1.out.1 hb2, (hb2.block _ (blk_lt HB1.out.2)).trans HB1.out.2⟩
      clear hb2 hg0 hg1 hg2 hg3 hg4 r0 r1 r2 r3 hbk i0 i1 i2 i3 i4 i5 HB1
      go_wp2_with fail
      refine (run_o ⟨some ⟨ga, 0, none⟩, p.gh.length + 3, some ⟨gb, 0, none⟩, p.vs.length + 3, some ⟨gc, 0, none⟩, p.ts.length + 5, some ⟨gd, 0, none⟩, p.on.length + 5, some ⟨ge, 0, none⟩, p.cd.length + 9⟩ p w2 HP2.out (HEf.out _ HB2.out.1)).mono ?_
      rintro e w3 ⟨fe, ft, o1, n1, m1, cm, rfl, hro⟩
      have HA3 : Hid _ := al2 w3 (.cells #[.slice o1 n1 m1, .int .i64 cm] 31) (.cells #[.int .i64 fe, .int .i64 ft] 34)
      have HRo : Hid (RuO w2 p fe ft o1 n1 m1 cm w3) := hro
      clear hro HP2
      go_upto_region 4 with fail
      generalize ((w3.alloc (.cells #[.slice o1 n1 m1, .int .i64 cm] 31)).alloc (.cells #[.int .i64 fe, .int .i64 ft] 34)) = W4 at *
      have hb24 := bel_step HRo.out.bel HA3.out.1
      have HB4 : Hid (Below w.heap.size w W4 ∧ W4.heap[w.heap.size]? = some (.cells #[.slice qo p.gh.length qc, .slice vo p.vs.length vc, .slice tto p.ts.length tc, .slice oo p.on.length oc, .int .i64 p.miss, .slice co p.cd.length cc] 27 (0, 0)) ∧ W4.heap[w3.heap.size]? = some (.cells #[.slice o1 n1 m1, .int .i64 cm] 31 (0, 0)) ∧ W4.heap[w3.heap.size + 1]? = some (.cells #[.int .i64 fe, .int .i64 ft] 34 (0, 0))) := ⟨bel_step HB2.out.1 hb24, (hb24.block _ (blk_lt HB2.out.2)).trans HB2.out.2, HA3.out.2.1, HA3.out.2.2⟩
      have HRo4 : Hid (RuO w2 p fe ft o1 n1 m1 cm W4) := ⟨hb24, HRo.out.err, fun g hg => by
        obtain ⟨h1, h2, h3, h4, b, h5, h6⟩ := HRo.out.ok g hg
        exact ⟨h1, h2, h3, h4, b, h5, h6.below HA3.out.1⟩⟩
      clear hb24 HA3 HRo HB2
      generalize w3.heap.size = cb at *
      obtain ⟨i0, i1, i2, i3, i4, i5⟩ := cells6 HB4.out.2.1
      go_wp2_with fail
      refine (HL2.out _ HB4.out.1).mono ?_
      rintro e w5 ⟨hb5, ha, hb, hc, hd, he, rfl, hg0, hg1, hg2, hg3, hg4, r0, r1, r2, r3, hbk⟩
      have hal : Below w5.heap.size w5 (w5.alloc (.cells #[.slice (some ⟨ha, 0, none⟩) p.gh.length (p.gh.length + 3), .slice (some ⟨hb, 0, none⟩) p.vs.length (p.vs.length + 3), .slice (some ⟨hc, 0, none⟩) p.ts.length (p.ts.length + 5), .slice (some ⟨hd, 0, none⟩) p.on.length (p.on.length + 5), .int .i64 p.miss, .slice (some ⟨he, 0, none⟩) p.cd.length (p.cd.length + 9)] 27)) := (Below.refl _ w5).alloc (Nat.le_refl _) _
      have hb46 := bel_step hb5 hal
      have H6 : Hid (Below w.heap.size w (w5.alloc (.cells #[.slice (some ⟨ha, 0, none⟩) p.gh.length (p.gh.length + 3), .slice (some ⟨hb, 0, none⟩) p.vs.length (p.vs.length + 3), .slice (some ⟨hc, 0, none⟩) p.ts.length (p.ts.length + 5), .slice (some ⟨hd, 0, none⟩) p.on.length (p.on.length + 5), .int .i64 p.miss, .slice (some ⟨he, 0, none⟩) p.cd.length (p.cd.length + 9)] 27)) ∧ (w5.alloc (.cells #[.slice (some ⟨ha, 0, none⟩) p.gh.length (p.gh.length + 3), .slice (some ⟨hb, 0, none⟩) p.vs.length (p.vs.length + 3), .slice (some ⟨hc, 0, none⟩) p.ts.length (p.ts.length + 5), .slice (some ⟨hd, 0, none⟩) p.on.length (p.on.length + 5), .int .i64 p.miss, .slice (some ⟨he, 0, none⟩) p.cd.length (p.cd.length + 9)] 27)).heap[cb]? = some (.cells #[.slice o1 n1 m1, .int .i64 cm] 31 (0, 0)) ∧ (w5.alloc (.cells #[.slice (some ⟨ha, 0, none⟩) p.gh.length (p.gh.length + 3), .slice (some ⟨hb, 0, none⟩) p.vs.length (p.vs.length + 3), .slice (some ⟨hc, 0, none⟩) p.ts.length (p.ts.length + 5), .slice (some ⟨hd, 0, none⟩) p.on.length (p.on.length + 5), .int .i64 p.miss, .slice (some ⟨he, 0, none⟩) p.cd.length (p.cd.length + 9)] 27)).heap[cb + 1]? = some (.cells #[.int .i64 fe, .int .i64 ft] 34 (0, 0)) ∧ (w5.alloc (.cells #[.slice (some ⟨ha, 0, none⟩) p.gh.length (p.gh.length + 3), .slice (some ⟨hb, 0, none⟩) p.vs.length (p.vs.length + 3), .slice (some ⟨hc, 0, none⟩) p.ts.length (p.ts.length + 5), .slice (some ⟨hd, 0, none⟩) p.on.length (p.on.length + 5), .int .i64 p.miss, .slice (some ⟨he, 0, none⟩) p.cd.length (p.cd.length + 9)] 27)).heap[w5.heap.size]? = some (.cells #[.slice (some ⟨ha, 0, none⟩) p.gh.length (p.gh.length + 3), .slice (some ⟨hb, 0, none⟩) p.vs.length (p.vs.length + 3), .slice (some ⟨hc, 0, none⟩) p.ts.length (p.ts.length + 5), .slice (some ⟨hd, 0, none⟩) p.on.length (p.on.length + 5), .int .i64 p.miss, .slice (some ⟨he, 0, none⟩) p.cd.length (p.cd.length + 9)] 27 (0, 0)) ∧ Bk (w5.alloc (.cells #[.slice (some ⟨ha, 0, none⟩) p.gh.length (p.gh.length + 3), .slice (some ⟨hb, 0, none⟩) p.vs.length (p.vs.length + 3), .slice (some ⟨hc, 0, none⟩) p.ts.length (p.ts.length + 5), .slice (some ⟨hd, 0, none⟩) p.on.length (p.on.length + 5), .int .i64 p.miss, .slice (some ⟨he, 0, none⟩) p.cd.length (p.cd.length + 9)] 27)) he 39 (cC p.cd) 45) := ⟨bel_step HB4.out.1 hb46, (hb46.block _ (blk_lt HB4.out.2.2.1)).trans HB4.out.2.2.1, (hb46.block _ (blk_lt HB4.out.2.2.2)).trans HB4.out.2.2.2, heap_alloc_new _ _, hbk.below hal⟩
      have HR6 : Hid (Rd (w5.alloc (.cells #[.slice (some ⟨ha, 0, none⟩) p.gh.length (p.gh.length + 3), .slice (some ⟨hb, 0, none⟩) p.vs.length (p.vs.length + 3), .slice (some ⟨hc, 0, none⟩) p.ts.length (p.ts.length + 5), .slice (some ⟨hd, 0, none⟩) p.on.length (p.on.length + 5), .int .i64 p.miss, .slice (some ⟨he, 0, none⟩) p.cd.length (p.cd.length + 9)] 27)) (some ⟨ha, 0, none⟩) (bC p.gh) ∧ Rd (w5.alloc (.cells #[.slice (some ⟨ha, 0, none⟩) p.gh.length (p.gh.length + 3), .slice (some ⟨hb, 0, none⟩) p.vs.length (p.vs.length + 3), .slice (some ⟨hc, 0, none⟩) p.ts.length (p.ts.length + 5), .slice (some ⟨hd, 0, none⟩) p.on.length (p.on.length + 5), .int .i64 p.miss, .slice (some ⟨he, 0, none⟩) p.cd.length (p.cd.length + 9)] 27)) (some ⟨hb, 0, none⟩) (vC p.vs) ∧ Rd (w5.alloc (.cells #[.slice (some ⟨ha, 0, none⟩) p.gh.length (p.gh.length + 3), .slice (some ⟨hb, 0, none⟩) p.vs.length (p.vs.length + 3), .slice (some ⟨hc, 0, none⟩) p.ts.length (p.ts.length + 5), .slice (some ⟨hd, 0, none⟩) p.on.length (p.on.length + 5), .int .i64 p.miss, .slice (some ⟨he, 0, none⟩) p.cd.length (p.cd.length + 9)] 27)) (some ⟨hc, 0, none⟩) (iC p.ts) ∧ Rd (w5.alloc (.cells #[.slice (some ⟨ha, 0, none⟩) p.gh.length (p.gh.length + 3), .slice (some ⟨hb, 0, none⟩) p.vs.length (p.vs.length + 3), .slice (some ⟨hc, 0, none⟩) p.ts.length (p.ts.length + 5), .slice (some ⟨hd, 0, none⟩) p.on.length (p.on.length + 5), .int .i64 p.miss, .slice (some ⟨he, 0, none⟩) p.cd.length (p.cd.length + 9)] 27)) (some ⟨hd, 0, none⟩) (iC p.on)) := ⟨r0.below hal, r1.below hal, r2.below hal, r3.below hal⟩
      have HRo6 : Hid (RuO w2 p fe ft o1 n1 m1 cm (w5.alloc (.cells #[.slice (some ⟨ha, 0, none⟩) p.gh.length (p.gh.length + 3), .slice (some ⟨hb, 0, none⟩) p.vs.length (p.vs.length + 3), .slice (some ⟨hc, 0, none⟩) p.ts.length (p.ts.length + 5), .slice (some ⟨hd, 0, none⟩) p.on.length (p.on.length + 5), .int .i64 p.miss, .slice (some ⟨he, 0, none⟩) p.cd.length (p.cd.length + 9)] 27)) ∧ ∀ g, judge p = .ok g → ∀ b, o1 = some ⟨b, 0, none⟩ → 0 < p.on.length → b < W4.heap.size) := ⟨⟨bel_step HRo4.out.bel hb46, HRo4.out.err, fun g hg => by
        obtain ⟨h1, h2, h3, h4, b, h5, h6⟩ := HRo4.out.ok g hg
        exact ⟨h1, h2, h3, h4, b, h5, h6.below hb46⟩⟩, fun g hg b hb9 hpos => by
        obtain ⟨h1, h2, h3, h4, b', h5, h6⟩ := HRo4.out.ok g hg
        rw [hb9] at h5
        cases h5
        obtain ⟨g', f', e', hl, -⟩ := rd_int h6 (k := 0) (by simpa using hpos)
        cases e'
        exact hl⟩
      have HRs : Hid (w2.heap.size ≤ he) := by have := HRo4.out.bel.size; show _ ≤ _; omega
      have HN6 : Hid (W4.heap.size ≤ he ∧ ha < he ∧ hb < he ∧ hc < he ∧ hd < he ∧ he < w5.heap.size ∧ cb + 1 < W4.heap.size ∧ w.heap.size < W4.heap.size) := ⟨hg0, hg1, hg2, hg3, hg4, hbk.lt, blk_lt HB4.out.2.2.2, blk_lt HB4.out.2.1⟩
      clear hb5 hal hb46 hg0 hg1 hg2 hg3 hg4 r0 r1 r2 r3 hbk i0 i1 i2 i3 i4 i5 HB4 HRo4 HL2
      go_upto_region 6 with fail
      generalize w5.alloc (.cells #[.slice (some ⟨ha, 0, none⟩) p.gh.length (p.gh.length + 3), .slice (some ⟨hb, 0, none⟩) p.vs.length (p.vs.length + 3), .slice (some ⟨hc, 0, none⟩) p.ts.length (p.ts.length + 5), .slice (some ⟨hd, 0, none⟩) p.on.length (p.on.length + 5), .int .i64 p.miss, .slice (some ⟨he, 0, none⟩) p.cd.length (p.cd.length + 9)] 27) = W6 at *
      generalize w5.heap.size = qb at *
      generalize W4.heap.size = b4 at *
      have hcd : (p.cd.length : Int) ≤ 524288 := by have := HLen.out; omega
      obtain ⟨Wl, hWl⟩ : ∃ Wl, Wl = W6 := ⟨_, rfl⟩
      have HWl : Hid (Wl = W6) := hWl
      rw [← hWl]
      clear hWl
      go_loopg [8] p.cd.length (fun gq x wr => ∃ j : Nat, j ≤ p.cd.length ∧ gq = p.cd.length - j ∧ x = .int .i64 (j : Int) ∧ Fg he W6 wr ∧ Bk wr he 39 (cC (chL (rdI bl) p.cd j)) 45)
      case atStart => exact ⟨0, Nat.zero_le _, rfl, rfl, by rw [HWl.out]; exact Fg.refl _ _, by rw [HWl.out, chL_zero]; exact H6.out.2.2.2.2⟩
      case round =>
        obtain ⟨j, hj9, hgk, rfl, hfg, hbk⟩ := hrel
        have HG : Hid (gk = p.cd.length - j ∧ Fg he W6 wr ∧ Bk wr he 39 (cC (chL (rdI bl) p.cd j)) 45) := ⟨hgk, hfg, hbk⟩
        have hqb : wr.heap[qb]? = some (.cells #[.slice (some ⟨ha, 0, none⟩) p.gh.length (p.gh.length + 3), .slice (some ⟨hb, 0, none⟩) p.vs.length (p.vs.length + 3), .slice (some ⟨hc, 0, none⟩) p.ts.length (p.ts.length + 5), .slice (some ⟨hd, 0, none⟩) p.on.length (p.on.length + 5), .int .i64 p.miss, .slice (some ⟨he, 0, none⟩) p.cd.length (p.cd.length + 9)] 27 (0, 0)) := (hfg.block _ (blk_lt H6.out.2.2.2.1) (by have := HN6.out; omega)).trans H6.out.2.2.2.1
        obtain ⟨i0, i1, i2, i3, i4, i5⟩ := cells6 hqb
        have HQb : Hid (wr.heap[qb]? = some (.cells #[.slice (some ⟨ha, 0, none⟩) p.gh.length (p.gh.length + 3), .slice (some ⟨hb, 0, none⟩) p.vs.length (p.vs.length + 3), .slice (some ⟨hc, 0, none⟩) p.ts.length (p.ts.length + 5), .slice (some ⟨hd, 0, none⟩) p.on.length (p.on.length + 5), .int .i64 p.miss, .slice (some ⟨he, 0, none⟩) p.cd.length (p.cd.length + 9)] 27 (0, 0))) := hqb
        clear hgk hfg hqb HWl
        by_cases hlt : j < p.cd.length
        · have hlt' : (j : Int) < (p.cd.length : Int) := by omega
          have HLt : Hid (j < p.cd.length) := hlt
          obtain ⟨g9, f9, e9, -, d0, d1, d2, d3, d4⟩ := rd_ins hbk.rd (k := j) (by rw [chL_len]; exact hlt)
          cases e9
          have hx : (chL (rdI bl) p.cd j)[j]'(by rw [chL_len]; exact hlt) = p.cd.getD j Ins.zero := by
            have h1 := chL_get (rdI bl) p.cd j hlt
            rw [List.getElem?_eq_getElem (by rw [chL_len]; exact hlt), if_neg (by omega)] at h1
            exact Option.some.inj h1
          rw [hx] at d0 d1 d2 d3 d4
          rw [Nat.zero_add] at d0 d1 d2 d3 d4
          obtain ⟨x, hxv⟩ : ∃ x, x = p.cd.getD j Ins.zero := ⟨_, rfl⟩
          rw [← hxv] at d0 d1 d2 d3 d4
          have HX : Hid (x = p.cd.getD j Ins.zero) := hxv
          obtain ⟨xo, xa, xb, xc, xd⟩ := x
          dsimp only at d0 d1 d2 d3 d4
          have hal : Below wr.heap.size wr (wr.alloc (.cells #[.int .i64 xo, .int .i64 xa, .int .i64 xb, .int .i64 xc, .int .i64 xd] 39)) := (Below.refl _ wr).alloc (Nat.le_refl _) _
          have HQ : Hid (Fg he W6 (wr.alloc (.cells #[.int .i64 xo, .int .i64 xa, .int .i64 xb, .int .i64 xc, .int .i64 xd] 39)) ∧ Bk (wr.alloc (.cells #[.int .i64 xo, .int .i64 xa, .int .i64 xb, .int .i64 xc, .int .i64 xd] 39)) he 39 (cC (chL (rdI bl) p.cd j)) 45 ∧ (wr.alloc (.cells #[.int .i64 xo, .int .i64 xa, .int .i64 xb, .int .i64 xc, .int .i64 xd] 39)).heap[wr.heap.size]? = some (.cells #[.int .i64 xo, .int .i64 xa, .int .i64 xb, .int .i64 xc, .int .i64 xd] 39 (0, 0)) ∧ (wr.alloc (.cells #[.int .i64 xo, .int .i64 xa, .int .i64 xb, .int .i64 xc, .int .i64 xd] 39)).heap[qb]? = some (.cells #[.slice (some ⟨ha, 0, none⟩) p.gh.length (p.gh.length + 3), .slice (some ⟨hb, 0, none⟩) p.vs.length (p.vs.length + 3), .slice (some ⟨hc, 0, none⟩) p.ts.length (p.ts.length + 5), .slice (some ⟨hd, 0, none⟩) p.on.length (p.on.length + 5), .int .i64 p.miss, .slice (some ⟨he, 0, none⟩) p.cd.length (p.cd.length + 9)] 27 (0, 0)) ∧ qb < wr.heap.size ∧ he < wr.heap.size) := ⟨HG.out.2.1.trans (Fg.of hal), hbk.below hal, heap_alloc_new _ _, (hal.block _ (blk_lt HQb.out)).trans HQb.out, blk_lt HQb.out, hbk.lt⟩
          have hheq : he < wr.heap.size := hbk.lt
          clear hlt hj9 hbk hx hxv hal
          by_cases hcond : xo = 24 ∧ 0 ≤ xa ∧ xa ≤ 4194304
          · obtain ⟨rfl, c1, c2⟩ := hcond
            obtain ⟨md, hmd⟩ : ∃ md, md = j % bl.length := ⟨_, rfl⟩
            have hml : md < bl.length := by rw [hmd]; exact Nat.mod_lt _ HLp.out
            have hm1 : (j : Int).tmod (bl.length : Int) = (md : Int) := by rw [hmd]; rfl
            have hm2 : (j : Int) % (bl.length : Int) = (md : Int) := by rw [hmd]; omega
            have hm3 : (md : Int) < (bl.length : Int) := by omega
            obtain ⟨bg, bf, hbo, hbg, hbc⟩ := rd_int HRd.out hml
            obtain rfl : bo = some ⟨bg, bf, none⟩ := hbo
            obtain ⟨r, hrv⟩ : ∃ r, r = bl[md] := ⟨_, rfl⟩
            rw [← hrv] at hbc
            have HRv : Hid (bl.getD (j % bl.length) 0 = r) := by show _ = _; rw [← hmd, List.getD_eq_getElem?_getD, List.getElem?_eq_getElem hml, hrv]; rfl
            obtain ⟨nn, hnn, hnn1⟩ : ∃ nn : Nat, ((nn : Nat) : Int) = 4194304 - xa + 1 ∧ nn = (4194304 - xa + 1).toNat := ⟨(4194304 - xa + 1).toNat, by omega, rfl⟩
            have hwl := wtn_lt r (n := nn) (by omega)
            have HWn : Hid (∀ W, Calls Tryd.prog 10 #[.int .i64 r, .int .i64 (4194304 - xa + 1)] W fun e w' => e = .returned (.int .i64 (wtn r nn : Nat)) ∧ w' = W) := fun W => by
              have := wtn_any r nn (by omega) (by omega) W
              rwa [hnn] at this
            obtain ⟨ww, hww⟩ : ∃ ww, ww = wtn r nn := ⟨_, rfl⟩
            rw [← hww] at HWn hwl
            have HWw : Hid (ww = wtn (bl.getD (j % bl.length) 0) (4194304 - xa + 1).toNat) := by show _ = _; rw [HRv.out, hww, hnn1]
            have hwl' : (ww : Int) ≤ 4194304 - xa := by omega
            have HBc : Hid (w.cell? ⟨bg, bf + md, none⟩ = some (.int .i64 r) ∧ bg < w.heap.size) := ⟨hbc, hbg⟩
            clear hmd hml hbg hbc hrv hnn hnn1 hwl hww
            go_upto_region 10 with fail
            have hw1 : IntKind.i64.wrap (4194304 - xa) = 4194304 - xa := by rw [IntKind.wrap_i64]; omega
            have hw2 : IntKind.i64.wrap (4194304 - xa + 1) = 4194304 - xa + 1 := by rw [IntKind.wrap_i64]; omega
            have hw3 : IntKind.i64.wrap (xa + (ww : Int)) = xa + (ww : Int) := by rw [IntKind.wrap_i64]; omega
            have hw4 : IntKind.i64.wrap (md : Int) = (md : Int) := by rw [IntKind.wrap_i64]; omega
            have hnl : ¬ bl = [] := fun e => by have := HLp.out; rw [e] at this; simp at this
            have HQd : Hid (Fg he W6 (wr.alloc (.cells #[.int .i64 24, .int .i64 xa, .int .i64 xb, .int .i64 xc, .int .i64 xd] 39)).drew ∧ Bk (wr.alloc (.cells #[.int .i64 24, .int .i64 xa, .int .i64 xb, .int .i64 xc, .int .i64 xd] 39)).drew he 39 (cC (chL (rdI bl) p.cd j)) 45 ∧ (wr.alloc (.cells #[.int .i64 24, .int .i64 xa, .int .i64 xb, .int .i64 xc, .int .i64 xd] 39)).drew.heap[wr.heap.size]? = some (.cells #[.int .i64 24, .int .i64 xa, .int .i64 xb, .int .i64 xc, .int .i64 xd] 39 (0, 0)) ∧ (wr.alloc (.cells #[.int .i64 24, .int .i64 xa, .int .i64 xb, .int .i64 xc, .int .i64 xd] 39)).drew.heap[qb]? = some (.cells #[.slice (some ⟨ha, 0, none⟩) p.gh.length (p.gh.length + 3), .slice (some ⟨hb, 0, none⟩) p.vs.length (p.vs.length + 3), .slice (some ⟨hc, 0, none⟩) p.ts.length (p.ts.length + 5), .slice (some ⟨hd, 0, none⟩) p.on.length (p.on.length + 5), .int .i64 p.miss, .slice (some ⟨he, 0, none⟩) p.cd.length (p.cd.length + 9)] 27 (0, 0))) := ⟨HQ.out.1.trans (Fg.of (Below.refl _ _).drew), HQ.out.2.1.below (Below.refl _ _).drew, HQ.out.2.2.1, HQ.out.2.2.2.1⟩
            have HKx : Hid (he < wr.heap.size) := HQ.out.2.2.2.2.2
            have HSS : Hid (∀ X, X.heap[qb]? = (wr.alloc (.cells #[.int .i64 24, .int .i64 xa, .int .i64 xb, .int .i64 xc, .int .i64 xd] 39)).drew.heap[qb]? → X.heap[wr.heap.size]? = (wr.alloc (.cells #[.int .i64 24, .int .i64 xa, .int .i64 xb, .int .i64 xc, .int .i64 xd] 39)).drew.heap[wr.heap.size]? → X.heap[bg]? = (wr.alloc (.cells #[.int .i64 24, .int .i64 xa, .int .i64 xb, .int .i64 xc, .int .i64 xd] 39)).drew.heap[bg]? → (fun w' : World => w'.cell? ⟨qb, 5, none⟩ = some (.slice (some ⟨he, 0, none⟩) p.cd.length (p.cd.length + 9)) ∧ w'.cell? ⟨wr.heap.size, 1, none⟩ = some (.int .i64 xa) ∧ w'.cell? ⟨bg, bf + md, none⟩ = some (.int .i64 r)) X) := fun X h1 h2 h3 => by
              obtain ⟨-, -, -, -, -, a5⟩ := cells6 (h1.trans HQd.out.2.2.2)
              have a1 : X.cell? ⟨wr.heap.size, 1, none⟩ = some (.int .i64 xa) := cell_of (cs := [.int .i64 24, .int .i64 xa, .int .i64 xb, .int .i64 xc, .int .i64 xd]) (h2.trans HQd.out.2.2.1) rfl
              refine ⟨a5, a1, ?_⟩
              have hn := HN6.out
              have hb9 := HBc.out.2
              have e1 : (wr.alloc (.cells #[.int .i64 24, .int .i64 xa, .int .i64 xb, .int .i64 xc, .int .i64 xd] 39)).drew.heap[bg]? = w.heap[bg]? := (HQd.out.1.block _ (Nat.lt_of_lt_of_le hb9 H6.out.1.size) (by omega)).trans (H6.out.1.block _ hb9)
              exact (World.cell?_of_block (a := ⟨bg, bf + md, none⟩) (h3.trans e1)).trans HBc.out.1
            generalize hxk : wr.heap.size = xk at *
            refine wp_region_held (S := fun w' : World => w'.cell? ⟨qb, 5, none⟩ = some (.slice (some ⟨he, 0, none⟩) p.cd.length (p.cd.length + 9)) ∧ w'.cell? ⟨xk, 1, none⟩ = some (.int .i64 xa) ∧ w'.cell? ⟨bg, bf + md, none⟩ = some (.int .i64 r)) (by kernel_rfl) ?_
            change wpAnyH _ _ _ _ _ _ _ _ (wr.alloc (.cells #[.int .i64 24, .int .i64 xa, .int .i64 xb, .int .i64 xc, .int .i64 xd] 39)).drew
            have hS := HSS.out (wr.alloc (.cells #[.int .i64 24, .int .i64 xa, .int .i64 xb, .int .i64 xc, .int .i64 xd] 39)).drew rfl rfl rfl
            generalize (wr.alloc (.cells #[.int .i64 24, .int .i64 xa, .int .i64 xb, .int .i64 xc, .int .i64 xd] 39)).drew = Xd at *
            clear hxk
            refine tqA 0 rfl hS ?_
            refine tqA 1 rfl hS ?_
            refine tqA 2 rfl hS ?_
            refine tqA 3 rfl hS ?_
            refine tqA 4 rfl hS ?_
            refine tqA 5 rfl hS ?_
            refine tqA 6 rfl hS ?_
            refine tqA 7 rfl hS ?_
            refine tqA 8 rfl hS ?_
            refine tqA (v := .int .i64 (md : Int)) 9 rfl hS ?_
            refine tqA 10 rfl hS ?_
            refine tqA 11 rfl hS ?_
            refine tqA 12 rfl hS ?_
            refine tqA 13 rfl hS ?_
            refine tqA (v := .int .i64 (4194304 - xa)) 14 rfl hS ?_
            refine tqA (v := .int .i64 (4194304 - xa + 1)) 15 rfl hS ?_
            refine wpAnyH_ready (rs := [16]) (by kernel_rfl) (by simp) ?_
            refine AllReadyH.cons rfl (fun K hK => ?_) AllReadyH.nil
            go_simp
            refine Calls.mono (HWn.out _) ?_
            rintro e w9 ⟨rfl, h9⟩
            replace h9 := h9.symm
            subst h9
            refine hK.out _ _ hS (fun hS => ?_)
            clear hK K
            refine tqA (v := .int .i64 (xa + (ww : Int))) 17 rfl hS ?_
            refine wpAnyH_ready (rs := [18]) (by kernel_rfl) (by simp) ?_
            refine AllReadyH.cons rfl (fun K hK => ?_) AllReadyH.nil
            go_simp
            refine hK.out _ _ hS (fun hS => ?_)
            clear hK K
            refine wpAnyH_ready (rs := [19]) (by kernel_rfl) (by simp) ?_
            refine AllReadyH.cons rfl (fun K hK => ?_) AllReadyH.nil
            go_simp
            refine hK.out _ _ hS (fun hS => ?_)
            clear hK K
            obtain ⟨v9, c9⟩ := HQd.out.2.1.cell (j := j * 5 + 1) (by rw [cC_len, chL_len]; have := HLt.out; omega)
            have fz := HQd.out.2.1.frozen
            have hn9 := HN6.out
            have hS9 := HSS.out (Xd.setCell ⟨he, j * 5 + 1, none⟩ (.int .i64 (xa + (ww : Int)))) (heap_setCell_other Xd ⟨he, j * 5 + 1, none⟩ qb _ (by show qb ≠ he; omega)) (heap_setCell_other Xd ⟨he, j * 5 + 1, none⟩ xk _ (by show xk ≠ he; have := HKx.out; omega)) (heap_setCell_other Xd ⟨he, j * 5 + 1, none⟩ bg _ (by show bg ≠ he; have := HBc.out.2; omega))
            refine wpAnyH_ready (rs := [20]) (by kernel_rfl) (by simp) ?_
            refine AllReadyH.cons rfl (fun K hK => ?_) AllReadyH.nil
            go_simp
            refine hK.out _ _ hS9 (fun hS => ?_)
            clear hK K
            refine wpAnyH_done (by kernel_rfl) ?_ _
            have HE : Hid (Fg he W6 (Xd.setCell ⟨he, j * 5 + 1, none⟩ (.int .i64 (xa + (ww : Int)))) ∧ Bk (Xd.setCell ⟨he, j * 5 + 1, none⟩ (.int .i64 (xa + (ww : Int)))) he 39 (cC (chL (rdI bl) p.cd (j + 1))) 45) := by
              refine ⟨HQd.out.1.trans (Fg.set _ _ _), ?_⟩
              have h1 := HQd.out.2.1.turn (j := j) (by rw [chL_len]; exact HLt.out) (xa + (ww : Int))
              have hx : (chL (rdI bl) p.cd j)[j]'(by rw [chL_len]; exact HLt.out) = p.cd.getD j Ins.zero := by
                have h1 := chL_get (rdI bl) p.cd j HLt.out
                rw [List.getElem?_eq_getElem (by rw [chL_len]; exact HLt.out), if_neg (by omega)] at h1
                exact Option.some.inj h1
              rw [hx, ← HX.out] at h1
              rw [← chL_set (rdI bl) p.cd HLt.out, ← HX.out]
              have e : rdI bl j ⟨24, xa, xb, xc, xd⟩ = ⟨24, xa + (ww : Int), xb, xc, xd⟩ := by
                unfold rdI
                rw [if_pos ⟨rfl, c1, c2⟩, HWw.out]
              rw [e]
              exact h1
            clear hS hS9 c9 fz hn9 HSS HQd
            go_wp2_with fail
            go_roundg (p.cd.length - (j + 1))
            case measure => have h1 := HG.out.1; have := HLt.out; omega
            case rel => exact ⟨j + 1, HLt.out, rfl, by go_num, HE.out.1, HE.out.2⟩
          · have HSm : Hid (chL (rdI bl) p.cd (j + 1) = chL (rdI bl) p.cd j) := chL_same _ _ HLt.out (by rw [← HX.out]; unfold rdI; rw [if_neg hcond])
            by_cases c0 : xo = 24
            · subst c0
              by_cases c1 : 0 ≤ xa
              · have c2 : ¬ xa ≤ 4194304 := fun h => hcond ⟨rfl, c1, h⟩
                have c3 : decide (xa ≤ 4194304) = false := by rw [decide_eq_false_iff_not]; exact c2
                clear hcond
                go_wp2_with fail
                go_roundg (p.cd.length - (j + 1))
                case measure => have h1 := HG.out.1; have := HLt.out; omega
                case rel => exact ⟨j + 1, HLt.out, rfl, by go_num, HQ.out.1, by rw [HSm.out]; exact HQ.out.2.1⟩
              · have c3 : decide (0 ≤ xa) = false := by rw [decide_eq_false_iff_not]; exact c1
                clear hcond
                go_wp2_with fail
                go_roundg (p.cd.length - (j + 1))
                case measure => have h1 := HG.out.1; have := HLt.out; omega
                case rel => exact ⟨j + 1, HLt.out, rfl, by go_num, HQ.out.1, by rw [HSm.out]; exact HQ.out.2.1⟩
            · have c3 : decide (xo = 24) = false := by rw [decide_eq_false_iff_not]; exact c0
              have c4 : (xo == 24) = false := by rw [beq_eq_false_iff_ne]; exact c0
              clear hcond
              go_wp2_with fail
              go_roundg (p.cd.length - (j + 1))
              case measure => have h1 := HG.out.1; have := HLt.out; omega
              case rel => exact ⟨j + 1, HLt.out, rfl, by go_num, HQ.out.1, by rw [HSm.out]; exact HQ.out.2.1⟩
        · obtain rfl : j = p.cd.length := by omega
          have hn9 := HN6.out
          have hfg := HG.out.2.1
          have hP : IsPg wr ⟨some ⟨ha, 0, none⟩, p.gh.length + 3, some ⟨hb, 0, none⟩, p.vs.length + 3, some ⟨hc, 0, none⟩, p.ts.length + 5, some ⟨hd, 0, none⟩, p.on.length + 5, some ⟨he, 0, none⟩, p.cd.length + 9⟩ (chP (rdI bl) p) := by
            have hl := HLen.out
            have hsz := hfg.size
            have hs6 := blk_lt H6.out.2.2.2.1
            have key : ∀ g, g < he → wr.heap[g]? = W6.heap[g]? := fun g hg => hfg.block g (by omega) (by omega)
            exact ⟨rd_same HR6.out.1 (key _ (by omega)) hsz, rd_same HR6.out.2.1 (key _ (by omega)) hsz, rd_same HR6.out.2.2.1 (key _ (by omega)) hsz, rd_same HR6.out.2.2.2 (key _ (by omega)) hsz, HG.out.2.2.rd, by show p.gh.length ≤ _; omega, by show p.vs.length ≤ _; omega, by show p.ts.length ≤ _; omega, by show p.on.length ≤ _; omega, by show (chL (rdI bl) p.cd p.cd.length).length ≤ _; rw [chL_len]; omega⟩
          have hbw : Below w.heap.size w wr := hfg.bel H6.out.1 (by omega) H6.out.1.size
          have HRun : Hid (Calls Tryd.prog 8 #[.agg #[.slice (some ⟨ha, 0, none⟩) p.gh.length (p.gh.length + 3), .slice (some ⟨hb, 0, none⟩) p.vs.length (p.vs.length + 3), .slice (some ⟨hc, 0, none⟩) p.ts.length (p.ts.length + 5), .slice (some ⟨hd, 0, none⟩) p.on.length (p.on.length + 5), .int .i64 p.miss, .slice (some ⟨he, 0, none⟩) p.cd.length (p.cd.length + 9)]] wr fun e w' => ∃ fe ft o1 n1 m1 cm, e = .returned (.tuple #[.agg #[.slice o1 n1 m1, .int .i64 cm], .agg #[.int .i64 fe, .int .i64 ft]]) ∧ RuO wr (chP (rdI bl) p) fe ft o1 n1 m1 cm w') := by
            have h1 := run_o _ (chP (rdI bl) p) wr hP (HEf.out _ hbw)
            have h2 : (chP (rdI bl) p).cd.length = p.cd.length := chL_len _ _ _
            unfold pvC at h1
            rw [h2] at h1
            exact h1
          have HWr : Hid (Below w.heap.size w wr ∧ wr.heap[cb]? = some (.cells #[.slice o1 n1 m1, .int .i64 cm] 31 (0, 0)) ∧ wr.heap[cb + 1]? = some (.cells #[.int .i64 fe, .int .i64 ft] 34 (0, 0))) := ⟨hbw, (hfg.block _ (blk_lt H6.out.2.1) (by omega)).trans H6.out.2.1, (hfg.block _ (blk_lt H6.out.2.2.1) (by omega)).trans H6.out.2.2.1⟩
          have HRoW : Hid (RuO w2 p fe ft o1 n1 m1 cm wr) := ⟨⟨(hfg.os.trans HRo6.out.1.bel.os), (hfg.tape.trans HRo6.out.1.bel.tape), (hfg.output.trans HRo6.out.1.bel.output), Nat.le_trans HRo6.out.1.bel.size hfg.size, fun k hk => by
              exact (hfg.block k (Nat.lt_of_lt_of_le hk HRo6.out.1.bel.size) (by have := HRs.out; omega)).trans (HRo6.out.1.bel.block k hk)⟩, HRo6.out.1.err, fun g hg => by
            obtain ⟨h1, h2, h3, h4, b, h5, h6⟩ := HRo6.out.1.ok g hg
            refine ⟨h1, h2, h3, h4, b, h5, ?_⟩
            by_cases hz : 0 < p.on.length
            · have hbl := HRo6.out.2 g hg b h5 hz
              have hs6 := blk_lt H6.out.2.2.2.1
              exact rd_same h6 (hfg.block b (by omega) (by omega)) hfg.size
            · intro k x hx
              have hnil : p.on = [] := List.eq_nil_of_length_eq_zero (by omega)
              rw [hnil] at hx
              simp [iC] at hx⟩
          clear hn9 hfg hP hbw hlt hj9 HG HQb hbk
          go_wp2_with fail
          refine HRun.out.mono ?_
          rintro e w7 ⟨qe, qt, o2, n2, m2, dm, rfl, hqo⟩
          have HA8 : Hid _ := al2 w7 (.cells #[.slice o2 n2 m2, .int .i64 dm] 31) (.cells #[.int .i64 qe, .int .i64 qt] 34)
          have HQo : Hid (RuO wr (chP (rdI bl) p) qe qt o2 n2 m2 dm w7) := hqo
          clear hqo HRun i0 i1 i2 i3 i4 i5
          go_upto_region 12 with fail
          generalize ((w7.alloc (.cells #[.slice o2 n2 m2, .int .i64 dm] 31)).alloc (.cells #[.int .i64 qe, .int .i64 qt] 34)) = W8 at *
          have hb78 := bel_step HQo.out.bel HA8.out.1
          have HB8 : Hid (Below w.heap.size w W8 ∧ W8.heap[cb]? = some (.cells #[.slice o1 n1 m1, .int .i64 cm] 31 (0, 0)) ∧ W8.heap[cb + 1]? = some (.cells #[.int .i64 fe, .int .i64 ft] 34 (0, 0)) ∧ W8.heap[w7.heap.size]? = some (.cells #[.slice o2 n2 m2, .int .i64 dm] 31 (0, 0)) ∧ W8.heap[w7.heap.size + 1]? = some (.cells #[.int .i64 qe, .int .i64 qt] 34 (0, 0))) := ⟨bel_step HWr.out.1 hb78, (hb78.block _ (blk_lt HWr.out.2.1)).trans HWr.out.2.1, (hb78.block _ (blk_lt HWr.out.2.2)).trans HWr.out.2.2, HA8.out.2.1, HA8.out.2.2⟩
          have HC : Hid (∀ g, judge p = .ok g → fe = 0 ∧ ft = 0 ∧ n1 = p.on.length ∧ cm = cst p p.miss ∧ ∃ b, o1 = some ⟨b, 0, none⟩ ∧ Rd W8 (some ⟨b, 0, none⟩) (iC (p.on.map (cst p)))) := fun g hg => by
            obtain ⟨h1, h2, h3, h4, b, h5, h6⟩ := HRoW.out.ok g hg
            exact ⟨h1, h2, h3, h4, b, h5, h6.below hb78⟩
          have HD : Hid (∀ g, judge (chP (rdI bl) p) = .ok g → qe = 0 ∧ qt = 0 ∧ n2 = p.on.length ∧ dm = cst (chP (rdI bl) p) p.miss ∧ ∃ b, o2 = some ⟨b, 0, none⟩ ∧ Rd W8 (some ⟨b, 0, none⟩) (iC (p.on.map (cst (chP (rdI bl) p))))) := fun g hg => by
            obtain ⟨h1, h2, h3, h4, b, h5, h6⟩ := HQo.out.ok g hg
            exact ⟨h1, h2, h3, h4, b, h5, h6.below HA8.out.1⟩
          have HEr : Hid ((∀ e n, judge p = .error (e, n) → fe = (e : Int) ∧ ft = n) ∧ ∀ e n, judge (chP (rdI bl) p) = .error (e, n) → qe = (e : Int) ∧ qt = n) := ⟨HRoW.out.err, HQo.out.err⟩
          clear hb78 HA8 HQo HRoW HWr
          generalize w7.heap.size = db at *
          obtain ⟨cc0, cc1⟩ := cells2 HB8.out.2.1
          obtain ⟨z0, z1⟩ := cells2 HB8.out.2.2.1
          obtain ⟨dd0, dd1⟩ := cells2 HB8.out.2.2.2.1
          obtain ⟨y0, y1⟩ := cells2 HB8.out.2.2.2.2
          obtain ⟨hsim, hup⟩ := rdI_sim bl p
          rcases hsim.rounds hup with ⟨er, n, hj1, hne, hj2 | ⟨rfl, m, hj2⟩⟩ | ⟨g, hj1, ⟨m, hj2⟩ | ⟨g', hj2, hle⟩⟩
          · obtain ⟨rfl, rfl⟩ := HEr.out.1 er n hj1
            obtain ⟨rfl, rfl⟩ := HEr.out.2 er _ hj2
            have k1 : ¬ (er : Int) = 0 := by omega
            have k2 : decide ((er : Int) = 0) = false := by rw [decide_eq_false_iff_not]; exact k1
            have k3 : ((er : Int) == 0) = false := by rw [beq_eq_false_iff_ne]; exact k1
            have k4 : ¬ er = 0 := hne
            clear hsim hup hj1 hj2 hne HEr HC HD
            go_wp2_with fail
            refine (HHd.out _ HB8.out.1).mono ?_
            rintro e w9 ⟨rfl, hb9⟩
            have HB9 : Hid (Below w.heap.size w w9) := bel_step HB8.out.1 hb9
            clear hb9
            go_wp2_with fail
            go_ret
            exact ⟨rfl, HB9.out⟩
          · obtain ⟨rfl, rfl⟩ := HEr.out.1 97 n hj1
            obtain ⟨rfl, rfl⟩ := HEr.out.2 97 m hj2
            clear hsim hup hj1 hj2 hne HEr HC HD
            by_cases hnm : ft = qt
            · subst hnm
              go_wp2_with fail
              refine (HHd.out _ HB8.out.1).mono ?_
              rintro e w9 ⟨rfl, hb9⟩
              have HB9 : Hid (Below w.heap.size w w9) := bel_step HB8.out.1 hb9
              clear hb9
              go_wp2_with fail
              go_ret
              exact ⟨rfl, HB9.out⟩
            · have k1 : decide (ft = qt) = false := by rw [decide_eq_false_iff_not]; exact hnm
              have k2 : (ft == qt) = false := by rw [beq_eq_false_iff_ne]; exact hnm
              go_wp2_with fail
              refine (HHd.out _ HB8.out.1).mono ?_
              rintro e w9 ⟨rfl, hb9⟩
              have HB9 : Hid (Below w.heap.size w w9) := bel_step HB8.out.1 hb9
              clear hb9
              go_wp2_with fail
              go_ret
              exact ⟨rfl, HB9.out⟩
          · obtain ⟨rfl, rfl, -⟩ := HC.out g hj1
            obtain ⟨rfl, rfl⟩ := HEr.out.2 97 m hj2
            clear hsim hup hj1 hj2 HEr HC HD
            go_wp2_with fail
            refine (HHd.out _ HB8.out.1).mono ?_
            rintro e w9 ⟨rfl, hb9⟩
            have HB9 : Hid (Below w.heap.size w w9) := bel_step HB8.out.1 hb9
            clear hb9
            go_wp2_with fail
            go_ret
            exact ⟨rfl, HB9.out⟩
          · obtain ⟨rfl, rfl, rfl, rfl, b1, rfl, rd1⟩ := HC.out g hj1
            obtain ⟨rfl, rfl, rfl, rfl, b2, rfl, rd2⟩ := HD.out g' hj2
            have hx0 := hle p.miss
            have HLe : Hid (∀ n, cst p n ≤ cst (chP (rdI bl) p) n) := hle
            have HRr : Hid (Rd W8 (some ⟨b1, 0, none⟩) (iC (p.on.map (cst p))) ∧ Rd W8 (some ⟨b2, 0, none⟩) (iC (p.on.map (cst (chP (rdI bl) p))))) := ⟨rd1, rd2⟩
            obtain ⟨x0, hx0v⟩ : ∃ x0, x0 = cst p p.miss := ⟨_, rfl⟩
            obtain ⟨y9, hy9v⟩ : ∃ y9, y9 = cst (chP (rdI bl) p) p.miss := ⟨_, rfl⟩
            rw [← hx0v, ← hy9v] at hx0
            rw [← hx0v] at cc1 ⊢
            rw [← hy9v] at dd1 ⊢
            have k1 : decide (y9 < x0) = false := by rw [decide_eq_false_iff_not]; omega
            have hol : (p.on.length : Int) ≤ 100 := by have := HLen.out; omega
            clear hsim hup hj1 hj2 HEr HC HD hle rd1 rd2 hx0v hy9v
            go_upto_region 17 with fail
            obtain ⟨Wm, hWm⟩ : ∃ Wm, Wm = W8 := ⟨_, rfl⟩
            rw [← hWm] at HB8 HRr ⊢
            clear hWm z0 z1 y0 y1 cc0 cc1 dd0 dd1 k1 hx0
            go_loopg [12] p.on.length (fun gq x wr => ∃ k : Nat, k ≤ p.on.length ∧ gq = p.on.length - k ∧ x = .int .i64 (k : Int) ∧ Below Wm.heap.size Wm wr)
            case atStart => exact ⟨0, Nat.zero_le _, rfl, rfl, Below.refl _ _⟩
            case round =>
              obtain ⟨k, hk9, hgk, rfl, hbw⟩ := hrel
              have HG : Hid (gk = p.on.length - k ∧ Below Wm.heap.size Wm wr) := ⟨hgk, hbw⟩
              obtain ⟨cc0, -⟩ := cells2 ((hbw.block _ (blk_lt HB8.out.2.1)).trans HB8.out.2.1)
              obtain ⟨dd0, -⟩ := cells2 ((hbw.block _ (blk_lt HB8.out.2.2.2.1)).trans HB8.out.2.2.2.1)
              clear hgk
              by_cases hlt : k < p.on.length
              · have hlt' : (k : Int) < (p.on.length : Int) := by omega
                have HLt : Hid (k < p.on.length) := hlt
                have u1 := rd_map (HRr.out.1.below hbw) hlt
                have u2 := rd_map (HRr.out.2.below hbw) hlt
                have hxy := HLe.out (p.on.getD k 0)
                generalize cst p (p.on.getD k 0) = xv at u1 hxy
                generalize cst (chP (rdI bl) p) (p.on.getD k 0) = yv at u2 hxy
                have k1 : decide (yv < xv) = false := by rw [decide_eq_false_iff_not]; omega
                clear hlt hk9 hxy hbw
                go_upto_region 19 with fail
                refine wp_region_held (S := fun w' : World => w'.cell? ⟨cb, 0, none⟩ = some (.slice (some ⟨b1, 0, none⟩) p.on.length m1) ∧ w'.cell? ⟨b1, k, none⟩ = some (.int .i64 xv) ∧ w'.cell? ⟨db, 0, none⟩ = some (.slice (some ⟨b2, 0, none⟩) p.on.length m2) ∧ w'.cell? ⟨b2, k, none⟩ = some (.int .i64 yv)) (by kernel_rfl) ?_
                change wpAnyH _ _ _ _ _ _ _ _ wr.drew
                have hS : (fun w' : World => w'.cell? ⟨cb, 0, none⟩ = some (.slice (some ⟨b1, 0, none⟩) p.on.length m1) ∧ w'.cell? ⟨b1, k, none⟩ = some (.int .i64 xv) ∧ w'.cell? ⟨db, 0, none⟩ = some (.slice (some ⟨b2, 0, none⟩) p.on.length m2) ∧ w'.cell? ⟨b2, k, none⟩ = some (.int .i64 yv)) wr.drew := ⟨cc0, u1, dd0, u2⟩
                have HWd : Hid (Below Wm.heap.size Wm wr.drew) := HG.out.2.drew
                generalize wr.drew = Wd at *
                refine tqA 0 rfl hS ?_
                refine tqA 1 rfl hS ?_
                refine tqA 2 rfl hS ?_
                refine tqA 3 rfl hS ?_
                refine tqA 4 rfl hS ?_
                refine tqA 5 rfl hS ?_
                refine tqA 6 rfl hS ?_
                refine tqA 7 rfl hS ?_
                refine tqA 8 rfl hS ?_
                refine tqA 9 rfl hS ?_
                refine tqA (v := .bool false) 10 rfl hS ?_
                refine wpAnyH_done (by kernel_rfl) ?_ _
                clear hS cc0 dd0 u1 u2
                go_simp
                go_wp2_with fail
                go_roundg (p.on.length - (k + 1))
                case measure => have h1 := HG.out.1; have := HLt.out; omega
                case rel => exact ⟨k + 1, HLt.out, rfl, by go_num, HWd.out⟩
              · obtain rfl : k = p.on.length := by omega
                clear hlt hk9 hbw
                go_wp2_with fail
                refine (HHd.out _ (bel_step HB8.out.1 HG.out.2)).mono ?_
                rintro e w9 ⟨rfl, hb9⟩
                have HB9 : Hid (Below w.heap.size w w9) := bel_step (bel_step HB8.out.1 HG.out.2) hb9
                clear hb9
                go_wp2_with fail
                go_ret
                exact ⟨rfl, HB9.out⟩
end Go.Proofs.YtnededkmjmbioabDoor.Vf

namespace Go.Proofs.YtnededkmjmbioabDoor.Vf
open Go.RowKit Go.Proofs.YtnededkmjmbioabDoor.Nm
/-- with other numbers -/
def nmI (bl : List Int) (i : Nat) (x : Ins) : Ins :=
  if x.op = 1 ∧ -1073741824 ≤ x.a ∧ x.a ≤ 1073741824 then ⟨x.op, (wtn (bl.getD (i % bl.length) 0) 2147483649 : Int) - 1073741824, x.b, x.c, x.d⟩
  else if x.op = 2 ∧ (x.a = 0 ∨ x.a = 1) then ⟨x.op, (wtn (bl.getD (i % bl.length) 0) 2 : Int), x.b, x.c, x.d⟩ else x
theorem nmI_sim (bl : List Int) (p : Pg) : Sim p (chP (nmI bl) p) ∧ ∀ k, (p.at k).op = 24 → (chP (nmI bl) p).at k = p.at k := by
  have hat := chP_at (nmI bl) p
  have hop : ∀ k x, (nmI bl k x).op = x.op := fun k x => by
    unfold nmI
    split
    · rfl
    · split <;> rfl
  have hsame : ∀ k x, x.op ≠ 1 → x.op ≠ 2 → nmI bl k x = x := fun k x h1 h2 => by
    unfold nmI
    rw [if_neg (fun e => h1 e.1), if_neg (fun e => h2 e.1)]
  refine ⟨⟨rfl, rfl, rfl, rfl, rfl, chL_len _ _ _, fun k => ?_, fun k h1 h2 _ => ?_, fun k hk => ?_⟩, fun k h => ?_⟩
  · rw [hat]; split
    · exact hop k _
    · rfl
  · rw [hat]; split
    · exact hsame k _ h1 h2
    · rfl
  · rw [hat, if_pos hk]
    unfold nmI
    split
    · rename_i h
      obtain ⟨h1, h2, h3⟩ := h
      have hlt := wtn_lt (bl.getD (k % bl.length) 0) (n := 2147483649) (by omega)
      generalize wtn (bl.getD (k % bl.length) 0) 2147483649 = ww at hlt
      unfold insF
      dsimp only
      rw [h1]
      rw [show kd4 (1 : Int).toNat = (5, 0, 0, 0) from rfl]
      have e1 : inK p 5 ((ww : Int) - 1073741824) = true := by unfold inK; simp [loK, hiK]; omega
      have e2 : inK p 5 (p.at k).a = true := by unfold inK; simp [loK, hiK]; omega
      rw [e1, e2]
    · split
      · rename_i h
        obtain ⟨h1, h2⟩ := h
        have hlt := wtn_lt (bl.getD (k % bl.length) 0) (n := 2) (by omega)
        generalize wtn (bl.getD (k % bl.length) 0) 2 = ww at hlt
        unfold insF
        dsimp only
        rw [h1]
        rw [show kd4 (2 : Int).toNat = (6, 0, 0, 0) from rfl]
        have e1 : inK p 6 (ww : Int) = true := by unfold inK; simp [loK, hiK]; omega
        have e2 : inK p 6 (p.at k).a = true := by unfold inK; simp [loK, hiK]; omega
        rw [e1, e2]
      · rfl
  · rw [hat]; split
    · exact hsame k _ (by omega) (by omega)
    · rfl
/-- what Run tells, as numbers: fault, costs -/
def outN (p : Pg) : Int × Int × List Int × Int := match judge p with | .error (e, n) => ((e : Int), n, [], 0) | .ok _ => (0, 0, p.on.map (cst p), cst p p.miss)
theorem outN_same (bl : List Int) (p : Pg) : outN (chP (nmI bl) p) = outN p := by
  obtain ⟨hs, h24⟩ := nmI_sim bl p
  obtain ⟨hj, hc⟩ := hs.judge h24
  unfold outN
  rw [hj]
  cases h : judge p with
  | error x => rfl
  | ok g =>
    dsimp only
    rw [hs.on, hs.miss, hc g h]
    rw [List.map_congr_left (fun n _ => hc g h n)]
theorem judge_ne {p : Pg} {e : Nat} {n : Int} (h : judge p = .error (e, n)) : e ≠ 0 := by
  unfold judge at h
  split at h
  · cases hw : walkP p p.cd.length 0 (got0 p) with
    | error x => obtain ⟨e', i⟩ := x; rw [hw] at h; cases h; exact walk_ne _ _ _ _ _ hw
    | ok g =>
      rw [hw] at h
      dsimp only at h
      cases hc : costF p (evs p) with
      | none => rw [hc] at h; cases h
      | some m => rw [hc] at h; cases h; omega
  · rename_i hc; cases h; exact hc
/-- of costs: like places, like fuel -/
theorem outN_cost (p : Pg) : (outN p).1 ≠ 0 ∨ ((outN p).1 = 0 ∧ (outN p).2.2.1 = p.on.map (cst p) ∧ (outN p).2.2.2 = cst p p.miss) := by
  unfold outN
  cases h : judge p with
  | error x =>
    obtain ⟨e, n⟩ := x
    have := judge_ne h
    exact .inl (by show (e : Int) ≠ 0; omega)
  | ok g => exact .inr ⟨rfl, rfl, rfl⟩
theorem run_n (v : PV) (p : Pg) (w : World) (hP : IsPg w v p) (hE : Ef w) : Calls Tryd.prog 8 #[.agg (pvC v p)] w fun e w' => ∃ o1 m1, e = .returned (.tuple #[.agg #[.slice o1 (outN p).2.2.1.length m1, .int .i64 (outN p).2.2.2], .agg #[.int .i64 (outN p).1, .int .i64 (outN p).2.1]]) ∧ Below w.heap.size w w' ∧ Rd w' o1 (iC (outN p).2.2.1) ∧ ∀ b, o1 = some ⟨b, 0, none⟩ → w.heap.size ≤ b := by
  refine (run_any v p w hP hE).mono ?_
  rintro r w' h
  unfold outN
  cases hj : judge p with
  | error x =>
    obtain ⟨e, n⟩ := x
    exact ⟨none, 0, h.err e n hj, h.bel, rd_nil _ _, fun b hb => by cases hb⟩
  | ok g =>
    obtain ⟨b, hb, hge, hr⟩ := h.ok g hj
    refine ⟨some ⟨b, 0, none⟩, p.on.length, ?_, h.bel, hr, fun b' hb' => by cases hb'; exact hge⟩
    rw [hb]
    simp
set_option maxHeartbeats 3200000 in
set_option maxRecDepth 100000 in
/-- SameInts, of the same numbers -/
theorem sameI_eq (l : List Int) (ao bo : Option Addr) (ac bc : Nat) (w : World) (ha : Rd w ao (iC l)) (hb : Rd w bo (iC l)) (hl : l.length ≤ 1000000) :
    Calls Tryd.prog 15 #[.slice ao l.length ac, .slice bo l.length bc] w fun e w' => e = .returned (.bool true) ∧ Below w.heap.size w w' := by
  have hl' : (l.length : Int) ≤ 1000000 := by omega
  have HR : Hid (Rd w ao (iC l) ∧ Rd w bo (iC l)) := ⟨ha, hb⟩
  clear ha hb hl
  go_enter Tryd.func15, Tryd.ntmps15
  go_wp2_with fail
  go_loopg [5] l.length (fun gq x wr => ∃ k : Nat, k ≤ l.length ∧ gq = l.length - k ∧ x = .int .i64 (k : Int) ∧ Below w.heap.size w wr)
  case atStart => exact ⟨0, Nat.zero_le _, rfl, rfl, Below.refl _ _⟩
  case round =>
    obtain ⟨k, hk9, hgk, rfl, hbw⟩ := hrel
    have HG : Hid (gk = l.length - k ∧ Below w.heap.size w wr) := ⟨hgk, hbw⟩
    clear hgk
    by_cases hlt : k < l.length
    · have hlt' : (k : Int) < (l.length : Int) := by omega
      have HLt : Hid (k < l.length) := hlt
      obtain ⟨g1, f1, rfl, -, u1⟩ := (HR.out.1.below hbw) k (.int .i64 (l.getD k 0)) (by simp [iC, hlt, List.getD_eq_getElem?_getD])
      obtain ⟨g2, f2, rfl, -, u2⟩ := (HR.out.2.below hbw) k (.int .i64 (l.getD k 0)) (by simp [iC, hlt, List.getD_eq_getElem?_getD])
      generalize l.getD k 0 = xv at u1 u2
      clear hlt hk9 hbw
      go_upto_region 6 with fail
      refine wp_region_held (S := fun w' : World => w'.cell? ⟨g1, f1 + k, none⟩ = some (.int .i64 xv) ∧ w'.cell? ⟨g2, f2 + k, none⟩ = some (.int .i64 xv)) (by kernel_rfl) ?_
      change wpAnyH _ _ _ _ _ _ _ _ wr.drew
      have hS : (fun w' : World => w'.cell? ⟨g1, f1 + k, none⟩ = some (.int .i64 xv) ∧ w'.cell? ⟨g2, f2 + k, none⟩ = some (.int .i64 xv)) wr.drew := ⟨u1, u2⟩
      have HWd : Hid (Below w.heap.size w wr.drew) := HG.out.2.drew
      generalize wr.drew = Wd at *
      refine tqA 0 rfl hS ?_
      refine tqA 1 rfl hS ?_
      refine tqA 2 rfl hS ?_
      refine tqA 3 rfl hS ?_
      refine tqA 4 rfl hS ?_
      refine tqA 5 rfl hS ?_
      refine tqA 6 rfl hS ?_
      refine tqA 7 rfl hS ?_
      refine tqA (v := .bool false) 8 rfl hS ?_
      refine wpAnyH_done (by kernel_rfl) ?_ _
      clear hS u1 u2
      go_simp
      go_wp2_with fail
      go_roundg (l.length - (k + 1))
      case measure => have h1 := HG.out.1; have := HLt.out; omega
      case rel => exact ⟨k + 1, HLt.out, rfl, by go_num, HWd.out⟩
    · obtain rfl : k = l.length := by omega
      clear hlt hk9 hbw
      go_wp2_with fail
      go_ret
      exact ⟨rfl, HG.out.2⟩
set_option maxHeartbeats 3200000 in
set_option maxRecDepth 100000 in
/-- SameCosts, of the same costs -/
theorem sameC_eq (l : List Int) (ao bo : Option Addr) (ac bc : Nat) (m : Int) (w : World) (ha : Rd w ao (iC l)) (hb : Rd w bo (iC l)) (hl : l.length ≤ 1000000) :
    Calls Tryd.prog 11 #[.agg #[.slice ao l.length ac, .int .i64 m], .agg #[.slice bo l.length bc, .int .i64 m]] w fun e w' => e = .returned (.bool true) ∧ Below w.heap.size w w' := by
  have HA : Hid _ := al2 w (.cells #[.slice ao l.length ac, .int .i64 m] 31) (.cells #[.slice bo l.length bc, .int .i64 m] 31)
  have HS : Hid (∀ W, Below w.heap.size w W → Calls Tryd.prog 15 #[.slice ao l.length ac, .slice bo l.length bc] W fun e w' => e = .returned (.bool true) ∧ Below W.heap.size W w') := fun W h => sameI_eq l ao bo ac bc W (ha.below h) (hb.below h) hl
  clear ha hb hl
  go_enter Tryd.func11, Tryd.ntmps11
  go_upto_region 1 with fail
  generalize (w.alloc (.cells #[.slice ao l.length ac, .int .i64 m] 31)).alloc (.cells #[.slice bo l.length bc, .int .i64 m] 31) = W1 at *
  obtain ⟨y0, y1⟩ := cells2 HA.out.2.1
  obtain ⟨z0, z1⟩ := cells2 HA.out.2.2
  go_wp2_with fail
  refine (HS.out _ HA.out.1).mono ?_
  rintro e w2 ⟨rfl, hb2⟩
  have HB2 : Hid (Below w.heap.size w w2) := bel_step HA.out.1 hb2
  clear hb2
  go_wp2_with fail
  go_ret
  exact ⟨rfl, HB2.out⟩
end Go.Proofs.YtnededkmjmbioabDoor.Vf
