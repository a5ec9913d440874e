import Derived.Test.YtnededkmjmbioabDoorJNm
import Derived.Test.YtnededkmjmbioabDoorCards
import Derived.Test.YtnededkmjmbioabDoorTie
import Derived.Test.YtnededkmjmbioabDoorVfTie
import Derived.Test.YtnededkmjmbioabDoorVfOpn
import Derived.WalkKit
import Derived.ProofKit
import Derived.OpenShut
import Derived.Below
import Derived.Carry
import Derived.Lib.SmallJoins
import Derived.Deep.DeepHandedRow
import Derived.Lib.LaidTab
namespace Go.Proofs.YtnededkmjmbioabDoor.Vf
open Go.RowKit Go.Proofs.YtnededkmjmbioabDoor.Nm
set_option maxHeartbeats 12800000 in
set_option maxRecDepth 100000 in
theorem numbersWalk (w : World) (v : PV) (p : Pg) (hp : RdPg w v p) (bo : Option Addr) (bc : Nat) (bl : List Int) (hr : Rd w bo (iC bl)) (hm : bl.length ≤ maxLen) (_ : ∀ n ∈ bl, -9223372036854775808 ≤ n ∧ n ≤ 9223372036854775807) (hE : Ef w) :
    Calls Tryd.prog 3 #[.agg (pvC v p), .slice bo bl.length bc] w fun e w' => e = .returned (.bool true) ∧ Below w.heap.size w w' := by
  have HEf : Hid (∀ W, Below w.heap.size w W → Ef W) := fun W hb => hE.below hb
  have HHd : Hid (∀ W, Below w.heap.size w W → Calls Tryd.prog 7 #[] W fun e w' => e = .returned (.bool true) ∧ Below W.heap.size W w') := fun W hb => head_any W (hE.below hb)
  have HFar : Hid (∀ W, Calls Tryd.prog 6 #[.agg (pvC v p)] W fun e w' => e = .returned (.bool (farB p)) ∧ Below W.heap.size W w') := fun W => far_any v p W
  have HLnd : Hid (farB p = false → ∀ W, Below w.heap.size w W → Calls Tryd.prog 9 #[.agg (pvC v p)] W (LdP W p)) := fun hf W hb => by
    obtain ⟨l1, l2, l3, l4, l5⟩ := farB_not hf
    exact lendP_any v p W ((hp.is l1 l2 l3 l4 l5).below hb) l1 l2 l3 l4 l5
  have HRd : Hid (Rd w bo (iC bl)) := hr
  have HOn : Hid (Rd w v.oo (iC p.on)) := hp.on
  unfold maxLen at hm
  have hm' : (bl.length : Int) ≤ 9223372036854775807 := by omega
  clear hE hp hr hm
  obtain ⟨qo, qc, vo, vc, tto, tc, oo, oc, co, cc⟩ := v
  show Calls _ _ #[.agg #[.slice qo p.gh.length qc, .slice vo p.vs.length vc, .slice tto p.ts.length tc, .slice oo p.on.length oc, .int .i64 p.miss, .slice co p.cd.length cc], _] _ _
  unfold pvC at HFar HLnd
  dsimp only at HFar HLnd HOn
  have hb0 : Below w.heap.size w (w.alloc (.cells #[.slice qo p.gh.length qc, .slice vo p.vs.length vc, .slice tto p.ts.length tc, .slice oo p.on.length oc, .int .i64 p.miss, .slice co p.cd.length cc] 27)) := (Below.refl _ w).alloc (Nat.le_refl _) _
  have HB0 : Hid (Below w.heap.size w (w.alloc (.cells #[.slice qo p.gh.length qc, .slice vo p.vs.length vc, .slice tto p.ts.length tc, .slice oo p.on.length oc, .int .i64 p.miss, .slice co p.cd.length cc] 27)) ∧ (w.alloc (.cells #[.slice qo p.gh.length qc, .slice vo p.vs.length vc, .slice tto p.ts.length tc, .slice oo p.on.length oc, .int .i64 p.miss, .slice co p.cd.length cc] 27)).heap[w.heap.size]? = some (.cells #[.slice qo p.gh.length qc, .slice vo p.vs.length vc, .slice tto p.ts.length tc, .slice oo p.on.length oc, .int .i64 p.miss, .slice co p.cd.length cc] 27 (0, 0))) := ⟨hb0, heap_alloc_new _ _⟩
  clear hb0
  go_enter Tryd.func3, Tryd.ntmps3
  go_upto_region 1 with fail
  generalize w.alloc (.cells #[.slice qo p.gh.length qc, .slice vo p.vs.length vc, .slice tto p.ts.length tc, .slice oo p.on.length oc, .int .i64 p.miss, .slice co p.cd.length cc] 27) = W0 at *
  obtain ⟨i0, i1, i2, i3, i4, i5⟩ := cells6 HB0.out.2
  go_wp2_with fail
  refine (HFar.out _).mono ?_
  rintro e w1 ⟨rfl, hb1⟩
  have HB1 : Hid (Below w.heap.size w w1 ∧ w1.heap[w.heap.size]? = some (.cells #[.slice qo p.gh.length qc, .slice vo p.vs.length vc, .slice tto p.ts.length tc, .slice oo p.on.length oc, .int .i64 p.miss, .slice co p.cd.length cc] 27 (0, 0))) := ⟨bel_step HB0.out.1 hb1, (hb1.block _ (blk_lt HB0.out.2)).trans HB0.out.2⟩
  clear hb1 HB0 HFar i0 i1 i2 i3 i4 i5
  cases hfar : farB p with
  | true =>
    clear hfar
    go_wp2_with fail
    refine (HHd.out _ HB1.out.1).mono ?_
    rintro e w9 ⟨rfl, hb9⟩
    have HB9 : Hid (Below w.heap.size w w9) := bel_step HB1.out.1 hb9
    clear hb9
    go_wp2_with fail
    go_ret
    exact ⟨rfl, HB9.out⟩
  | false =>
    by_cases hl0 : bl.length = 0
    · have q1 : decide ((bl.length : Int) = 0) = true := by simp [hl0]
      have q2 : ((bl.length : Int) == 0) = true := by simp [hl0]
      have q3 : (bl.length : Int) = 0 := by omega
      clear hfar hl0
      go_wp2_with fail
      refine (HHd.out _ HB1.out.1).mono ?_
      rintro e w9 ⟨rfl, hb9⟩
      have HB9 : Hid (Below w.heap.size w w9) := bel_step HB1.out.1 hb9
      clear hb9
      go_wp2_with fail
      go_ret
      exact ⟨rfl, HB9.out⟩
    · have q1 : decide ((bl.length : Int) = 0) = false := by rw [decide_eq_false_iff_not]; omega
      have q2 : ((bl.length : Int) == 0) = false := by rw [beq_eq_false_iff_ne]; omega
      have q3 : ¬ (bl.length : Int) = 0 := by omega
      have HLen := show Hid _ from farB_not hfar
      have HL2 : Hid (∀ W, Below w.heap.size w W → Calls Tryd.prog 9 #[.agg #[.slice qo p.gh.length qc, .slice vo p.vs.length vc, .slice tto p.ts.length tc, .slice oo p.on.length oc, .int .i64 p.miss, .slice co p.cd.length cc]] W (LdP W p)) := HLnd.out hfar
      have HLp : Hid (0 < bl.length) := by show 0 < _; omega
      clear hfar HLnd hl0
      obtain ⟨i0, i1, i2, i3, i4, i5⟩ := cells6 HB1.out.2
      go_wp2_with fail
      refine (HL2.out _ HB1.out.1).mono ?_
      rintro e w2 ⟨hb2, ga, gb, gc, gd, ge, rfl, hg0, hg1, hg2, hg3, hg4, r0, r1, r2, r3, hbk⟩
      have HP2 : Hid (IsPg w2 ⟨some ⟨ga, 0, none⟩, p.gh.length + 3, some ⟨gb, 0, none⟩, p.vs.length + 3, some ⟨gc, 0, none⟩, p.ts.length + 5, some ⟨gd, 0, none⟩, p.on.length + 5, some ⟨ge, 0, none⟩, p.cd.length + 9⟩ p) := by
        have hl := HLen.out
        exact ⟨r0, r1, r2, r3, hbk.rd, by omega, by omega, by omega, by omega, by omega⟩
      have HB2 : Hid (Below w.heap.size w w2 ∧ w2.heap[w.heap.size]? = some (.cells #[.slice qo p.gh.length qc, .slice vo p.vs.length vc, .slice tto p.ts.length tc, .slice oo p.on.length oc, .int .i64 p.miss, .slice co p.cd.length cc] 27 (0, 0))) := ⟨bel_step HB1.out.1 hb2, (hb2.block _ (blk_lt HB1.out.2)).trans HB1.out.2⟩
      clear hb2 hg0 hg1 hg2 hg3 hg4 r0 r1 r2 r3 hbk i0 i1 i2 i3 i4 i5 HB1
      obtain ⟨OO, hOO⟩ : ∃ OO, OO = outN p := ⟨_, rfl⟩
      have hcost := outN_cost p
      rw [← hOO] at hcost
      have HOO : Hid (OO = outN p) := hOO
      obtain ⟨fe, ft, lc, cm⟩ := OO
      have HCost : Hid (fe ≠ 0 ∨ (fe = 0 ∧ lc = p.on.map (cst p) ∧ cm = cst p p.miss)) := hcost
      have hlcl : lc.length ≤ 100 := by
        have h1 : lc = (outN p).2.2.1 := congrArg (fun x : Int × Int × List Int × Int => x.2.2.1) hOO
        have hl := HLen.out
        rw [h1]
        unfold outN
        cases judge p with
        | error x => exact Nat.zero_le _
        | ok g => show (p.on.map (cst p)).length ≤ 100; rw [List.length_map]; omega
      have HLc : Hid (lc.length ≤ 100) := hlcl
      clear hcost hOO hlcl
      have HRun1 : Hid (Calls Tryd.prog 8 #[.agg #[.slice (some ⟨ga, 0, none⟩) p.gh.length (p.gh.length + 3), .slice (some ⟨gb, 0, none⟩) p.vs.length (p.vs.length + 3), .slice (some ⟨gc, 0, none⟩) p.ts.length (p.ts.length + 5), .slice (some ⟨gd, 0, none⟩) p.on.length (p.on.length + 5), .int .i64 p.miss, .slice (some ⟨ge, 0, none⟩) p.cd.length (p.cd.length + 9)]] w2 fun e w' => ∃ o1 m1, e = .returned (.tuple #[.agg #[.slice o1 lc.length m1, .int .i64 cm], .agg #[.int .i64 fe, .int .i64 ft]]) ∧ Below w2.heap.size w2 w' ∧ Rd w' o1 (iC lc)) := by
        refine (run_n ⟨some ⟨ga, 0, none⟩, p.gh.length + 3, some ⟨gb, 0, none⟩, p.vs.length + 3, some ⟨gc, 0, none⟩, p.ts.length + 5, some ⟨gd, 0, none⟩, p.on.length + 5, some ⟨ge, 0, none⟩, p.cd.length + 9⟩ p w2 HP2.out (HEf.out _ HB2.out.1)).mono ?_
        rintro e w' ⟨o1, m1, h1, h2, h3, -⟩
        rw [← HOO.out] at h1 h3
        exact ⟨o1, m1, h1, h2, h3⟩
      go_wp2_with fail
      refine HRun1.out.mono ?_
      rintro e w3 ⟨o1, m1, rfl, hb3, hrc⟩
      have HA3 : Hid _ := al2 w3 (.cells #[.slice o1 lc.length m1, .int .i64 cm] 31) (.cells #[.int .i64 fe, .int .i64 ft] 34)
      have HRo : Hid (Below w2.heap.size w2 w3 ∧ Rd w3 o1 (iC lc)) := ⟨hb3, hrc⟩
      clear hb3 hrc HP2 HRun1
      go_upto_region 4 with fail
      generalize ((w3.alloc (.cells #[.slice o1 lc.length m1, .int .i64 cm] 31)).alloc (.cells #[.int .i64 fe, .int .i64 ft] 34)) = W4 at *
      have hb24 := bel_step HRo.out.1 HA3.out.1
      have HB4 : Hid (Below w.heap.size w W4 ∧ W4.heap[w.heap.size]? = some (.cells #[.slice qo p.gh.length qc, .slice vo p.vs.length vc, .slice tto p.ts.length tc, .slice oo p.on.length oc, .int .i64 p.miss, .slice co p.cd.length cc] 27 (0, 0)) ∧ W4.heap[w3.heap.size]? = some (.cells #[.slice o1 lc.length m1, .int .i64 cm] 31 (0, 0)) ∧ W4.heap[w3.heap.size + 1]? = some (.cells #[.int .i64 fe, .int .i64 ft] 34 (0, 0)) ∧ Rd W4 o1 (iC lc)) := ⟨bel_step HB2.out.1 hb24, (hb24.block _ (blk_lt HB2.out.2)).trans HB2.out.2, HA3.out.2.1, HA3.out.2.2, HRo.out.2.below HA3.out.1⟩
      clear hb24 HA3 HRo HB2
      generalize w3.heap.size = cb at *
      obtain ⟨i0, i1, i2, i3, i4, i5⟩ := cells6 HB4.out.2.1
      go_wp2_with fail
      refine (HL2.out _ HB4.out.1).mono ?_
      rintro e w5 ⟨hb5, ha, hb, hc, hd, he, rfl, hg0, hg1, hg2, hg3, hg4, r0, r1, r2, r3, hbk⟩
      have hal : Below w5.heap.size w5 (w5.alloc (.cells #[.slice (some ⟨ha, 0, none⟩) p.gh.length (p.gh.length + 3), .slice (some ⟨hb, 0, none⟩) p.vs.length (p.vs.length + 3), .slice (some ⟨hc, 0, none⟩) p.ts.length (p.ts.length + 5), .slice (some ⟨hd, 0, none⟩) p.on.length (p.on.length + 5), .int .i64 p.miss, .slice (some ⟨he, 0, none⟩) p.cd.length (p.cd.length + 9)] 27)) := (Below.refl _ w5).alloc (Nat.le_refl _) _
      have H6 : Hid (Below W4.heap.size W4 (w5.alloc (.cells #[.slice (some ⟨ha, 0, none⟩) p.gh.length (p.gh.length + 3), .slice (some ⟨hb, 0, none⟩) p.vs.length (p.vs.length + 3), .slice (some ⟨hc, 0, none⟩) p.ts.length (p.ts.length + 5), .slice (some ⟨hd, 0, none⟩) p.on.length (p.on.length + 5), .int .i64 p.miss, .slice (some ⟨he, 0, none⟩) p.cd.length (p.cd.length + 9)] 27)) ∧ (w5.alloc (.cells #[.slice (some ⟨ha, 0, none⟩) p.gh.length (p.gh.length + 3), .slice (some ⟨hb, 0, none⟩) p.vs.length (p.vs.length + 3), .slice (some ⟨hc, 0, none⟩) p.ts.length (p.ts.length + 5), .slice (some ⟨hd, 0, none⟩) p.on.length (p.on.length + 5), .int .i64 p.miss, .slice (some ⟨he, 0, none⟩) p.cd.length (p.cd.length + 9)] 27)).heap[w5.heap.size]? = some (.cells #[.slice (some ⟨ha, 0, none⟩) p.gh.length (p.gh.length + 3), .slice (some ⟨hb, 0, none⟩) p.vs.length (p.vs.length + 3), .slice (some ⟨hc, 0, none⟩) p.ts.length (p.ts.length + 5), .slice (some ⟨hd, 0, none⟩) p.on.length (p.on.length + 5), .int .i64 p.miss, .slice (some ⟨he, 0, none⟩) p.cd.length (p.cd.length + 9)] 27 (0, 0)) ∧ Bk (w5.alloc (.cells #[.slice (some ⟨ha, 0, none⟩) p.gh.length (p.gh.length + 3), .slice (some ⟨hb, 0, none⟩) p.vs.length (p.vs.length + 3), .slice (some ⟨hc, 0, none⟩) p.ts.length (p.ts.length + 5), .slice (some ⟨hd, 0, none⟩) p.on.length (p.on.length + 5), .int .i64 p.miss, .slice (some ⟨he, 0, none⟩) p.cd.length (p.cd.length + 9)] 27)) he 39 (cC p.cd) 45) := ⟨bel_step hb5 hal, heap_alloc_new _ _, hbk.below hal⟩
      have HR6 : Hid (Rd (w5.alloc (.cells #[.slice (some ⟨ha, 0, none⟩) p.gh.length (p.gh.length + 3), .slice (some ⟨hb, 0, none⟩) p.vs.length (p.vs.length + 3), .slice (some ⟨hc, 0, none⟩) p.ts.length (p.ts.length + 5), .slice (some ⟨hd, 0, none⟩) p.on.length (p.on.length + 5), .int .i64 p.miss, .slice (some ⟨he, 0, none⟩) p.cd.length (p.cd.length + 9)] 27)) (some ⟨ha, 0, none⟩) (bC p.gh) ∧ Rd (w5.alloc (.cells #[.slice (some ⟨ha, 0, none⟩) p.gh.length (p.gh.length + 3), .slice (some ⟨hb, 0, none⟩) p.vs.length (p.vs.length + 3), .slice (some ⟨hc, 0, none⟩) p.ts.length (p.ts.length + 5), .slice (some ⟨hd, 0, none⟩) p.on.length (p.on.length + 5), .int .i64 p.miss, .slice (some ⟨he, 0, none⟩) p.cd.length (p.cd.length + 9)] 27)) (some ⟨hb, 0, none⟩) (vC p.vs) ∧ Rd (w5.alloc (.cells #[.slice (some ⟨ha, 0, none⟩) p.gh.length (p.gh.length + 3), .slice (some ⟨hb, 0, none⟩) p.vs.length (p.vs.length + 3), .slice (some ⟨hc, 0, none⟩) p.ts.length (p.ts.length + 5), .slice (some ⟨hd, 0, none⟩) p.on.length (p.on.length + 5), .int .i64 p.miss, .slice (some ⟨he, 0, none⟩) p.cd.length (p.cd.length + 9)] 27)) (some ⟨hc, 0, none⟩) (iC p.ts) ∧ Rd (w5.alloc (.cells #[.slice (some ⟨ha, 0, none⟩) p.gh.length (p.gh.length + 3), .slice (some ⟨hb, 0, none⟩) p.vs.length (p.vs.length + 3), .slice (some ⟨hc, 0, none⟩) p.ts.length (p.ts.length + 5), .slice (some ⟨hd, 0, none⟩) p.on.length (p.on.length + 5), .int .i64 p.miss, .slice (some ⟨he, 0, none⟩) p.cd.length (p.cd.length + 9)] 27)) (some ⟨hd, 0, none⟩) (iC p.on)) := ⟨r0.below hal, r1.below hal, r2.below hal, r3.below hal⟩
      have HN6 : Hid (W4.heap.size ≤ he ∧ ha < he ∧ hb < he ∧ hc < he ∧ hd < he ∧ he < w5.heap.size ∧ cb + 1 < W4.heap.size ∧ w.heap.size < W4.heap.size) := ⟨hg0, hg1, hg2, hg3, hg4, hbk.lt, blk_lt HB4.out.2.2.2.1, blk_lt HB4.out.2.1⟩
      clear hb5 hal hg0 hg1 hg2 hg3 hg4 r0 r1 r2 r3 hbk i0 i1 i2 i3 i4 i5 HL2
      go_upto_region 6 with fail
      generalize w5.alloc (.cells #[.slice (some ⟨ha, 0, none⟩) p.gh.length (p.gh.length + 3), .slice (some ⟨hb, 0, none⟩) p.vs.length (p.vs.length + 3), .slice (some ⟨hc, 0, none⟩) p.ts.length (p.ts.length + 5), .slice (some ⟨hd, 0, none⟩) p.on.length (p.on.length + 5), .int .i64 p.miss, .slice (some ⟨he, 0, none⟩) p.cd.length (p.cd.length + 9)] 27) = W6 at *
      generalize w5.heap.size = qb at *
      have hcd : (p.cd.length : Int) ≤ 524288 := by have := HLen.out; omega
      have hnl : ¬ bl = [] := fun e => by have := HLp.out; rw [e] at this; simp at this
      have H46 : Hid (∀ X, Fg he W6 X → Below W4.heap.size W4 X) := fun X h => h.bel H6.out.1 HN6.out.1 H6.out.1.size
      obtain ⟨Wl, hWl⟩ : ∃ Wl, Wl = W6 := ⟨_, rfl⟩
      have HWl : Hid (Wl = W6) := hWl
      rw [← hWl]
      clear hWl
      go_loopg [8] p.cd.length (fun gq x wr => ∃ j : Nat, j ≤ p.cd.length ∧ gq = p.cd.length - j ∧ x = .int .i64 (j : Int) ∧ Fg he W6 wr ∧ Bk wr he 39 (cC (chL (nmI bl) p.cd j)) 45)
      case atStart => exact ⟨0, Nat.zero_le _, rfl, rfl, by rw [HWl.out]; exact Fg.refl _ _, by rw [HWl.out, chL_zero]; exact H6.out.2.2⟩
      case round =>
        obtain ⟨j, hj9, hgk, rfl, hfg, hbk⟩ := hrel
        have HG : Hid (gk = p.cd.length - j ∧ Fg he W6 wr ∧ Bk wr he 39 (cC (chL (nmI bl) p.cd j)) 45) := ⟨hgk, hfg, hbk⟩
        have hqb : wr.heap[qb]? = some (.cells #[.slice (some ⟨ha, 0, none⟩) p.gh.length (p.gh.length + 3), .slice (some ⟨hb, 0, none⟩) p.vs.length (p.vs.length + 3), .slice (some ⟨hc, 0, none⟩) p.ts.length (p.ts.length + 5), .slice (some ⟨hd, 0, none⟩) p.on.length (p.on.length + 5), .int .i64 p.miss, .slice (some ⟨he, 0, none⟩) p.cd.length (p.cd.length + 9)] 27 (0, 0)) := (hfg.block _ (blk_lt H6.out.2.1) (by have := HN6.out; omega)).trans H6.out.2.1
        obtain ⟨i0, i1, i2, i3, i4, i5⟩ := cells6 hqb
        have HQb : Hid (wr.heap[qb]? = some (.cells #[.slice (some ⟨ha, 0, none⟩) p.gh.length (p.gh.length + 3), .slice (some ⟨hb, 0, none⟩) p.vs.length (p.vs.length + 3), .slice (some ⟨hc, 0, none⟩) p.ts.length (p.ts.length + 5), .slice (some ⟨hd, 0, none⟩) p.on.length (p.on.length + 5), .int .i64 p.miss, .slice (some ⟨he, 0, none⟩) p.cd.length (p.cd.length + 9)] 27 (0, 0))) := hqb
        clear hgk hqb HWl
        by_cases hlt : j < p.cd.length
        · have hlt' : (j : Int) < (p.cd.length : Int) := by omega
          have HLt : Hid (j < p.cd.length) := hlt
          obtain ⟨g9, f9, e9, -, d0, d1, d2, d3, d4⟩ := rd_ins hbk.rd (k := j) (by rw [chL_len]; exact hlt)
          cases e9
          have hx : (chL (nmI bl) p.cd j)[j]'(by rw [chL_len]; exact hlt) = p.cd.getD j Ins.zero := by
            have h1 := chL_get (nmI bl) p.cd j hlt
            rw [List.getElem?_eq_getElem (by rw [chL_len]; exact hlt), if_neg (by omega)] at h1
            exact Option.some.inj h1
          rw [hx] at d0 d1 d2 d3 d4
          rw [Nat.zero_add] at d0 d1 d2 d3 d4
          obtain ⟨x, hxv⟩ : ∃ x, x = p.cd.getD j Ins.zero := ⟨_, rfl⟩
          rw [← hxv] at d0 d1 d2 d3 d4
          have HX : Hid (x = p.cd.getD j Ins.zero) := hxv
          obtain ⟨xo, xa, xb, xc, xd⟩ := x
          dsimp only at d0 d1 d2 d3 d4
          have hal : Below wr.heap.size wr (wr.alloc (.cells #[.int .i64 xo, .int .i64 xa, .int .i64 xb, .int .i64 xc, .int .i64 xd] 39)) := (Below.refl _ wr).alloc (Nat.le_refl _) _
          have HQ : Hid (Fg he W6 (wr.alloc (.cells #[.int .i64 xo, .int .i64 xa, .int .i64 xb, .int .i64 xc, .int .i64 xd] 39)) ∧ Bk (wr.alloc (.cells #[.int .i64 xo, .int .i64 xa, .int .i64 xb, .int .i64 xc, .int .i64 xd] 39)) he 39 (cC (chL (nmI bl) p.cd j)) 45 ∧ (wr.alloc (.cells #[.int .i64 xo, .int .i64 xa, .int .i64 xb, .int .i64 xc, .int .i64 xd] 39)).heap[wr.heap.size]? = some (.cells #[.int .i64 xo, .int .i64 xa, .int .i64 xb, .int .i64 xc, .int .i64 xd] 39 (0, 0)) ∧ (wr.alloc (.cells #[.int .i64 xo, .int .i64 xa, .int .i64 xb, .int .i64 xc, .int .i64 xd] 39)).heap[qb]? = some (.cells #[.slice (some ⟨ha, 0, none⟩) p.gh.length (p.gh.length + 3), .slice (some ⟨hb, 0, none⟩) p.vs.length (p.vs.length + 3), .slice (some ⟨hc, 0, none⟩) p.ts.length (p.ts.length + 5), .slice (some ⟨hd, 0, none⟩) p.on.length (p.on.length + 5), .int .i64 p.miss, .slice (some ⟨he, 0, none⟩) p.cd.length (p.cd.length + 9)] 27 (0, 0)) ∧ qb < wr.heap.size ∧ he < wr.heap.size) := ⟨HG.out.2.1.trans (Fg.of hal), hbk.below hal, heap_alloc_new _ _, (hal.block _ (blk_lt HQb.out)).trans HQb.out, blk_lt HQb.out, hbk.lt⟩
          have hheq : he < wr.heap.size := hbk.lt
          obtain ⟨md, hmd⟩ : ∃ md, md = j % bl.length := ⟨_, rfl⟩
          have hml : md < bl.length := by rw [hmd]; exact Nat.mod_lt _ HLp.out
          have hm1 : (j : Int).tmod (bl.length : Int) = (md : Int) := by rw [hmd]; rfl
          have hm2 : (j : Int) % (bl.length : Int) = (md : Int) := by rw [hmd]; omega
          have hm3 : (md : Int) < (bl.length : Int) := by omega
          have hw4 : IntKind.i64.wrap (md : Int) = (md : Int) := by rw [IntKind.wrap_i64]; omega
          have hb4 := H46.out _ hfg
          obtain ⟨bg, bf, hbo, hbg, hbc⟩ := rd_int (HRd.out.below (bel_step HB4.out.1 hb4)) hml
          obtain rfl : bo = some ⟨bg, bf, none⟩ := hbo
          obtain ⟨r, hrc, hrv⟩ : ∃ r, wr.cell? ⟨bg, bf + md, none⟩ = some (.int .i64 r) ∧ bl.getD (j % bl.length) 0 = r := ⟨_, hbc, by rw [← hmd, List.getD_eq_getElem?_getD, List.getElem?_eq_getElem hml]; rfl⟩
          have HRv : Hid (bl.getD (j % bl.length) 0 = r) := hrv
          clear hlt hj9 hbk hx hxv hal hfg hb4 hmd hml hbc hrv
          by_cases o1c : xo = 1
          · subst o1c
            by_cases c1 : -1073741824 ≤ xa
            · by_cases c2 : xa ≤ 1073741824
              · have HWn : Hid (∀ W, Calls Tryd.prog 10 #[.int .i64 r, .int .i64 2147483649] W fun e w' => e = .returned (.int .i64 (wtn r 2147483649 : Nat)) ∧ w' = W) := fun W => wtn_any r 2147483649 (by omega) (by omega) W
                have hwl := wtn_lt r (n := 2147483649) (by omega)
                have HWw : Hid (wtn (bl.getD (j % bl.length) 0) 2147483649 = wtn r 2147483649) := by show _ = _; rw [HRv.out]
                generalize wtn r 2147483649 = ww at *
                have hwl' : (ww : Int) < 2147483649 := by omega
                clear hwl
                go_upto_region 11 with fail
                have hws : IntKind.i64.wrap ((ww : Int) - 1073741824) = (ww : Int) - 1073741824 := by rw [IntKind.wrap_i64]; omega
                have HQd : Hid (Fg he W6 (wr.alloc (.cells #[.int .i64 1, .int .i64 xa, .int .i64 xb, .int .i64 xc, .int .i64 xd] 39)).drew ∧ Bk (wr.alloc (.cells #[.int .i64 1, .int .i64 xa, .int .i64 xb, .int .i64 xc, .int .i64 xd] 39)).drew he 39 (cC (chL (nmI bl) p.cd j)) 45 ∧ (wr.alloc (.cells #[.int .i64 1, .int .i64 xa, .int .i64 xb, .int .i64 xc, .int .i64 xd] 39)).drew.heap[wr.heap.size]? = some (.cells #[.int .i64 1, .int .i64 xa, .int .i64 xb, .int .i64 xc, .int .i64 xd] 39 (0, 0)) ∧ (wr.alloc (.cells #[.int .i64 1, .int .i64 xa, .int .i64 xb, .int .i64 xc, .int .i64 xd] 39)).drew.heap[qb]? = some (.cells #[.slice (some ⟨ha, 0, none⟩) p.gh.length (p.gh.length + 3), .slice (some ⟨hb, 0, none⟩) p.vs.length (p.vs.length + 3), .slice (some ⟨hc, 0, none⟩) p.ts.length (p.ts.length + 5), .slice (some ⟨hd, 0, none⟩) p.on.length (p.on.length + 5), .int .i64 p.miss, .slice (some ⟨he, 0, none⟩) p.cd.length (p.cd.length + 9)] 27 (0, 0))) := ⟨HQ.out.1.trans (Fg.of (Below.refl _ _).drew), HQ.out.2.1.below (Below.refl _ _).drew, HQ.out.2.2.1, HQ.out.2.2.2.1⟩
                have HKx : Hid (he < wr.heap.size) := HQ.out.2.2.2.2.2
                generalize hxk : wr.heap.size = xk at *
                refine wp_region_held (S := fun w' : World => w'.cell? ⟨qb, 5, none⟩ = some (.slice (some ⟨he, 0, none⟩) p.cd.length (p.cd.length + 9))) (by kernel_rfl) ?_
                change wpAnyH _ _ _ _ _ _ _ _ (wr.alloc (.cells #[.int .i64 1, .int .i64 xa, .int .i64 xb, .int .i64 xc, .int .i64 xd] 39)).drew
                generalize (wr.alloc (.cells #[.int .i64 1, .int .i64 xa, .int .i64 xb, .int .i64 xc, .int .i64 xd] 39)).drew = Xd at *
                clear hxk
                have hS : (fun w' : World => w'.cell? ⟨qb, 5, none⟩ = some (.slice (some ⟨he, 0, none⟩) p.cd.length (p.cd.length + 9))) Xd := (cells6 HQd.out.2.2.2).2.2.2.2.2
                refine tqS 0 rfl hS ?_
                refine tqS 1 rfl hS ?_
                refine tqS 2 rfl hS ?_
                refine tqS 3 rfl hS ?_
                refine wpAnyH_ready (rs := [4]) (by kernel_rfl) (by simp) ?_
                refine AllReadyH.cons rfl (fun K hK => ?_) AllReadyH.nil
                go_simp
                refine Calls.mono (HWn.out _) ?_
                rintro e w9 ⟨rfl, h9⟩
                replace h9 := h9.symm
                subst h9
                refine hK.out _ _ hS (fun hS => ?_)
                clear hK K
                refine tqS (v := .int .i64 ((ww : Int) - 1073741824)) 5 rfl hS ?_
                refine wpAnyH_ready (rs := [6]) (by kernel_rfl) (by simp) ?_
                refine AllReadyH.cons rfl (fun K hK => ?_) AllReadyH.nil
                go_simp
                refine hK.out _ _ hS (fun hS => ?_)
                clear hK K
                refine wpAnyH_ready (rs := [7]) (by kernel_rfl) (by simp) ?_
                refine AllReadyH.cons rfl (fun K hK => ?_) AllReadyH.nil
                go_simp
                refine hK.out _ _ hS (fun hS => ?_)
                clear hK K
                obtain ⟨v9, c9⟩ := HQd.out.2.1.cell (j := j * 5 + 1) (by rw [cC_len, chL_len]; have := HLt.out; omega)
                have fz := HQd.out.2.1.frozen
                have hn9 := HN6.out
                have hq9 : (Xd.setCell ⟨he, j * 5 + 1, none⟩ (.int .i64 ((ww : Int) - 1073741824))).heap[qb]? = some (.cells #[.slice (some ⟨ha, 0, none⟩) p.gh.length (p.gh.length + 3), .slice (some ⟨hb, 0, none⟩) p.vs.length (p.vs.length + 3), .slice (some ⟨hc, 0, none⟩) p.ts.length (p.ts.length + 5), .slice (some ⟨hd, 0, none⟩) p.on.length (p.on.length + 5), .int .i64 p.miss, .slice (some ⟨he, 0, none⟩) p.cd.length (p.cd.length + 9)] 27 (0, 0)) := (heap_setCell_other Xd ⟨he, j * 5 + 1, none⟩ qb _ (by show qb ≠ he; omega)).trans HQd.out.2.2.2
                have hS9 : (fun w' : World => w'.cell? ⟨qb, 5, none⟩ = some (.slice (some ⟨he, 0, none⟩) p.cd.length (p.cd.length + 9))) (Xd.setCell ⟨he, j * 5 + 1, none⟩ (.int .i64 ((ww : Int) - 1073741824))) := (cells6 hq9).2.2.2.2.2
                refine wpAnyH_ready (rs := [8]) (by kernel_rfl) (by simp) ?_
                refine AllReadyH.cons rfl (fun K hK => ?_) AllReadyH.nil
                go_simp
                refine hK.out _ _ hS9 (fun hS => ?_)
                clear hK K
                refine wpAnyH_done (by kernel_rfl) ?_ _
                have HE : Hid (Fg he W6 (Xd.setCell ⟨he, j * 5 + 1, none⟩ (.int .i64 ((ww : Int) - 1073741824))) ∧ Bk (Xd.setCell ⟨he, j * 5 + 1, none⟩ (.int .i64 ((ww : Int) - 1073741824))) he 39 (cC (chL (nmI bl) p.cd (j + 1))) 45 ∧ (Xd.setCell ⟨he, j * 5 + 1, none⟩ (.int .i64 ((ww : Int) - 1073741824))).heap[xk]? = some (.cells #[.int .i64 1, .int .i64 xa, .int .i64 xb, .int .i64 xc, .int .i64 xd] 39 (0, 0))) := by
                  refine ⟨HQd.out.1.trans (Fg.set _ _ _), ?_, (heap_setCell_other Xd ⟨he, j * 5 + 1, none⟩ xk _ (by show xk ≠ he; have := HKx.out; omega)).trans HQd.out.2.2.1⟩
                  have h1 := HQd.out.2.1.turn (j := j) (by rw [chL_len]; exact HLt.out) ((ww : Int) - 1073741824)
                  have hx : (chL (nmI bl) p.cd j)[j]'(by rw [chL_len]; exact HLt.out) = p.cd.getD j Ins.zero := by
                    have h1 := chL_get (nmI bl) p.cd j HLt.out
                    rw [List.getElem?_eq_getElem (by rw [chL_len]; exact HLt.out), if_neg (by omega)] at h1
                    exact Option.some.inj h1
                  rw [hx, ← HX.out] at h1
                  rw [← chL_set (nmI bl) p.cd HLt.out, ← HX.out]
                  have e : nmI bl j ⟨1, xa, xb, xc, xd⟩ = ⟨1, ((ww : Int) - 1073741824), xb, xc, xd⟩ := by
                    unfold nmI
                    rw [if_pos ⟨rfl, c1, c2⟩, HWw.out]
                  rw [e]
                  exact h1
                clear hS hS9 c9 fz hn9 HQd hq9 d0 d1 d2 d3 d4 i0 i1 i2 i3 i4 i5 hrc
                generalize (Xd.setCell ⟨he, j * 5 + 1, none⟩ (.int .i64 ((ww : Int) - 1073741824))) = Wy at *
                have x0c : Wy.cell? ⟨xk, 0, none⟩ = some (.int .i64 1) := cell_of (cs := [.int .i64 1, .int .i64 xa, .int .i64 xb, .int .i64 xc, .int .i64 xd]) HE.out.2.2 rfl
                have x1c : Wy.cell? ⟨xk, 1, none⟩ = some (.int .i64 xa) := cell_of (cs := [.int .i64 1, .int .i64 xa, .int .i64 xb, .int .i64 xc, .int .i64 xd]) HE.out.2.2 rfl
                go_wp2_with fail
                go_roundg (p.cd.length - (j + 1))
                case measure => have h1 := HG.out.1; have := HLt.out; omega
                case rel => exact ⟨j + 1, HLt.out, rfl, by go_num, HE.out.1, HE.out.2.1⟩
              · have c3 : decide (xa ≤ 1073741824) = false := by rw [decide_eq_false_iff_not]; exact c2
                have HSm : Hid (chL (nmI bl) p.cd (j + 1) = chL (nmI bl) p.cd j) := chL_same _ _ HLt.out (by rw [← HX.out]; unfold nmI; rw [if_neg (fun h => c2 h.2.2), if_neg (fun h => by have := h.1; simp at this)])
                go_wp2_with fail
                go_roundg (p.cd.length - (j + 1))
                case measure => have h1 := HG.out.1; have := HLt.out; omega
                case rel => exact ⟨j + 1, HLt.out, rfl, by go_num, HQ.out.1, by rw [HSm.out]; exact HQ.out.2.1⟩
            · have c3 : decide (-1073741824 ≤ xa) = false := by rw [decide_eq_false_iff_not]; exact c1
              have HSm : Hid (chL (nmI bl) p.cd (j + 1) = chL (nmI bl) p.cd j) := chL_same _ _ HLt.out (by rw [← HX.out]; unfold nmI; rw [if_neg (fun h => c1 h.2.1), if_neg (fun h => by have := h.1; simp at this)])
              go_wp2_with fail
              go_roundg (p.cd.length - (j + 1))
              case measure => have h1 := HG.out.1; have := HLt.out; omega
              case rel => exact ⟨j + 1, HLt.out, rfl, by go_num, HQ.out.1, by rw [HSm.out]; exact HQ.out.2.1⟩
          · have k1 : decide (xo = 1) = false := by rw [decide_eq_false_iff_not]; exact o1c
            have k2 : (xo == 1) = false := by rw [beq_eq_false_iff_ne]; exact o1c
            by_cases o2c : xo = 2
            · subst o2c
              by_cases c1 : xa = 0
              · subst c1
                have HWn : Hid (∀ W, Calls Tryd.prog 10 #[.int .i64 r, .int .i64 2] W fun e w' => e = .returned (.int .i64 (wtn r 2 : Nat)) ∧ w' = W) := fun W => wtn_any r 2 (by omega) (by omega) W
                have hwl := wtn_lt r (n := 2) (by omega)
                have HWw : Hid (wtn (bl.getD (j % bl.length) 0) 2 = wtn r 2) := by show _ = _; rw [HRv.out]
                generalize wtn r 2 = ww at *
                have hwl' : (ww : Int) < 2 := by omega
                clear hwl
                go_upto_region 13 with fail
                have hws : IntKind.i64.wrap ((ww : Int) - 1073741824) = (ww : Int) - 1073741824 := by rw [IntKind.wrap_i64]; omega
                have HQd : Hid (Fg he W6 (wr.alloc (.cells #[.int .i64 2, .int .i64 0, .int .i64 xb, .int .i64 xc, .int .i64 xd] 39)).drew ∧ Bk (wr.alloc (.cells #[.int .i64 2, .int .i64 0, .int .i64 xb, .int .i64 xc, .int .i64 xd] 39)).drew he 39 (cC (chL (nmI bl) p.cd j)) 45 ∧ (wr.alloc (.cells #[.int .i64 2, .int .i64 0, .int .i64 xb, .int .i64 xc, .int .i64 xd] 39)).drew.heap[wr.heap.size]? = some (.cells #[.int .i64 2, .int .i64 0, .int .i64 xb, .int .i64 xc, .int .i64 xd] 39 (0, 0)) ∧ (wr.alloc (.cells #[.int .i64 2, .int .i64 0, .int .i64 xb, .int .i64 xc, .int .i64 xd] 39)).drew.heap[qb]? = some (.cells #[.slice (some ⟨ha, 0, none⟩) p.gh.length (p.gh.length + 3), .slice (some ⟨hb, 0, none⟩) p.vs.length (p.vs.length + 3), .slice (some ⟨hc, 0, none⟩) p.ts.length (p.ts.length + 5), .slice (some ⟨hd, 0, none⟩) p.on.length (p.on.length + 5), .int .i64 p.miss, .slice (some ⟨he, 0, none⟩) p.cd.length (p.cd.length + 9)] 27 (0, 0))) := ⟨HQ.out.1.trans (Fg.of (Below.refl _ _).drew), HQ.out.2.1.below (Below.refl _ _).drew, HQ.out.2.2.1, HQ.out.2.2.2.1⟩
                have HKx : Hid (he < wr.heap.size) := HQ.out.2.2.2.2.2
                generalize hxk : wr.heap.size = xk at *
                refine wp_region_held (S := fun w' : World => w'.cell? ⟨qb, 5, none⟩ = some (.slice (some ⟨he, 0, none⟩) p.cd.length (p.cd.length + 9))) (by kernel_rfl) ?_
                change wpAnyH _ _ _ _ _ _ _ _ (wr.alloc (.cells #[.int .i64 2, .int .i64 0, .int .i64 xb, .int .i64 xc, .int .i64 xd] 39)).drew
                generalize (wr.alloc (.cells #[.int .i64 2, .int .i64 0, .int .i64 xb, .int .i64 xc, .int .i64 xd] 39)).drew = Xd at *
                clear hxk
                have hS : (fun w' : World => w'.cell? ⟨qb, 5, none⟩ = some (.slice (some ⟨he, 0, none⟩) p.cd.length (p.cd.length + 9))) Xd := (cells6 HQd.out.2.2.2).2.2.2.2.2
                refine tqS 0 rfl hS ?_
                refine tqS 1 rfl hS ?_
                refine tqS 2 rfl hS ?_
                refine tqS 3 rfl hS ?_
                refine wpAnyH_ready (rs := [4]) (by kernel_rfl) (by simp) ?_
                refine AllReadyH.cons rfl (fun K hK => ?_) AllReadyH.nil
                go_simp
                refine Calls.mono (HWn.out _) ?_
                rintro e w9 ⟨rfl, h9⟩
                replace h9 := h9.symm
                subst h9
                refine hK.out _ _ hS (fun hS => ?_)
                clear hK K
                refine wpAnyH_ready (rs := [5]) (by kernel_rfl) (by simp) ?_
                refine AllReadyH.cons rfl (fun K hK => ?_) AllReadyH.nil
                go_simp
                refine hK.out _ _ hS (fun hS => ?_)
                clear hK K
                refine wpAnyH_ready (rs := [6]) (by kernel_rfl) (by simp) ?_
                refine AllReadyH.cons rfl (fun K hK => ?_) AllReadyH.nil
                go_simp
                refine hK.out _ _ hS (fun hS => ?_)
                clear hK K
                obtain ⟨v9, c9⟩ := HQd.out.2.1.cell (j := j * 5 + 1) (by rw [cC_len, chL_len]; have := HLt.out; omega)
                have fz := HQd.out.2.1.frozen
                have hn9 := HN6.out
                have hq9 : (Xd.setCell ⟨he, j * 5 + 1, none⟩ (.int .i64 (ww : Int))).heap[qb]? = some (.cells #[.slice (some ⟨ha, 0, none⟩) p.gh.length (p.gh.length + 3), .slice (some ⟨hb, 0, none⟩) p.vs.length (p.vs.length + 3), .slice (some ⟨hc, 0, none⟩) p.ts.length (p.ts.length + 5), .slice (some ⟨hd, 0, none⟩) p.on.length (p.on.length + 5), .int .i64 p.miss, .slice (some ⟨he, 0, none⟩) p.cd.length (p.cd.length + 9)] 27 (0, 0)) := (heap_setCell_other Xd ⟨he, j * 5 + 1, none⟩ qb _ (by show qb ≠ he; omega)).trans HQd.out.2.2.2
                have hS9 : (fun w' : World => w'.cell? ⟨qb, 5, none⟩ = some (.slice (some ⟨he, 0, none⟩) p.cd.length (p.cd.length + 9))) (Xd.setCell ⟨he, j * 5 + 1, none⟩ (.int .i64 (ww : Int))) := (cells6 hq9).2.2.2.2.2
                refine wpAnyH_ready (rs := [7]) (by kernel_rfl) (by simp) ?_
                refine AllReadyH.cons rfl (fun K hK => ?_) AllReadyH.nil
                go_simp
                refine hK.out _ _ hS9 (fun hS => ?_)
                clear hK K
                refine wpAnyH_done (by kernel_rfl) ?_ _
                have HE : Hid (Fg he W6 (Xd.setCell ⟨he, j * 5 + 1, none⟩ (.int .i64 (ww : Int))) ∧ Bk (Xd.setCell ⟨he, j * 5 + 1, none⟩ (.int .i64 (ww : Int))) he 39 (cC (chL (nmI bl) p.cd (j + 1))) 45 ∧ (Xd.setCell ⟨he, j * 5 + 1, none⟩ (.int .i64 (ww : Int))).heap[xk]? = some (.cells #[.int .i64 2, .int .i64 0, .int .i64 xb, .int .i64 xc, .int .i64 xd] 39 (0, 0))) := by
                  refine ⟨HQd.out.1.trans (Fg.set _ _ _), ?_, (heap_setCell_other Xd ⟨he, j * 5 + 1, none⟩ xk _ (by show xk ≠ he; have := HKx.out; omega)).trans HQd.out.2.2.1⟩
                  have h1 := HQd.out.2.1.turn (j := j) (by rw [chL_len]; exact HLt.out) (ww : Int)
                  have hx : (chL (nmI bl) p.cd j)[j]'(by rw [chL_len]; exact HLt.out) = p.cd.getD j Ins.zero := by
                    have h1 := chL_get (nmI bl) p.cd j HLt.out
                    rw [List.getElem?_eq_getElem (by rw [chL_len]; exact HLt.out), if_neg (by omega)] at h1
                    exact Option.some.inj h1
                  rw [hx, ← HX.out] at h1
                  rw [← chL_set (nmI bl) p.cd HLt.out, ← HX.out]
                  have e : nmI bl j ⟨2, 0, xb, xc, xd⟩ = ⟨2, (ww : Int), xb, xc, xd⟩ := by
                    unfold nmI
                    rw [if_neg (fun h => by have := h.1; simp at this), if_pos ⟨rfl, Or.inl rfl⟩, HWw.out]
                  rw [e]
                  exact h1
                clear hS hS9 c9 fz hn9 HQd hq9 d0 d1 d2 d3 d4 i0 i1 i2 i3 i4 i5 hrc
                generalize (Xd.setCell ⟨he, j * 5 + 1, none⟩ (.int .i64 (ww : Int))) = Wy at *
                have x0c : Wy.cell? ⟨xk, 0, none⟩ = some (.int .i64 2) := cell_of (cs := [.int .i64 2, .int .i64 0, .int .i64 xb, .int .i64 xc, .int .i64 xd]) HE.out.2.2 rfl
                have x1c : Wy.cell? ⟨xk, 1, none⟩ = some (.int .i64 0) := cell_of (cs := [.int .i64 2, .int .i64 0, .int .i64 xb, .int .i64 xc, .int .i64 xd]) HE.out.2.2 rfl
                go_wp2_with fail
                go_roundg (p.cd.length - (j + 1))
                case measure => have h1 := HG.out.1; have := HLt.out; omega
                case rel => exact ⟨j + 1, HLt.out, rfl, by go_num, HE.out.1, HE.out.2.1⟩
              · by_cases c2 : xa = 1
                · subst c2
                  have HWn : Hid (∀ W, Calls Tryd.prog 10 #[.int .i64 r, .int .i64 2] W fun e w' => e = .returned (.int .i64 (wtn r 2 : Nat)) ∧ w' = W) := fun W => wtn_any r 2 (by omega) (by omega) W
                  have hwl := wtn_lt r (n := 2) (by omega)
                  have HWw : Hid (wtn (bl.getD (j % bl.length) 0) 2 = wtn r 2) := by show _ = _; rw [HRv.out]
                  generalize wtn r 2 = ww at *
                  have hwl' : (ww : Int) < 2 := by omega
                  clear hwl
                  go_upto_region 13 with fail
                  have hws : IntKind.i64.wrap ((ww : Int) - 1073741824) = (ww : Int) - 1073741824 := by rw [IntKind.wrap_i64]; omega
                  have HQd : Hid (Fg he W6 (wr.alloc (.cells #[.int .i64 2, .int .i64 1, .int .i64 xb, .int .i64 xc, .int .i64 xd] 39)).drew ∧ Bk (wr.alloc (.cells #[.int .i64 2, .int .i64 1, .int .i64 xb, .int .i64 xc, .int .i64 xd] 39)).drew he 39 (cC (chL (nmI bl) p.cd j)) 45 ∧ (wr.alloc (.cells #[.int .i64 2, .int .i64 1, .int .i64 xb, .int .i64 xc, .int .i64 xd] 39)).drew.heap[wr.heap.size]? = some (.cells #[.int .i64 2, .int .i64 1, .int .i64 xb, .int .i64 xc, .int .i64 xd] 39 (0, 0)) ∧ (wr.alloc (.cells #[.int .i64 2, .int .i64 1, .int .i64 xb, .int .i64 xc, .int .i64 xd] 39)).drew.heap[qb]? = some (.cells #[.slice (some ⟨ha, 0, none⟩) p.gh.length (p.gh.length + 3), .slice (some ⟨hb, 0, none⟩) p.vs.length (p.vs.length + 3), .slice (some ⟨hc, 0, none⟩) p.ts.length (p.ts.length + 5), .slice (some ⟨hd, 0, none⟩) p.on.length (p.on.length + 5), .int .i64 p.miss, .slice (some ⟨he, 0, none⟩) p.cd.length (p.cd.length + 9)] 27 (0, 0))) := ⟨HQ.out.1.trans (Fg.of (Below.refl _ _).drew), HQ.out.2.1.below (Below.refl _ _).drew, HQ.out.2.2.1, HQ.out.2.2.2.1⟩
                  have HKx : Hid (he < wr.heap.size) := HQ.out.2.2.2.2.2
                  generalize hxk : wr.heap.size = xk at *
                  refine wp_region_held (S := fun w' : World => w'.cell? ⟨qb, 5, none⟩ = some (.slice (some ⟨he, 0, none⟩) p.cd.length (p.cd.length + 9))) (by kernel_rfl) ?_
                  change wpAnyH _ _ _ _ _ _ _ _ (wr.alloc (.cells #[.int .i64 2, .int .i64 1, .int .i64 xb, .int .i64 xc, .int .i64 xd] 39)).drew
                  generalize (wr.alloc (.cells #[.int .i64 2, .int .i64 1, .int .i64 xb, .int .i64 xc, .int .i64 xd] 39)).drew = Xd at *
                  clear hxk
                  have hS : (fun w' : World => w'.cell? ⟨qb, 5, none⟩ = some (.slice (some ⟨he, 0, none⟩) p.cd.length (p.cd.length + 9))) Xd := (cells6 HQd.out.2.2.2).2.2.2.2.2
                  refine tqS 0 rfl hS ?_
                  refine tqS 1 rfl hS ?_
                  refine tqS 2 rfl hS ?_
                  refine tqS 3 rfl hS ?_
                  refine wpAnyH_ready (rs := [4]) (by kernel_rfl) (by simp) ?_
                  refine AllReadyH.cons rfl (fun K hK => ?_) AllReadyH.nil
                  go_simp
                  refine Calls.mono (HWn.out _) ?_
                  rintro e w9 ⟨rfl, h9⟩
                  replace h9 := h9.symm
                  subst h9
                  refine hK.out _ _ hS (fun hS => ?_)
                  clear hK K
                  refine wpAnyH_ready (rs := [5]) (by kernel_rfl) (by simp) ?_
                  refine AllReadyH.cons rfl (fun K hK => ?_) AllReadyH.nil
                  go_simp
                  refine hK.out _ _ hS (fun hS => ?_)
                  clear hK K
                  refine wpAnyH_ready (rs := [6]) (by kernel_rfl) (by simp) ?_
                  refine AllReadyH.cons rfl (fun K hK => ?_) AllReadyH.nil
                  go_simp
                  refine hK.out _ _ hS (fun hS => ?_)
                  clear hK K
                  obtain ⟨v9, c9⟩ := HQd.out.2.1.cell (j := j * 5 + 1) (by rw [cC_len, chL_len]; have := HLt.out; omega)
                  have fz := HQd.out.2.1.frozen
                  have hn9 := HN6.out
                  have hq9 : (Xd.setCell ⟨he, j * 5 + 1, none⟩ (.int .i64 (ww : Int))).heap[qb]? = some (.cells #[.slice (some ⟨ha, 0, none⟩) p.gh.length (p.gh.length + 3), .slice (some ⟨hb, 0, none⟩) p.vs.length (p.vs.length + 3), .slice (some ⟨hc, 0, none⟩) p.ts.length (p.ts.length + 5), .slice (some ⟨hd, 0, none⟩) p.on.length (p.on.length + 5), .int .i64 p.miss, .slice (some ⟨he, 0, none⟩) p.cd.length (p.cd.length + 9)] 27 (0, 0)) := (heap_setCell_other Xd ⟨he, j * 5 + 1, none⟩ qb _ (by show qb ≠ he; omega)).trans HQd.out.2.2.2
                  have hS9 : (fun w' : World => w'.cell? ⟨qb, 5, none⟩ = some (.slice (some ⟨he, 0, none⟩) p.cd.length (p.cd.length + 9))) (Xd.setCell ⟨he, j * 5 + 1, none⟩ (.int .i64 (ww : Int))) := (cells6 hq9).2.2.2.2.2
                  refine wpAnyH_ready (rs := [7]) (by kernel_rfl) (by simp) ?_
                  refine AllReadyH.cons rfl (fun K hK => ?_) AllReadyH.nil
                  go_simp
                  refine hK.out _ _ hS9 (fun hS => ?_)
                  clear hK K
                  refine wpAnyH_done (by kernel_rfl) ?_ _
                  have HE : Hid (Fg he W6 (Xd.setCell ⟨he, j * 5 + 1, none⟩ (.int .i64 (ww : Int))) ∧ Bk (Xd.setCell ⟨he, j * 5 + 1, none⟩ (.int .i64 (ww : Int))) he 39 (cC (chL (nmI bl) p.cd (j + 1))) 45 ∧ (Xd.setCell ⟨he, j * 5 + 1, none⟩ (.int .i64 (ww : Int))).heap[xk]? = some (.cells #[.int .i64 2, .int .i64 1, .int .i64 xb, .int .i64 xc, .int .i64 xd] 39 (0, 0))) := by
                    refine ⟨HQd.out.1.trans (Fg.set _ _ _), ?_, (heap_setCell_other Xd ⟨he, j * 5 + 1, none⟩ xk _ (by show xk ≠ he; have := HKx.out; omega)).trans HQd.out.2.2.1⟩
                    have h1 := HQd.out.2.1.turn (j := j) (by rw [chL_len]; exact HLt.out) (ww : Int)
                    have hx : (chL (nmI bl) p.cd j)[j]'(by rw [chL_len]; exact HLt.out) = p.cd.getD j Ins.zero := by
                      have h1 := chL_get (nmI bl) p.cd j HLt.out
                      rw [List.getElem?_eq_getElem (by rw [chL_len]; exact HLt.out), if_neg (by omega)] at h1
                      exact Option.some.inj h1
                    rw [hx, ← HX.out] at h1
                    rw [← chL_set (nmI bl) p.cd HLt.out, ← HX.out]
                    have e : nmI bl j ⟨2, 1, xb, xc, xd⟩ = ⟨2, (ww : Int), xb, xc, xd⟩ := by
                      unfold nmI
                      rw [if_neg (fun h => by have := h.1; simp at this), if_pos ⟨rfl, Or.inr rfl⟩, HWw.out]
                    rw [e]
                    exact h1
                  clear hS hS9 c9 fz hn9 HQd hq9 d0 d1 d2 d3 d4 i0 i1 i2 i3 i4 i5 hrc
                  generalize (Xd.setCell ⟨he, j * 5 + 1, none⟩ (.int .i64 (ww : Int))) = Wy at *
                  have x0c : Wy.cell? ⟨xk, 0, none⟩ = some (.int .i64 2) := cell_of (cs := [.int .i64 2, .int .i64 1, .int .i64 xb, .int .i64 xc, .int .i64 xd]) HE.out.2.2 rfl
                  have x1c : Wy.cell? ⟨xk, 1, none⟩ = some (.int .i64 1) := cell_of (cs := [.int .i64 2, .int .i64 1, .int .i64 xb, .int .i64 xc, .int .i64 xd]) HE.out.2.2 rfl
                  go_wp2_with fail
                  go_roundg (p.cd.length - (j + 1))
                  case measure => have h1 := HG.out.1; have := HLt.out; omega
                  case rel => exact ⟨j + 1, HLt.out, rfl, by go_num, HE.out.1, HE.out.2.1⟩
                · have c3 : decide (xa = 0) = false := by rw [decide_eq_false_iff_not]; exact c1
                  have c4 : (xa == 0) = false := by rw [beq_eq_false_iff_ne]; exact c1
                  have c5 : decide (xa = 1) = false := by rw [decide_eq_false_iff_not]; exact c2
                  have c6 : (xa == 1) = false := by rw [beq_eq_false_iff_ne]; exact c2
                  have HSm : Hid (chL (nmI bl) p.cd (j + 1) = chL (nmI bl) p.cd j) := chL_same _ _ HLt.out (by rw [← HX.out]; unfold nmI; rw [if_neg (fun h => by have := h.1; simp at this), if_neg (fun h => h.2.elim c1 c2)])
                  go_wp2_with fail
                  go_roundg (p.cd.length - (j + 1))
                  case measure => have h1 := HG.out.1; have := HLt.out; omega
                  case rel => exact ⟨j + 1, HLt.out, rfl, by go_num, HQ.out.1, by rw [HSm.out]; exact HQ.out.2.1⟩
            · have k3 : decide (xo = 2) = false := by rw [decide_eq_false_iff_not]; exact o2c
              have k4 : (xo == 2) = false := by rw [beq_eq_false_iff_ne]; exact o2c
              have HSm : Hid (chL (nmI bl) p.cd (j + 1) = chL (nmI bl) p.cd j) := chL_same _ _ HLt.out (by rw [← HX.out]; unfold nmI; rw [if_neg (fun h => o1c h.1), if_neg (fun h => o2c h.1)])
              go_wp2_with fail
              go_roundg (p.cd.length - (j + 1))
              case measure => have h1 := HG.out.1; have := HLt.out; omega
              case rel => exact ⟨j + 1, HLt.out, rfl, by go_num, HQ.out.1, by rw [HSm.out]; exact HQ.out.2.1⟩
        · obtain rfl : j = p.cd.length := by omega
          have hfg := HG.out.2.1
          have hn9 := HN6.out
          have hP : IsPg wr ⟨some ⟨ha, 0, none⟩, p.gh.length + 3, some ⟨hb, 0, none⟩, p.vs.length + 3, some ⟨hc, 0, none⟩, p.ts.length + 5, some ⟨hd, 0, none⟩, p.on.length + 5, some ⟨he, 0, none⟩, p.cd.length + 9⟩ (chP (nmI bl) p) := by
            have hl := HLen.out
            have hsz := hfg.size
            have hs6 := blk_lt H6.out.2.1
            have key : ∀ g, g < he → wr.heap[g]? = W6.heap[g]? := fun g hg => hfg.block g (by omega) (by omega)
            exact ⟨rd_same HR6.out.1 (key _ (by omega)) hsz, rd_same HR6.out.2.1 (key _ (by omega)) hsz, rd_same HR6.out.2.2.1 (key _ (by omega)) hsz, rd_same HR6.out.2.2.2 (key _ (by omega)) hsz, HG.out.2.2.rd, by show p.gh.length ≤ _; omega, by show p.vs.length ≤ _; omega, by show p.ts.length ≤ _; omega, by show p.on.length ≤ _; omega, by show (chL (nmI bl) p.cd p.cd.length).length ≤ _; rw [chL_len]; omega⟩
          have hb4 := H46.out _ hfg
          have HB4r : Hid (Below W4.heap.size W4 wr) := hb4
          have HRun : Hid (Calls Tryd.prog 8 #[.agg #[.slice (some ⟨ha, 0, none⟩) p.gh.length (p.gh.length + 3), .slice (some ⟨hb, 0, none⟩) p.vs.length (p.vs.length + 3), .slice (some ⟨hc, 0, none⟩) p.ts.length (p.ts.length + 5), .slice (some ⟨hd, 0, none⟩) p.on.length (p.on.length + 5), .int .i64 p.miss, .slice (some ⟨he, 0, none⟩) p.cd.length (p.cd.length + 9)]] wr fun e w' => ∃ o2 m2, e = .returned (.tuple #[.agg #[.slice o2 lc.length m2, .int .i64 cm], .agg #[.int .i64 fe, .int .i64 ft]]) ∧ Below wr.heap.size wr w' ∧ Rd w' o2 (iC lc)) := by
            have h1 := run_n _ (chP (nmI bl) p) wr hP (HEf.out _ (bel_step HB4.out.1 hb4))
            have h2 : (chP (nmI bl) p).cd.length = p.cd.length := chL_len _ _ _
            unfold pvC at h1
            rw [h2, outN_same, ← HOO.out] at h1
            refine h1.mono ?_
            rintro e w' ⟨o2, m2, h1, h2, h3, -⟩
            exact ⟨o2, m2, h1, h2, h3⟩
          clear hfg hn9 hP hb4 hlt hj9 HQb hbk HG
          go_wp2_with fail
          refine HRun.out.mono ?_
          rintro e w7 ⟨o2, m2, rfl, hb7, hr7⟩
          have HA8 : Hid _ := al2 w7 (.cells #[.slice o2 lc.length m2, .int .i64 cm] 31) (.cells #[.int .i64 fe, .int .i64 ft] 34)
          have HQo : Hid (Below wr.heap.size wr w7 ∧ Rd w7 o2 (iC lc)) := ⟨hb7, hr7⟩
          clear hb7 hr7 HRun i0 i1 i2 i3 i4 i5
          go_upto_region 15 with fail
          generalize ((w7.alloc (.cells #[.slice o2 lc.length m2, .int .i64 cm] 31)).alloc (.cells #[.int .i64 fe, .int .i64 ft] 34)) = W8 at *
          have hb78 := bel_step HQo.out.1 HA8.out.1
          have h48 : Below W4.heap.size W4 W8 := bel_step HB4r.out hb78
          have H48 : Hid (Below W4.heap.size W4 W8) := h48
          obtain ⟨cc0, cc1⟩ := cells2 ((h48.block _ (blk_lt HB4.out.2.2.1)).trans HB4.out.2.2.1)
          obtain ⟨z0, z1⟩ := cells2 ((h48.block _ (blk_lt HB4.out.2.2.2.1)).trans HB4.out.2.2.2.1)
          obtain ⟨dd0, dd1⟩ := cells2 HA8.out.2.1
          obtain ⟨y0, y1⟩ := cells2 HA8.out.2.2
          have HSc : Hid (Calls Tryd.prog 11 #[.agg #[.slice o1 lc.length m1, .int .i64 cm], .agg #[.slice o2 lc.length m2, .int .i64 cm]] W8 fun e w' => e = .returned (.bool true) ∧ Below W8.heap.size W8 w') := sameC_eq lc o1 o2 m1 m2 cm W8 (HB4.out.2.2.2.2.below h48) (HQo.out.2.below HA8.out.1) (by have := HLc.out; omega)
          clear hb78 h48 HA8 HQo HB4r
          generalize w7.heap.size = db at *
          go_wp2_with fail
          refine HSc.out.mono ?_
          rintro e wm ⟨rfl, hbm⟩
          have HWm : Hid (Below W4.heap.size W4 wm) := bel_step H48.out hbm
          clear hbm cc0 cc1 z0 z1 dd0 dd1 y0 y1 HSc H48
          go_upto_region 18 with fail
          obtain ⟨Wm, hWm⟩ : ∃ Wm, Wm = wm := ⟨_, rfl⟩
          rw [← hWm] at HWm ⊢
          clear hWm
          have hol : (p.on.length : Int) ≤ 100 := by have := HLen.out; omega
          rcases HCost.out with hfe | ⟨rfl, hlc, rfl⟩
          · have n1 : decide (fe = 0) = false := by rw [decide_eq_false_iff_not]; exact hfe
            have n2 : (fe == 0) = false := by rw [beq_eq_false_iff_ne]; exact hfe
            clear HCost
            go_loopg [13] 1 (fun gq x wr => x = .int .i64 0 ∧ Below Wm.heap.size Wm wr)
            case atStart => exact ⟨rfl, Below.refl _ _⟩
            case round =>
              obtain ⟨rfl, hbw⟩ := hrel
              have hbx := bel_step HWm.out hbw
              obtain ⟨-, -, -, y3, -, -⟩ := cells6 ((hbx.block _ (blk_lt HB4.out.2.1)).trans HB4.out.2.1)
              obtain ⟨z0, -⟩ := cells2 ((hbx.block _ (blk_lt HB4.out.2.2.2.1)).trans HB4.out.2.2.2.1)
              have HBZ : Hid (Below w.heap.size w wr) := bel_step HB4.out.1 hbx
              clear hbw hbx
              by_cases hl0 : 0 < p.on.length
              · have hl1 : (0 : Int) < (p.on.length : Int) := by omega
                clear hl0
                go_wp2_with fail
                refine (HHd.out _ HBZ.out).mono ?_
                rintro e w99 ⟨rfl, hb99⟩
                have HB99 : Hid (Below w.heap.size w w99) := bel_step HBZ.out hb99
                clear hb99
                go_wp2_with fail
                go_ret
                exact ⟨rfl, HB99.out⟩
              · have hl1 : decide ((0 : Int) < (p.on.length : Int)) = false := by rw [decide_eq_false_iff_not]; omega
                have hl2 : decide (0 < p.on.length) = false := by rw [decide_eq_false_iff_not]; omega
                have hl3 : ¬ 0 < p.on.length := hl0
                go_wp2_with fail
                refine (HHd.out _ HBZ.out).mono ?_
                rintro e w99 ⟨rfl, hb99⟩
                have HB99 : Hid (Below w.heap.size w w99) := bel_step HBZ.out hb99
                clear hb99
                go_wp2_with fail
                go_ret
                exact ⟨rfl, HB99.out⟩
          · have HFx : Hid (∀ X, Below Wm.heap.size Wm X → ∀ k, k < p.on.length → X.cell? ⟨w.heap.size, 3, none⟩ = some (.slice oo p.on.length oc) ∧ (∃ g f, oo = some ⟨g, f, none⟩ ∧ X.cell? ⟨g, f + k, none⟩ = some (.int .i64 (p.on.getD k 0))) ∧ X.cell? ⟨w.heap.size, 4, none⟩ = some (.int .i64 p.miss) ∧ X.cell? ⟨cb, 0, none⟩ = some (.slice o1 p.on.length m1) ∧ (∃ g f, o1 = some ⟨g, f, none⟩ ∧ X.cell? ⟨g, f + k, none⟩ = some (.int .i64 (cst p (p.on.getD k 0)))) ∧ X.cell? ⟨cb, 1, none⟩ = some (.int .i64 (cst p p.miss)) ∧ X.cell? ⟨cb + 1, 0, none⟩ = some (.int .i64 0)) := fun X hX k hk => by
              have hbx := bel_step HWm.out hX
              obtain ⟨-, -, -, y3, y4, -⟩ := cells6 ((hbx.block _ (blk_lt HB4.out.2.1)).trans HB4.out.2.1)
              obtain ⟨c0, c1⟩ := cells2 ((hbx.block _ (blk_lt HB4.out.2.2.1)).trans HB4.out.2.2.1)
              obtain ⟨z0, -⟩ := cells2 ((hbx.block _ (blk_lt HB4.out.2.2.2.1)).trans HB4.out.2.2.2.1)
              rw [hlc, List.length_map] at c0
              obtain ⟨g1, f1, e1, -, u1⟩ := (HOn.out.below (bel_step HB4.out.1 hbx)) k (.int .i64 (p.on.getD k 0)) (by simp [iC, hk, List.getD_eq_getElem?_getD])
              obtain ⟨g2, f2, e2, -, u2⟩ := (HB4.out.2.2.2.2.below hbx) k (.int .i64 (cst p (p.on.getD k 0))) (by rw [hlc]; simp [iC, hk, List.getD_eq_getElem?_getD])
              exact ⟨y3, ⟨g1, f1, e1, u1⟩, y4, c0, ⟨g2, f2, e2, u2⟩, c1, z0⟩
            have HBx : Hid (∀ X, Below Wm.heap.size Wm X → Below w.heap.size w X) := fun X hX => bel_step HB4.out.1 (bel_step HWm.out hX)
            have HFe : Hid (∀ X, Below Wm.heap.size Wm X → X.cell? ⟨w.heap.size, 3, none⟩ = some (.slice oo p.on.length oc) ∧ X.cell? ⟨cb + 1, 0, none⟩ = some (.int .i64 0)) := fun X hX => by
              have hbx := bel_step HWm.out hX
              obtain ⟨-, -, -, y3, y4, -⟩ := cells6 ((hbx.block _ (blk_lt HB4.out.2.1)).trans HB4.out.2.1)
              obtain ⟨z0, -⟩ := cells2 ((hbx.block _ (blk_lt HB4.out.2.2.2.1)).trans HB4.out.2.2.2.1)
              exact ⟨y3, z0⟩
            clear HCost hlc
            go_loopg [13] p.on.length (fun gq x wr => ∃ i : Nat, i ≤ p.on.length ∧ gq = p.on.length - i ∧ x = .int .i64 (i : Int) ∧ Below Wm.heap.size Wm wr)
            case atStart => exact ⟨0, Nat.zero_le _, rfl, rfl, Below.refl _ _⟩
            case round =>
              obtain ⟨i, hi9, hgk, rfl, hbw⟩ := hrel
              have HG2 : Hid (gk = p.on.length - i ∧ Below Wm.heap.size Wm wr) := ⟨hgk, hbw⟩
              clear hgk
              by_cases hlt : i < p.on.length
              · have hlt' : (i : Int) < (p.on.length : Int) := by omega
                have HLi : Hid (i < p.on.length) := hlt
                obtain ⟨y3, ⟨og, of, hoo, a1⟩, y4, z0, ⟨b1, f1, ho1, b1f⟩, z1, zf⟩ := HFx.out wr hbw i hlt
                obtain rfl : oo = some ⟨og, of, none⟩ := hoo
                obtain rfl : o1 = some ⟨b1, f1, none⟩ := ho1
                obtain ⟨ov, hov⟩ : ∃ ov, ov = p.on.getD i 0 := ⟨_, rfl⟩
                rw [← hov] at a1 b1f
                obtain ⟨cv, hcv⟩ : ∃ cv, cv = cst p ov := ⟨_, rfl⟩
                rw [← hcv] at b1f
                have HOv : Hid (ov = p.on.getD i 0 ∧ cv = cst p (p.on.getD i 0)) := ⟨hov, by rw [hcv, hov]⟩
                have HFy : Hid (∀ X, Below Wm.heap.size Wm X → ∀ k, k < p.on.length → X.cell? ⟨w.heap.size, 3, none⟩ = some (.slice (some ⟨og, of, none⟩) p.on.length oc) ∧ X.cell? ⟨og, of + k, none⟩ = some (.int .i64 (p.on.getD k 0)) ∧ True ∧ X.cell? ⟨cb, 0, none⟩ = some (.slice (some ⟨b1, f1, none⟩) p.on.length m1) ∧ X.cell? ⟨b1, f1 + k, none⟩ = some (.int .i64 (cst p (p.on.getD k 0))) ∧ True ∧ True) := fun X hX k hk => by
                  obtain ⟨q3, ⟨g1, f1', e1, u1⟩, -, w0, ⟨g2, f2, e2, u2⟩, -, -⟩ := HFx.out X hX k hk
                  cases e1
                  cases e2
                  exact ⟨q3, u1, trivial, w0, u2, trivial, trivial⟩
                have HBw : Hid (Below Wm.heap.size Wm wr) := hbw
                obtain ⟨cm, hcm⟩ : ∃ cm, cm = cst p p.miss := ⟨_, rfl⟩
                rw [← hcm] at z1
                by_cases heq : ov = p.miss
                · have hcc : cm = cv := by rw [hcm, hcv, heq]
                  rw [hcc] at z1
                  rw [← heq] at y4
                  clear hlt hi9 hbw hov hcv hcm hcc heq HFx
                  have HFx := HFy
                  clear HFy
                  go_upto_region 20 with fail
                  clear zf
                  refine wp_region_held (S := fun w' : World => w'.cell? ⟨w.heap.size, 3, none⟩ = some (.slice (some ⟨og, of, none⟩) p.on.length oc) ∧ w'.cell? ⟨og, of + i, none⟩ = some (.int .i64 ov) ∧ w'.cell? ⟨w.heap.size, 4, none⟩ = some (.int .i64 ov) ∧ w'.cell? ⟨cb, 0, none⟩ = some (.slice (some ⟨b1, f1, none⟩) p.on.length m1) ∧ w'.cell? ⟨b1, f1 + i, none⟩ = some (.int .i64 cv) ∧ w'.cell? ⟨cb, 1, none⟩ = some (.int .i64 cv)) (by kernel_rfl) ?_
                  change wpAnyH _ _ _ _ _ _ _ _ wr.drew
                  have hS : (fun w' : World => w'.cell? ⟨w.heap.size, 3, none⟩ = some (.slice (some ⟨og, of, none⟩) p.on.length oc) ∧ w'.cell? ⟨og, of + i, none⟩ = some (.int .i64 ov) ∧ w'.cell? ⟨w.heap.size, 4, none⟩ = some (.int .i64 ov) ∧ w'.cell? ⟨cb, 0, none⟩ = some (.slice (some ⟨b1, f1, none⟩) p.on.length m1) ∧ w'.cell? ⟨b1, f1 + i, none⟩ = some (.int .i64 cv) ∧ w'.cell? ⟨cb, 1, none⟩ = some (.int .i64 cv)) wr.drew := ⟨y3, a1, y4, z0, b1f, z1⟩
                  have HWd : Hid (Below Wm.heap.size Wm wr.drew) := HBw.out.drew
                  generalize wr.drew = Wd at *
                  refine tqA 0 rfl hS ?_
                  refine tqA 1 rfl hS ?_
                  refine tqA 2 rfl hS ?_
                  refine tqA 3 rfl hS ?_
                  refine tqA 4 rfl hS ?_
                  refine tqA 5 rfl hS ?_
                  refine tqA 6 rfl hS ?_
                  refine tqA (v := .bool true) 7 rfl hS ?_
                  refine tqA 8 rfl hS ?_
                  refine tkA 9 rfl hS ?_
                  refine tkA 10 rfl hS ?_
                  refine tkA 11 rfl hS ?_
                  refine tkA 12 rfl hS ?_
                  refine tkA 13 rfl hS ?_
                  refine tkA 14 rfl hS ?_
                  refine tkA 15 rfl hS ?_
                  refine tkA (v := .bool false) 16 rfl hS ?_
                  refine tqA (v := .bool false) 17 rfl hS ?_
                  refine wpAnyH_done (by kernel_rfl) ?_ _
                  clear hS
                  go_simp
                  clear y3 a1 y4 z0 b1f z1 HBw
                  have HBw : Hid (Below Wm.heap.size Wm Wd) := HWd.out
                  clear HWd
                  go_upto_region 23 with fail
                  obtain ⟨Wi, hWi⟩ : ∃ Wi, Wi = Wd := ⟨_, rfl⟩
                  rw [← hWi] at HBw
                  have HBi : Hid (Below Wm.heap.size Wm Wi ∧ Wi = Wd) := ⟨HBw.out, hWi⟩
                  clear hWi HBw
                  go_loopg [14] i (fun gq x wr => ∃ k : Nat, k ≤ i ∧ gq = i - k ∧ x = .int .i64 (k : Int) ∧ Below Wm.heap.size Wm wr)
                  case atStart => exact ⟨0, Nat.zero_le _, rfl, rfl, by rw [← HBi.out.2]; exact HBi.out.1⟩
                  case round =>
                    obtain ⟨k, hk9, hgk, rfl, hbw⟩ := hrel
                    have HGi : Hid (gk = i - k ∧ Below Wm.heap.size Wm wr) := ⟨hgk, hbw⟩
                    clear hgk
                    by_cases hlk : k < i
                    · have hlk' : (k : Int) < (i : Int) := by omega
                      have HLk : Hid (k < i) := hlk
                      have hkn : k < p.on.length := by have := HLi.out; omega
                      have hkn' : (k : Int) < (p.on.length : Int) := by omega
                      have hin' : (i : Int) < (p.on.length : Int) := by have := HLi.out; omega
                      obtain ⟨y3, a1, -, z0, b1f, -, -⟩ := HFx.out wr hbw i HLi.out
                      obtain ⟨-, a2, -, -, b2f, -, -⟩ := HFx.out wr hbw k hkn
                      rw [← HOv.out.1] at a1
                      rw [← HOv.out.2] at b1f
                      obtain ⟨ok, hok⟩ : ∃ ok, ok = p.on.getD k 0 := ⟨_, rfl⟩
                      rw [← hok] at a2 b2f
                      have HBw : Hid (Below Wm.heap.size Wm wr) := hbw
                      by_cases heq : ov = ok
                      · have hcv : cst p ok = cv := by rw [HOv.out.2, ← HOv.out.1, heq]
                        rw [hcv] at b2f
                        rw [← heq] at a2
                        clear hlk hk9 hbw hkn hok hcv heq
                        go_upto_region 25 with fail
                        refine wp_region_held (S := fun w' : World => w'.cell? ⟨w.heap.size, 3, none⟩ = some (.slice (some ⟨og, of, none⟩) p.on.length oc) ∧ w'.cell? ⟨og, of + i, none⟩ = some (.int .i64 ov) ∧ w'.cell? ⟨og, of + k, none⟩ = some (.int .i64 ov) ∧ w'.cell? ⟨cb, 0, none⟩ = some (.slice (some ⟨b1, f1, none⟩) p.on.length m1) ∧ w'.cell? ⟨b1, f1 + i, none⟩ = some (.int .i64 cv) ∧ w'.cell? ⟨b1, f1 + k, none⟩ = some (.int .i64 cv)) (by kernel_rfl) ?_
                        change wpAnyH _ _ _ _ _ _ _ _ wr.drew
                        have hS : (fun w' : World => w'.cell? ⟨w.heap.size, 3, none⟩ = some (.slice (some ⟨og, of, none⟩) p.on.length oc) ∧ w'.cell? ⟨og, of + i, none⟩ = some (.int .i64 ov) ∧ w'.cell? ⟨og, of + k, none⟩ = some (.int .i64 ov) ∧ w'.cell? ⟨cb, 0, none⟩ = some (.slice (some ⟨b1, f1, none⟩) p.on.length m1) ∧ w'.cell? ⟨b1, f1 + i, none⟩ = some (.int .i64 cv) ∧ w'.cell? ⟨b1, f1 + k, none⟩ = some (.int .i64 cv)) wr.drew := ⟨y3, a1, a2, z0, b1f, b2f⟩
                        have HWd : Hid (Below Wm.heap.size Wm wr.drew) := HBw.out.drew
                        generalize wr.drew = Wd at *
                        refine tqA 0 rfl hS ?_
                        refine tqA 1 rfl hS ?_
                        refine tqA 2 rfl hS ?_
                        refine tqA 3 rfl hS ?_
                        refine tqA 4 rfl hS ?_
                        refine tqA 5 rfl hS ?_
                        refine tqA 6 rfl hS ?_
                        refine tqA 7 rfl hS ?_
                        refine tqA 8 rfl hS ?_
                        refine tqA 9 rfl hS ?_
                        refine tqA (v := .bool true) 10 rfl hS ?_
                        refine tqA 11 rfl hS ?_
                        refine tkA 12 rfl hS ?_
                        refine tkA 13 rfl hS ?_
                        refine tkA 14 rfl hS ?_
                        refine tkA 15 rfl hS ?_
                        refine tkA 16 rfl hS ?_
                        refine tkA 17 rfl hS ?_
                        refine tkA 18 rfl hS ?_
                        refine tkA 19 rfl hS ?_
                        refine tkA 20 rfl hS ?_
                        refine tkA 21 rfl hS ?_
                        refine tkA (v := .bool false) 22 rfl hS ?_
                        refine tqA (v := .bool false) 23 rfl hS ?_
                        refine wpAnyH_done (by kernel_rfl) ?_ _
                        clear hS
                        go_simp
                        clear y3 a1 a2 z0 b1f b2f
                        go_wp2_with fail
                        go_roundg (i - (k + 1))
                        case measure => have h1 := HGi.out.1; have := HLk.out; omega
                        case rel => exact ⟨k + 1, HLk.out, rfl, by go_num, HWd.out⟩
                      · obtain ⟨ck, hck⟩ : ∃ ck, ck = cst p ok := ⟨_, rfl⟩
                        rw [← hck] at b2f
                        have n1 : decide (ov = ok) = false := by rw [decide_eq_false_iff_not]; exact heq
                        have n2 : (ov == ok) = false := by rw [beq_eq_false_iff_ne]; exact heq
                        clear hlk hk9 hbw hkn hok hck
                        go_upto_region 25 with fail
                        refine wp_region_held (S := fun w' : World => w'.cell? ⟨w.heap.size, 3, none⟩ = some (.slice (some ⟨og, of, none⟩) p.on.length oc) ∧ w'.cell? ⟨og, of + i, none⟩ = some (.int .i64 ov) ∧ w'.cell? ⟨og, of + k, none⟩ = some (.int .i64 ok) ∧ w'.cell? ⟨cb, 0, none⟩ = some (.slice (some ⟨b1, f1, none⟩) p.on.length m1) ∧ w'.cell? ⟨b1, f1 + i, none⟩ = some (.int .i64 cv) ∧ w'.cell? ⟨b1, f1 + k, none⟩ = some (.int .i64 ck)) (by kernel_rfl) ?_
                        change wpAnyH _ _ _ _ _ _ _ _ wr.drew
                        have hS : (fun w' : World => w'.cell? ⟨w.heap.size, 3, none⟩ = some (.slice (some ⟨og, of, none⟩) p.on.length oc) ∧ w'.cell? ⟨og, of + i, none⟩ = some (.int .i64 ov) ∧ w'.cell? ⟨og, of + k, none⟩ = some (.int .i64 ok) ∧ w'.cell? ⟨cb, 0, none⟩ = some (.slice (some ⟨b1, f1, none⟩) p.on.length m1) ∧ w'.cell? ⟨b1, f1 + i, none⟩ = some (.int .i64 cv) ∧ w'.cell? ⟨b1, f1 + k, none⟩ = some (.int .i64 ck)) wr.drew := ⟨y3, a1, a2, z0, b1f, b2f⟩
                        have HWd : Hid (Below Wm.heap.size Wm wr.drew) := HBw.out.drew
                        generalize wr.drew = Wd at *
                        refine tqA 0 rfl hS ?_
                        refine tqA 1 rfl hS ?_
                        refine tqA 2 rfl hS ?_
                        refine tqA 3 rfl hS ?_
                        refine tqA 4 rfl hS ?_
                        refine tqA 5 rfl hS ?_
                        refine tqA 6 rfl hS ?_
                        refine tqA 7 rfl hS ?_
                        refine tqA 8 rfl hS ?_
                        refine tqA 9 rfl hS ?_
                        refine tqA (v := .bool false) 10 rfl hS ?_
                        refine tqA 11 rfl hS ?_
                        refine tuA 12 rfl hS ?_
                        refine tuA 13 rfl hS ?_
                        refine tuA 14 rfl hS ?_
                        refine tuA 15 rfl hS ?_
                        refine tuA 16 rfl hS ?_
                        refine tuA 17 rfl hS ?_
                        refine tuA 18 rfl hS ?_
                        refine tuA 19 rfl hS ?_
                        refine tuA 20 rfl hS ?_
                        refine tuA 21 rfl hS ?_
                        refine tuA 22 rfl hS ?_
                        refine tqA (v := .bool false) 23 rfl hS ?_
                        refine wpAnyH_done (by kernel_rfl) ?_ _
                        clear hS
                        go_simp
                        clear y3 a1 a2 z0 b1f b2f
                        go_wp2_with fail
                        go_roundg (i - (k + 1))
                        case measure => have h1 := HGi.out.1; have := HLk.out; omega
                        case rel => exact ⟨k + 1, HLk.out, rfl, by go_num, HWd.out⟩
                    · obtain rfl : i = k := by omega
                      clear hlk hk9 hbw
                      go_wp2_with fail
                      go_roundg (p.on.length - (i + 1))
                      case measure => have h1 := HG2.out.1; have := HLi.out; omega
                      case rel => exact ⟨i + 1, HLi.out, rfl, by go_num, HGi.out.2⟩
                · have n1 : decide (ov = p.miss) = false := by rw [decide_eq_false_iff_not]; exact heq
                  have n2 : (ov == p.miss) = false := by rw [beq_eq_false_iff_ne]; exact heq
                  clear hlt hi9 hbw hov hcv hcm HFx heq
                  have HFx := HFy
                  clear HFy
                  go_upto_region 20 with fail
                  clear zf
                  refine wp_region_held (S := fun w' : World => w'.cell? ⟨w.heap.size, 3, none⟩ = some (.slice (some ⟨og, of, none⟩) p.on.length oc) ∧ w'.cell? ⟨og, of + i, none⟩ = some (.int .i64 ov) ∧ w'.cell? ⟨w.heap.size, 4, none⟩ = some (.int .i64 p.miss) ∧ w'.cell? ⟨cb, 0, none⟩ = some (.slice (some ⟨b1, f1, none⟩) p.on.length m1) ∧ w'.cell? ⟨b1, f1 + i, none⟩ = some (.int .i64 cv) ∧ w'.cell? ⟨cb, 1, none⟩ = some (.int .i64 cm)) (by kernel_rfl) ?_
                  change wpAnyH _ _ _ _ _ _ _ _ wr.drew
                  have hS : (fun w' : World => w'.cell? ⟨w.heap.size, 3, none⟩ = some (.slice (some ⟨og, of, none⟩) p.on.length oc) ∧ w'.cell? ⟨og, of + i, none⟩ = some (.int .i64 ov) ∧ w'.cell? ⟨w.heap.size, 4, none⟩ = some (.int .i64 p.miss) ∧ w'.cell? ⟨cb, 0, none⟩ = some (.slice (some ⟨b1, f1, none⟩) p.on.length m1) ∧ w'.cell? ⟨b1, f1 + i, none⟩ = some (.int .i64 cv) ∧ w'.cell? ⟨cb, 1, none⟩ = some (.int .i64 cm)) wr.drew := ⟨y3, a1, y4, z0, b1f, z1⟩
                  have HWd : Hid (Below Wm.heap.size Wm wr.drew) := HBw.out.drew
                  generalize wr.drew = Wd at *
                  refine tqA 0 rfl hS ?_
                  refine tqA 1 rfl hS ?_
                  refine tqA 2 rfl hS ?_
                  refine tqA 3 rfl hS ?_
                  refine tqA 4 rfl hS ?_
                  refine tqA 5 rfl hS ?_
                  refine tqA 6 rfl hS ?_
                  refine tqA (v := .bool false) 7 rfl hS ?_
                  refine tqA 8 rfl hS ?_
                  refine tuA 9 rfl hS ?_
                  refine tuA 10 rfl hS ?_
                  refine tuA 11 rfl hS ?_
                  refine tuA 12 rfl hS ?_
                  refine tuA 13 rfl hS ?_
                  refine tuA 14 rfl hS ?_
                  refine tuA 15 rfl hS ?_
                  refine tuA 16 rfl hS ?_
                  refine tqA (v := .bool false) 17 rfl hS ?_
                  refine wpAnyH_done (by kernel_rfl) ?_ _
                  clear hS
                  go_simp
                  clear y3 a1 y4 z0 b1f z1 n1 n2 HBw
                  have HBw : Hid (Below Wm.heap.size Wm Wd) := HWd.out
                  clear HWd
                  go_upto_region 23 with fail
                  obtain ⟨Wi, hWi⟩ : ∃ Wi, Wi = Wd := ⟨_, rfl⟩
                  rw [← hWi] at HBw
                  have HBi : Hid (Below Wm.heap.size Wm Wi ∧ Wi = Wd) := ⟨HBw.out, hWi⟩
                  clear hWi HBw
                  go_loopg [14] i (fun gq x wr => ∃ k : Nat, k ≤ i ∧ gq = i - k ∧ x = .int .i64 (k : Int) ∧ Below Wm.heap.size Wm wr)
                  case atStart => exact ⟨0, Nat.zero_le _, rfl, rfl, by rw [← HBi.out.2]; exact HBi.out.1⟩
                  case round =>
                    obtain ⟨k, hk9, hgk, rfl, hbw⟩ := hrel
                    have HGi : Hid (gk = i - k ∧ Below Wm.heap.size Wm wr) := ⟨hgk, hbw⟩
                    clear hgk
                    by_cases hlk : k < i
                    · have hlk' : (k : Int) < (i : Int) := by omega
                      have HLk : Hid (k < i) := hlk
                      have hkn : k < p.on.length := by have := HLi.out; omega
                      have hkn' : (k : Int) < (p.on.length : Int) := by omega
                      have hin' : (i : Int) < (p.on.length : Int) := by have := HLi.out; omega
                      obtain ⟨y3, a1, -, z0, b1f, -, -⟩ := HFx.out wr hbw i HLi.out
                      obtain ⟨-, a2, -, -, b2f, -, -⟩ := HFx.out wr hbw k hkn
                      rw [← HOv.out.1] at a1
                      rw [← HOv.out.2] at b1f
                      obtain ⟨ok, hok⟩ : ∃ ok, ok = p.on.getD k 0 := ⟨_, rfl⟩
                      rw [← hok] at a2 b2f
                      have HBw : Hid (Below Wm.heap.size Wm wr) := hbw
                      by_cases heq : ov = ok
                      · have hcv : cst p ok = cv := by rw [HOv.out.2, ← HOv.out.1, heq]
                        rw [hcv] at b2f
                        rw [← heq] at a2
                        clear hlk hk9 hbw hkn hok hcv heq
                        go_upto_region 25 with fail
                        refine wp_region_held (S := fun w' : World => w'.cell? ⟨w.heap.size, 3, none⟩ = some (.slice (some ⟨og, of, none⟩) p.on.length oc) ∧ w'.cell? ⟨og, of + i, none⟩ = some (.int .i64 ov) ∧ w'.cell? ⟨og, of + k, none⟩ = some (.int .i64 ov) ∧ w'.cell? ⟨cb, 0, none⟩ = some (.slice (some ⟨b1, f1, none⟩) p.on.length m1) ∧ w'.cell? ⟨b1, f1 + i, none⟩ = some (.int .i64 cv) ∧ w'.cell? ⟨b1, f1 + k, none⟩ = some (.int .i64 cv)) (by kernel_rfl) ?_
                        change wpAnyH _ _ _ _ _ _ _ _ wr.drew
                        have hS : (fun w' : World => w'.cell? ⟨w.heap.size, 3, none⟩ = some (.slice (some ⟨og, of, none⟩) p.on.length oc) ∧ w'.cell? ⟨og, of + i, none⟩ = some (.int .i64 ov) ∧ w'.cell? ⟨og, of + k, none⟩ = some (.int .i64 ov) ∧ w'.cell? ⟨cb, 0, none⟩ = some (.slice (some ⟨b1, f1, none⟩) p.on.length m1) ∧ w'.cell? ⟨b1, f1 + i, none⟩ = some (.int .i64 cv) ∧ w'.cell? ⟨b1, f1 + k, none⟩ = some (.int .i64 cv)) wr.drew := ⟨y3, a1, a2, z0, b1f, b2f⟩
                        have HWd : Hid (Below Wm.heap.size Wm wr.drew) := HBw.out.drew
                        generalize wr.drew = Wd at *
                        refine tqA 0 rfl hS ?_
                        refine tqA 1 rfl hS ?_
                        refine tqA 2 rfl hS ?_
                        refine tqA 3 rfl hS ?_
                        refine tqA 4 rfl hS ?_
                        refine tqA 5 rfl hS ?_
                        refine tqA 6 rfl hS ?_
                        refine tqA 7 rfl hS ?_
                        refine tqA 8 rfl hS ?_
                        refine tqA 9 rfl hS ?_
                        refine tqA (v := .bool true) 10 rfl hS ?_
                        refine tqA 11 rfl hS ?_
                        refine tkA 12 rfl hS ?_
                        refine tkA 13 rfl hS ?_
                        refine tkA 14 rfl hS ?_
                        refine tkA 15 rfl hS ?_
                        refine tkA 16 rfl hS ?_
                        refine tkA 17 rfl hS ?_
                        refine tkA 18 rfl hS ?_
                        refine tkA 19 rfl hS ?_
                        refine tkA 20 rfl hS ?_
                        refine tkA 21 rfl hS ?_
                        refine tkA (v := .bool false) 22 rfl hS ?_
                        refine tqA (v := .bool false) 23 rfl hS ?_
                        refine wpAnyH_done (by kernel_rfl) ?_ _
                        clear hS
                        go_simp
                        clear y3 a1 a2 z0 b1f b2f
                        go_wp2_with fail
                        go_roundg (i - (k + 1))
                        case measure => have h1 := HGi.out.1; have := HLk.out; omega
                        case rel => exact ⟨k + 1, HLk.out, rfl, by go_num, HWd.out⟩
                      · obtain ⟨ck, hck⟩ : ∃ ck, ck = cst p ok := ⟨_, rfl⟩
                        rw [← hck] at b2f
                        have n1 : decide (ov = ok) = false := by rw [decide_eq_false_iff_not]; exact heq
                        have n2 : (ov == ok) = false := by rw [beq_eq_false_iff_ne]; exact heq
                        clear hlk hk9 hbw hkn hok hck
                        go_upto_region 25 with fail
                        refine wp_region_held (S := fun w' : World => w'.cell? ⟨w.heap.size, 3, none⟩ = some (.slice (some ⟨og, of, none⟩) p.on.length oc) ∧ w'.cell? ⟨og, of + i, none⟩ = some (.int .i64 ov) ∧ w'.cell? ⟨og, of + k, none⟩ = some (.int .i64 ok) ∧ w'.cell? ⟨cb, 0, none⟩ = some (.slice (some ⟨b1, f1, none⟩) p.on.length m1) ∧ w'.cell? ⟨b1, f1 + i, none⟩ = some (.int .i64 cv) ∧ w'.cell? ⟨b1, f1 + k, none⟩ = some (.int .i64 ck)) (by kernel_rfl) ?_
                        change wpAnyH _ _ _ _ _ _ _ _ wr.drew
                        have hS : (fun w' : World => w'.cell? ⟨w.heap.size, 3, none⟩ = some (.slice (some ⟨og, of, none⟩) p.on.length oc) ∧ w'.cell? ⟨og, of + i, none⟩ = some (.int .i64 ov) ∧ w'.cell? ⟨og, of + k, none⟩ = some (.int .i64 ok) ∧ w'.cell? ⟨cb, 0, none⟩ = some (.slice (some ⟨b1, f1, none⟩) p.on.length m1) ∧ w'.cell? ⟨b1, f1 + i, none⟩ = some (.int .i64 cv) ∧ w'.cell? ⟨b1, f1 + k, none⟩ = some (.int .i64 ck)) wr.drew := ⟨y3, a1, a2, z0, b1f, b2f⟩
                        have HWd : Hid (Below Wm.heap.size Wm wr.drew) := HBw.out.drew
                        generalize wr.drew = Wd at *
                        refine tqA 0 rfl hS ?_
                        refine tqA 1 rfl hS ?_
                        refine tqA 2 rfl hS ?_
                        refine tqA 3 rfl hS ?_
                        refine tqA 4 rfl hS ?_
                        refine tqA 5 rfl hS ?_
                        refine tqA 6 rfl hS ?_
                        refine tqA 7 rfl hS ?_
                        refine tqA 8 rfl hS ?_
                        refine tqA 9 rfl hS ?_
                        refine tqA (v := .bool false) 10 rfl hS ?_
                        refine tqA 11 rfl hS ?_
                        refine tuA 12 rfl hS ?_
                        refine tuA 13 rfl hS ?_
                        refine tuA 14 rfl hS ?_
                        refine tuA 15 rfl hS ?_
                        refine tuA 16 rfl hS ?_
                        refine tuA 17 rfl hS ?_
                        refine tuA 18 rfl hS ?_
                        refine tuA 19 rfl hS ?_
                        refine tuA 20 rfl hS ?_
                        refine tuA 21 rfl hS ?_
                        refine tuA 22 rfl hS ?_
                        refine tqA (v := .bool false) 23 rfl hS ?_
                        refine wpAnyH_done (by kernel_rfl) ?_ _
                        clear hS
                        go_simp
                        clear y3 a1 a2 z0 b1f b2f
                        go_wp2_with fail
                        go_roundg (i - (k + 1))
                        case measure => have h1 := HGi.out.1; have := HLk.out; omega
                        case rel => exact ⟨k + 1, HLk.out, rfl, by go_num, HWd.out⟩
                    · obtain rfl : i = k := by omega
                      clear hlk hk9 hbw
                      go_wp2_with fail
                      go_roundg (p.on.length - (i + 1))
                      case measure => have h1 := HG2.out.1; have := HLi.out; omega
                      case rel => exact ⟨i + 1, HLi.out, rfl, by go_num, HGi.out.2⟩
              · obtain rfl : i = p.on.length := by omega
                obtain ⟨y3, zf⟩ := HFe.out wr hbw
                have HBZ : Hid (Below w.heap.size w wr) := HBx.out wr hbw
                clear hlt hi9 hbw
                go_wp2_with fail
                refine (HHd.out _ HBZ.out).mono ?_
                rintro e w99 ⟨rfl, hb99⟩
                have HB99 : Hid (Below w.heap.size w w99) := bel_step HBZ.out hb99
                clear hb99
                go_wp2_with fail
                go_ret
                exact ⟨rfl, HB99.out⟩
end Go.Proofs.YtnededkmjmbioabDoor.Vf

namespace Go.Proofs.YtnededkmjmbioabDoor.verifyNumbers
open Go.ChangeShapes Go.WideShapes Go.ChangeAt Go.RowKit
open Go.Proofs.YtnededkmjmbioabDoor.Nm Go.Proofs.YtnededkmjmbioabDoor.Vf

theorem own : ownKnob Tryd.prog.godebug = none := by kernel_rfl
theorem laidOut : laidOutB Tryd.prog = true := by kernel_rfl

set_option maxRecDepth 100000 in
theorem contract (H : Type) (enc : TypeId × Value → H) (W : World) (base : Nat) (args : Array Value) (ds gs : List (DataW H)) (before : List MemPlace)
    (hval : ∀ (j : Nat) t v, Tryd.f3.params[j]? = some t → args[j]? = some v → Value.okWide Tryd.prog W .any base t v)
    (hW : DataW.Whole enc Tryd.prog Tryd.f3.params.toList Rows.verifyNumbersSpec.vars false W args.toList ds gs before) (hL : laidMetH Tryd.prog Rows.verifyNumbersRow.laid W) :
    Calls Tryd.prog 3 args W fun e W' => ∃ v, e = .returned v ∧ Rows.verifyNumbersSpec.post enc Tryd.prog Tryd.f3 false true false false W args v W' := by
  have hW' := hW
  obtain ⟨p, q, hA0, hV, rfl, hfz, hnd⟩ := hW
  have hA : DataW.TrodAll enc Tryd.prog W 0 (fun _ => true) true Tryd.f3.params.toList args.toList ds p := hA0
  rw [Tryd.params3] at hA hval
  obtain ⟨v0, vs0, d0, ds0, p0, q0, hargs, rfl, rfl, h0, r0⟩ := trodAll_cons hA
  obtain ⟨v1, vs1, d1, ds1, p1, q1, rfl, rfl, rfl, h1, r1⟩ := trodAll_cons r0
  obtain ⟨rfl, rfl, rfl⟩ := trodAll_nil r1
  obtain rfl : args = #[v0, v1] := by cases args; simp_all
  obtain ⟨rfl, rfl⟩ := trodVars_none hV
  have lt0 : ∀ x ∈ p0, x.block < W.heap.size := by obtain ⟨m, hm⟩ := h0; exact DataW.trod_lt m _ _ _ hm
  obtain ⟨pv0, pg0, rfl, hr0⟩ := open_prog (hval 0 27 v0 rfl rfl) h0
  obtain ⟨a1, len1, cap1, rfl⟩ := okWide_slice Tryd.underlying24 (hval 1 24 v1 rfl rfl)
  have lt1 : ∀ x ∈ p1, x.block < W.heap.size := by obtain ⟨m, hm⟩ := h1; exact DataW.trod_lt m _ _ _ hm
  obtain ⟨l1, rfl, hr1, hm1, hi1⟩ := open_intsV h1
  refine (numbersWalk W pv0 pg0 hr0 a1 cap1 l1 hr1 hm1 hi1 (ef_of hL)).mono fun e W2 ⟨he, bel⟩ => ?_
  subst he
  exact ⟨_, rfl, _, _, _, [], _, [], hW', trodAll_mk1 (shut_bool Tryd.underlying4 _), (trodAll_cons_mk (Below.trod laidOut (by kernel_rfl) (of_decide_eq_true (by kernel_rfl)) h0 bel lt0) (trodAll_cons_mk (Below.trod laidOut (by kernel_rfl) (of_decide_eq_true (by kernel_rfl)) h1 bel lt1) trodAll_mk0)), rfl, bel.frame _, fun h => by cases h⟩

/-- A world for the witness: the settled one, the table holding what its initialiser lays. -/
theorem start (os : Os) : ∃ w0 : World, w0.os = os ∧ (w0.forCall (fun _ _ => 0) ⟨#[], #[.agg #[.slice none 0 0, .slice none 0 0, .slice none 0 0, .slice none 0 0, .int .i64 0, .slice none 0 0], .slice none 0 0], []⟩).variablesB Tryd.prog = true ∧
    ((w0.forCall (fun _ _ => 0) ⟨#[], #[.agg #[.slice none 0 0, .slice none 0 0, .slice none 0 0, .slice none 0 0, .int .i64 0, .slice none 0 0], .slice none 0 0], []⟩).heap.toList.drop Tryd.prog.globals.size).take ((begin Tryd.prog (fun _ _ => 0) default).world.heap.size - Tryd.prog.globals.size) = (begin Tryd.prog (fun _ _ => 0) default).world.heap.toList.drop Tryd.prog.globals.size ∧
    Input.okWideB Tryd.prog (w0.forCall (fun _ _ => 0) ⟨#[], #[.agg #[.slice none 0 0, .slice none 0 0, .slice none 0 0, .slice none 0 0, .int .i64 0, .slice none 0 0], .slice none 0 0], []⟩) 3 ⟨#[], #[.agg #[.slice none 0 0, .slice none 0 0, .slice none 0 0, .slice none 0 0, .int .i64 0, .slice none 0 0], .slice none 0 0], []⟩ = true ∧
    laidMet Tryd.prog Rows.verifyNumbersRow.laid (w0.forCall (fun _ _ => 0) ⟨#[], #[.agg #[.slice none 0 0, .slice none 0 0, .slice none 0 0, .slice none 0 0, .int .i64 0, .slice none 0 0], .slice none 0 0], []⟩).memory ∧
    ∀ (H : Type) (enc : TypeId × Value → H),
      DataW.whole enc Tryd.prog (w0.forCall (fun _ _ => 0) ⟨#[], #[.agg #[.slice none 0 0, .slice none 0 0, .slice none 0 0, .slice none 0 0, .int .i64 0, .slice none 0 0], .slice none 0 0], []⟩).memory Tryd.f3.params.toList Rows.verifyNumbersSpec.vars false #[Value.agg #[.slice none 0 0, .slice none 0 0, .slice none 0 0, .slice none 0 0, .int .i64 0, .slice none 0 0], .slice none 0 0].toList 8 = some ([.agg [.nil, .nil, .nil, .nil, .lit (.int .i64 0), .nil], .nil], [], []) ∧
      (OpenSpec.ofChange Rows.verifyNumbersSpec).bare.sizedB enc Tryd.prog Tryd.f3 false (w0.forCall (fun _ _ => 0) ⟨#[], #[.agg #[.slice none 0 0, .slice none 0 0, .slice none 0 0, .slice none 0 0, .int .i64 0, .slice none 0 0], .slice none 0 0], []⟩).memory #[Value.agg #[.slice none 0 0, .slice none 0 0, .slice none 0 0, .slice none 0 0, .int .i64 0, .slice none 0 0], .slice none 0 0] 8 = true :=
  ⟨{ World.holding Tryd.prog os ⟨#[], #[], []⟩ with
      heap := (World.holding Tryd.prog os ⟨#[], #[], []⟩).heap.modify 0 (fun o => match o with
        | .cells _ t frozen => .cells ((List.range 42).flatMap fun op => [Value.int .i64 ((ef op).1 : Int), Value.int .i64 ((ef op).2.1 : Int), Value.int .i64 ((ef op).2.2 : Int)]).toArray t frozen
        | o => o) },
    rfl, by kernel_rfl, by kernel_rfl, by kernel_rfl, laidMet_of_run' 8 (by kernel_rfl) (by kernel_rfl), fun _ _ => ⟨by kernel_rfl, by kernel_rfl⟩⟩

set_option maxRecDepth 100000 in
theorem lifted (os : Os) (started : os.Started) (H : Type) (enc : TypeId × Value → H) (F : Stop.Interp) :
    ReturnsInHanded {} Tryd.checked os 3 .any ((OpenSpec.ofChange Rows.verifyNumbersSpec).preRow enc Tryd.prog Tryd.f3 Rows.verifyNumbersRow.domain false Rows.verifyNumbersRow.laid) (((OpenSpec.ofChange Rows.verifyNumbersSpec).at F).post enc Tryd.prog Tryd.f3 false true false false) := by
  obtain ⟨w0, hos, hv, hr, hok, hlaid, hread⟩ := start os
  obtain ⟨hx, hsz⟩ := hread H enc
  refine returnsInHanded_of_row (C := Tryd.checked) (s := OpenSpec.ofChange Rows.verifyNumbersSpec) own started (by kernel_rfl) Tryd.func3
    (witness_row_at (enc := enc) (C := Tryd.checked) false w0 #[Value.agg #[.slice none 0 0, .slice none 0 0, .slice none 0 0, .slice none 0 0, .int .i64 0, .slice none 0 0], .slice none 0 0] hos hv hr hok
      (OpenSpec.preRow_of_cond 8 hx (by kernel_rfl) (fun k hk => by cases hk) hsz hlaid)) ?_
  intro W base args ds gs before hval hW _ _ _ hL _ _
  exact contract H enc W base args ds gs before hval hW hL

theorem said : Rows.VerifyNumbersSaid :=
  OpenClaim.holds_of_cond 3 Tryd.f3 rfl rfl rfl rfl rfl rfl rfl ⟨rfl, rfl, rfl, rfl, rfl⟩ rfl rfl rfl rfl rfl (by kernel_rfl) Tryd.func3 (by kernel_rfl)
    (of_decide_eq_true (by kernel_rfl)) (by unfold Func.isWrapper; first | (rw [if_pos (by decide +kernel)]; kernel_rfl) | (rw [if_neg (by decide +kernel)]; exact ⟨rfl, rfl⟩))
    (fun os started H enc _ F => by rw [OpenClaim.pre_eq_preRow]; exact lifted os started H enc F)

theorem plain (f : FuncId) (fn : Func) (hf : Tryd.pinned.checked.prog.funcNamed "winnow/winnowlaw16.VerifyNumbers" = some f) (hfn : Tryd.pinned.checked.prog.funcs[f]? = some fn) :
    false = Tryd.pinned.checked.prog.looks [] ∧ ∀ (j : Nat) t, fn.params[j]? = some t → Tryd.pinned.checked.prog.wantsStandIn t = false := by
  obtain rfl : f = 3 := Option.some.inj ((show Tryd.prog.funcNamed "winnow/winnowlaw16.VerifyNumbers" = some 3 by kernel_rfl).symm.trans hf) |>.symm
  obtain rfl : fn = Tryd.f3 := (Option.some.inj (Tryd.func3.symm.trans hfn)).symm
  refine ⟨by kernel_rfl, fun j t ht => ?_⟩
  rw [Tryd.params3] at ht
  have hm : t = 27 ∨ t = 24 := by simpa using Array.mem_of_getElem? ht
  rcases hm with rfl | rfl
  · exact (show Tryd.prog.wantsStandIn 27 = false by kernel_rfl)
  · exact (show Tryd.prog.wantsStandIn 24 = false by kernel_rfl)

theorem card : Rows.VerifyNumbersCardSaid :=
  Claim7.holds_tied_plain_at .later [] _ _ _ _ said (fun _ h => by cases h) (by kernel_rfl) (fun _ h => by cases h) verifyNumbers_row_tie rfl ⟨rfl, rfl⟩ (by kernel_rfl) rfl plain (by kernel_rfl)
end Go.Proofs.YtnededkmjmbioabDoor.verifyNumbers
