import Derived.Test.YtpifilpbagajkaaDoorJD
import Derived.Test.YtpifilpbagajkaaDoorJE
import Derived.Test.YtpifilpbagajkaaDoorCards
import Derived.Test.YtpifilpbagajkaaDoorTie
import Derived.Test.YtpifilpbagajkaaDoorVfTie
import Derived.WalkKit
import Derived.ProofKit
import Derived.OpenShut
import Derived.Below
import Derived.Carry
import Derived.Lib.SmallJoins
import Derived.Deep.DeepHandedRow
import Derived.Lib.LaidTab
namespace Go.Proofs.YtpifilpbagajkaaDoor.Vf
open Go.RowKit Go.Proofs.YtpifilpbagajkaaDoor.Nm
theorem run_m (v : PV) (p : Pg) (w : World) (hP : IsPg w v p) (hE : Ef w) : Calls Tryd.prog 9 #[.agg (pvC v p)] w fun e w' => ∃ o1 m1, e = .returned (.tuple #[.agg #[.slice o1 (outN p).2.2.1.length m1, .int .i64 (outN p).2.2.2], .agg #[.int .i64 (outN p).1, .int .i64 (outN p).2.1]]) ∧ Below w.heap.size w w' ∧ Rd w' o1 (iC (outN p).2.2.1) ∧ ∀ g f, o1 = some ⟨g, f, none⟩ → w.heap.size ≤ g := by
  refine (run_any v p w hP hE).mono ?_
  rintro r w' h
  unfold outN
  cases hj : judge p with
  | error x =>
    obtain ⟨e, n⟩ := x
    exact ⟨none, 0, h.err e n hj, h.bel, rd_nil _ _, fun g f hb => by cases hb⟩
  | ok g =>
    obtain ⟨b, hb, hge, hr⟩ := h.ok g hj
    refine ⟨some ⟨b, 0, none⟩, p.on.length, ?_, h.bel, hr, fun g f hb' => by cases hb'; exact hge⟩
    rw [hb]
    simp
theorem rrun_n {w w' : World} {p : Pg} {r : Ending} (h : RrP w p r w') : ∃ o2 m2, r = .returned (.tuple #[.agg #[.slice o2 (outN p).2.2.1.length m2, .int .i64 (outN p).2.2.2], .agg #[.int .i64 (outN p).1, .int .i64 (outN p).2.1]]) ∧ Rd w' o2 (iC (outN p).2.2.1) ∧ ∀ g f, o2 = some ⟨g, f, none⟩ → w.heap.size ≤ g := by
  unfold outN
  cases hj : judge p with
  | error x =>
    obtain ⟨e, n⟩ := x
    exact ⟨none, 0, h.err e n hj, rd_nil _ _, fun g f hb => by cases hb⟩
  | ok g =>
    obtain ⟨o, c, h1, h2, h3⟩ := h.ok g hj
    refine ⟨o, c, ?_, h2, h3⟩
    rw [h1]
    simp
theorem outN_len (p : Pg) (h : p.on.length ≤ 100) : (outN p).2.2.1.length ≤ 100 := by
  unfold outN
  cases judge p with
  | error x => exact Nat.zero_le _
  | ok g => show (p.on.map (cst p)).length ≤ 100; simpa using h
theorem Rd.fs {S : List Nat} {W X : World} {o : Option Addr} {xs : List Value} (h : Rd W o xs) (hf : FS S W X) (hn : ∀ g f, o = some ⟨g, f, none⟩ → g ∉ S) : Rd X o xs := fun k x hx => by
  obtain ⟨g, f, h1, h2, h3⟩ := h k x hx
  exact ⟨g, f, h1, Nat.lt_of_lt_of_le h2 hf.size, (World.cell?_of_block (a := ⟨g, f + k, none⟩) (hf.block g h2 (hn g f h1))).trans h3⟩
theorem Lt.is {w0 w : World} {p : Pg} {a b c d e : Nat} {Ta Tb Tc Td : TypeId} (h9 : Lt w0 w p a b c d e Ta Tb Tc Td) (l1 : p.gh.length ≤ 100) (l2 : p.vs.length ≤ 100) (l3 : p.ts.length ≤ 100) (l4 : p.on.length ≤ 100) (l5 : p.cd.length ≤ 524288) : IsPg w ⟨some ⟨a, 0, none⟩, p.gh.length + 3, some ⟨b, 0, none⟩, p.vs.length + 3, some ⟨c, 0, none⟩, p.ts.length + 5, some ⟨d, 0, none⟩, p.on.length + 5, some ⟨e, 0, none⟩, p.cd.length + 9⟩ p :=
  ⟨h9.ba.pre, h9.bb.pre, h9.bc.pre, h9.bd.pre, Bk.pre (r := mkC p.cd.length 9) h9.be, by omega, by omega, by omega, by omega, by omega⟩
/-- what was lent -/
theorem lt_of {w w' : World} {p : Pg} {r : Ending} (h : LdP w p r w') : ∃ a b c d e Ta Tb Tc Td, r = .returned (.agg #[.slice (some ⟨a, 0, none⟩) p.gh.length (p.gh.length + 3), .slice (some ⟨b, 0, none⟩) p.vs.length (p.vs.length + 3), .slice (some ⟨c, 0, none⟩) p.ts.length (p.ts.length + 5), .slice (some ⟨d, 0, none⟩) p.on.length (p.on.length + 5), .int .i64 p.miss, .slice (some ⟨e, 0, none⟩) p.cd.length (p.cd.length + 9)]) ∧ Lt w w' p a b c d e Ta Tb Tc Td := by
  obtain ⟨hb, a, b, c, d, e, hr, ha, hb2, hc, hd, ae, be, ce, de, hn, ⟨Ta, ka⟩, ⟨Tb, kb⟩, ⟨Tc, kc⟩, ⟨Td, kd⟩, ke⟩ := h
  refine ⟨a, b, c, d, e, Ta, Tb, Tc, Td, hr, hb, ⟨by omega, by omega, by omega, by omega, by omega⟩, ?_, ka, kb, kc, kd, ke⟩
  simp only [List.nodup_cons, List.mem_cons, List.not_mem_nil, or_false, not_or, List.nodup_nil, and_true, not_false_eq_true] at hn
  obtain ⟨⟨n1, n2, n3⟩, ⟨n4, n5⟩, n6⟩ := hn
  exact ⟨fun h => n6 h.symm, fun h => n5 h.symm, fun h => n3 h.symm, by omega, fun h => n4 h.symm, fun h => n2 h.symm, by omega, fun h => n1 h.symm, by omega, by omega⟩
set_option maxHeartbeats 12800000 in
set_option maxRecDepth 100000 in
/-- VerifyRuns -/
theorem runsWalk (w : World) (v : PV) (p : Pg) (hp : RdPg w v p) (hE : Ef w) :
    Calls Tryd.prog 3 #[.agg (pvC v p)] w fun e w' => e = .returned (.bool true) ∧ Below w.heap.size w w' := by
  have HEf : Hid (∀ W, Below w.heap.size w W → Ef W) := fun W hb => hE.below hb
  have HHd : Hid (∀ W, Below w.heap.size w W → Calls Tryd.prog 7 #[] W fun e w' => e = .returned (.bool true) ∧ Below W.heap.size W w') := fun W hb => head_any W (hE.below hb)
  have HFar : Hid (∀ W, Calls Tryd.prog 6 #[.agg (pvC v p)] W fun e w' => e = .returned (.bool (farB p)) ∧ Below W.heap.size W w') := fun W => far_any v p W
  have HLn : Hid (farB p = false → (p.gh.length ≤ 100 ∧ p.vs.length ≤ 100 ∧ p.ts.length ≤ 100 ∧ p.on.length ≤ 100 ∧ p.cd.length ≤ 524288) ∧ IsPg w v p) := fun hf => by
    obtain ⟨l1, l2, l3, l4, l5⟩ := farB_not hf
    exact ⟨⟨l1, l2, l3, l4, l5⟩, hp.is l1 l2 l3 l4 l5⟩
  clear hE hp
  obtain ⟨qo, qc, vo, vc, tto, tc, oo, oc, co, cc⟩ := v
  show Calls _ _ #[.agg #[.slice qo p.gh.length qc, .slice vo p.vs.length vc, .slice tto p.ts.length tc, .slice oo p.on.length oc, .int .i64 p.miss, .slice co p.cd.length cc]] _ _
  have hb0 : Below w.heap.size w (w.alloc (.cells #[.slice qo p.gh.length qc, .slice vo p.vs.length vc, .slice tto p.ts.length tc, .slice oo p.on.length oc, .int .i64 p.miss, .slice co p.cd.length cc] 27)) := (Below.refl _ w).alloc (Nat.le_refl _) _
  have HB0 : Hid (Below w.heap.size w (w.alloc (.cells #[.slice qo p.gh.length qc, .slice vo p.vs.length vc, .slice tto p.ts.length tc, .slice oo p.on.length oc, .int .i64 p.miss, .slice co p.cd.length cc] 27)) ∧ (w.alloc (.cells #[.slice qo p.gh.length qc, .slice vo p.vs.length vc, .slice tto p.ts.length tc, .slice oo p.on.length oc, .int .i64 p.miss, .slice co p.cd.length cc] 27)).heap[w.heap.size]? = some (.cells #[.slice qo p.gh.length qc, .slice vo p.vs.length vc, .slice tto p.ts.length tc, .slice oo p.on.length oc, .int .i64 p.miss, .slice co p.cd.length cc] 27 (0, 0))) := ⟨hb0, heap_alloc_new _ _⟩
  clear hb0
  go_enter Tryd.func3, Tryd.ntmps3
  go_upto_region 1 with fail
  generalize w.alloc (.cells #[.slice qo p.gh.length qc, .slice vo p.vs.length vc, .slice tto p.ts.length tc, .slice oo p.on.length oc, .int .i64 p.miss, .slice co p.cd.length cc] 27) = W0 at *
  obtain ⟨i0, i1, i2, i3, i4, i5⟩ := cells6 HB0.out.2
  go_wp2_with fail
  refine (HFar.out _).mono ?_
  rintro r w1 ⟨rfl, hb1⟩
  have HB1 : Hid (Below w.heap.size w w1 ∧ w1.heap[w.heap.size]? = some (.cells #[.slice qo p.gh.length qc, .slice vo p.vs.length vc, .slice tto p.ts.length tc, .slice oo p.on.length oc, .int .i64 p.miss, .slice co p.cd.length cc] 27 (0, 0))) := ⟨bel_step HB0.out.1 hb1, (hb1.block _ (blk_lt HB0.out.2)).trans HB0.out.2⟩
  clear hb1 HB0 HFar i0 i1 i2 i3 i4 i5
  cases hfar : farB p with
  | true =>
    clear hfar
    go_wp2_with fail
    refine (HHd.out _ HB1.out.1).mono ?_
    rintro e w9 ⟨rfl, hb9⟩
    have HB9 : Hid (Below w.heap.size w w9) := bel_step HB1.out.1 hb9
    clear hb9
    go_wp2_with fail
    go_ret
    exact ⟨rfl, HB9.out⟩
  | false =>
    obtain ⟨⟨l1, l2, l3, l4, l5⟩, hP⟩ := HLn.out hfar
    have HL : Hid ((p.gh.length ≤ 100 ∧ p.vs.length ≤ 100 ∧ p.ts.length ≤ 100 ∧ p.on.length ≤ 100 ∧ p.cd.length ≤ 524288) ∧ IsPg w ⟨qo, qc, vo, vc, tto, tc, oo, oc, co, cc⟩ p ∧ IsPg w1 ⟨qo, qc, vo, vc, tto, tc, oo, oc, co, cc⟩ p) := ⟨⟨l1, l2, l3, l4, l5⟩, hP, hP.below HB1.out.1⟩
    have HCl : Hid (Calls Tryd.prog 8 #[.agg #[.slice qo p.gh.length qc, .slice vo p.vs.length vc, .slice tto p.ts.length tc, .slice oo p.on.length oc, .int .i64 p.miss, .slice co p.cd.length cc]] w1 (LdP w1 p)) := lendP_any ⟨qo, qc, vo, vc, tto, tc, oo, oc, co, cc⟩ p w1 (hP.below HB1.out.1) l1 l2 l3 l4 l5
    clear hfar l1 l2 l3 l4 l5 hP HLn
    obtain ⟨i0, i1, i2, i3, i4, i5⟩ := cells6 HB1.out.2
    go_wp2_with fail
    refine HCl.out.mono ?_
    rintro r w2 hld
    obtain ⟨a, b, c, d, e, Ta, Tb, Tc, Td, rfl, hlt⟩ := lt_of hld
    have hbA : Below w2.heap.size w2 (w2.alloc (.cells #[.slice (some ⟨a, 0, none⟩) p.gh.length (p.gh.length + 3), .slice (some ⟨b, 0, none⟩) p.vs.length (p.vs.length + 3), .slice (some ⟨c, 0, none⟩) p.ts.length (p.ts.length + 5), .slice (some ⟨d, 0, none⟩) p.on.length (p.on.length + 5), .int .i64 p.miss, .slice (some ⟨e, 0, none⟩) p.cd.length (p.cd.length + 9)] 27)) := (Below.refl _ w2).alloc (Nat.le_refl _) _
    have H2 : Hid (Lt w1 (w2.alloc (.cells #[.slice (some ⟨a, 0, none⟩) p.gh.length (p.gh.length + 3), .slice (some ⟨b, 0, none⟩) p.vs.length (p.vs.length + 3), .slice (some ⟨c, 0, none⟩) p.ts.length (p.ts.length + 5), .slice (some ⟨d, 0, none⟩) p.on.length (p.on.length + 5), .int .i64 p.miss, .slice (some ⟨e, 0, none⟩) p.cd.length (p.cd.length + 9)] 27)) p a b c d e Ta Tb Tc Td ∧ (w2.alloc (.cells #[.slice (some ⟨a, 0, none⟩) p.gh.length (p.gh.length + 3), .slice (some ⟨b, 0, none⟩) p.vs.length (p.vs.length + 3), .slice (some ⟨c, 0, none⟩) p.ts.length (p.ts.length + 5), .slice (some ⟨d, 0, none⟩) p.on.length (p.on.length + 5), .int .i64 p.miss, .slice (some ⟨e, 0, none⟩) p.cd.length (p.cd.length + 9)] 27)).heap[w2.heap.size]? = some (.cells #[.slice (some ⟨a, 0, none⟩) p.gh.length (p.gh.length + 3), .slice (some ⟨b, 0, none⟩) p.vs.length (p.vs.length + 3), .slice (some ⟨c, 0, none⟩) p.ts.length (p.ts.length + 5), .slice (some ⟨d, 0, none⟩) p.on.length (p.on.length + 5), .int .i64 p.miss, .slice (some ⟨e, 0, none⟩) p.cd.length (p.cd.length + 9)] 27 (0, 0)) ∧ (w2.alloc (.cells #[.slice (some ⟨a, 0, none⟩) p.gh.length (p.gh.length + 3), .slice (some ⟨b, 0, none⟩) p.vs.length (p.vs.length + 3), .slice (some ⟨c, 0, none⟩) p.ts.length (p.ts.length + 5), .slice (some ⟨d, 0, none⟩) p.on.length (p.on.length + 5), .int .i64 p.miss, .slice (some ⟨e, 0, none⟩) p.cd.length (p.cd.length + 9)] 27)).heap[w.heap.size]? = some (.cells #[.slice qo p.gh.length qc, .slice vo p.vs.length vc, .slice tto p.ts.length tc, .slice oo p.on.length oc, .int .i64 p.miss, .slice co p.cd.length cc] 27 (0, 0))) := ⟨hlt.below hbA, heap_alloc_new _ _, ((hlt.below hbA).bel.block _ (blk_lt HB1.out.2)).trans HB1.out.2⟩
    clear hld hlt hbA HCl i0 i1 i2 i3 i4 i5
    go_upto_region 4 with fail
    generalize w2.alloc (.cells #[.slice (some ⟨a, 0, none⟩) p.gh.length (p.gh.length + 3), .slice (some ⟨b, 0, none⟩) p.vs.length (p.vs.length + 3), .slice (some ⟨c, 0, none⟩) p.ts.length (p.ts.length + 5), .slice (some ⟨d, 0, none⟩) p.on.length (p.on.length + 5), .int .i64 p.miss, .slice (some ⟨e, 0, none⟩) p.cd.length (p.cd.length + 9)] 27) = W3 at *
    generalize w2.heap.size = mb at *
    obtain ⟨i0, i1, i2, i3, i4, i5⟩ := cells6 H2.out.2.1
    have HC4 : Hid (Calls Tryd.prog 9 #[.agg #[.slice (some ⟨a, 0, none⟩) p.gh.length (p.gh.length + 3), .slice (some ⟨b, 0, none⟩) p.vs.length (p.vs.length + 3), .slice (some ⟨c, 0, none⟩) p.ts.length (p.ts.length + 5), .slice (some ⟨d, 0, none⟩) p.on.length (p.on.length + 5), .int .i64 p.miss, .slice (some ⟨e, 0, none⟩) p.cd.length (p.cd.length + 9)]] W3 fun e w' => ∃ o1 m1, e = .returned (.tuple #[.agg #[.slice o1 (outN p).2.2.1.length m1, .int .i64 (outN p).2.2.2], .agg #[.int .i64 (outN p).1, .int .i64 (outN p).2.1]]) ∧ Below W3.heap.size W3 w' ∧ Rd w' o1 (iC (outN p).2.2.1) ∧ ∀ g f, o1 = some ⟨g, f, none⟩ → W3.heap.size ≤ g) := by
      refine (run_m ⟨some ⟨a, 0, none⟩, p.gh.length + 3, some ⟨b, 0, none⟩, p.vs.length + 3, some ⟨c, 0, none⟩, p.ts.length + 5, some ⟨d, 0, none⟩, p.on.length + 5, some ⟨e, 0, none⟩, p.cd.length + 9⟩ p W3 (H2.out.1.is HL.out.1.1 HL.out.1.2.1 HL.out.1.2.2.1 HL.out.1.2.2.2.1 HL.out.1.2.2.2.2) (HEf.out _ (bel_step HB1.out.1 H2.out.1.bel))).mono ?_
      rintro r w' ⟨o1, m1, h1, h2, h3, h4⟩
      exact ⟨o1, m1, h1, h2, h3, fun g f hg => h4 g f hg⟩
    have HOl : Hid ((outN p).2.2.1.length ≤ 100) := outN_len p HL.out.1.2.2.2.1
    go_wp2_with fail
    refine HC4.out.mono ?_
    rintro r w4 ⟨o1, m1, rfl, hb4, hr4, hg4⟩
    obtain ⟨cm, hcm⟩ : ∃ cm, cm = (outN p).2.2.2 := ⟨_, rfl⟩
    obtain ⟨f0, hf0⟩ : ∃ f0, f0 = (outN p).1 := ⟨_, rfl⟩
    obtain ⟨f1, hf1⟩ : ∃ f1, f1 = (outN p).2.1 := ⟨_, rfl⟩
    rw [← hcm, ← hf0, ← hf1]
    have HEq : Hid (cm = (outN p).2.2.2 ∧ f0 = (outN p).1 ∧ f1 = (outN p).2.1) := ⟨hcm, hf0, hf1⟩
    have ha4 := al2 w4 (.cells #[.slice o1 (outN p).2.2.1.length m1, .int .i64 cm] 32) (.cells #[.int .i64 f0, .int .i64 f1] 35)
    have H4 : Hid (Below W3.heap.size W3 ((w4.alloc (.cells #[.slice o1 (outN p).2.2.1.length m1, .int .i64 cm] 32)).alloc (.cells #[.int .i64 f0, .int .i64 f1] 35)) ∧ ((w4.alloc (.cells #[.slice o1 (outN p).2.2.1.length m1, .int .i64 cm] 32)).alloc (.cells #[.int .i64 f0, .int .i64 f1] 35)).heap[w4.heap.size]? = some (.cells #[.slice o1 (outN p).2.2.1.length m1, .int .i64 cm] 32 (0, 0)) ∧ ((w4.alloc (.cells #[.slice o1 (outN p).2.2.1.length m1, .int .i64 cm] 32)).alloc (.cells #[.int .i64 f0, .int .i64 f1] 35)).heap[w4.heap.size + 1]? = some (.cells #[.int .i64 f0, .int .i64 f1] 35 (0, 0)) ∧ Rd ((w4.alloc (.cells #[.slice o1 (outN p).2.2.1.length m1, .int .i64 cm] 32)).alloc (.cells #[.int .i64 f0, .int .i64 f1] 35)) o1 (iC (outN p).2.2.1) ∧ (∀ g f, o1 = some ⟨g, f, none⟩ → W3.heap.size ≤ g) ∧ W3.heap.size ≤ w4.heap.size) := ⟨bel_step hb4 ha4.1, ha4.2.1, ha4.2.2, hr4.below ha4.1, hg4, hb4.size⟩
    clear hcm hf0 hf1 ha4 hb4 hr4 hg4 HC4 i0 i1 i2 i3 i4 i5
    go_upto_region 5 with fail
    generalize hw5 : (w4.alloc (.cells #[.slice o1 (outN p).2.2.1.length m1, .int .i64 cm] 32)).alloc (.cells #[.int .i64 f0, .int .i64 f1] 35) = W5 at *
    generalize w4.heap.size = cb at *
    clear hw5
    have hx5 : W5.heap[w.heap.size]? = some (.cells #[.slice qo p.gh.length qc, .slice vo p.vs.length vc, .slice tto p.ts.length tc, .slice oo p.on.length oc, .int .i64 p.miss, .slice co p.cd.length cc] 27 (0, 0)) := (H4.out.1.block _ (blk_lt H2.out.2.2)).trans H2.out.2.2
    obtain ⟨i0, i1, i2, i3, i4, i5⟩ := cells6 hx5
    have hb15 : Below w1.heap.size w1 W5 := bel_step H2.out.1.bel H4.out.1
    have HC5 : Hid (Calls Tryd.prog 10 #[.agg #[.slice qo p.gh.length qc, .slice vo p.vs.length vc, .slice tto p.ts.length tc, .slice oo p.on.length oc, .int .i64 p.miss, .slice co p.cd.length cc]] W5 (RrP W5 p)) := rrun_any ⟨qo, qc, vo, vc, tto, tc, oo, oc, co, cc⟩ p W5 (HL.out.2.2.below hb15)
    clear hx5 hb15
    go_wp2_with fail
    refine HC5.out.mono ?_
    rintro r w6 hrr
    obtain ⟨o2, m2, rfl, hr6, hg6⟩ := rrun_n hrr
    rw [← HEq.out.1, ← HEq.out.2.1, ← HEq.out.2.2]
    have ha6 := al2 w6 (.cells #[.slice o2 (outN p).2.2.1.length m2, .int .i64 cm] 32) (.cells #[.int .i64 f0, .int .i64 f1] 35)
    have hb56 := bel_step hrr.bel ha6.1
    have H6 : Hid (Lt w1 ((w6.alloc (.cells #[.slice o2 (outN p).2.2.1.length m2, .int .i64 cm] 32)).alloc (.cells #[.int .i64 f0, .int .i64 f1] 35)) p a b c d e Ta Tb Tc Td ∧ ((w6.alloc (.cells #[.slice o2 (outN p).2.2.1.length m2, .int .i64 cm] 32)).alloc (.cells #[.int .i64 f0, .int .i64 f1] 35)).heap[w.heap.size]? = some (.cells #[.slice qo p.gh.length qc, .slice vo p.vs.length vc, .slice tto p.ts.length tc, .slice oo p.on.length oc, .int .i64 p.miss, .slice co p.cd.length cc] 27 (0, 0)) ∧ ((w6.alloc (.cells #[.slice o2 (outN p).2.2.1.length m2, .int .i64 cm] 32)).alloc (.cells #[.int .i64 f0, .int .i64 f1] 35)).heap[mb]? = some (.cells #[.slice (some ⟨a, 0, none⟩) p.gh.length (p.gh.length + 3), .slice (some ⟨b, 0, none⟩) p.vs.length (p.vs.length + 3), .slice (some ⟨c, 0, none⟩) p.ts.length (p.ts.length + 5), .slice (some ⟨d, 0, none⟩) p.on.length (p.on.length + 5), .int .i64 p.miss, .slice (some ⟨e, 0, none⟩) p.cd.length (p.cd.length + 9)] 27 (0, 0)) ∧ ((w6.alloc (.cells #[.slice o2 (outN p).2.2.1.length m2, .int .i64 cm] 32)).alloc (.cells #[.int .i64 f0, .int .i64 f1] 35)).heap[cb]? = some (.cells #[.slice o1 (outN p).2.2.1.length m1, .int .i64 cm] 32 (0, 0)) ∧ ((w6.alloc (.cells #[.slice o2 (outN p).2.2.1.length m2, .int .i64 cm] 32)).alloc (.cells #[.int .i64 f0, .int .i64 f1] 35)).heap[cb + 1]? = some (.cells #[.int .i64 f0, .int .i64 f1] 35 (0, 0)) ∧ ((w6.alloc (.cells #[.slice o2 (outN p).2.2.1.length m2, .int .i64 cm] 32)).alloc (.cells #[.int .i64 f0, .int .i64 f1] 35)).heap[w6.heap.size]? = some (.cells #[.slice o2 (outN p).2.2.1.length m2, .int .i64 cm] 32 (0, 0)) ∧ ((w6.alloc (.cells #[.slice o2 (outN p).2.2.1.length m2, .int .i64 cm] 32)).alloc (.cells #[.int .i64 f0, .int .i64 f1] 35)).heap[w6.heap.size + 1]? = some (.cells #[.int .i64 f0, .int .i64 f1] 35 (0, 0)) ∧ Rd ((w6.alloc (.cells #[.slice o2 (outN p).2.2.1.length m2, .int .i64 cm] 32)).alloc (.cells #[.int .i64 f0, .int .i64 f1] 35)) o1 (iC (outN p).2.2.1) ∧ Rd ((w6.alloc (.cells #[.slice o2 (outN p).2.2.1.length m2, .int .i64 cm] 32)).alloc (.cells #[.int .i64 f0, .int .i64 f1] 35)) o2 (iC (outN p).2.2.1) ∧ (∀ g f, o2 = some ⟨g, f, none⟩ → W3.heap.size ≤ g) ∧ W3.heap.size ≤ cb ∧ W3.heap.size ≤ w6.heap.size) := by
      have h35 := H4.out.1
      have h3n := bel_step h35 hb56
      exact ⟨(H2.out.1.below h35).below hb56, (h3n.block _ (blk_lt H2.out.2.2)).trans H2.out.2.2, (h3n.block _ (blk_lt H2.out.2.1)).trans H2.out.2.1, (hb56.block _ (blk_lt H4.out.2.1)).trans H4.out.2.1, (hb56.block _ (blk_lt H4.out.2.2.1)).trans H4.out.2.2.1, ha6.2.1, ha6.2.2, H4.out.2.2.2.1.below hb56, hr6.below ha6.1, fun g f h9 => Nat.le_trans h35.size (hg6 g f h9), H4.out.2.2.2.2.2, Nat.le_trans h35.size hrr.bel.size⟩
    have HG1 : Hid (∀ g f, o1 = some ⟨g, f, none⟩ → W3.heap.size ≤ g) := H4.out.2.2.2.2.1
    clear hrr hr6 hg6 ha6 hb56 HC5 H4 i0 i1 i2 i3 i4 i5
    go_upto_region 6 with fail
    generalize hw7 : (w6.alloc (.cells #[.slice o2 (outN p).2.2.1.length m2, .int .i64 cm] 32)).alloc (.cells #[.int .i64 f0, .int .i64 f1] 35) = W7 at *
    generalize w6.heap.size = db at *
    clear hw7
    have HLo : Hid (a < W3.heap.size ∧ b < W3.heap.size ∧ c < W3.heap.size ∧ d < W3.heap.size ∧ e < W3.heap.size) := ⟨H2.out.1.ba.lt, H2.out.1.bb.lt, H2.out.1.bc.lt, H2.out.1.bd.lt, H2.out.1.be.lt⟩
    have HC6 : Hid (Calls Tryd.prog 11 #[.agg #[.slice (some ⟨a, 0, none⟩) p.gh.length (p.gh.length + 3), .slice (some ⟨b, 0, none⟩) p.vs.length (p.vs.length + 3), .slice (some ⟨c, 0, none⟩) p.ts.length (p.ts.length + 5), .slice (some ⟨d, 0, none⟩) p.on.length (p.on.length + 5), .int .i64 p.miss, .slice (some ⟨e, 0, none⟩) p.cd.length (p.cd.length + 9)], .agg #[.slice qo p.gh.length qc, .slice vo p.vs.length vc, .slice tto p.ts.length tc, .slice oo p.on.length oc, .int .i64 p.miss, .slice co p.cd.length cc]] W7 fun r w' => r = .returned (.bool true) ∧ FS [a, b, c, d, e] W7 w') := keptP_any ⟨qo, qc, vo, vc, tto, tc, oo, oc, co, cc⟩ p HL.out.2.2 H6.out.1 HL.out.1.1 HL.out.1.2.1 HL.out.1.2.2.1 HL.out.1.2.2.2.1 HL.out.1.2.2.2.2
    obtain ⟨i0, i1, i2, i3, i4, i5⟩ := cells6 H6.out.2.1
    obtain ⟨j0, j1, j2, j3, j4, j5⟩ := cells6 H6.out.2.2.1
    go_wp2_with fail
    refine HC6.out.mono ?_
    rintro r w8 ⟨rfl, hf8⟩
    have hbw8 : Below w1.heap.size w1 w8 := hf8.bel H6.out.1.bel (fun k hk => by
      have hge := H6.out.1.ge
      simp only [List.mem_cons, List.not_mem_nil, or_false] at hk
      omega)
    have hnot : ∀ k, W3.heap.size ≤ k → k ∉ [a, b, c, d, e] := fun k hk hm => by
      have hl := HLo.out
      simp only [List.mem_cons, List.not_mem_nil, or_false] at hm
      omega
    have H8 : Hid (Below w.heap.size w w8 ∧ w8.heap[cb]? = some (.cells #[.slice o1 (outN p).2.2.1.length m1, .int .i64 cm] 32 (0, 0)) ∧ w8.heap[cb + 1]? = some (.cells #[.int .i64 f0, .int .i64 f1] 35 (0, 0)) ∧ w8.heap[db]? = some (.cells #[.slice o2 (outN p).2.2.1.length m2, .int .i64 cm] 32 (0, 0)) ∧ w8.heap[db + 1]? = some (.cells #[.int .i64 f0, .int .i64 f1] 35 (0, 0)) ∧ Rd w8 o1 (iC (outN p).2.2.1) ∧ Rd w8 o2 (iC (outN p).2.2.1)) := by
      obtain ⟨-, -, -, h4, h5, h6, h7, h8, h9, h10, h11, h12⟩ := H6.out
      exact ⟨bel_step HB1.out.1 hbw8, (hf8.block _ (blk_lt h4) (hnot _ h11)).trans h4, (hf8.block _ (blk_lt h5) (hnot _ (by omega))).trans h5, (hf8.block _ (blk_lt h6) (hnot _ h12)).trans h6, (hf8.block _ (blk_lt h7) (hnot _ (by omega))).trans h7, h8.fs hf8 (fun g f h => hnot g (HG1.out g f h)), h9.fs hf8 (fun g f h => hnot g (h10 g f h))⟩
    clear hf8 hbw8 hnot HC6 i0 i1 i2 i3 i4 i5 j0 j1 j2 j3 j4 j5
    obtain ⟨x0, x1⟩ := cells2 H8.out.2.1
    obtain ⟨y0, y1⟩ := cells2 H8.out.2.2.1
    obtain ⟨z0, z1⟩ := cells2 H8.out.2.2.2.1
    obtain ⟨u0, u1⟩ := cells2 H8.out.2.2.2.2.1
    have HC7 : Hid (Calls Tryd.prog 12 #[.agg #[.slice o1 (outN p).2.2.1.length m1, .int .i64 cm], .agg #[.slice o2 (outN p).2.2.1.length m2, .int .i64 cm]] w8 fun e w' => e = .returned (.bool true) ∧ Below w8.heap.size w8 w') := sameC_eq (outN p).2.2.1 o1 o2 m1 m2 cm w8 H8.out.2.2.2.2.2.1 H8.out.2.2.2.2.2.2 (by have := HOl.out; omega)
    generalize (outN p).2.2.1.length = ol at *
    go_wp2_with fail
    refine HC7.out.mono ?_
    rintro r w9 ⟨rfl, hb9⟩
    have HB9 : Hid (Below w.heap.size w w9) := bel_step H8.out.1 hb9
    clear hb9 HC7 x0 x1 y0 y1 z0 z1 u0 u1
    go_wp2_with fail
    refine (HHd.out _ HB9.out).mono ?_
    rintro r w10 ⟨rfl, hb10⟩
    have HB10 : Hid (Below w.heap.size w w10) := bel_step HB9.out hb10
    clear hb10
    go_wp2_with fail
    go_ret
    exact ⟨rfl, HB10.out⟩
end Go.Proofs.YtpifilpbagajkaaDoor.Vf

namespace Go.Proofs.YtpifilpbagajkaaDoor.Vf
open Go.RowKit Go.Proofs.YtpifilpbagajkaaDoor.Nm
/-- what Heights tells, as numbers -/
def hgN (p : Pg) : Int × Int × List Int := match judge p with | .error (e, n) => ((e : Int), n, []) | .ok g => (0, 0, (List.range p.cd.length).map (hgt g))
theorem fuC_iC (n : Nat) (f : Nat → Int) : fuC n f = iC ((List.range n).map f) := by unfold fuC iC; simp
theorem heights_m (v : PV) (p : Pg) (w : World) (hP : IsPg w v p) (hE : Ef w) : Calls Tryd.prog 13 #[.agg (pvC v p)] w fun e w' => ∃ o1 m1, e = .returned (.tuple #[.slice o1 (hgN p).2.2.length m1, .agg #[.int .i64 (hgN p).1, .int .i64 (hgN p).2.1]]) ∧ Below w.heap.size w w' ∧ Rd w' o1 (iC (hgN p).2.2) ∧ ∀ g f, o1 = some ⟨g, f, none⟩ → w.heap.size ≤ g := by
  refine (heights_any v p w hP hE).mono ?_
  rintro r w' h
  unfold hgN
  cases hj : judge p with
  | error x =>
    obtain ⟨e, n⟩ := x
    obtain ⟨b, hr, hge⟩ := h.err e n hj
    exact ⟨_, 0, hr, h.bel, rd_nil _ _, fun g f hb => by cases hb; exact hge⟩
  | ok g =>
    obtain ⟨b, hb, hge, hr⟩ := h.ok g hj
    rw [fuC_iC] at hr
    refine ⟨some ⟨b, 0, none⟩, p.cd.length, ?_, h.bel, rd_blk hr, fun g f hb' => by cases hb'; exact hge⟩
    rw [hb]
    simp
theorem rheights_n {w w' : World} {p : Pg} {r : Ending} (h : RhP w p r w') : ∃ o2 m2, r = .returned (.tuple #[.slice o2 (hgN p).2.2.length m2, .agg #[.int .i64 (hgN p).1, .int .i64 (hgN p).2.1]]) ∧ Rd w' o2 (iC (hgN p).2.2) ∧ ∀ g f, o2 = some ⟨g, f, none⟩ → w.heap.size ≤ g := by
  unfold hgN
  cases hj : judge p with
  | error x =>
    obtain ⟨e, n⟩ := x
    exact ⟨none, 0, h.err e n hj, rd_nil _ _, fun g f hb => by cases hb⟩
  | ok g =>
    obtain ⟨o, c, h1, h2, h3⟩ := h.ok g hj
    refine ⟨o, c, ?_, h2, h3⟩
    rw [h1]
    simp
theorem hgN_len (p : Pg) (h : p.cd.length ≤ 524288) : (hgN p).2.2.length ≤ 524288 := by
  unfold hgN
  cases judge p with
  | error x => exact Nat.zero_le _
  | ok g => show ((List.range p.cd.length).map (hgt g)).length ≤ 524288; simpa using h
set_option maxHeartbeats 12800000 in
set_option maxRecDepth 100000 in
/-- VerifyHeights -/
theorem heightsWalk (w : World) (v : PV) (p : Pg) (hp : RdPg w v p) (hE : Ef w) :
    Calls Tryd.prog 4 #[.agg (pvC v p)] w fun e w' => e = .returned (.bool true) ∧ Below w.heap.size w w' := by
  have HEf : Hid (∀ W, Below w.heap.size w W → Ef W) := fun W hb => hE.below hb
  have HHd : Hid (∀ W, Below w.heap.size w W → Calls Tryd.prog 7 #[] W fun e w' => e = .returned (.bool true) ∧ Below W.heap.size W w') := fun W hb => head_any W (hE.below hb)
  have HFar : Hid (∀ W, Calls Tryd.prog 6 #[.agg (pvC v p)] W fun e w' => e = .returned (.bool (farB p)) ∧ Below W.heap.size W w') := fun W => far_any v p W
  have HLn : Hid (farB p = false → (p.gh.length ≤ 100 ∧ p.vs.length ≤ 100 ∧ p.ts.length ≤ 100 ∧ p.on.length ≤ 100 ∧ p.cd.length ≤ 524288) ∧ IsPg w v p) := fun hf => by
    obtain ⟨l1, l2, l3, l4, l5⟩ := farB_not hf
    exact ⟨⟨l1, l2, l3, l4, l5⟩, hp.is l1 l2 l3 l4 l5⟩
  clear hE hp
  obtain ⟨qo, qc, vo, vc, tto, tc, oo, oc, co, cc⟩ := v
  show Calls _ _ #[.agg #[.slice qo p.gh.length qc, .slice vo p.vs.length vc, .slice tto p.ts.length tc, .slice oo p.on.length oc, .int .i64 p.miss, .slice co p.cd.length cc]] _ _
  have hb0 : Below w.heap.size w (w.alloc (.cells #[.slice qo p.gh.length qc, .slice vo p.vs.length vc, .slice tto p.ts.length tc, .slice oo p.on.length oc, .int .i64 p.miss, .slice co p.cd.length cc] 27)) := (Below.refl _ w).alloc (Nat.le_refl _) _
  have HB0 : Hid (Below w.heap.size w (w.alloc (.cells #[.slice qo p.gh.length qc, .slice vo p.vs.length vc, .slice tto p.ts.length tc, .slice oo p.on.length oc, .int .i64 p.miss, .slice co p.cd.length cc] 27)) ∧ (w.alloc (.cells #[.slice qo p.gh.length qc, .slice vo p.vs.length vc, .slice tto p.ts.length tc, .slice oo p.on.length oc, .int .i64 p.miss, .slice co p.cd.length cc] 27)).heap[w.heap.size]? = some (.cells #[.slice qo p.gh.length qc, .slice vo p.vs.length vc, .slice tto p.ts.length tc, .slice oo p.on.length oc, .int .i64 p.miss, .slice co p.cd.length cc] 27 (0, 0))) := ⟨hb0, heap_alloc_new _ _⟩
  clear hb0
  go_enter Tryd.func4, Tryd.ntmps4
  go_upto_region 1 with fail
  generalize w.alloc (.cells #[.slice qo p.gh.length qc, .slice vo p.vs.length vc, .slice tto p.ts.length tc, .slice oo p.on.length oc, .int .i64 p.miss, .slice co p.cd.length cc] 27) = W0 at *
  obtain ⟨i0, i1, i2, i3, i4, i5⟩ := cells6 HB0.out.2
  go_wp2_with fail
  refine (HFar.out _).mono ?_
  rintro r w1 ⟨rfl, hb1⟩
  have HB1 : Hid (Below w.heap.size w w1 ∧ w1.heap[w.heap.size]? = some (.cells #[.slice qo p.gh.length qc, .slice vo p.vs.length vc, .slice tto p.ts.length tc, .slice oo p.on.length oc, .int .i64 p.miss, .slice co p.cd.length cc] 27 (0, 0))) := ⟨bel_step HB0.out.1 hb1, (hb1.block _ (blk_lt HB0.out.2)).trans HB0.out.2⟩
  clear hb1 HB0 HFar i0 i1 i2 i3 i4 i5
  cases hfar : farB p with
  | true =>
    clear hfar
    go_wp2_with fail
    refine (HHd.out _ HB1.out.1).mono ?_
    rintro e w9 ⟨rfl, hb9⟩
    have HB9 : Hid (Below w.heap.size w w9) := bel_step HB1.out.1 hb9
    clear hb9
    go_wp2_with fail
    go_ret
    exact ⟨rfl, HB9.out⟩
  | false =>
    obtain ⟨⟨l1, l2, l3, l4, l5⟩, hP⟩ := HLn.out hfar
    have HL : Hid ((p.gh.length ≤ 100 ∧ p.vs.length ≤ 100 ∧ p.ts.length ≤ 100 ∧ p.on.length ≤ 100 ∧ p.cd.length ≤ 524288) ∧ IsPg w ⟨qo, qc, vo, vc, tto, tc, oo, oc, co, cc⟩ p ∧ IsPg w1 ⟨qo, qc, vo, vc, tto, tc, oo, oc, co, cc⟩ p) := ⟨⟨l1, l2, l3, l4, l5⟩, hP, hP.below HB1.out.1⟩
    have HCl : Hid (Calls Tryd.prog 8 #[.agg #[.slice qo p.gh.length qc, .slice vo p.vs.length vc, .slice tto p.ts.length tc, .slice oo p.on.length oc, .int .i64 p.miss, .slice co p.cd.length cc]] w1 (LdP w1 p)) := lendP_any ⟨qo, qc, vo, vc, tto, tc, oo, oc, co, cc⟩ p w1 (hP.below HB1.out.1) l1 l2 l3 l4 l5
    clear hfar l1 l2 l3 l4 l5 hP HLn
    obtain ⟨i0, i1, i2, i3, i4, i5⟩ := cells6 HB1.out.2
    go_wp2_with fail
    refine HCl.out.mono ?_
    rintro r w2 hld
    obtain ⟨a, b, c, d, e, Ta, Tb, Tc, Td, rfl, hlt⟩ := lt_of hld
    have hbA : Below w2.heap.size w2 (w2.alloc (.cells #[.slice (some ⟨a, 0, none⟩) p.gh.length (p.gh.length + 3), .slice (some ⟨b, 0, none⟩) p.vs.length (p.vs.length + 3), .slice (some ⟨c, 0, none⟩) p.ts.length (p.ts.length + 5), .slice (some ⟨d, 0, none⟩) p.on.length (p.on.length + 5), .int .i64 p.miss, .slice (some ⟨e, 0, none⟩) p.cd.length (p.cd.length + 9)] 27)) := (Below.refl _ w2).alloc (Nat.le_refl _) _
    have H2 : Hid (Lt w1 (w2.alloc (.cells #[.slice (some ⟨a, 0, none⟩) p.gh.length (p.gh.length + 3), .slice (some ⟨b, 0, none⟩) p.vs.length (p.vs.length + 3), .slice (some ⟨c, 0, none⟩) p.ts.length (p.ts.length + 5), .slice (some ⟨d, 0, none⟩) p.on.length (p.on.length + 5), .int .i64 p.miss, .slice (some ⟨e, 0, none⟩) p.cd.length (p.cd.length + 9)] 27)) p a b c d e Ta Tb Tc Td ∧ (w2.alloc (.cells #[.slice (some ⟨a, 0, none⟩) p.gh.length (p.gh.length + 3), .slice (some ⟨b, 0, none⟩) p.vs.length (p.vs.length + 3), .slice (some ⟨c, 0, none⟩) p.ts.length (p.ts.length + 5), .slice (some ⟨d, 0, none⟩) p.on.length (p.on.length + 5), .int .i64 p.miss, .slice (some ⟨e, 0, none⟩) p.cd.length (p.cd.length + 9)] 27)).heap[w2.heap.size]? = some (.cells #[.slice (some ⟨a, 0, none⟩) p.gh.length (p.gh.length + 3), .slice (some ⟨b, 0, none⟩) p.vs.length (p.vs.length + 3), .slice (some ⟨c, 0, none⟩) p.ts.length (p.ts.length + 5), .slice (some ⟨d, 0, none⟩) p.on.length (p.on.length + 5), .int .i64 p.miss, .slice (some ⟨e, 0, none⟩) p.cd.length (p.cd.length + 9)] 27 (0, 0)) ∧ (w2.alloc (.cells #[.slice (some ⟨a, 0, none⟩) p.gh.length (p.gh.length + 3), .slice (some ⟨b, 0, none⟩) p.vs.length (p.vs.length + 3), .slice (some ⟨c, 0, none⟩) p.ts.length (p.ts.length + 5), .slice (some ⟨d, 0, none⟩) p.on.length (p.on.length + 5), .int .i64 p.miss, .slice (some ⟨e, 0, none⟩) p.cd.length (p.cd.length + 9)] 27)).heap[w.heap.size]? = some (.cells #[.slice qo p.gh.length qc, .slice vo p.vs.length vc, .slice tto p.ts.length tc, .slice oo p.on.length oc, .int .i64 p.miss, .slice co p.cd.length cc] 27 (0, 0))) := ⟨hlt.below hbA, heap_alloc_new _ _, ((hlt.below hbA).bel.block _ (blk_lt HB1.out.2)).trans HB1.out.2⟩
    clear hld hlt hbA HCl i0 i1 i2 i3 i4 i5
    go_upto_region 4 with fail
    generalize w2.alloc (.cells #[.slice (some ⟨a, 0, none⟩) p.gh.length (p.gh.length + 3), .slice (some ⟨b, 0, none⟩) p.vs.length (p.vs.length + 3), .slice (some ⟨c, 0, none⟩) p.ts.length (p.ts.length + 5), .slice (some ⟨d, 0, none⟩) p.on.length (p.on.length + 5), .int .i64 p.miss, .slice (some ⟨e, 0, none⟩) p.cd.length (p.cd.length + 9)] 27) = W3 at *
    generalize w2.heap.size = mb at *
    obtain ⟨i0, i1, i2, i3, i4, i5⟩ := cells6 H2.out.2.1
    have HC4 : Hid (Calls Tryd.prog 13 #[.agg #[.slice (some ⟨a, 0, none⟩) p.gh.length (p.gh.length + 3), .slice (some ⟨b, 0, none⟩) p.vs.length (p.vs.length + 3), .slice (some ⟨c, 0, none⟩) p.ts.length (p.ts.length + 5), .slice (some ⟨d, 0, none⟩) p.on.length (p.on.length + 5), .int .i64 p.miss, .slice (some ⟨e, 0, none⟩) p.cd.length (p.cd.length + 9)]] W3 fun e w' => ∃ o1 m1, e = .returned (.tuple #[.slice o1 (hgN p).2.2.length m1, .agg #[.int .i64 (hgN p).1, .int .i64 (hgN p).2.1]]) ∧ Below W3.heap.size W3 w' ∧ Rd w' o1 (iC (hgN p).2.2) ∧ ∀ g f, o1 = some ⟨g, f, none⟩ → W3.heap.size ≤ g) := heights_m ⟨some ⟨a, 0, none⟩, p.gh.length + 3, some ⟨b, 0, none⟩, p.vs.length + 3, some ⟨c, 0, none⟩, p.ts.length + 5, some ⟨d, 0, none⟩, p.on.length + 5, some ⟨e, 0, none⟩, p.cd.length + 9⟩ p W3 (H2.out.1.is HL.out.1.1 HL.out.1.2.1 HL.out.1.2.2.1 HL.out.1.2.2.2.1 HL.out.1.2.2.2.2) (HEf.out _ (bel_step HB1.out.1 H2.out.1.bel))
    have HOl : Hid ((hgN p).2.2.length ≤ 524288) := hgN_len p HL.out.1.2.2.2.2
    go_wp2_with fail
    refine HC4.out.mono ?_
    rintro r w4 ⟨o1, m1, rfl, hb4, hr4, hg4⟩
    obtain ⟨f0, hf0⟩ : ∃ f0, f0 = (hgN p).1 := ⟨_, rfl⟩
    obtain ⟨f1, hf1⟩ : ∃ f1, f1 = (hgN p).2.1 := ⟨_, rfl⟩
    rw [← hf0, ← hf1]
    have HEq : Hid (f0 = (hgN p).1 ∧ f1 = (hgN p).2.1) := ⟨hf0, hf1⟩
    have ha4 : Below w4.heap.size w4 (w4.alloc (.cells #[.int .i64 f0, .int .i64 f1] 35)) := (Below.refl _ w4).alloc (Nat.le_refl _) _
    have H4 : Hid (Below W3.heap.size W3 (w4.alloc (.cells #[.int .i64 f0, .int .i64 f1] 35)) ∧ (w4.alloc (.cells #[.int .i64 f0, .int .i64 f1] 35)).heap[w4.heap.size]? = some (.cells #[.int .i64 f0, .int .i64 f1] 35 (0, 0)) ∧ Rd (w4.alloc (.cells #[.int .i64 f0, .int .i64 f1] 35)) o1 (iC (hgN p).2.2) ∧ (∀ g f, o1 = some ⟨g, f, none⟩ → W3.heap.size ≤ g) ∧ W3.heap.size ≤ w4.heap.size) := ⟨bel_step hb4 ha4, heap_alloc_new _ _, hr4.below ha4, hg4, hb4.size⟩
    clear hf0 hf1 ha4 hb4 hr4 hg4 HC4 i0 i1 i2 i3 i4 i5
    go_upto_region 5 with fail
    generalize hw5 : w4.alloc (.cells #[.int .i64 f0, .int .i64 f1] 35) = W5 at *
    generalize w4.heap.size = cb at *
    clear hw5
    have hx5 : W5.heap[w.heap.size]? = some (.cells #[.slice qo p.gh.length qc, .slice vo p.vs.length vc, .slice tto p.ts.length tc, .slice oo p.on.length oc, .int .i64 p.miss, .slice co p.cd.length cc] 27 (0, 0)) := (H4.out.1.block _ (blk_lt H2.out.2.2)).trans H2.out.2.2
    obtain ⟨i0, i1, i2, i3, i4, i5⟩ := cells6 hx5
    have hb15 : Below w1.heap.size w1 W5 := bel_step H2.out.1.bel H4.out.1
    have HC5 : Hid (Calls Tryd.prog 14 #[.agg #[.slice qo p.gh.length qc, .slice vo p.vs.length vc, .slice tto p.ts.length tc, .slice oo p.on.length oc, .int .i64 p.miss, .slice co p.cd.length cc]] W5 (RhP W5 p)) := rheights_any ⟨qo, qc, vo, vc, tto, tc, oo, oc, co, cc⟩ p W5 (HL.out.2.2.below hb15)
    clear hx5 hb15
    go_wp2_with fail
    refine HC5.out.mono ?_
    rintro r w6 hrr
    obtain ⟨o2, m2, rfl, hr6, hg6⟩ := rheights_n hrr
    rw [← HEq.out.1, ← HEq.out.2]
    have ha6 : Below w6.heap.size w6 (w6.alloc (.cells #[.int .i64 f0, .int .i64 f1] 35)) := (Below.refl _ w6).alloc (Nat.le_refl _) _
    have hb56 := bel_step hrr.bel ha6
    have H6 : Hid (Lt w1 (w6.alloc (.cells #[.int .i64 f0, .int .i64 f1] 35)) p a b c d e Ta Tb Tc Td ∧ (w6.alloc (.cells #[.int .i64 f0, .int .i64 f1] 35)).heap[w.heap.size]? = some (.cells #[.slice qo p.gh.length qc, .slice vo p.vs.length vc, .slice tto p.ts.length tc, .slice oo p.on.length oc, .int .i64 p.miss, .slice co p.cd.length cc] 27 (0, 0)) ∧ (w6.alloc (.cells #[.int .i64 f0, .int .i64 f1] 35)).heap[mb]? = some (.cells #[.slice (some ⟨a, 0, none⟩) p.gh.length (p.gh.length + 3), .slice (some ⟨b, 0, none⟩) p.vs.length (p.vs.length + 3), .slice (some ⟨c, 0, none⟩) p.ts.length (p.ts.length + 5), .slice (some ⟨d, 0, none⟩) p.on.length (p.on.length + 5), .int .i64 p.miss, .slice (some ⟨e, 0, none⟩) p.cd.length (p.cd.length + 9)] 27 (0, 0)) ∧ (w6.alloc (.cells #[.int .i64 f0, .int .i64 f1] 35)).heap[cb]? = some (.cells #[.int .i64 f0, .int .i64 f1] 35 (0, 0)) ∧ (w6.alloc (.cells #[.int .i64 f0, .int .i64 f1] 35)).heap[w6.heap.size]? = some (.cells #[.int .i64 f0, .int .i64 f1] 35 (0, 0)) ∧ Rd (w6.alloc (.cells #[.int .i64 f0, .int .i64 f1] 35)) o1 (iC (hgN p).2.2) ∧ Rd (w6.alloc (.cells #[.int .i64 f0, .int .i64 f1] 35)) o2 (iC (hgN p).2.2) ∧ (∀ g f, o2 = some ⟨g, f, none⟩ → W3.heap.size ≤ g) ∧ W3.heap.size ≤ cb ∧ W3.heap.size ≤ w6.heap.size) := by
      have h35 := H4.out.1
      have h3n := bel_step h35 hb56
      exact ⟨(H2.out.1.below h35).below hb56, (h3n.block _ (blk_lt H2.out.2.2)).trans H2.out.2.2, (h3n.block _ (blk_lt H2.out.2.1)).trans H2.out.2.1, (hb56.block _ (blk_lt H4.out.2.1)).trans H4.out.2.1, heap_alloc_new _ _, H4.out.2.2.1.below hb56, hr6.below ha6, fun g f h9 => Nat.le_trans h35.size (hg6 g f h9), H4.out.2.2.2.2, Nat.le_trans h35.size hrr.bel.size⟩
    have HG1 : Hid (∀ g f, o1 = some ⟨g, f, none⟩ → W3.heap.size ≤ g) := H4.out.2.2.2.1
    clear hrr hr6 hg6 ha6 hb56 HC5 H4 i0 i1 i2 i3 i4 i5
    go_upto_region 6 with fail
    generalize hw7 : w6.alloc (.cells #[.int .i64 f0, .int .i64 f1] 35) = W7 at *
    generalize w6.heap.size = db at *
    clear hw7
    have HLo : Hid (a < W3.heap.size ∧ b < W3.heap.size ∧ c < W3.heap.size ∧ d < W3.heap.size ∧ e < W3.heap.size) := ⟨H2.out.1.ba.lt, H2.out.1.bb.lt, H2.out.1.bc.lt, H2.out.1.bd.lt, H2.out.1.be.lt⟩
    have HC6 : Hid (Calls Tryd.prog 11 #[.agg #[.slice (some ⟨a, 0, none⟩) p.gh.length (p.gh.length + 3), .slice (some ⟨b, 0, none⟩) p.vs.length (p.vs.length + 3), .slice (some ⟨c, 0, none⟩) p.ts.length (p.ts.length + 5), .slice (some ⟨d, 0, none⟩) p.on.length (p.on.length + 5), .int .i64 p.miss, .slice (some ⟨e, 0, none⟩) p.cd.length (p.cd.length + 9)], .agg #[.slice qo p.gh.length qc, .slice vo p.vs.length vc, .slice tto p.ts.length tc, .slice oo p.on.length oc, .int .i64 p.miss, .slice co p.cd.length cc]] W7 fun r w' => r = .returned (.bool true) ∧ FS [a, b, c, d, e] W7 w') := keptP_any ⟨qo, qc, vo, vc, tto, tc, oo, oc, co, cc⟩ p HL.out.2.2 H6.out.1 HL.out.1.1 HL.out.1.2.1 HL.out.1.2.2.1 HL.out.1.2.2.2.1 HL.out.1.2.2.2.2
    obtain ⟨i0, i1, i2, i3, i4, i5⟩ := cells6 H6.out.2.1
    obtain ⟨j0, j1, j2, j3, j4, j5⟩ := cells6 H6.out.2.2.1
    go_wp2_with fail
    refine HC6.out.mono ?_
    rintro r w8 ⟨rfl, hf8⟩
    have hbw8 : Below w1.heap.size w1 w8 := hf8.bel H6.out.1.bel (fun k hk => by
      have hge := H6.out.1.ge
      simp only [List.mem_cons, List.not_mem_nil, or_false] at hk
      omega)
    have hnot : ∀ k, W3.heap.size ≤ k → k ∉ [a, b, c, d, e] := fun k hk hm => by
      have hl := HLo.out
      simp only [List.mem_cons, List.not_mem_nil, or_false] at hm
      omega
    have H8 : Hid (Below w.heap.size w w8 ∧ w8.heap[cb]? = some (.cells #[.int .i64 f0, .int .i64 f1] 35 (0, 0)) ∧ w8.heap[db]? = some (.cells #[.int .i64 f0, .int .i64 f1] 35 (0, 0)) ∧ Rd w8 o1 (iC (hgN p).2.2) ∧ Rd w8 o2 (iC (hgN p).2.2)) := by
      obtain ⟨-, -, -, h5, h7, h8, h9, h10, h11, h12⟩ := H6.out
      exact ⟨bel_step HB1.out.1 hbw8, (hf8.block _ (blk_lt h5) (hnot _ h11)).trans h5, (hf8.block _ (blk_lt h7) (hnot _ h12)).trans h7, h8.fs hf8 (fun g f h => hnot g (HG1.out g f h)), h9.fs hf8 (fun g f h => hnot g (h10 g f h))⟩
    clear hf8 hbw8 hnot HC6 i0 i1 i2 i3 i4 i5 j0 j1 j2 j3 j4 j5
    obtain ⟨y0, y1⟩ := cells2 H8.out.2.1
    obtain ⟨u0, u1⟩ := cells2 H8.out.2.2.1
    have HC7 : Hid (Calls Tryd.prog 15 #[.slice o1 (hgN p).2.2.length m1, .slice o2 (hgN p).2.2.length m2] w8 fun e w' => e = .returned (.bool true) ∧ Below w8.heap.size w8 w') := sameI_eq (hgN p).2.2 o1 o2 m1 m2 w8 H8.out.2.2.2.1 H8.out.2.2.2.2 (by have := HOl.out; omega)
    generalize (hgN p).2.2.length = ol at *
    go_wp2_with fail
    refine HC7.out.mono ?_
    rintro r w9 ⟨rfl, hb9⟩
    have HB9 : Hid (Below w.heap.size w w9) := bel_step H8.out.1 hb9
    clear hb9 HC7 y0 y1 u0 u1
    go_wp2_with fail
    refine (HHd.out _ HB9.out).mono ?_
    rintro r w10 ⟨rfl, hb10⟩
    have HB10 : Hid (Below w.heap.size w w10) := bel_step HB9.out hb10
    clear hb10
    go_wp2_with fail
    go_ret
    exact ⟨rfl, HB10.out⟩
end Go.Proofs.YtpifilpbagajkaaDoor.Vf

namespace Go.Proofs.YtpifilpbagajkaaDoor.verifyHeights
open Go.ChangeShapes Go.WideShapes Go.ChangeAt Go.RowKit
open Go.Proofs.YtpifilpbagajkaaDoor.Nm Go.Proofs.YtpifilpbagajkaaDoor.Vf

theorem own : ownKnob Tryd.prog.godebug = none := by kernel_rfl
theorem laidOut : laidOutB Tryd.prog = true := by kernel_rfl

set_option maxRecDepth 100000 in
theorem contract (H : Type) (enc : TypeId × Value → H) (W : World) (base : Nat) (args : Array Value) (ds gs : List (DataW H)) (before : List MemPlace)
    (hval : ∀ (j : Nat) t v, Tryd.f4.params[j]? = some t → args[j]? = some v → Value.okWide Tryd.prog W .any base t v)
    (hW : DataW.Whole enc Tryd.prog Tryd.f4.params.toList Rows.verifyHeightsSpec.vars false W args.toList ds gs before) (hL : laidMetH Tryd.prog Rows.verifyHeightsRow.laid W) :
    Calls Tryd.prog 4 args W fun e W' => ∃ v, e = .returned v ∧ Rows.verifyHeightsSpec.post enc Tryd.prog Tryd.f4 false true false false W args v W' := by
  have hW' := hW
  obtain ⟨p, q, hA0, hV, rfl, hfz, hnd⟩ := hW
  have hA : DataW.TrodAll enc Tryd.prog W 0 (fun _ => true) true Tryd.f4.params.toList args.toList ds p := hA0
  rw [Tryd.params4] at hA hval
  obtain ⟨v0, vs0, d0, ds0, p0, q0, hargs, rfl, rfl, h0, r0⟩ := trodAll_cons hA
  obtain ⟨rfl, rfl, rfl⟩ := trodAll_nil r0
  obtain rfl : args = #[v0] := by cases args; simp_all
  obtain ⟨rfl, rfl⟩ := trodVars_none hV
  have lt0 : ∀ x ∈ p0, x.block < W.heap.size := by obtain ⟨m, hm⟩ := h0; exact DataW.trod_lt m _ _ _ hm
  obtain ⟨pv0, pg0, rfl, hr0⟩ := open_prog (hval 0 27 v0 rfl rfl) h0
  refine (heightsWalk W pv0 pg0 hr0 (ef_of hL)).mono fun e W2 ⟨he, bel⟩ => ?_
  subst he
  exact ⟨_, rfl, _, _, _, [], _, [], hW', trodAll_mk1 (shut_bool Tryd.underlying4 _), (trodAll_cons_mk (Below.trod laidOut (by kernel_rfl) (of_decide_eq_true (by kernel_rfl)) h0 bel lt0) trodAll_mk0), rfl, bel.frame _, fun h => by cases h⟩

/-- A world for the witness: the settled one, the table holding what its initialiser lays. -/
theorem start (os : Os) : ∃ w0 : World, w0.os = os ∧ (w0.forCall (fun _ _ => 0) ⟨#[], #[.agg #[.slice none 0 0, .slice none 0 0, .slice none 0 0, .slice none 0 0, .int .i64 0, .slice none 0 0]], []⟩).variablesB Tryd.prog = true ∧
    ((w0.forCall (fun _ _ => 0) ⟨#[], #[.agg #[.slice none 0 0, .slice none 0 0, .slice none 0 0, .slice none 0 0, .int .i64 0, .slice none 0 0]], []⟩).heap.toList.drop Tryd.prog.globals.size).take ((begin Tryd.prog (fun _ _ => 0) default).world.heap.size - Tryd.prog.globals.size) = (begin Tryd.prog (fun _ _ => 0) default).world.heap.toList.drop Tryd.prog.globals.size ∧
    Input.okWideB Tryd.prog (w0.forCall (fun _ _ => 0) ⟨#[], #[.agg #[.slice none 0 0, .slice none 0 0, .slice none 0 0, .slice none 0 0, .int .i64 0, .slice none 0 0]], []⟩) 4 ⟨#[], #[.agg #[.slice none 0 0, .slice none 0 0, .slice none 0 0, .slice none 0 0, .int .i64 0, .slice none 0 0]], []⟩ = true ∧
    laidMet Tryd.prog Rows.verifyHeightsRow.laid (w0.forCall (fun _ _ => 0) ⟨#[], #[.agg #[.slice none 0 0, .slice none 0 0, .slice none 0 0, .slice none 0 0, .int .i64 0, .slice none 0 0]], []⟩).memory ∧
    ∀ (H : Type) (enc : TypeId × Value → H),
      DataW.whole enc Tryd.prog (w0.forCall (fun _ _ => 0) ⟨#[], #[.agg #[.slice none 0 0, .slice none 0 0, .slice none 0 0, .slice none 0 0, .int .i64 0, .slice none 0 0]], []⟩).memory Tryd.f4.params.toList Rows.verifyHeightsSpec.vars false #[Value.agg #[.slice none 0 0, .slice none 0 0, .slice none 0 0, .slice none 0 0, .int .i64 0, .slice none 0 0]].toList 8 = some ([.agg [.nil, .nil, .nil, .nil, .lit (.int .i64 0), .nil]], [], []) ∧
      (OpenSpec.ofChange Rows.verifyHeightsSpec).bare.sizedB enc Tryd.prog Tryd.f4 false (w0.forCall (fun _ _ => 0) ⟨#[], #[.agg #[.slice none 0 0, .slice none 0 0, .slice none 0 0, .slice none 0 0, .int .i64 0, .slice none 0 0]], []⟩).memory #[Value.agg #[.slice none 0 0, .slice none 0 0, .slice none 0 0, .slice none 0 0, .int .i64 0, .slice none 0 0]] 8 = true :=
  ⟨{ World.holding Tryd.prog os ⟨#[], #[], []⟩ with
      heap := (World.holding Tryd.prog os ⟨#[], #[], []⟩).heap.modify 0 (fun o => match o with
        | .cells _ t frozen => .cells ((List.range 42).flatMap fun op => [Value.int .i64 ((ef op).1 : Int), Value.int .i64 ((ef op).2.1 : Int), Value.int .i64 ((ef op).2.2 : Int)]).toArray t frozen
        | o => o) },
    rfl, by kernel_rfl, by kernel_rfl, by kernel_rfl, laidMet_of_run' 8 (by kernel_rfl) (by kernel_rfl), fun _ _ => ⟨by kernel_rfl, by kernel_rfl⟩⟩

set_option maxRecDepth 100000 in
theorem lifted (os : Os) (started : os.Started) (H : Type) (enc : TypeId × Value → H) (F : Stop.Interp) :
    ReturnsInHanded {} Tryd.checked os 4 .any ((OpenSpec.ofChange Rows.verifyHeightsSpec).preRow enc Tryd.prog Tryd.f4 Rows.verifyHeightsRow.domain false Rows.verifyHeightsRow.laid) (((OpenSpec.ofChange Rows.verifyHeightsSpec).at F).post enc Tryd.prog Tryd.f4 false true false false) := by
  obtain ⟨w0, hos, hv, hr, hok, hlaid, hread⟩ := start os
  obtain ⟨hx, hsz⟩ := hread H enc
  refine returnsInHanded_of_row (C := Tryd.checked) (s := OpenSpec.ofChange Rows.verifyHeightsSpec) own started (by kernel_rfl) Tryd.func4
    (witness_row_at (enc := enc) (C := Tryd.checked) false w0 #[Value.agg #[.slice none 0 0, .slice none 0 0, .slice none 0 0, .slice none 0 0, .int .i64 0, .slice none 0 0]] hos hv hr hok
      (OpenSpec.preRow_of_cond 8 hx (by kernel_rfl) (fun k hk => by cases hk) hsz hlaid)) ?_
  intro W base args ds gs before hval hW _ _ _ hL _ _
  exact contract H enc W base args ds gs before hval hW hL

theorem said : Rows.VerifyHeightsSaid :=
  OpenClaim.holds_of_cond 4 Tryd.f4 rfl rfl rfl rfl rfl rfl rfl ⟨rfl, rfl, rfl, rfl, rfl⟩ rfl rfl rfl rfl rfl (by kernel_rfl) Tryd.func4 (by kernel_rfl)
    (of_decide_eq_true (by kernel_rfl)) (by unfold Func.isWrapper; first | (rw [if_pos (by decide +kernel)]; kernel_rfl) | (rw [if_neg (by decide +kernel)]; exact ⟨rfl, rfl⟩))
    (fun os started H enc _ F => by rw [OpenClaim.pre_eq_preRow]; exact lifted os started H enc F)

theorem plain (f : FuncId) (fn : Func) (hf : Tryd.pinned.checked.prog.funcNamed "winnow/winnowlaw16.VerifyHeights" = some f) (hfn : Tryd.pinned.checked.prog.funcs[f]? = some fn) :
    false = Tryd.pinned.checked.prog.looks [] ∧ ∀ (j : Nat) t, fn.params[j]? = some t → Tryd.pinned.checked.prog.wantsStandIn t = false := by
  obtain rfl : f = 4 := Option.some.inj ((show Tryd.prog.funcNamed "winnow/winnowlaw16.VerifyHeights" = some 4 by kernel_rfl).symm.trans hf) |>.symm
  obtain rfl : fn = Tryd.f4 := (Option.some.inj (Tryd.func4.symm.trans hfn)).symm
  refine ⟨by kernel_rfl, fun j t ht => ?_⟩
  rw [Tryd.params4] at ht
  obtain rfl : t = 27 := by simpa using Array.mem_of_getElem? ht
  exact (show Tryd.prog.wantsStandIn 27 = false by kernel_rfl)

theorem card : Rows.VerifyHeightsCardSaid :=
  Claim7.holds_tied_plain_at .later [] _ _ _ _ said (fun _ h => by cases h) (by kernel_rfl) (fun _ h => by cases h) verifyHeights_row_tie rfl ⟨rfl, rfl⟩ (by kernel_rfl) rfl plain (by kernel_rfl)
end Go.Proofs.YtpifilpbagajkaaDoor.verifyHeights
