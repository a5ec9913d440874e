import Derived.Test.YtelbakkgobkdaaaDoorJD
import Derived.Test.YtelbakkgobkdaaaDoorJE
import Derived.Test.YtelbakkgobkdaaaDoorVfHead
import Derived.Test.YtelbakkgobkdaaaDoorVfTk2
import Derived.Test.YtelbakkgobkdaaaDoorVfBehS
import Derived.Deep.DeepCutAuto
import Derived.Deep.CutBlock
import Derived.Test.YtelbakkgobkdaaaDoorCards
import Derived.Test.YtelbakkgobkdaaaDoorTie
import Derived.Test.YtelbakkgobkdaaaDoorVfTie
import Derived.WalkKit
import Derived.ProofKit
import Derived.OpenShut
import Derived.Below
import Derived.Carry
import Derived.Lib.SmallJoins
import Derived.Deep.DeepHandedRow
import Derived.Lib.LaidTab
namespace Go.Proofs.YtelbakkgobkdaaaDoor.Vf
open Go.RowKit Go.Proofs.YtelbakkgobkdaaaDoor.Nm
theorem run_m (v : PV) (p : Pg) (w : World) (hP : IsPg w v p) (hE : Ef w) : Calls Tryd.prog 9 #[.agg (pvC v p)] w fun e w' => ∃ o1 m1, e = .returned (.tuple #[.agg #[.slice o1 (outN p).2.2.1.length m1, .int .i64 (outN p).2.2.2], .agg #[.int .i64 (outN p).1, .int .i64 (outN p).2.1]]) ∧ Below w.heap.size w w' ∧ Rd w' o1 (iC (outN p).2.2.1) ∧ ∀ g f, o1 = some ⟨g, f, none⟩ → w.heap.size ≤ g := by
  refine (run_any v p w hP hE).mono ?_
  rintro r w' h
  unfold outN
  cases hj : judge p with
  | error x =>
    obtain ⟨e, n⟩ := x
    exact ⟨none, 0, h.err e n hj, h.bel, rd_nil _ _, fun g f hb => by cases hb⟩
  | ok g =>
    obtain ⟨b, hb, hge, hr, -⟩ := h.ok g hj
    refine ⟨some ⟨b, 0, none⟩, p.on.length, ?_, h.bel, hr, fun g f hb' => by cases hb'; exact hge⟩
    rw [hb]
    simp
theorem rrun_n {w w' : World} {p : Pg} {r : Ending} (h : RrP w p r w') : ∃ o2 m2, r = .returned (.tuple #[.agg #[.slice o2 (outN p).2.2.1.length m2, .int .i64 (outN p).2.2.2], .agg #[.int .i64 (outN p).1, .int .i64 (outN p).2.1]]) ∧ Rd w' o2 (iC (outN p).2.2.1) ∧ ∀ g f, o2 = some ⟨g, f, none⟩ → w.heap.size ≤ g := by
  unfold outN
  cases hj : judge p with
  | error x =>
    obtain ⟨e, n⟩ := x
    exact ⟨none, 0, h.err e n hj, rd_nil _ _, fun g f hb => by cases hb⟩
  | ok g =>
    obtain ⟨o, c, h1, h2, h3⟩ := h.ok g hj
    refine ⟨o, c, ?_, h2, h3⟩
    rw [h1]
    simp
theorem outN_len (p : Pg) (h : p.on.length ≤ 100) : (outN p).2.2.1.length ≤ 100 := by
  unfold outN
  cases judge p with
  | error x => exact Nat.zero_le _
  | ok g => show (p.on.map (cst p)).length ≤ 100; simpa using h
theorem Rd.fs {S : List Nat} {W X : World} {o : Option Addr} {xs : List Value} (h : Rd W o xs) (hf : FS S W X) (hn : ∀ g f, o = some ⟨g, f, none⟩ → g ∉ S) : Rd X o xs := fun k x hx => by
  obtain ⟨g, f, h1, h2, h3⟩ := h k x hx
  exact ⟨g, f, h1, Nat.lt_of_lt_of_le h2 hf.size, (World.cell?_of_block (a := ⟨g, f + k, none⟩) (hf.block g h2 (hn g f h1))).trans h3⟩
theorem Lt.is {w0 w : World} {p : Pg} {a b c d e : Nat} {Ta Tb Tc Td : TypeId} (h9 : Lt w0 w p a b c d e Ta Tb Tc Td) (l1 : p.gh.length ≤ 100) (l2 : p.vs.length ≤ 100) (l3 : p.ts.length ≤ 100) (l4 : p.on.length ≤ 100) (l5 : p.cd.length ≤ 524288) : IsPg w ⟨some ⟨a, 0, none⟩, p.gh.length + 3, some ⟨b, 0, none⟩, p.vs.length + 3, some ⟨c, 0, none⟩, p.ts.length + 5, some ⟨d, 0, none⟩, p.on.length + 5, some ⟨e, 0, none⟩, p.cd.length + 9⟩ p :=
  ⟨h9.ba.pre, h9.bb.pre, h9.bc.pre, h9.bd.pre, Bk.pre (r := mkC p.cd.length 9) h9.be, by omega, by omega, by omega, by omega, by omega⟩
/-- what was lent -/
theorem lt_of {w w' : World} {p : Pg} {r : Ending} (h : LdP w p r w') : ∃ a b c d e Ta Tb Tc Td, r = .returned (.agg #[.slice (some ⟨a, 0, none⟩) p.gh.length (p.gh.length + 3), .slice (some ⟨b, 0, none⟩) p.vs.length (p.vs.length + 3), .slice (some ⟨c, 0, none⟩) p.ts.length (p.ts.length + 5), .slice (some ⟨d, 0, none⟩) p.on.length (p.on.length + 5), .int .i64 p.miss, .slice (some ⟨e, 0, none⟩) p.cd.length (p.cd.length + 9)]) ∧ Lt w w' p a b c d e Ta Tb Tc Td := by
  obtain ⟨hb, a, b, c, d, e, hr, ha, hb2, hc, hd, ae, be, ce, de, hn, ⟨Ta, ka⟩, ⟨Tb, kb⟩, ⟨Tc, kc⟩, ⟨Td, kd⟩, ke⟩ := h
  refine ⟨a, b, c, d, e, Ta, Tb, Tc, Td, hr, hb, ⟨by omega, by omega, by omega, by omega, by omega⟩, ?_, ka, kb, kc, kd, ke⟩
  simp only [List.nodup_cons, List.mem_cons, List.not_mem_nil, or_false, not_or, List.nodup_nil, and_true, not_false_eq_true] at hn
  obtain ⟨⟨n1, n2, n3⟩, ⟨n4, n5⟩, n6⟩ := hn
  exact ⟨fun h => n6 h.symm, fun h => n5 h.symm, fun h => n3 h.symm, by omega, fun h => n4 h.symm, fun h => n2 h.symm, by omega, fun h => n1 h.symm, by omega, by omega⟩
set_option maxHeartbeats 12800000 in
set_option maxRecDepth 100000 in
/-- VerifyRuns -/
theorem runsWalk (w : World) (v : PV) (p : Pg) (hp : RdPg w v p) (hE : Ef w) :
    Calls Tryd.prog 3 #[.agg (pvC v p)] w fun e w' => e = .returned (.bool true) ∧ Below w.heap.size w w' := by
  have HEf : Hid (∀ W, Below w.heap.size w W → Ef W) := fun W hb => hE.below hb
  have HHd : Hid (∀ W, Below w.heap.size w W → Calls Tryd.prog 7 #[] W fun e w' => e = .returned (.bool true) ∧ Below W.heap.size W w') := fun W hb => head_any W (hE.below hb)
  have HFar : Hid (∀ W, Calls Tryd.prog 6 #[.agg (pvC v p)] W fun e w' => e = .returned (.bool (farB p)) ∧ Below W.heap.size W w') := fun W => far_any v p W
  have HLn : Hid (farB p = false → (p.gh.length ≤ 100 ∧ p.vs.length ≤ 100 ∧ p.ts.length ≤ 100 ∧ p.on.length ≤ 100 ∧ p.cd.length ≤ 524288) ∧ IsPg w v p) := fun hf => by
    obtain ⟨l1, l2, l3, l4, l5⟩ := farB_not hf
    exact ⟨⟨l1, l2, l3, l4, l5⟩, hp.is l1 l2 l3 l4 l5⟩
  clear hE hp
  obtain ⟨qo, qc, vo, vc, tto, tc, oo, oc, co, cc⟩ := v
  show Calls _ _ #[.agg #[.slice qo p.gh.length qc, .slice vo p.vs.length vc, .slice tto p.ts.length tc, .slice oo p.on.length oc, .int .i64 p.miss, .slice co p.cd.length cc]] _ _
  have hb0 : Below w.heap.size w (w.alloc (.cells #[.slice qo p.gh.length qc, .slice vo p.vs.length vc, .slice tto p.ts.length tc, .slice oo p.on.length oc, .int .i64 p.miss, .slice co p.cd.length cc] 27)) := (Below.refl _ w).alloc (Nat.le_refl _) _
  have HB0 : Hid (Below w.heap.size w (w.alloc (.cells #[.slice qo p.gh.length qc, .slice vo p.vs.length vc, .slice tto p.ts.length tc, .slice oo p.on.length oc, .int .i64 p.miss, .slice co p.cd.length cc] 27)) ∧ (w.alloc (.cells #[.slice qo p.gh.length qc, .slice vo p.vs.length vc, .slice tto p.ts.length tc, .slice oo p.on.length oc, .int .i64 p.miss, .slice co p.cd.length cc] 27)).heap[w.heap.size]? = some (.cells #[.slice qo p.gh.length qc, .slice vo p.vs.length vc, .slice tto p.ts.length tc, .slice oo p.on.length oc, .int .i64 p.miss, .slice co p.cd.length cc] 27 (0, 0))) := ⟨hb0, heap_alloc_new _ _⟩
  clear hb0
  go_enter Tryd.func3, Tryd.ntmps3
  go_upto_region 1 with fail
  generalize w.alloc (.cells #[.slice qo p.gh.length qc, .slice vo p.vs.length vc, .slice tto p.ts.length tc, .slice oo p.on.length oc, .int .i64 p.miss, .slice co p.cd.length cc] 27) = W0 at *
  obtain ⟨i0, i1, i2, i3, i4, i5⟩ := cells6 HB0.out.2
  go_wp2_with fail
  refine (HFar.out _).mono ?_
  rintro r w1 ⟨rfl, hb1⟩
  have HB1 : Hid (Below w.heap.size w w1 ∧ w1.heap[w.heap.size]? = some (.cells #[.slice qo p.gh.length qc, .slice vo p.vs.length vc, .slice tto p.ts.length tc, .slice oo p.on.length oc, .int .i64 p.miss, .slice co p.cd.length cc] 27 (0, 0))) := ⟨bel_step HB0.out.1 hb1, (hb1.block _ (blk_lt HB0.out.2)).trans HB0.out.2⟩
  clear hb1 HB0 HFar i0 i1 i2 i3 i4 i5
  cases hfar : farB p with
  | true =>
    clear hfar
    go_wp2_with fail
    refine (HHd.out _ HB1.out.1).mono ?_
    rintro e w9 ⟨rfl, hb9⟩
    have HB9 : Hid (Below w.heap.size w w9) := bel_step HB1.out.1 hb9
    clear hb9
    go_wp2_with fail
    go_ret
    exact ⟨rfl, HB9.out⟩
  | false =>
    obtain ⟨⟨l1, l2, l3, l4, l5⟩, hP⟩ := HLn.out hfar
    have HL : Hid ((p.gh.length ≤ 100 ∧ p.vs.length ≤ 100 ∧ p.ts.length ≤ 100 ∧ p.on.length ≤ 100 ∧ p.cd.length ≤ 524288) ∧ IsPg w ⟨qo, qc, vo, vc, tto, tc, oo, oc, co, cc⟩ p ∧ IsPg w1 ⟨qo, qc, vo, vc, tto, tc, oo, oc, co, cc⟩ p) := ⟨⟨l1, l2, l3, l4, l5⟩, hP, hP.below HB1.out.1⟩
    have HCl : Hid (Calls Tryd.prog 8 #[.agg #[.slice qo p.gh.length qc, .slice vo p.vs.length vc, .slice tto p.ts.length tc, .slice oo p.on.length oc, .int .i64 p.miss, .slice co p.cd.length cc]] w1 (LdP w1 p)) := lendP_any ⟨qo, qc, vo, vc, tto, tc, oo, oc, co, cc⟩ p w1 (hP.below HB1.out.1) l1 l2 l3 l4 l5
    clear hfar l1 l2 l3 l4 l5 hP HLn
    obtain ⟨i0, i1, i2, i3, i4, i5⟩ := cells6 HB1.out.2
    go_wp2_with fail
    refine HCl.out.mono ?_
    rintro r w2 hld
    obtain ⟨a, b, c, d, e, Ta, Tb, Tc, Td, rfl, hlt⟩ := lt_of hld
    have hbA : Below w2.heap.size w2 (w2.alloc (.cells #[.slice (some ⟨a, 0, none⟩) p.gh.length (p.gh.length + 3), .slice (some ⟨b, 0, none⟩) p.vs.length (p.vs.length + 3), .slice (some ⟨c, 0, none⟩) p.ts.length (p.ts.length + 5), .slice (some ⟨d, 0, none⟩) p.on.length (p.on.length + 5), .int .i64 p.miss, .slice (some ⟨e, 0, none⟩) p.cd.length (p.cd.length + 9)] 27)) := (Below.refl _ w2).alloc (Nat.le_refl _) _
    have H2 : Hid (Lt w1 (w2.alloc (.cells #[.slice (some ⟨a, 0, none⟩) p.gh.length (p.gh.length + 3), .slice (some ⟨b, 0, none⟩) p.vs.length (p.vs.length + 3), .slice (some ⟨c, 0, none⟩) p.ts.length (p.ts.length + 5), .slice (some ⟨d, 0, none⟩) p.on.length (p.on.length + 5), .int .i64 p.miss, .slice (some ⟨e, 0, none⟩) p.cd.length (p.cd.length + 9)] 27)) p a b c d e Ta Tb Tc Td ∧ (w2.alloc (.cells #[.slice (some ⟨a, 0, none⟩) p.gh.length (p.gh.length + 3), .slice (some ⟨b, 0, none⟩) p.vs.length (p.vs.length + 3), .slice (some ⟨c, 0, none⟩) p.ts.length (p.ts.length + 5), .slice (some ⟨d, 0, none⟩) p.on.length (p.on.length + 5), .int .i64 p.miss, .slice (some ⟨e, 0, none⟩) p.cd.length (p.cd.length + 9)] 27)).heap[w2.heap.size]? = some (.cells #[.slice (some ⟨a, 0, none⟩) p.gh.length (p.gh.length + 3), .slice (some ⟨b, 0, none⟩) p.vs.length (p.vs.length + 3), .slice (some ⟨c, 0, none⟩) p.ts.length (p.ts.length + 5), .slice (some ⟨d, 0, none⟩) p.on.length (p.on.length + 5), .int .i64 p.miss, .slice (some ⟨e, 0, none⟩) p.cd.length (p.cd.length + 9)] 27 (0, 0)) ∧ (w2.alloc (.cells #[.slice (some ⟨a, 0, none⟩) p.gh.length (p.gh.length + 3), .slice (some ⟨b, 0, none⟩) p.vs.length (p.vs.length + 3), .slice (some ⟨c, 0, none⟩) p.ts.length (p.ts.length + 5), .slice (some ⟨d, 0, none⟩) p.on.length (p.on.length + 5), .int .i64 p.miss, .slice (some ⟨e, 0, none⟩) p.cd.length (p.cd.length + 9)] 27)).heap[w.heap.size]? = some (.cells #[.slice qo p.gh.length qc, .slice vo p.vs.length vc, .slice tto p.ts.length tc, .slice oo p.on.length oc, .int .i64 p.miss, .slice co p.cd.length cc] 27 (0, 0))) := ⟨hlt.below hbA, heap_alloc_new _ _, ((hlt.below hbA).bel.block _ (blk_lt HB1.out.2)).trans HB1.out.2⟩
    clear hld hlt hbA HCl i0 i1 i2 i3 i4 i5
    go_upto_region 4 with fail
    generalize w2.alloc (.cells #[.slice (some ⟨a, 0, none⟩) p.gh.length (p.gh.length + 3), .slice (some ⟨b, 0, none⟩) p.vs.length (p.vs.length + 3), .slice (some ⟨c, 0, none⟩) p.ts.length (p.ts.length + 5), .slice (some ⟨d, 0, none⟩) p.on.length (p.on.length + 5), .int .i64 p.miss, .slice (some ⟨e, 0, none⟩) p.cd.length (p.cd.length + 9)] 27) = W3 at *
    generalize w2.heap.size = mb at *
    obtain ⟨i0, i1, i2, i3, i4, i5⟩ := cells6 H2.out.2.1
    have HC4 : Hid (Calls Tryd.prog 9 #[.agg #[.slice (some ⟨a, 0, none⟩) p.gh.length (p.gh.length + 3), .slice (some ⟨b, 0, none⟩) p.vs.length (p.vs.length + 3), .slice (some ⟨c, 0, none⟩) p.ts.length (p.ts.length + 5), .slice (some ⟨d, 0, none⟩) p.on.length (p.on.length + 5), .int .i64 p.miss, .slice (some ⟨e, 0, none⟩) p.cd.length (p.cd.length + 9)]] W3 fun e w' => ∃ o1 m1, e = .returned (.tuple #[.agg #[.slice o1 (outN p).2.2.1.length m1, .int .i64 (outN p).2.2.2], .agg #[.int .i64 (outN p).1, .int .i64 (outN p).2.1]]) ∧ Below W3.heap.size W3 w' ∧ Rd w' o1 (iC (outN p).2.2.1) ∧ ∀ g f, o1 = some ⟨g, f, none⟩ → W3.heap.size ≤ g) := by
      refine (run_m ⟨some ⟨a, 0, none⟩, p.gh.length + 3, some ⟨b, 0, none⟩, p.vs.length + 3, some ⟨c, 0, none⟩, p.ts.length + 5, some ⟨d, 0, none⟩, p.on.length + 5, some ⟨e, 0, none⟩, p.cd.length + 9⟩ p W3 (H2.out.1.is HL.out.1.1 HL.out.1.2.1 HL.out.1.2.2.1 HL.out.1.2.2.2.1 HL.out.1.2.2.2.2) (HEf.out _ (bel_step HB1.out.1 H2.out.1.bel))).mono ?_
      rintro r w' ⟨o1, m1, h1, h2, h3, h4⟩
      exact ⟨o1, m1, h1, h2, h3, fun g f hg => h4 g f hg⟩
    have HOl : Hid ((outN p).2.2.1.length ≤ 100) := outN_len p HL.out.1.2.2.2.1
    go_wp2_with fail
    refine HC4.out.mono ?_
    rintro r w4 ⟨o1, m1, rfl, hb4, hr4, hg4⟩
    obtain ⟨cm, hcm⟩ : ∃ cm, cm = (outN p).2.2.2 := ⟨_, rfl⟩
    obtain ⟨f0, hf0⟩ : ∃ f0, f0 = (outN p).1 := ⟨_, rfl⟩
    obtain ⟨f1, hf1⟩ : ∃ f1, f1 = (outN p).2.1 := ⟨_, rfl⟩
    rw [← hcm, ← hf0, ← hf1]
    have HEq : Hid (cm = (outN p).2.2.2 ∧ f0 = (outN p).1 ∧ f1 = (outN p).2.1) := ⟨hcm, hf0, hf1⟩
    have ha4 := al2 w4 (.cells #[.slice o1 (outN p).2.2.1.length m1, .int .i64 cm] 32) (.cells #[.int .i64 f0, .int .i64 f1] 35)
    have H4 : Hid (Below W3.heap.size W3 ((w4.alloc (.cells #[.slice o1 (outN p).2.2.1.length m1, .int .i64 cm] 32)).alloc (.cells #[.int .i64 f0, .int .i64 f1] 35)) ∧ ((w4.alloc (.cells #[.slice o1 (outN p).2.2.1.length m1, .int .i64 cm] 32)).alloc (.cells #[.int .i64 f0, .int .i64 f1] 35)).heap[w4.heap.size]? = some (.cells #[.slice o1 (outN p).2.2.1.length m1, .int .i64 cm] 32 (0, 0)) ∧ ((w4.alloc (.cells #[.slice o1 (outN p).2.2.1.length m1, .int .i64 cm] 32)).alloc (.cells #[.int .i64 f0, .int .i64 f1] 35)).heap[w4.heap.size + 1]? = some (.cells #[.int .i64 f0, .int .i64 f1] 35 (0, 0)) ∧ Rd ((w4.alloc (.cells #[.slice o1 (outN p).2.2.1.length m1, .int .i64 cm] 32)).alloc (.cells #[.int .i64 f0, .int .i64 f1] 35)) o1 (iC (outN p).2.2.1) ∧ (∀ g f, o1 = some ⟨g, f, none⟩ → W3.heap.size ≤ g) ∧ W3.heap.size ≤ w4.heap.size) := ⟨bel_step hb4 ha4.1, ha4.2.1, ha4.2.2, hr4.below ha4.1, hg4, hb4.size⟩
    clear hcm hf0 hf1 ha4 hb4 hr4 hg4 HC4 i0 i1 i2 i3 i4 i5
    go_upto_region 5 with fail
    generalize hw5 : (w4.alloc (.cells #[.slice o1 (outN p).2.2.1.length m1, .int .i64 cm] 32)).alloc (.cells #[.int .i64 f0, .int .i64 f1] 35) = W5 at *
    generalize w4.heap.size = cb at *
    clear hw5
    have hx5 : W5.heap[w.heap.size]? = some (.cells #[.slice qo p.gh.length qc, .slice vo p.vs.length vc, .slice tto p.ts.length tc, .slice oo p.on.length oc, .int .i64 p.miss, .slice co p.cd.length cc] 27 (0, 0)) := (H4.out.1.block _ (blk_lt H2.out.2.2)).trans H2.out.2.2
    obtain ⟨i0, i1, i2, i3, i4, i5⟩ := cells6 hx5
    have hb15 : Below w1.heap.size w1 W5 := bel_step H2.out.1.bel H4.out.1
    have HC5 : Hid (Calls Tryd.prog 10 #[.agg #[.slice qo p.gh.length qc, .slice vo p.vs.length vc, .slice tto p.ts.length tc, .slice oo p.on.length oc, .int .i64 p.miss, .slice co p.cd.length cc]] W5 (RrP W5 p)) := rrun_any ⟨qo, qc, vo, vc, tto, tc, oo, oc, co, cc⟩ p W5 (HL.out.2.2.below hb15)
    clear hx5 hb15
    go_wp2_with fail
    refine HC5.out.mono ?_
    rintro r w6 hrr
    obtain ⟨o2, m2, rfl, hr6, hg6⟩ := rrun_n hrr
    rw [← HEq.out.1, ← HEq.out.2.1, ← HEq.out.2.2]
    have ha6 := al2 w6 (.cells #[.slice o2 (outN p).2.2.1.length m2, .int .i64 cm] 32) (.cells #[.int .i64 f0, .int .i64 f1] 35)
    have hb56 := bel_step hrr.bel ha6.1
    have H6 : Hid (Lt w1 ((w6.alloc (.cells #[.slice o2 (outN p).2.2.1.length m2, .int .i64 cm] 32)).alloc (.cells #[.int .i64 f0, .int .i64 f1] 35)) p a b c d e Ta Tb Tc Td ∧ ((w6.alloc (.cells #[.slice o2 (outN p).2.2.1.length m2, .int .i64 cm] 32)).alloc (.cells #[.int .i64 f0, .int .i64 f1] 35)).heap[w.heap.size]? = some (.cells #[.slice qo p.gh.length qc, .slice vo p.vs.length vc, .slice tto p.ts.length tc, .slice oo p.on.length oc, .int .i64 p.miss, .slice co p.cd.length cc] 27 (0, 0)) ∧ ((w6.alloc (.cells #[.slice o2 (outN p).2.2.1.length m2, .int .i64 cm] 32)).alloc (.cells #[.int .i64 f0, .int .i64 f1] 35)).heap[mb]? = some (.cells #[.slice (some ⟨a, 0, none⟩) p.gh.length (p.gh.length + 3), .slice (some ⟨b, 0, none⟩) p.vs.length (p.vs.length + 3), .slice (some ⟨c, 0, none⟩) p.ts.length (p.ts.length + 5), .slice (some ⟨d, 0, none⟩) p.on.length (p.on.length + 5), .int .i64 p.miss, .slice (some ⟨e, 0, none⟩) p.cd.length (p.cd.length + 9)] 27 (0, 0)) ∧ ((w6.alloc (.cells #[.slice o2 (outN p).2.2.1.length m2, .int .i64 cm] 32)).alloc (.cells #[.int .i64 f0, .int .i64 f1] 35)).heap[cb]? = some (.cells #[.slice o1 (outN p).2.2.1.length m1, .int .i64 cm] 32 (0, 0)) ∧ ((w6.alloc (.cells #[.slice o2 (outN p).2.2.1.length m2, .int .i64 cm] 32)).alloc (.cells #[.int .i64 f0, .int .i64 f1] 35)).heap[cb + 1]? = some (.cells #[.int .i64 f0, .int .i64 f1] 35 (0, 0)) ∧ ((w6.alloc (.cells #[.slice o2 (outN p).2.2.1.length m2, .int .i64 cm] 32)).alloc (.cells #[.int .i64 f0, .int .i64 f1] 35)).heap[w6.heap.size]? = some (.cells #[.slice o2 (outN p).2.2.1.length m2, .int .i64 cm] 32 (0, 0)) ∧ ((w6.alloc (.cells #[.slice o2 (outN p).2.2.1.length m2, .int .i64 cm] 32)).alloc (.cells #[.int .i64 f0, .int .i64 f1] 35)).heap[w6.heap.size + 1]? = some (.cells #[.int .i64 f0, .int .i64 f1] 35 (0, 0)) ∧ Rd ((w6.alloc (.cells #[.slice o2 (outN p).2.2.1.length m2, .int .i64 cm] 32)).alloc (.cells #[.int .i64 f0, .int .i64 f1] 35)) o1 (iC (outN p).2.2.1) ∧ Rd ((w6.alloc (.cells #[.slice o2 (outN p).2.2.1.length m2, .int .i64 cm] 32)).alloc (.cells #[.int .i64 f0, .int .i64 f1] 35)) o2 (iC (outN p).2.2.1) ∧ (∀ g f, o2 = some ⟨g, f, none⟩ → W3.heap.size ≤ g) ∧ W3.heap.size ≤ cb ∧ W3.heap.size ≤ w6.heap.size) := by
      have h35 := H4.out.1
      have h3n := bel_step h35 hb56
      exact ⟨(H2.out.1.below h35).below hb56, (h3n.block _ (blk_lt H2.out.2.2)).trans H2.out.2.2, (h3n.block _ (blk_lt H2.out.2.1)).trans H2.out.2.1, (hb56.block _ (blk_lt H4.out.2.1)).trans H4.out.2.1, (hb56.block _ (blk_lt H4.out.2.2.1)).trans H4.out.2.2.1, ha6.2.1, ha6.2.2, H4.out.2.2.2.1.below hb56, hr6.below ha6.1, fun g f h9 => Nat.le_trans h35.size (hg6 g f h9), H4.out.2.2.2.2.2, Nat.le_trans h35.size hrr.bel.size⟩
    have HG1 : Hid (∀ g f, o1 = some ⟨g, f, none⟩ → W3.heap.size ≤ g) := H4.out.2.2.2.2.1
    clear hrr hr6 hg6 ha6 hb56 HC5 H4 i0 i1 i2 i3 i4 i5
    go_upto_region 6 with fail
    generalize hw7 : (w6.alloc (.cells #[.slice o2 (outN p).2.2.1.length m2, .int .i64 cm] 32)).alloc (.cells #[.int .i64 f0, .int .i64 f1] 35) = W7 at *
    generalize w6.heap.size = db at *
    clear hw7
    have HLo : Hid (a < W3.heap.size ∧ b < W3.heap.size ∧ c < W3.heap.size ∧ d < W3.heap.size ∧ e < W3.heap.size) := ⟨H2.out.1.ba.lt, H2.out.1.bb.lt, H2.out.1.bc.lt, H2.out.1.bd.lt, H2.out.1.be.lt⟩
    have HC6 : Hid (Calls Tryd.prog 11 #[.agg #[.slice (some ⟨a, 0, none⟩) p.gh.length (p.gh.length + 3), .slice (some ⟨b, 0, none⟩) p.vs.length (p.vs.length + 3), .slice (some ⟨c, 0, none⟩) p.ts.length (p.ts.length + 5), .slice (some ⟨d, 0, none⟩) p.on.length (p.on.length + 5), .int .i64 p.miss, .slice (some ⟨e, 0, none⟩) p.cd.length (p.cd.length + 9)], .agg #[.slice qo p.gh.length qc, .slice vo p.vs.length vc, .slice tto p.ts.length tc, .slice oo p.on.length oc, .int .i64 p.miss, .slice co p.cd.length cc]] W7 fun r w' => r = .returned (.bool true) ∧ FS [a, b, c, d, e] W7 w') := keptP_any ⟨qo, qc, vo, vc, tto, tc, oo, oc, co, cc⟩ p HL.out.2.2 H6.out.1 HL.out.1.1 HL.out.1.2.1 HL.out.1.2.2.1 HL.out.1.2.2.2.1 HL.out.1.2.2.2.2
    obtain ⟨i0, i1, i2, i3, i4, i5⟩ := cells6 H6.out.2.1
    obtain ⟨j0, j1, j2, j3, j4, j5⟩ := cells6 H6.out.2.2.1
    go_wp2_with fail
    refine HC6.out.mono ?_
    rintro r w8 ⟨rfl, hf8⟩
    have hbw8 : Below w1.heap.size w1 w8 := hf8.bel H6.out.1.bel (fun k hk => by
      have hge := H6.out.1.ge
      simp only [List.mem_cons, List.not_mem_nil, or_false] at hk
      omega)
    have hnot : ∀ k, W3.heap.size ≤ k → k ∉ [a, b, c, d, e] := fun k hk hm => by
      have hl := HLo.out
      simp only [List.mem_cons, List.not_mem_nil, or_false] at hm
      omega
    have H8 : Hid (Below w.heap.size w w8 ∧ w8.heap[cb]? = some (.cells #[.slice o1 (outN p).2.2.1.length m1, .int .i64 cm] 32 (0, 0)) ∧ w8.heap[cb + 1]? = some (.cells #[.int .i64 f0, .int .i64 f1] 35 (0, 0)) ∧ w8.heap[db]? = some (.cells #[.slice o2 (outN p).2.2.1.length m2, .int .i64 cm] 32 (0, 0)) ∧ w8.heap[db + 1]? = some (.cells #[.int .i64 f0, .int .i64 f1] 35 (0, 0)) ∧ Rd w8 o1 (iC (outN p).2.2.1) ∧ Rd w8 o2 (iC (outN p).2.2.1)) := by
      obtain ⟨-, -, -, h4, h5, h6, h7, h8, h9, h10, h11, h12⟩ := H6.out
      exact ⟨bel_step HB1.out.1 hbw8, (hf8.block _ (blk_lt h4) (hnot _ h11)).trans h4, (hf8.block _ (blk_lt h5) (hnot _ (by omega))).trans h5, (hf8.block _ (blk_lt h6) (hnot _ h12)).trans h6, (hf8.block _ (blk_lt h7) (hnot _ (by omega))).trans h7, h8.fs hf8 (fun g f h => hnot g (HG1.out g f h)), h9.fs hf8 (fun g f h => hnot g (h10 g f h))⟩
    clear hf8 hbw8 hnot HC6 i0 i1 i2 i3 i4 i5 j0 j1 j2 j3 j4 j5
    obtain ⟨x0, x1⟩ := cells2 H8.out.2.1
    obtain ⟨y0, y1⟩ := cells2 H8.out.2.2.1
    obtain ⟨z0, z1⟩ := cells2 H8.out.2.2.2.1
    obtain ⟨u0, u1⟩ := cells2 H8.out.2.2.2.2.1
    have HC7 : Hid (Calls Tryd.prog 12 #[.agg #[.slice o1 (outN p).2.2.1.length m1, .int .i64 cm], .agg #[.slice o2 (outN p).2.2.1.length m2, .int .i64 cm]] w8 fun e w' => e = .returned (.bool true) ∧ Below w8.heap.size w8 w') := sameC_eq (outN p).2.2.1 o1 o2 m1 m2 cm w8 H8.out.2.2.2.2.2.1 H8.out.2.2.2.2.2.2 (by have := HOl.out; omega)
    generalize (outN p).2.2.1.length = ol at *
    go_wp2_with fail
    refine HC7.out.mono ?_
    rintro r w9 ⟨rfl, hb9⟩
    have HB9 : Hid (Below w.heap.size w w9) := bel_step H8.out.1 hb9
    clear hb9 HC7 x0 x1 y0 y1 z0 z1 u0 u1
    go_wp2_with fail
    refine (HHd.out _ HB9.out).mono ?_
    rintro r w10 ⟨rfl, hb10⟩
    have HB10 : Hid (Below w.heap.size w w10) := bel_step HB9.out hb10
    clear hb10
    go_wp2_with fail
    go_ret
    exact ⟨rfl, HB10.out⟩
end Go.Proofs.YtelbakkgobkdaaaDoor.Vf

namespace Go.Proofs.YtelbakkgobkdaaaDoor.Vf
open Go.RowKit Go.Proofs.YtelbakkgobkdaaaDoor.Nm
/-- what Heights tells, as numbers -/
def hgN (p : Pg) : Int × Int × List Int := match judge p with | .error (e, n) => ((e : Int), n, []) | .ok g => (0, 0, (List.range p.cd.length).map (hgt g))
theorem fuC_iC (n : Nat) (f : Nat → Int) : fuC n f = iC ((List.range n).map f) := by unfold fuC iC; simp
theorem heights_m (v : PV) (p : Pg) (w : World) (hP : IsPg w v p) (hE : Ef w) : Calls Tryd.prog 13 #[.agg (pvC v p)] w fun e w' => ∃ o1 m1, e = .returned (.tuple #[.slice o1 (hgN p).2.2.length m1, .agg #[.int .i64 (hgN p).1, .int .i64 (hgN p).2.1]]) ∧ Below w.heap.size w w' ∧ Rd w' o1 (iC (hgN p).2.2) ∧ ∀ g f, o1 = some ⟨g, f, none⟩ → w.heap.size ≤ g := by
  refine (heights_any v p w hP hE).mono ?_
  rintro r w' h
  unfold hgN
  cases hj : judge p with
  | error x =>
    obtain ⟨e, n⟩ := x
    obtain ⟨b, hr, hge⟩ := h.err e n hj
    exact ⟨_, 0, hr, h.bel, rd_nil _ _, fun g f hb => by cases hb; exact hge⟩
  | ok g =>
    obtain ⟨b, hb, hge, hr⟩ := h.ok g hj
    rw [fuC_iC] at hr
    refine ⟨some ⟨b, 0, none⟩, p.cd.length, ?_, h.bel, rd_blk hr, fun g f hb' => by cases hb'; exact hge⟩
    rw [hb]
    simp
theorem rheights_n {w w' : World} {p : Pg} {r : Ending} (h : RhP w p r w') : ∃ o2 m2, r = .returned (.tuple #[.slice o2 (hgN p).2.2.length m2, .agg #[.int .i64 (hgN p).1, .int .i64 (hgN p).2.1]]) ∧ Rd w' o2 (iC (hgN p).2.2) ∧ ∀ g f, o2 = some ⟨g, f, none⟩ → w.heap.size ≤ g := by
  unfold hgN
  cases hj : judge p with
  | error x =>
    obtain ⟨e, n⟩ := x
    exact ⟨none, 0, h.err e n hj, rd_nil _ _, fun g f hb => by cases hb⟩
  | ok g =>
    obtain ⟨o, c, h1, h2, h3⟩ := h.ok g hj
    refine ⟨o, c, ?_, h2, h3⟩
    rw [h1]
    simp
theorem hgN_len (p : Pg) (h : p.cd.length ≤ 524288) : (hgN p).2.2.length ≤ 524288 := by
  unfold hgN
  cases judge p with
  | error x => exact Nat.zero_le _
  | ok g => show ((List.range p.cd.length).map (hgt g)).length ≤ 524288; simpa using h
set_option maxHeartbeats 12800000 in
set_option maxRecDepth 100000 in
/-- VerifyHeights -/
theorem heightsWalk (w : World) (v : PV) (p : Pg) (hp : RdPg w v p) (hE : Ef w) :
    Calls Tryd.prog 4 #[.agg (pvC v p)] w fun e w' => e = .returned (.bool true) ∧ Below w.heap.size w w' := by
  have HEf : Hid (∀ W, Below w.heap.size w W → Ef W) := fun W hb => hE.below hb
  have HHd : Hid (∀ W, Below w.heap.size w W → Calls Tryd.prog 7 #[] W fun e w' => e = .returned (.bool true) ∧ Below W.heap.size W w') := fun W hb => head_any W (hE.below hb)
  have HFar : Hid (∀ W, Calls Tryd.prog 6 #[.agg (pvC v p)] W fun e w' => e = .returned (.bool (farB p)) ∧ Below W.heap.size W w') := fun W => far_any v p W
  have HLn : Hid (farB p = false → (p.gh.length ≤ 100 ∧ p.vs.length ≤ 100 ∧ p.ts.length ≤ 100 ∧ p.on.length ≤ 100 ∧ p.cd.length ≤ 524288) ∧ IsPg w v p) := fun hf => by
    obtain ⟨l1, l2, l3, l4, l5⟩ := farB_not hf
    exact ⟨⟨l1, l2, l3, l4, l5⟩, hp.is l1 l2 l3 l4 l5⟩
  clear hE hp
  obtain ⟨qo, qc, vo, vc, tto, tc, oo, oc, co, cc⟩ := v
  show Calls _ _ #[.agg #[.slice qo p.gh.length qc, .slice vo p.vs.length vc, .slice tto p.ts.length tc, .slice oo p.on.length oc, .int .i64 p.miss, .slice co p.cd.length cc]] _ _
  have hb0 : Below w.heap.size w (w.alloc (.cells #[.slice qo p.gh.length qc, .slice vo p.vs.length vc, .slice tto p.ts.length tc, .slice oo p.on.length oc, .int .i64 p.miss, .slice co p.cd.length cc] 27)) := (Below.refl _ w).alloc (Nat.le_refl _) _
  have HB0 : Hid (Below w.heap.size w (w.alloc (.cells #[.slice qo p.gh.length qc, .slice vo p.vs.length vc, .slice tto p.ts.length tc, .slice oo p.on.length oc, .int .i64 p.miss, .slice co p.cd.length cc] 27)) ∧ (w.alloc (.cells #[.slice qo p.gh.length qc, .slice vo p.vs.length vc, .slice tto p.ts.length tc, .slice oo p.on.length oc, .int .i64 p.miss, .slice co p.cd.length cc] 27)).heap[w.heap.size]? = some (.cells #[.slice qo p.gh.length qc, .slice vo p.vs.length vc, .slice tto p.ts.length tc, .slice oo p.on.length oc, .int .i64 p.miss, .slice co p.cd.length cc] 27 (0, 0))) := ⟨hb0, heap_alloc_new _ _⟩
  clear hb0
  go_enter Tryd.func4, Tryd.ntmps4
  go_upto_region 1 with fail
  generalize w.alloc (.cells #[.slice qo p.gh.length qc, .slice vo p.vs.length vc, .slice tto p.ts.length tc, .slice oo p.on.length oc, .int .i64 p.miss, .slice co p.cd.length cc] 27) = W0 at *
  obtain ⟨i0, i1, i2, i3, i4, i5⟩ := cells6 HB0.out.2
  go_wp2_with fail
  refine (HFar.out _).mono ?_
  rintro r w1 ⟨rfl, hb1⟩
  have HB1 : Hid (Below w.heap.size w w1 ∧ w1.heap[w.heap.size]? = some (.cells #[.slice qo p.gh.length qc, .slice vo p.vs.length vc, .slice tto p.ts.length tc, .slice oo p.on.length oc, .int .i64 p.miss, .slice co p.cd.length cc] 27 (0, 0))) := ⟨bel_step HB0.out.1 hb1, (hb1.block _ (blk_lt HB0.out.2)).trans HB0.out.2⟩
  clear hb1 HB0 HFar i0 i1 i2 i3 i4 i5
  cases hfar : farB p with
  | true =>
    clear hfar
    go_wp2_with fail
    refine (HHd.out _ HB1.out.1).mono ?_
    rintro e w9 ⟨rfl, hb9⟩
    have HB9 : Hid (Below w.heap.size w w9) := bel_step HB1.out.1 hb9
    clear hb9
    go_wp2_with fail
    go_ret
    exact ⟨rfl, HB9.out⟩
  | false =>
    obtain ⟨⟨l1, l2, l3, l4, l5⟩, hP⟩ := HLn.out hfar
    have HL : Hid ((p.gh.length ≤ 100 ∧ p.vs.length ≤ 100 ∧ p.ts.length ≤ 100 ∧ p.on.length ≤ 100 ∧ p.cd.length ≤ 524288) ∧ IsPg w ⟨qo, qc, vo, vc, tto, tc, oo, oc, co, cc⟩ p ∧ IsPg w1 ⟨qo, qc, vo, vc, tto, tc, oo, oc, co, cc⟩ p) := ⟨⟨l1, l2, l3, l4, l5⟩, hP, hP.below HB1.out.1⟩
    have HCl : Hid (Calls Tryd.prog 8 #[.agg #[.slice qo p.gh.length qc, .slice vo p.vs.length vc, .slice tto p.ts.length tc, .slice oo p.on.length oc, .int .i64 p.miss, .slice co p.cd.length cc]] w1 (LdP w1 p)) := lendP_any ⟨qo, qc, vo, vc, tto, tc, oo, oc, co, cc⟩ p w1 (hP.below HB1.out.1) l1 l2 l3 l4 l5
    clear hfar l1 l2 l3 l4 l5 hP HLn
    obtain ⟨i0, i1, i2, i3, i4, i5⟩ := cells6 HB1.out.2
    go_wp2_with fail
    refine HCl.out.mono ?_
    rintro r w2 hld
    obtain ⟨a, b, c, d, e, Ta, Tb, Tc, Td, rfl, hlt⟩ := lt_of hld
    have hbA : Below w2.heap.size w2 (w2.alloc (.cells #[.slice (some ⟨a, 0, none⟩) p.gh.length (p.gh.length + 3), .slice (some ⟨b, 0, none⟩) p.vs.length (p.vs.length + 3), .slice (some ⟨c, 0, none⟩) p.ts.length (p.ts.length + 5), .slice (some ⟨d, 0, none⟩) p.on.length (p.on.length + 5), .int .i64 p.miss, .slice (some ⟨e, 0, none⟩) p.cd.length (p.cd.length + 9)] 27)) := (Below.refl _ w2).alloc (Nat.le_refl _) _
    have H2 : Hid (Lt w1 (w2.alloc (.cells #[.slice (some ⟨a, 0, none⟩) p.gh.length (p.gh.length + 3), .slice (some ⟨b, 0, none⟩) p.vs.length (p.vs.length + 3), .slice (some ⟨c, 0, none⟩) p.ts.length (p.ts.length + 5), .slice (some ⟨d, 0, none⟩) p.on.length (p.on.length + 5), .int .i64 p.miss, .slice (some ⟨e, 0, none⟩) p.cd.length (p.cd.length + 9)] 27)) p a b c d e Ta Tb Tc Td ∧ (w2.alloc (.cells #[.slice (some ⟨a, 0, none⟩) p.gh.length (p.gh.length + 3), .slice (some ⟨b, 0, none⟩) p.vs.length (p.vs.length + 3), .slice (some ⟨c, 0, none⟩) p.ts.length (p.ts.length + 5), .slice (some ⟨d, 0, none⟩) p.on.length (p.on.length + 5), .int .i64 p.miss, .slice (some ⟨e, 0, none⟩) p.cd.length (p.cd.length + 9)] 27)).heap[w2.heap.size]? = some (.cells #[.slice (some ⟨a, 0, none⟩) p.gh.length (p.gh.length + 3), .slice (some ⟨b, 0, none⟩) p.vs.length (p.vs.length + 3), .slice (some ⟨c, 0, none⟩) p.ts.length (p.ts.length + 5), .slice (some ⟨d, 0, none⟩) p.on.length (p.on.length + 5), .int .i64 p.miss, .slice (some ⟨e, 0, none⟩) p.cd.length (p.cd.length + 9)] 27 (0, 0)) ∧ (w2.alloc (.cells #[.slice (some ⟨a, 0, none⟩) p.gh.length (p.gh.length + 3), .slice (some ⟨b, 0, none⟩) p.vs.length (p.vs.length + 3), .slice (some ⟨c, 0, none⟩) p.ts.length (p.ts.length + 5), .slice (some ⟨d, 0, none⟩) p.on.length (p.on.length + 5), .int .i64 p.miss, .slice (some ⟨e, 0, none⟩) p.cd.length (p.cd.length + 9)] 27)).heap[w.heap.size]? = some (.cells #[.slice qo p.gh.length qc, .slice vo p.vs.length vc, .slice tto p.ts.length tc, .slice oo p.on.length oc, .int .i64 p.miss, .slice co p.cd.length cc] 27 (0, 0))) := ⟨hlt.below hbA, heap_alloc_new _ _, ((hlt.below hbA).bel.block _ (blk_lt HB1.out.2)).trans HB1.out.2⟩
    clear hld hlt hbA HCl i0 i1 i2 i3 i4 i5
    go_upto_region 4 with fail
    generalize w2.alloc (.cells #[.slice (some ⟨a, 0, none⟩) p.gh.length (p.gh.length + 3), .slice (some ⟨b, 0, none⟩) p.vs.length (p.vs.length + 3), .slice (some ⟨c, 0, none⟩) p.ts.length (p.ts.length + 5), .slice (some ⟨d, 0, none⟩) p.on.length (p.on.length + 5), .int .i64 p.miss, .slice (some ⟨e, 0, none⟩) p.cd.length (p.cd.length + 9)] 27) = W3 at *
    generalize w2.heap.size = mb at *
    obtain ⟨i0, i1, i2, i3, i4, i5⟩ := cells6 H2.out.2.1
    have HC4 : Hid (Calls Tryd.prog 13 #[.agg #[.slice (some ⟨a, 0, none⟩) p.gh.length (p.gh.length + 3), .slice (some ⟨b, 0, none⟩) p.vs.length (p.vs.length + 3), .slice (some ⟨c, 0, none⟩) p.ts.length (p.ts.length + 5), .slice (some ⟨d, 0, none⟩) p.on.length (p.on.length + 5), .int .i64 p.miss, .slice (some ⟨e, 0, none⟩) p.cd.length (p.cd.length + 9)]] W3 fun e w' => ∃ o1 m1, e = .returned (.tuple #[.slice o1 (hgN p).2.2.length m1, .agg #[.int .i64 (hgN p).1, .int .i64 (hgN p).2.1]]) ∧ Below W3.heap.size W3 w' ∧ Rd w' o1 (iC (hgN p).2.2) ∧ ∀ g f, o1 = some ⟨g, f, none⟩ → W3.heap.size ≤ g) := heights_m ⟨some ⟨a, 0, none⟩, p.gh.length + 3, some ⟨b, 0, none⟩, p.vs.length + 3, some ⟨c, 0, none⟩, p.ts.length + 5, some ⟨d, 0, none⟩, p.on.length + 5, some ⟨e, 0, none⟩, p.cd.length + 9⟩ p W3 (H2.out.1.is HL.out.1.1 HL.out.1.2.1 HL.out.1.2.2.1 HL.out.1.2.2.2.1 HL.out.1.2.2.2.2) (HEf.out _ (bel_step HB1.out.1 H2.out.1.bel))
    have HOl : Hid ((hgN p).2.2.length ≤ 524288) := hgN_len p HL.out.1.2.2.2.2
    go_wp2_with fail
    refine HC4.out.mono ?_
    rintro r w4 ⟨o1, m1, rfl, hb4, hr4, hg4⟩
    obtain ⟨f0, hf0⟩ : ∃ f0, f0 = (hgN p).1 := ⟨_, rfl⟩
    obtain ⟨f1, hf1⟩ : ∃ f1, f1 = (hgN p).2.1 := ⟨_, rfl⟩
    rw [← hf0, ← hf1]
    have HEq : Hid (f0 = (hgN p).1 ∧ f1 = (hgN p).2.1) := ⟨hf0, hf1⟩
    have ha4 : Below w4.heap.size w4 (w4.alloc (.cells #[.int .i64 f0, .int .i64 f1] 35)) := (Below.refl _ w4).alloc (Nat.le_refl _) _
    have H4 : Hid (Below W3.heap.size W3 (w4.alloc (.cells #[.int .i64 f0, .int .i64 f1] 35)) ∧ (w4.alloc (.cells #[.int .i64 f0, .int .i64 f1] 35)).heap[w4.heap.size]? = some (.cells #[.int .i64 f0, .int .i64 f1] 35 (0, 0)) ∧ Rd (w4.alloc (.cells #[.int .i64 f0, .int .i64 f1] 35)) o1 (iC (hgN p).2.2) ∧ (∀ g f, o1 = some ⟨g, f, none⟩ → W3.heap.size ≤ g) ∧ W3.heap.size ≤ w4.heap.size) := ⟨bel_step hb4 ha4, heap_alloc_new _ _, hr4.below ha4, hg4, hb4.size⟩
    clear hf0 hf1 ha4 hb4 hr4 hg4 HC4 i0 i1 i2 i3 i4 i5
    go_upto_region 5 with fail
    generalize hw5 : w4.alloc (.cells #[.int .i64 f0, .int .i64 f1] 35) = W5 at *
    generalize w4.heap.size = cb at *
    clear hw5
    have hx5 : W5.heap[w.heap.size]? = some (.cells #[.slice qo p.gh.length qc, .slice vo p.vs.length vc, .slice tto p.ts.length tc, .slice oo p.on.length oc, .int .i64 p.miss, .slice co p.cd.length cc] 27 (0, 0)) := (H4.out.1.block _ (blk_lt H2.out.2.2)).trans H2.out.2.2
    obtain ⟨i0, i1, i2, i3, i4, i5⟩ := cells6 hx5
    have hb15 : Below w1.heap.size w1 W5 := bel_step H2.out.1.bel H4.out.1
    have HC5 : Hid (Calls Tryd.prog 14 #[.agg #[.slice qo p.gh.length qc, .slice vo p.vs.length vc, .slice tto p.ts.length tc, .slice oo p.on.length oc, .int .i64 p.miss, .slice co p.cd.length cc]] W5 (RhP W5 p)) := rheights_any ⟨qo, qc, vo, vc, tto, tc, oo, oc, co, cc⟩ p W5 (HL.out.2.2.below hb15)
    clear hx5 hb15
    go_wp2_with fail
    refine HC5.out.mono ?_
    rintro r w6 hrr
    obtain ⟨o2, m2, rfl, hr6, hg6⟩ := rheights_n hrr
    rw [← HEq.out.1, ← HEq.out.2]
    have ha6 : Below w6.heap.size w6 (w6.alloc (.cells #[.int .i64 f0, .int .i64 f1] 35)) := (Below.refl _ w6).alloc (Nat.le_refl _) _
    have hb56 := bel_step hrr.bel ha6
    have H6 : Hid (Lt w1 (w6.alloc (.cells #[.int .i64 f0, .int .i64 f1] 35)) p a b c d e Ta Tb Tc Td ∧ (w6.alloc (.cells #[.int .i64 f0, .int .i64 f1] 35)).heap[w.heap.size]? = some (.cells #[.slice qo p.gh.length qc, .slice vo p.vs.length vc, .slice tto p.ts.length tc, .slice oo p.on.length oc, .int .i64 p.miss, .slice co p.cd.length cc] 27 (0, 0)) ∧ (w6.alloc (.cells #[.int .i64 f0, .int .i64 f1] 35)).heap[mb]? = some (.cells #[.slice (some ⟨a, 0, none⟩) p.gh.length (p.gh.length + 3), .slice (some ⟨b, 0, none⟩) p.vs.length (p.vs.length + 3), .slice (some ⟨c, 0, none⟩) p.ts.length (p.ts.length + 5), .slice (some ⟨d, 0, none⟩) p.on.length (p.on.length + 5), .int .i64 p.miss, .slice (some ⟨e, 0, none⟩) p.cd.length (p.cd.length + 9)] 27 (0, 0)) ∧ (w6.alloc (.cells #[.int .i64 f0, .int .i64 f1] 35)).heap[cb]? = some (.cells #[.int .i64 f0, .int .i64 f1] 35 (0, 0)) ∧ (w6.alloc (.cells #[.int .i64 f0, .int .i64 f1] 35)).heap[w6.heap.size]? = some (.cells #[.int .i64 f0, .int .i64 f1] 35 (0, 0)) ∧ Rd (w6.alloc (.cells #[.int .i64 f0, .int .i64 f1] 35)) o1 (iC (hgN p).2.2) ∧ Rd (w6.alloc (.cells #[.int .i64 f0, .int .i64 f1] 35)) o2 (iC (hgN p).2.2) ∧ (∀ g f, o2 = some ⟨g, f, none⟩ → W3.heap.size ≤ g) ∧ W3.heap.size ≤ cb ∧ W3.heap.size ≤ w6.heap.size) := by
      have h35 := H4.out.1
      have h3n := bel_step h35 hb56
      exact ⟨(H2.out.1.below h35).below hb56, (h3n.block _ (blk_lt H2.out.2.2)).trans H2.out.2.2, (h3n.block _ (blk_lt H2.out.2.1)).trans H2.out.2.1, (hb56.block _ (blk_lt H4.out.2.1)).trans H4.out.2.1, heap_alloc_new _ _, H4.out.2.2.1.below hb56, hr6.below ha6, fun g f h9 => Nat.le_trans h35.size (hg6 g f h9), H4.out.2.2.2.2, Nat.le_trans h35.size hrr.bel.size⟩
    have HG1 : Hid (∀ g f, o1 = some ⟨g, f, none⟩ → W3.heap.size ≤ g) := H4.out.2.2.2.1
    clear hrr hr6 hg6 ha6 hb56 HC5 H4 i0 i1 i2 i3 i4 i5
    go_upto_region 6 with fail
    generalize hw7 : w6.alloc (.cells #[.int .i64 f0, .int .i64 f1] 35) = W7 at *
    generalize w6.heap.size = db at *
    clear hw7
    have HLo : Hid (a < W3.heap.size ∧ b < W3.heap.size ∧ c < W3.heap.size ∧ d < W3.heap.size ∧ e < W3.heap.size) := ⟨H2.out.1.ba.lt, H2.out.1.bb.lt, H2.out.1.bc.lt, H2.out.1.bd.lt, H2.out.1.be.lt⟩
    have HC6 : Hid (Calls Tryd.prog 11 #[.agg #[.slice (some ⟨a, 0, none⟩) p.gh.length (p.gh.length + 3), .slice (some ⟨b, 0, none⟩) p.vs.length (p.vs.length + 3), .slice (some ⟨c, 0, none⟩) p.ts.length (p.ts.length + 5), .slice (some ⟨d, 0, none⟩) p.on.length (p.on.length + 5), .int .i64 p.miss, .slice (some ⟨e, 0, none⟩) p.cd.length (p.cd.length + 9)], .agg #[.slice qo p.gh.length qc, .slice vo p.vs.length vc, .slice tto p.ts.length tc, .slice oo p.on.length oc, .int .i64 p.miss, .slice co p.cd.length cc]] W7 fun r w' => r = .returned (.bool true) ∧ FS [a, b, c, d, e] W7 w') := keptP_any ⟨qo, qc, vo, vc, tto, tc, oo, oc, co, cc⟩ p HL.out.2.2 H6.out.1 HL.out.1.1 HL.out.1.2.1 HL.out.1.2.2.1 HL.out.1.2.2.2.1 HL.out.1.2.2.2.2
    obtain ⟨i0, i1, i2, i3, i4, i5⟩ := cells6 H6.out.2.1
    obtain ⟨j0, j1, j2, j3, j4, j5⟩ := cells6 H6.out.2.2.1
    go_wp2_with fail
    refine HC6.out.mono ?_
    rintro r w8 ⟨rfl, hf8⟩
    have hbw8 : Below w1.heap.size w1 w8 := hf8.bel H6.out.1.bel (fun k hk => by
      have hge := H6.out.1.ge
      simp only [List.mem_cons, List.not_mem_nil, or_false] at hk
      omega)
    have hnot : ∀ k, W3.heap.size ≤ k → k ∉ [a, b, c, d, e] := fun k hk hm => by
      have hl := HLo.out
      simp only [List.mem_cons, List.not_mem_nil, or_false] at hm
      omega
    have H8 : Hid (Below w.heap.size w w8 ∧ w8.heap[cb]? = some (.cells #[.int .i64 f0, .int .i64 f1] 35 (0, 0)) ∧ w8.heap[db]? = some (.cells #[.int .i64 f0, .int .i64 f1] 35 (0, 0)) ∧ Rd w8 o1 (iC (hgN p).2.2) ∧ Rd w8 o2 (iC (hgN p).2.2)) := by
      obtain ⟨-, -, -, h5, h7, h8, h9, h10, h11, h12⟩ := H6.out
      exact ⟨bel_step HB1.out.1 hbw8, (hf8.block _ (blk_lt h5) (hnot _ h11)).trans h5, (hf8.block _ (blk_lt h7) (hnot _ h12)).trans h7, h8.fs hf8 (fun g f h => hnot g (HG1.out g f h)), h9.fs hf8 (fun g f h => hnot g (h10 g f h))⟩
    clear hf8 hbw8 hnot HC6 i0 i1 i2 i3 i4 i5 j0 j1 j2 j3 j4 j5
    obtain ⟨y0, y1⟩ := cells2 H8.out.2.1
    obtain ⟨u0, u1⟩ := cells2 H8.out.2.2.1
    have HC7 : Hid (Calls Tryd.prog 15 #[.slice o1 (hgN p).2.2.length m1, .slice o2 (hgN p).2.2.length m2] w8 fun e w' => e = .returned (.bool true) ∧ Below w8.heap.size w8 w') := sameI_eq (hgN p).2.2 o1 o2 m1 m2 w8 H8.out.2.2.2.1 H8.out.2.2.2.2 (by have := HOl.out; omega)
    generalize (hgN p).2.2.length = ol at *
    go_wp2_with fail
    refine HC7.out.mono ?_
    rintro r w9 ⟨rfl, hb9⟩
    have HB9 : Hid (Below w.heap.size w w9) := bel_step H8.out.1 hb9
    clear hb9 HC7 y0 y1 u0 u1
    go_wp2_with fail
    refine (HHd.out _ HB9.out).mono ?_
    rintro r w10 ⟨rfl, hb10⟩
    have HB10 : Hid (Below w.heap.size w w10) := bel_step HB9.out hb10
    clear hb10
    go_wp2_with fail
    go_ret
    exact ⟨rfl, HB10.out⟩
end Go.Proofs.YtelbakkgobkdaaaDoor.Vf

namespace Go.Proofs.YtelbakkgobkdaaaDoor.Vf
open Go.RowKit Go.Proofs.YtelbakkgobkdaaaDoor.Nm
/-- winnowref12.Vars of none -/
theorem ovars0 (w : World) : Calls Tryd.prog 46 #[.slice none 0 0] w fun e w' => e = .returned (.bool true) ∧ Below w.heap.size w w' := by
  go_enter Tryd.func46, Tryd.ntmps46
  go_wp2_with fail
  go_loopg [3] 0 (fun gq x wr => gq = 0 ∧ x = .int .i64 0 ∧ Below w.heap.size w wr)
  case atStart => exact ⟨rfl, rfl, Below.refl _ _⟩
  case round =>
    obtain ⟨hgk, rfl, hbw⟩ := hrel
    go_wp2_with fail
    go_ret
    exact ⟨rfl, hbw⟩
/-- winnowref12.Tags of none -/
theorem otags0 (w : World) : Calls Tryd.prog 47 #[.slice none 0 0] w fun e w' => e = .returned (.bool true) ∧ Below w.heap.size w w' := by
  go_enter Tryd.func47, Tryd.ntmps47
  go_wp2_with fail
  go_loopg [3] 0 (fun gq x wr => gq = 0 ∧ x = .int .i64 0 ∧ Below w.heap.size w wr)
  case atStart => exact ⟨rfl, rfl, Below.refl _ _⟩
  case round =>
    obtain ⟨hgk, rfl, hbw⟩ := hrel
    go_wp2_with fail
    go_ret
    exact ⟨rfl, hbw⟩
/-- winnowref12.event of no rows -/
theorem oevent0 (w : World) : Calls Tryd.prog 57 #[.agg #[.slice none 0 0, .slice none 0 0, .slice none 0 0, .slice none 0 0, .slice none 0 0], .slice none 0 0] w fun e w' => e = .returned (.bool true) ∧ Below w.heap.size w w' := by
  go_enter Tryd.func57, Tryd.ntmps57
  go_wp2_with fail
  go_ret
  exact ⟨rfl, (Below.refl _ w).alloc (Nat.le_refl _) _⟩
set_option maxHeartbeats 3200000 in
set_option maxRecDepth 100000 in
/-- winnowref12.Check of a plan of nothing -/
theorem ocheck0 (w : World) : Calls Tryd.prog 34 #[.agg #[.slice none 0 0, .slice none 0 0, .slice none 0 0, .slice none 0 0, .slice none 0 0]] w fun e w' => e = .returned (.int .i64 0) ∧ Below w.heap.size w w' := by
  have hb0 : Below w.heap.size w (w.alloc (.cells #[.slice none 0 0, .slice none 0 0, .slice none 0 0, .slice none 0 0, .slice none 0 0] 50)) := (Below.refl _ w).alloc (Nat.le_refl _) _
  have HB0 : Hid (Below w.heap.size w (w.alloc (.cells #[.slice none 0 0, .slice none 0 0, .slice none 0 0, .slice none 0 0, .slice none 0 0] 50)) ∧ (w.alloc (.cells #[.slice none 0 0, .slice none 0 0, .slice none 0 0, .slice none 0 0, .slice none 0 0] 50)).heap[w.heap.size]? = some (.cells #[.slice none 0 0, .slice none 0 0, .slice none 0 0, .slice none 0 0, .slice none 0 0] 50 (0, 0))) := ⟨hb0, heap_alloc_new _ _⟩
  clear hb0
  go_enter Tryd.func34, Tryd.ntmps34
  go_upto_region 1 with fail
  generalize w.alloc (.cells #[.slice none 0 0, .slice none 0 0, .slice none 0 0, .slice none 0 0, .slice none 0 0] 50) = W0 at *
  obtain ⟨i0, i1, i2, i3, i4⟩ := cells5 HB0.out.2
  go_wp2_with fail
  refine (ovars0 _).mono ?_
  rintro r w1 ⟨rfl, hb1⟩
  have HB1 : Hid (Below w.heap.size w w1 ∧ w1.heap[w.heap.size]? = some (.cells #[.slice none 0 0, .slice none 0 0, .slice none 0 0, .slice none 0 0, .slice none 0 0] 50 (0, 0))) := ⟨bel_step HB0.out.1 hb1, (hb1.block _ (blk_lt HB0.out.2)).trans HB0.out.2⟩
  clear hb1 HB0 i0 i1 i2 i3 i4
  obtain ⟨i0, i1, i2, i3, i4⟩ := cells5 HB1.out.2
  go_wp2_with fail
  refine (otags0 _).mono ?_
  rintro r w2 ⟨rfl, hb2⟩
  have HB2 : Hid (Below w.heap.size w w2 ∧ w2.heap[w.heap.size]? = some (.cells #[.slice none 0 0, .slice none 0 0, .slice none 0 0, .slice none 0 0, .slice none 0 0] 50 (0, 0))) := ⟨bel_step HB1.out.1 hb2, (hb2.block _ (blk_lt HB1.out.2)).trans HB1.out.2⟩
  clear hb2 HB1 i0 i1 i2 i3 i4
  obtain ⟨i0, i1, i2, i3, i4⟩ := cells5 HB2.out.2
  go_wp2_with fail
  clear i0 i1 i2 i3 i4
  go_loopg [3, 4] 0 (fun gq x y wr => gq = 0 ∧ x = .int .i64 0 ∧ y = .int .i64 0 ∧ Below w.heap.size w wr ∧ wr.heap[w.heap.size]? = some (.cells #[.slice none 0 0, .slice none 0 0, .slice none 0 0, .slice none 0 0, .slice none 0 0] 50 (0, 0)))
  case atStart => exact ⟨rfl, rfl, rfl, HB2.out.1, HB2.out.2⟩
  case round =>
    obtain ⟨hgk, rfl, rfl, hbw, hc⟩ := hrel
    have HB3 : Hid (Below w.heap.size w wr ∧ wr.heap[w.heap.size]? = some (.cells #[.slice none 0 0, .slice none 0 0, .slice none 0 0, .slice none 0 0, .slice none 0 0] 50 (0, 0))) := ⟨hbw, hc⟩
    clear hbw hgk HB2
    obtain ⟨i0, i1, i2, i3, i4⟩ := cells5 hc
    clear hc
    go_wp2_with fail
    refine (oevent0 _).mono ?_
    rintro r w4 ⟨rfl, hb4⟩
    have HB4 : Hid (Below w.heap.size w w4 ∧ w4.heap[w.heap.size]? = some (.cells #[.slice none 0 0, .slice none 0 0, .slice none 0 0, .slice none 0 0, .slice none 0 0] 50 (0, 0))) := ⟨bel_step HB3.out.1 hb4, (hb4.block _ (blk_lt HB3.out.2)).trans HB3.out.2⟩
    clear hb4 HB3 i0 i1 i2 i3 i4
    go_wp2_with fail
    go_loopg [5] 0 (fun gq x wr => gq = 0 ∧ x = .int .i64 0 ∧ Below w.heap.size w wr ∧ wr.heap[w.heap.size]? = some (.cells #[.slice none 0 0, .slice none 0 0, .slice none 0 0, .slice none 0 0, .slice none 0 0] 50 (0, 0)))
    case atStart => exact ⟨rfl, rfl, HB4.out.1, HB4.out.2⟩
    case round =>
      obtain ⟨hgk, rfl, hbw, hc⟩ := hrel
      obtain ⟨i0, i1, i2, i3, i4⟩ := cells5 hc
      clear hc HB4
      have HB5 : Hid (Below w.heap.size w wr) := hbw
      clear hbw
      go_wp2_with fail
      go_ret
      exact ⟨rfl, HB5.out⟩
/-- add of no rows -/
theorem oadd0 (m : Value) (ev : Int) (w : World) : Calls Tryd.prog 35 #[m, .int .i64 ev, .slice none 0 0] w fun e w' => e = .returned (.int .i64 (-1)) ∧ w' = w := by
  go_enter Tryd.func35, Tryd.ntmps35
  go_wp2_with fail
  go_ret
  exact ⟨rfl, rfl⟩
end Go.Proofs.YtelbakkgobkdaaaDoor.Vf

namespace Go.Proofs.YtelbakkgobkdaaaDoor.Vf
open Go.RowKit Go.Proofs.YtelbakkgobkdaaaDoor.Nm
/-- the plan of nothing lies in the first block, what is made of it in block mb -/
structure Oz (w W : World) (mb : Nat) : Prop where
  bel : Below w.heap.size w W
  pl : W.heap[w.heap.size]? = some (.cells #[.slice none 0 0, .slice none 0 0, .slice none 0 0, .slice none 0 0, .slice none 0 0] 50 (0, 0))
  md : W.heap[mb]? = some (.cells #[.slice none 0 0, .slice none 0 0, .slice none 0 0, .slice none 0 0, .int .i64 0, .slice none 0 0, .slice none 0 0, .slice none 0 0] 81 (0, 0))
  lt : w.heap.size < mb
theorem Oz.drew {w W : World} {mb : Nat} (h : Oz w W mb) : Oz w W.drew mb := ⟨h.bel.drew, h.pl, h.md, h.lt⟩
theorem Oz.fz {w W : World} {mb : Nat} (h : Oz w W mb) (k : Nat) : W.frozen? ⟨mb, k, none⟩ = false := by have := h.md; simp only [World.frozen?, this]; rfl
theorem Oz.set {w W : World} {mb : Nat} (h : Oz w W mb) (k : Nat) {v : Value} (hk : (#[.slice none 0 0, .slice none 0 0, .slice none 0 0, .slice none 0 0, .int .i64 0, .slice none 0 0, .slice none 0 0, .slice none 0 0] : Array Value).setIfInBounds k v = #[.slice none 0 0, .slice none 0 0, .slice none 0 0, .slice none 0 0, .int .i64 0, .slice none 0 0, .slice none 0 0, .slice none 0 0]) : Oz w (W.setCell ⟨mb, k, none⟩ v) mb :=
  ⟨h.bel.setCell (p := ⟨mb, k, none⟩) (Nat.le_of_lt h.lt) _, (heap_setCell_other W ⟨mb, k, none⟩ _ v (by have := h.lt; simp; omega)).trans h.pl, by rw [set_in h.md v, hk], h.lt⟩
set_option maxHeartbeats 6400000 in
set_option maxRecDepth 100000 in
/-- all, of a plan of nothing -/
theorem oall0 (w : World) : Calls Tryd.prog 24 #[.agg #[.slice none 0 0, .slice none 0 0, .slice none 0 0, .slice none 0 0, .slice none 0 0]] w fun e w' => ∃ b, e = .returned (.tuple #[.pointer (some ⟨b, 0, none⟩), .int .i64 0]) ∧ Below w.heap.size w w' ∧ w.heap.size ≤ b ∧ w'.heap[b]? = some (.cells #[.slice none 0 0, .slice none 0 0, .slice none 0 0, .slice none 0 0, .int .i64 (-1), .slice none 0 0, .slice none 0 0, .slice none 0 0] 81 (0, 0)) := by
  have hb0 : Below w.heap.size w (w.alloc (.cells #[.slice none 0 0, .slice none 0 0, .slice none 0 0, .slice none 0 0, .slice none 0 0] 50)) := (Below.refl _ w).alloc (Nat.le_refl _) _
  have HB0 : Hid (Below w.heap.size w (w.alloc (.cells #[.slice none 0 0, .slice none 0 0, .slice none 0 0, .slice none 0 0, .slice none 0 0] 50)) ∧ (w.alloc (.cells #[.slice none 0 0, .slice none 0 0, .slice none 0 0, .slice none 0 0, .slice none 0 0] 50)).heap[w.heap.size]? = some (.cells #[.slice none 0 0, .slice none 0 0, .slice none 0 0, .slice none 0 0, .slice none 0 0] 50 (0, 0))) := ⟨hb0, heap_alloc_new _ _⟩
  clear hb0
  go_enter Tryd.func24, Tryd.ntmps24
  go_upto_region 1 with fail
  generalize w.alloc (.cells #[.slice none 0 0, .slice none 0 0, .slice none 0 0, .slice none 0 0, .slice none 0 0] 50) = W0 at *
  obtain ⟨i0, i1, i2, i3, i4⟩ := cells5 HB0.out.2
  go_wp2_with fail
  refine (ocheck0 _).mono ?_
  rintro r w1 ⟨rfl, hb1⟩
  have HB1 : Hid (Below w.heap.size w w1 ∧ w1.heap[w.heap.size]? = some (.cells #[.slice none 0 0, .slice none 0 0, .slice none 0 0, .slice none 0 0, .slice none 0 0] 50 (0, 0))) := ⟨bel_step HB0.out.1 hb1, (hb1.block _ (blk_lt HB0.out.2)).trans HB0.out.2⟩
  clear hb1 HB0 i0 i1 i2 i3 i4
  go_upto_region 5 with fail
  have HBm : Hid (Oz w (w1.alloc (.cells #[.slice none 0 0, .slice none 0 0, .slice none 0 0, .slice none 0 0, .int .i64 0, .slice none 0 0, .slice none 0 0, .slice none 0 0] 81)) w1.heap.size) := by
    have h1 : Below w1.heap.size w1 (w1.alloc (.cells #[.slice none 0 0, .slice none 0 0, .slice none 0 0, .slice none 0 0, .int .i64 0, .slice none 0 0, .slice none 0 0, .slice none 0 0] 81)) := (Below.refl _ w1).alloc (Nat.le_refl _) _
    exact ⟨bel_step HB1.out.1 h1, (h1.block _ (blk_lt HB1.out.2)).trans HB1.out.2, heap_alloc_new _ _, blk_lt HB1.out.2⟩
  generalize hwm : w1.alloc (.cells #[.slice none 0 0, .slice none 0 0, .slice none 0 0, .slice none 0 0, .int .i64 0, .slice none 0 0, .slice none 0 0, .slice none 0 0] 81) = Wm at *
  generalize w1.heap.size = mb at *
  clear hwm HB1
  obtain ⟨i0, i1, i2, i3, i4⟩ := cells5 HBm.out.pl
  have kk : Wm.cell? ⟨mb, 0, none⟩ = some (.slice none 0 0) := cell_of (i := 0) (v := .slice none 0 0) HBm.out.md rfl
  refine wp_region_held (S := fun w' : World => w'.cell? ⟨w.heap.size, 0, none⟩ = some (.slice none 0 0) ∧ w'.cell? ⟨mb, 0, none⟩ = some (.slice none 0 0)) (by kernel_rfl) ?_
  change wpAnyH _ _ _ _ _ _ _ _ Wm.drew
  have hS : (fun w' : World => w'.cell? ⟨w.heap.size, 0, none⟩ = some (.slice none 0 0) ∧ w'.cell? ⟨mb, 0, none⟩ = some (.slice none 0 0)) Wm.drew := ⟨i0, kk⟩
  have HBd : Hid (Oz w Wm.drew mb) := HBm.out.drew
  clear HBm i0 i1 i2 i3 i4 kk
  generalize Wm.drew = Wd at *
  clear Wm
  refine tqA 0 rfl hS ?_
  refine tqA 1 rfl hS ?_
  refine tqA 2 rfl hS ?_
  refine tqA 3 rfl hS ?_
  refine tqA 4 rfl hS ?_
  refine tqA 5 rfl hS ?_
  refine tqA 6 rfl hS ?_
  refine tqA 7 rfl hS ?_
  refine tqA (v := .slice none 0 0) 8 rfl hS ?_
  refine tqA 9 rfl hS ?_
  refine tqA 10 rfl hS ?_
  refine tqA 11 rfl hS ?_
  have fz : Wd.frozen? ⟨mb, 0, none⟩ = false := HBd.out.fz 0
  have kk : Wd.cell? ⟨mb, 0, none⟩ = some (.slice none 0 0) := hS.2
  refine wpAnyH_ready (rs := [12]) (by kernel_rfl) (by simp) ?_
  refine AllReadyH.cons rfl (fun K hK => ?_) AllReadyH.nil
  go_simp
  obtain ⟨i0, i1, i2, i3, i4⟩ := cells5 (HBd.out.set 0 rfl).pl
  have kx : (Wd.setCell ⟨mb, 0, none⟩ (.slice none 0 0)).cell? ⟨mb, 0, none⟩ = some (.slice none 0 0) := cell_of (i := 0) (v := .slice none 0 0) (HBd.out.set 0 rfl).md rfl
  refine hK.out _ _ ⟨i0, kx⟩ (fun hT => ?_)
  have HBm : Hid (Oz w (Wd.setCell ⟨mb, 0, none⟩ (.slice none 0 0)) mb) := HBd.out.set 0 rfl
  clear hK K fz kk kx i0 i1 i2 i3 i4 hT hS HBd
  generalize Wd.setCell ⟨mb, 0, none⟩ (.slice none 0 0) = Wm at *
  clear Wd
  refine wpAnyH_done (by kernel_rfl) ?_ _
  go_simp
  go_upto_region 6 with fail
  obtain ⟨i0, i1, i2, i3, i4⟩ := cells5 HBm.out.pl
  have kk : Wm.cell? ⟨mb, 1, none⟩ = some (.slice none 0 0) := cell_of (i := 1) (v := .slice none 0 0) HBm.out.md rfl
  refine wp_region_held (S := fun w' : World => w'.cell? ⟨w.heap.size, 1, none⟩ = some (.slice none 0 0) ∧ w'.cell? ⟨mb, 1, none⟩ = some (.slice none 0 0)) (by kernel_rfl) ?_
  change wpAnyH _ _ _ _ _ _ _ _ Wm.drew
  have hS : (fun w' : World => w'.cell? ⟨w.heap.size, 1, none⟩ = some (.slice none 0 0) ∧ w'.cell? ⟨mb, 1, none⟩ = some (.slice none 0 0)) Wm.drew := ⟨i1, kk⟩
  have HBd : Hid (Oz w Wm.drew mb) := HBm.out.drew
  clear HBm i0 i1 i2 i3 i4 kk
  generalize Wm.drew = Wd at *
  clear Wm
  refine tqA 0 rfl hS ?_
  refine tqA 1 rfl hS ?_
  refine tqA 2 rfl hS ?_
  refine tqA 3 rfl hS ?_
  refine tqA 4 rfl hS ?_
  refine tqA 5 rfl hS ?_
  refine tqA 6 rfl hS ?_
  refine tqA 7 rfl hS ?_
  refine tqA (v := .slice none 0 0) 8 rfl hS ?_
  refine tqA 9 rfl hS ?_
  refine tqA 10 rfl hS ?_
  refine tqA 11 rfl hS ?_
  have fz : Wd.frozen? ⟨mb, 1, none⟩ = false := HBd.out.fz 1
  have kk : Wd.cell? ⟨mb, 1, none⟩ = some (.slice none 0 0) := hS.2
  refine wpAnyH_ready (rs := [12]) (by kernel_rfl) (by simp) ?_
  refine AllReadyH.cons rfl (fun K hK => ?_) AllReadyH.nil
  go_simp
  obtain ⟨i0, i1, i2, i3, i4⟩ := cells5 (HBd.out.set 1 rfl).pl
  have kx : (Wd.setCell ⟨mb, 1, none⟩ (.slice none 0 0)).cell? ⟨mb, 1, none⟩ = some (.slice none 0 0) := cell_of (i := 1) (v := .slice none 0 0) (HBd.out.set 1 rfl).md rfl
  refine hK.out _ _ ⟨i1, kx⟩ (fun hT => ?_)
  have HBm : Hid (Oz w (Wd.setCell ⟨mb, 1, none⟩ (.slice none 0 0)) mb) := HBd.out.set 1 rfl
  clear hK K fz kk kx i0 i1 i2 i3 i4 hT hS HBd
  generalize Wd.setCell ⟨mb, 1, none⟩ (.slice none 0 0) = Wm at *
  clear Wd
  refine wpAnyH_done (by kernel_rfl) ?_ _
  go_simp
  go_upto_region 7 with fail
  obtain ⟨i0, i1, i2, i3, i4⟩ := cells5 HBm.out.pl
  have kk : Wm.cell? ⟨mb, 2, none⟩ = some (.slice none 0 0) := cell_of (i := 2) (v := .slice none 0 0) HBm.out.md rfl
  refine wp_region_held (S := fun w' : World => w'.cell? ⟨w.heap.size, 2, none⟩ = some (.slice none 0 0) ∧ w'.cell? ⟨mb, 2, none⟩ = some (.slice none 0 0)) (by kernel_rfl) ?_
  change wpAnyH _ _ _ _ _ _ _ _ Wm.drew
  have hS : (fun w' : World => w'.cell? ⟨w.heap.size, 2, none⟩ = some (.slice none 0 0) ∧ w'.cell? ⟨mb, 2, none⟩ = some (.slice none 0 0)) Wm.drew := ⟨i2, kk⟩
  have HBd : Hid (Oz w Wm.drew mb) := HBm.out.drew
  clear HBm i0 i1 i2 i3 i4 kk
  generalize Wm.drew = Wd at *
  clear Wm
  refine tqA 0 rfl hS ?_
  refine tqA 1 rfl hS ?_
  refine tqA 2 rfl hS ?_
  refine tqA 3 rfl hS ?_
  refine tqA 4 rfl hS ?_
  refine tqA 5 rfl hS ?_
  refine tqA 6 rfl hS ?_
  refine tqA 7 rfl hS ?_
  refine tqA (v := .slice none 0 0) 8 rfl hS ?_
  refine tqA 9 rfl hS ?_
  refine tqA 10 rfl hS ?_
  refine tqA 11 rfl hS ?_
  have fz : Wd.frozen? ⟨mb, 2, none⟩ = false := HBd.out.fz 2
  have kk : Wd.cell? ⟨mb, 2, none⟩ = some (.slice none 0 0) := hS.2
  refine wpAnyH_ready (rs := [12]) (by kernel_rfl) (by simp) ?_
  refine AllReadyH.cons rfl (fun K hK => ?_) AllReadyH.nil
  go_simp
  obtain ⟨i0, i1, i2, i3, i4⟩ := cells5 (HBd.out.set 2 rfl).pl
  have kx : (Wd.setCell ⟨mb, 2, none⟩ (.slice none 0 0)).cell? ⟨mb, 2, none⟩ = some (.slice none 0 0) := cell_of (i := 2) (v := .slice none 0 0) (HBd.out.set 2 rfl).md rfl
  refine hK.out _ _ ⟨i2, kx⟩ (fun hT => ?_)
  have HBm : Hid (Oz w (Wd.setCell ⟨mb, 2, none⟩ (.slice none 0 0)) mb) := HBd.out.set 2 rfl
  clear hK K fz kk kx i0 i1 i2 i3 i4 hT hS HBd
  generalize Wd.setCell ⟨mb, 2, none⟩ (.slice none 0 0) = Wm at *
  clear Wd
  refine wpAnyH_done (by kernel_rfl) ?_ _
  go_simp
  go_wp2_with fail
  go_loopg [6] 0 (fun gq x wr => gq = 0 ∧ x = .int .i64 0 ∧ Oz w wr mb)
  case atStart => exact ⟨rfl, rfl, HBm.out⟩
  case round =>
    obtain ⟨hgk, rfl, hz⟩ := hrel
    have HBn : Hid (Oz w wr mb) := hz
    clear hz hgk HBm
    obtain ⟨i0, i1, i2, i3, i4⟩ := cells5 HBn.out.pl
    go_wp2_with fail
    refine (oadd0 _ _ _).mono ?_
    rintro r w' ⟨rfl, rfl⟩
    have fz : w'.frozen? ⟨mb, 4, none⟩ = false := HBn.out.fz 4
    have kk : w'.cell? ⟨mb, 4, none⟩ = some (.int .i64 0) := cell_of (i := 4) (v := .int .i64 0) HBn.out.md rfl
    have H9 : Hid (Below w.heap.size w (w'.setCell ⟨mb, 4, none⟩ (.int .i64 (-1))) ∧ (w'.setCell ⟨mb, 4, none⟩ (.int .i64 (-1))).heap[w.heap.size]? = some (.cells #[.slice none 0 0, .slice none 0 0, .slice none 0 0, .slice none 0 0, .slice none 0 0] 50 (0, 0)) ∧ (w'.setCell ⟨mb, 4, none⟩ (.int .i64 (-1))).heap[mb]? = some (.cells #[.slice none 0 0, .slice none 0 0, .slice none 0 0, .slice none 0 0, .int .i64 (-1), .slice none 0 0, .slice none 0 0, .slice none 0 0] 81 (0, 0)) ∧ w.heap.size ≤ mb) :=
      ⟨HBn.out.bel.setCell (p := ⟨mb, 4, none⟩) (Nat.le_of_lt HBn.out.lt) _, (heap_setCell_other w' ⟨mb, 4, none⟩ _ _ (by have := HBn.out.lt; simp; omega)).trans HBn.out.pl, set_in HBn.out.md _, Nat.le_of_lt HBn.out.lt⟩
    clear HBn i0 i1 i2 i3 i4
    go_wp2_with fail
    refine bodyPost_ret (v := .tuple #[.pointer (some ⟨mb, 0, none⟩), .int .i64 0]) (by simp [results, Tryd.results24, go_sem]) rfl ?_
    exact ⟨mb, rfl, H9.out.1, H9.out.2.2.2, H9.out.2.2.1⟩
end Go.Proofs.YtelbakkgobkdaaaDoor.Vf

namespace Go.Proofs.YtelbakkgobkdaaaDoor.Vf
open Go.RowKit Go.Proofs.YtelbakkgobkdaaaDoor.Nm
set_option maxHeartbeats 3200000 in
set_option maxRecDepth 100000 in
/-- Make, of a plan of nothing -/
theorem omake0 (w : World) : Calls Tryd.prog 16 #[.agg #[.slice none 0 0, .slice none 0 0, .slice none 0 0, .slice none 0 0, .slice none 0 0]] w fun e w' => e = .returned (.tuple #[.agg #[.slice none 0 0, .slice none 0 0, .slice none 0 0, .slice none 0 0, .int .i64 (-1), .slice none 0 0], .int .i64 0]) ∧ Below w.heap.size w w' := by
  have HB0 : Hid _ := al2 w (.cells #[.slice none 0 0, .slice none 0 0, .slice none 0 0, .slice none 0 0, .slice none 0 0] 50) (.cells #[.slice none 0 0, .slice none 0 0, .slice none 0 0, .slice none 0 0, .int .i64 0, .slice none 0 0] 27)
  go_enter Tryd.func16, Tryd.ntmps16
  go_upto_region 1 with fail
  generalize (w.alloc (.cells #[.slice none 0 0, .slice none 0 0, .slice none 0 0, .slice none 0 0, .slice none 0 0] 50)).alloc (.cells #[.slice none 0 0, .slice none 0 0, .slice none 0 0, .slice none 0 0, .int .i64 0, .slice none 0 0] 27) = W0 at *
  obtain ⟨i0, i1, i2, i3, i4⟩ := cells5 HB0.out.2.1
  go_wp2_with fail
  refine (oall0 _).mono ?_
  rintro r w1 ⟨b, rfl, hb1, hb2, hb3⟩
  clear i0 i1 i2 i3 i4
  have hbx : w1.heap[w.heap.size + 1]? = some (.cells #[.slice none 0 0, .slice none 0 0, .slice none 0 0, .slice none 0 0, .int .i64 0, .slice none 0 0] 27 (0, 0)) := (hb1.block _ (blk_lt HB0.out.2.2)).trans HB0.out.2.2
  obtain ⟨m0, m1, m2, m3, m4, m5⟩ := cells6 hbx
  have c0 : w1.cell? ⟨b, 0, none⟩ = some (.slice none 0 0) := cell_of (i := 0) (v := .slice none 0 0) hb3 rfl
  have c1 : w1.cell? ⟨b, 1, none⟩ = some (.slice none 0 0) := cell_of (i := 1) (v := .slice none 0 0) hb3 rfl
  have c2 : w1.cell? ⟨b, 2, none⟩ = some (.slice none 0 0) := cell_of (i := 2) (v := .slice none 0 0) hb3 rfl
  have c3 : w1.cell? ⟨b, 3, none⟩ = some (.slice none 0 0) := cell_of (i := 3) (v := .slice none 0 0) hb3 rfl
  have c4 : w1.cell? ⟨b, 4, none⟩ = some (.int .i64 (-1)) := cell_of (i := 4) (v := .int .i64 (-1)) hb3 rfl
  have c5 : w1.cell? ⟨b, 5, none⟩ = some (.slice none 0 0) := cell_of (i := 5) (v := .slice none 0 0) hb3 rfl
  have HB1 : Hid (Below w.heap.size w w1 ∧ w1.heap[w.heap.size + 1]? = some (.cells #[.slice none 0 0, .slice none 0 0, .slice none 0 0, .slice none 0 0, .int .i64 0, .slice none 0 0] 27 (0, 0))) := ⟨bel_step HB0.out.1 hb1, hbx⟩
  clear hb1 hb2 hb3 hbx HB0
  go_wp2_with (refine wpList_store_row rfl 27 _ _ rfl (w.heap.size + 1) _ rfl rfl 27 _ HB1.out.2 (by kernel_rfl) rfl (by kernel_rfl) ?_)
  have hr := setRow_heap _ _ _ #[Value.slice none 0 0, .slice none 0 0, .slice none 0 0, .slice none 0 0, .int .i64 (-1), .slice none 0 0] _ _ HB1.out.2
  obtain ⟨y0, y1, y2, y3, y4, y5⟩ := cells6 hr
  refine bodyPost_ret (v := .tuple #[.agg #[.slice none 0 0, .slice none 0 0, .slice none 0 0, .slice none 0 0, .int .i64 (-1), .slice none 0 0], .int .i64 0]) (by simp [results, Tryd.results16, go_sem, y0, y1, y2, y3, y4, y5]) rfl ?_
  exact ⟨rfl, below_setRow HB1.out.1 (by omega)⟩
end Go.Proofs.YtelbakkgobkdaaaDoor.Vf

namespace Go.Proofs.YtelbakkgobkdaaaDoor.Vf
open Go.ChangeShapes Go.WideShapes Go.ChangeAt Go.RowKit Go.Deep

section
variable {H : Type} {enc : TypeId × Value → H} {W : World}
set_option maxRecDepth 100000 in
/-- a program that is handed in, and what can be read of it -/
abbrev Hp (W : World) : Type := { q : PV × Pg // RdPg W q.1 q.2 }
/-- its cells -/
def hpC (x : Hp W) : List Value := (pvC x.1.1 x.1.2).toList
theorem one_prog (n : Nat) (cs : List Value) (y : DataW H × List MemPlace) (h : DataW.trod enc Tryd.prog W 0 (fun _ => true) true n 27 cs = some y) : ∃ x : Hp W, cs = hpC x := by
  obtain ⟨xs, n, _, hxy, hl, hxl, hfs⟩ := DataW.trod_struct Tryd.underlying27 h
  rw [cellsPg] at hl
  have hxl6 : xs.length = 6 := hxl
  obtain ⟨y0, y1, y2, y3, y4, y5, rfl⟩ := six hxl6
  obtain ⟨a0, a1, a2, a3, a4, a5, hcl⟩ := six hl
  subst hcl
  have g0 := hfs 0 _ rfl
  have g1 := hfs 1 _ rfl
  have g2 := hfs 2 _ rfl
  have g3 := hfs 3 _ rfl
  have g4 := hfs 4 _ rfl
  have g5 := hfs 5 _ rfl
  simp [cellsBs, cellsVs, cellsIs, cellsCs, cellsInt] at g0 g1 g2 g3 g4 g5
  obtain ⟨qo, n0, qc, rfl, t0⟩ := slice_shape Tryd.underlying22 g0
  obtain ⟨vo, n1, vc, rfl, t1⟩ := slice_shape Tryd.underlying23 g1
  obtain ⟨tto, n2, tc, rfl, t2⟩ := slice_shape Tryd.underlying24 g2
  obtain ⟨oo, n3, oc, rfl, t3⟩ := slice_shape Tryd.underlying24 g3
  obtain ⟨ms, e4, -, -⟩ := DataW.trod_int Tryd.underlying3 g4
  obtain ⟨co, n5, cc, rfl, t5⟩ := slice_shape Tryd.underlying25 g5
  haveI : Inhabited Ins := ⟨Ins.zero⟩
  obtain ⟨l0, rfl, r0, -⟩ := open_rowsV (fun b : Bool => [.bool b]) (fun _ => rfl) (by decide) Tryd.underlying22 cellsBo one_bool t0
  obtain ⟨l1, rfl, r1, -⟩ := open_rowsV (fun x : Int × Int × Int => [.int .i64 x.1, .int .i64 x.2.1, .int .i64 x.2.2]) (fun _ => rfl) (by decide) Tryd.underlying23 cellsVa one_var t1
  obtain ⟨l2, rfl, r2, -, -⟩ := open_intsV t2
  obtain ⟨l3, rfl, r3, -, -⟩ := open_intsV t3
  obtain ⟨l5, rfl, r5, -⟩ := open_rowsV (fun x : Ins => [.int .i64 x.op, .int .i64 x.a, .int .i64 x.b, .int .i64 x.c, .int .i64 x.d]) (fun _ => rfl) (by decide) Tryd.underlying25 cellsIn one_ins t5
  simp only [List.cons.injEq, and_true] at e4
  subst e4
  refine ⟨⟨(⟨qo, qc, vo, vc, tto, tc, oo, oc, co, cc⟩, ⟨l0, l1, l2, l3, ms, l5⟩), ⟨?_, r1, r2, r3, r5⟩⟩, rfl⟩
  · have e : bC l0 = l0.flatMap fun b : Bool => [.bool b] := List.map_eq_flatMap
    show Rd W qo (bC l0)
    rw [e]
    exact r0
instance : Inhabited (Hp W) := ⟨⟨(⟨none, 0, none, 0, none, 0, none, 0, none, 0⟩, ⟨[], [], [], [], 0, []⟩), rd_nil _ _, rd_nil _ _, rd_nil _ _, rd_nil _ _, rd_nil _ _⟩⟩
theorem hpC_len (x : Hp W) : (hpC x).length = 6 := rfl
/-- programs that are handed in -/
theorem open_progs {a : Option Addr} {len cap : Nat} {d : DataW H} {p : List MemPlace} (h : DataW.Trod enc Tryd.prog W 0 (fun _ => true) true 43 (.slice a len cap) d p) :
    ∃ l : List (Hp W), len = l.length ∧ Rd W a (l.flatMap hpC) ∧ l.length ≤ maxLen :=
  open_rowsV hpC hpC_len (by decide) Tryd.underlying43 cellsPg one_prog h
end
end Go.Proofs.YtelbakkgobkdaaaDoor.Vf

namespace Go.Proofs.YtelbakkgobkdaaaDoor.Vf
open Go.RowKit Go.Proofs.YtelbakkgobkdaaaDoor.Nm

/-- numbers that are kept, and those that are wanted -/
structure En where
  kb : Nat
  xs : List Int
  o : Option Addr
  c : Nat
def kV (e : En) : Value := .slice (some ⟨e.kb, 0, none⟩) e.xs.length e.xs.length
def wV (e : En) : Value := .slice e.o e.xs.length e.c
/-- numbers that can be read, in a block of which P is true -/
def Rk (W : World) (o : Option Addr) (l : List Value) (P : Nat → Prop) : Prop := ∀ (k : Nat) (x : Value), l[k]? = some x → ∃ g f, o = some ⟨g, f, none⟩ ∧ g < W.heap.size ∧ P g ∧ W.cell? ⟨g, f + k, none⟩ = some x
/-- blocks that are not written -/
def Pw (v3 v4 : Value) (es : List En) (g : Nat) : Prop := v3.ownBlock ≠ some g ∧ v4.ownBlock ≠ some g ∧ g ∉ es.map (·.kb)
section
variable {W w w' : World} {o : Option Addr} {l : List Value} {P P' : Nat → Prop} {v3 v4 v3' v4' : Value} {es : List En} {n3 n4 : Nat}
theorem Rk.rd (h : Rk w o l P) : Rd w o l := fun k x hx => by
  obtain ⟨g, f, h1, h2, _, h3⟩ := h k x hx
  exact ⟨g, f, h1, h2, h3⟩
theorem Rk.mono (h : Rk w o l P) (hb : ∀ g, g < w.heap.size → P g → P' g ∧ w'.heap[g]? = w.heap[g]?) (hs : w.heap.size ≤ w'.heap.size) : Rk w' o l P' := fun k x hx => by
  obtain ⟨g, f, h1, h2, h3, h4⟩ := h k x hx
  obtain ⟨h5, h6⟩ := hb g h2 h3
  exact ⟨g, f, h1, Nat.lt_of_lt_of_le h2 hs, h5, (World.cell?_of_block (a := ⟨g, f + k, none⟩) h6).trans h4⟩
theorem Rk.below (h : Rk w o l P) (hb : Below w.heap.size w w') : Rk w' o l P := h.mono (fun g hg hp => ⟨hp, hb.block g hg⟩) hb.size
theorem gone_blk {v v' : Value} (hG : Gone w v w' v') {g : Nat} (hg : g < w.heap.size) (hn : v.ownBlock ≠ some g) : w'.heap[g]? = w.heap[g]? := hG.1.block g hg (fun e => hn e.symm)
theorem gone_new {v v' : Value} (hG : Gone w v w' v') {g : Nat} (hg : g < w.heap.size) (hn : v.ownBlock ≠ some g) : v'.ownBlock ≠ some g := by
  rcases hG.own with e | e
  · rw [e]; exact hn
  · intro h
    have := e g h
    omega
theorem Rk.gone3 (h : Rk w o l (Pw v3 v4 es)) (hG : Gone w v3 w' v3') : Rk w' o l (Pw v3' v4 es) :=
  h.mono (fun _ hg hp => ⟨⟨gone_new hG hg hp.1, hp.2⟩, gone_blk hG hg hp.1⟩) hG.1.size
theorem Rk.gone4 (h : Rk w o l (Pw v3 v4 es)) (hG : Gone w v4 w' v4') : Rk w' o l (Pw v3 v4' es) :=
  h.mono (fun _ hg hp => ⟨⟨hp.1, gone_new hG hg hp.2.1, hp.2.2⟩, gone_blk hG hg hp.2.1⟩) hG.1.size
theorem Rk.put {e1 e2 : En} (h : Rk w o l (Pw v3 v4 es)) (hb : Below w.heap.size w w') (h1 : w.heap.size ≤ e1.kb) (h2 : w.heap.size ≤ e2.kb) : Rk w' o l (Pw v3 v4 (es ++ [e1, e2])) :=
  h.mono (fun g hg hp => ⟨⟨hp.1, hp.2.1, by
    simp only [List.map_append, List.map_cons, List.map_nil, List.mem_append, List.mem_cons, List.not_mem_nil, or_false, not_or]
    exact ⟨hp.2.2, by omega, by omega⟩⟩, hb.block g hg⟩) hb.size
/-- the law at work -/
structure Ow (W w : World) (v3 : Value) (n3 : Nat) (v4 : Value) (n4 : Nat) (es : List En) : Prop where
  bel : Below W.heap.size W w
  o3 : w.ownsRow W.heap.size 24 1 v3 n3 ((es.map kV).take n3)
  o4 : w.ownsRow W.heap.size 24 1 v4 n4 ((es.map wV).take n4)
  ne : ∀ g, v3.ownBlock = some g → v4.ownBlock ≠ some g
  kp : ∀ e ∈ es, Rf w e.kb (iC e.xs) ∧ W.heap.size ≤ e.kb
  nd : (es.map (·.kb)).Nodup
  wt : ∀ e ∈ es, Rk w e.o (iC e.xs) (Pw v3 v4 es)
  ln : ∀ e ∈ es, e.xs.length ≤ 524288
theorem rf_lt {b : Nat} (h : Rf w b l) : b < w.heap.size := by
  obtain ⟨_, cs, h2⟩ := h
  exact (Array.getElem?_eq_some_iff.1 h2).1
theorem own_ne {base n b : Nat} {v : Value} {xs : List Value} (h : w.ownsRow base 24 1 v n xs) (hr : Rf w b l) : v.ownBlock ≠ some b := by
  intro e
  rcases h.2 with ⟨rfl, _⟩ | ⟨g, cap, cur, rfl, _, h3, _⟩
  · cases e
  · cases e
    obtain ⟨_, cs, h2⟩ := hr
    rw [h3] at h2
    cases h2
theorem Ow.below (h : Ow W w v3 n3 v4 n4 es) (hb : Below w.heap.size w w') : Ow W w' v3 n3 v4 n4 es :=
  ⟨h.bel.trans (hb.mono h.bel.size), own_below h.o3 hb, own_below h.o4 hb, h.ne, fun e he => ⟨(h.kp e he).1.below hb, (h.kp e he).2⟩, h.nd, fun e he => (h.wt e he).below hb, h.ln⟩
theorem Ow.put {e1 e2 : En} (h : Ow W w v3 n3 v4 n4 es) (l3 : n3 ≤ es.length) (l4 : n4 ≤ es.length) (hb : Below w.heap.size w w') (h1 : w.heap.size ≤ e1.kb) (h2 : w.heap.size ≤ e2.kb) (hne : e1.kb ≠ e2.kb)
    (r1 : Rf w' e1.kb (iC e1.xs)) (r2 : Rf w' e2.kb (iC e2.xs)) (k1 : Rk w e1.o (iC e1.xs) (Pw v3 v4 es)) (k2 : Rk w e2.o (iC e2.xs) (Pw v3 v4 es)) (m1 : e1.xs.length ≤ 524288) (m2 : e2.xs.length ≤ 524288) : Ow W w' v3 n3 v4 n4 (es ++ [e1, e2]) := by
  have hb' := h.below hb
  have hs := h.bel.size
  refine ⟨hb'.bel, ?_, ?_, h.ne, fun e he => ?_, ?_, fun e he => ?_, fun e he => ?_⟩
  · rw [List.map_append, List.take_append_of_le_length (by simpa using l3)]
    exact hb'.o3
  · rw [List.map_append, List.take_append_of_le_length (by simpa using l4)]
    exact hb'.o4
  · simp only [List.mem_append, List.mem_cons, List.not_mem_nil, or_false] at he
    rcases he with e' | rfl | rfl
    · exact hb'.kp e e'
    · exact ⟨r1, by omega⟩
    · exact ⟨r2, by omega⟩
  · rw [List.map_append, List.nodup_append]
    refine ⟨h.nd, by simp [hne], fun a ha b hb2 => ?_⟩
    obtain ⟨e, he, rfl⟩ := List.mem_map.1 ha
    have hlt := rf_lt (h.kp e he).1
    simp only [List.map_cons, List.map_nil, List.mem_cons, List.not_mem_nil, or_false] at hb2
    rcases hb2 with rfl | rfl <;> omega
  · simp only [List.mem_append, List.mem_cons, List.not_mem_nil, or_false] at he
    rcases he with e' | rfl | rfl
    · exact (h.wt e e').put hb h1 h2
    · exact k1.put hb h1 h2
    · exact k2.put hb h1 h2
  · simp only [List.mem_append, List.mem_cons, List.not_mem_nil, or_false] at he
    rcases he with e' | rfl | rfl
    · exact h.ln e e'
    · exact m1
    · exact m2
theorem Ow.app3 {m3 : Nat} (h : Ow W w v3 n3 v4 n4 es) (hG : Gone w v3 w' v3') (ho : w'.ownsRow W.heap.size 24 1 v3' m3 ((es.map kV).take m3)) : Ow W w' v3' m3 v4 n4 es := by
  have h3 := World.ownsRow.lt h.o3
  refine ⟨?_, ho, ?_, fun g hg hg4 => ?_, fun e he => ⟨?_, (h.kp e he).2⟩, h.nd, fun e he => (h.wt e he).gone3 hG, h.ln⟩
  · refine h.bel.trans ⟨hG.1.os, hG.1.tape, hG.1.output, hG.1.size, fun k hk => gone_blk hG (Nat.lt_of_lt_of_le hk h.bel.size) fun e => ?_⟩
    have := (h3 k e).1
    omega
  · exact own_grown h.o4 hG.1 fun k hk e => h.ne k e hk
  · have h4 := (World.ownsRow.lt h.o4 g hg4).2
    exact gone_new hG h4 (fun e => h.ne g e hg4) hg
  · have hr := (h.kp e he).1
    exact hr.same (gone_blk hG (rf_lt hr) (own_ne h.o3 hr)) hG.1.size
theorem Ow.app4 {m4 : Nat} (h : Ow W w v3 n3 v4 n4 es) (hG : Gone w v4 w' v4') (ho : w'.ownsRow W.heap.size 24 1 v4' m4 ((es.map wV).take m4)) : Ow W w' v3 n3 v4' m4 es := by
  have h4 := World.ownsRow.lt h.o4
  refine ⟨?_, ?_, ho, fun g hg hg4 => ?_, fun e he => ⟨?_, (h.kp e he).2⟩, h.nd, fun e he => (h.wt e he).gone4 hG, h.ln⟩
  · refine h.bel.trans ⟨hG.1.os, hG.1.tape, hG.1.output, hG.1.size, fun k hk => gone_blk hG (Nat.lt_of_lt_of_le hk h.bel.size) fun e => ?_⟩
    have := (h4 k e).1
    omega
  · exact own_grown h.o3 hG.1 fun k hk e => h.ne k hk e
  · have h3 := (World.ownsRow.lt h.o3 g hg).2
    exact gone_new hG h3 (fun e => h.ne g hg e) hg4
  · have hr := (h.kp e he).1
    exact hr.same (gone_blk hG (rf_lt hr) (own_ne h.o4 hr)) hG.1.size
/-- a box is not written -/
theorem gone_box {base n b : Nat} {v v' : Value} {xs : List Value} {cs : Array Value} {T : TypeId} (h : w.ownsRow base 24 1 v n xs) (hG : Gone w v w' v') (hT : T ≠ 24) (hb : w.heap[b]? = some (.cells cs T (0, 0))) : w'.heap[b]? = some (.cells cs T (0, 0)) := by
  rw [gone_blk hG (blk_lt hb) (fun e => ?_)]
  · exact hb
  · rcases h.2 with ⟨rfl, _⟩ | ⟨g, cap, cur, rfl, _, h3, _⟩
    · cases e
    · cases e
      rw [h3] at hb
      cases hb
      exact hT rfl
end
end Go.Proofs.YtelbakkgobkdaaaDoor.Vf

namespace Go.Proofs.YtelbakkgobkdaaaDoor.Vf
open Go.RowKit Go.Proofs.YtelbakkgobkdaaaDoor.Nm

/-- the numbers of entry j: of those ahead of i, and of the first k of i, what is written over them -/
def cu (i k j : Nat) (xs : List Int) : List Int := (List.range xs.length).map fun t => if j < i ∨ (j = i ∧ t < k) then 0 - 1000 * (j : Int) - (t : Int) else xs.getD t 0
theorem cu_len (i k j : Nat) (xs : List Int) : (cu i k j xs).length = xs.length := by simp [cu]
theorem cu_at {i k j t : Nat} {xs : List Int} (ht : t < xs.length) : (cu i k j xs)[t]? = some (if j < i ∨ (j = i ∧ t < k) then 0 - 1000 * (j : Int) - (t : Int) else xs.getD t 0) := by simp [cu, ht]
theorem cu_old {i j : Nat} {xs : List Int} (h : i ≤ j) : cu i 0 j xs = xs := by
  apply List.ext_getElem?
  intro t
  by_cases ht : t < xs.length
  · rw [cu_at ht, if_neg (by omega), List.getD_eq_getElem?_getD, List.getElem?_eq_getElem ht]
    rfl
  · rw [List.getElem?_eq_none (by rw [cu_len]; omega), List.getElem?_eq_none (by omega)]
theorem cu_next {i j m : Nat} {xs : List Int} (h : j = i → xs.length = m) : cu i m j xs = cu (i + 1) 0 j xs := by
  unfold cu
  refine List.map_congr_left fun t ht => ?_
  have ht' := List.mem_range.1 ht
  have e : (j < i ∨ (j = i ∧ t < m)) ↔ (j < i + 1 ∨ (j = i + 1 ∧ t < 0)) := by
    by_cases hj : j = i
    · have := h hj
      omega
    · omega
  by_cases hc : j < i ∨ (j = i ∧ t < m)
  · rw [if_pos hc, if_pos (e.1 hc)]
  · rw [if_neg hc, if_neg (fun q => hc (e.2 q))]
theorem cu_other {i k j : Nat} {xs : List Int} (h : j ≠ i) : cu i (k + 1) j xs = cu i k j xs := by
  unfold cu
  refine List.map_congr_left fun t _ => ?_
  have e : (j < i ∨ (j = i ∧ t < k + 1)) ↔ (j < i ∨ (j = i ∧ t < k)) := by omega
  by_cases hc : j < i ∨ (j = i ∧ t < k + 1)
  · rw [if_pos hc, if_pos (e.1 hc)]
  · rw [if_neg hc, if_neg (fun q => hc (e.2 q))]
theorem cu_step {i k t : Nat} {xs : List Int} (ht : t < xs.length) (hne : t ≠ k) : (cu i (k + 1) i xs)[t]? = (cu i k i xs)[t]? := by
  rw [cu_at ht, cu_at ht]
  have e : (i < i ∨ (i = i ∧ t < k + 1)) ↔ (i < i ∨ (i = i ∧ t < k)) := by omega
  by_cases hc : i < i ∨ (i = i ∧ t < k + 1)
  · rw [if_pos hc, if_pos (e.1 hc)]
  · rw [if_neg hc, if_neg (fun q => hc (e.2 q))]
theorem cu_new {i k : Nat} {xs : List Int} (hk : k < xs.length) : (cu i (k + 1) i xs)[k]? = some (0 - 1000 * (i : Int) - (k : Int)) := by
  rw [cu_at hk, if_pos (by omega)]
theorem cu_all {n j t : Nat} {xs : List Int} (hj : j < n) (ht : t < xs.length) : (cu n 0 j xs)[t]? = some (0 - 1000 * (j : Int) - (t : Int)) := by
  rw [cu_at ht, if_pos (by omega)]
/-- the law at work: lists are written over -/
structure Ov (W w : World) (v3 v4 : Value) (es : List En) (i k : Nat) : Prop where
  bel : Below W.heap.size W w
  o3 : w.ownsRow W.heap.size 24 1 v3 es.length (es.map kV)
  o4 : w.ownsRow W.heap.size 24 1 v4 es.length (es.map wV)
  kp : ∀ j e, es[j]? = some e → Rf w e.kb (iC (cu i k j e.xs)) ∧ W.heap.size ≤ e.kb
  nd : (es.map (·.kb)).Nodup
  wt : ∀ e ∈ es, Rk w e.o (iC e.xs) (Pw v3 v4 es)
  ln : ∀ e ∈ es, e.xs.length ≤ 524288
section
variable {W w w' : World} {v3 v4 : Value} {es : List En} {i k : Nat} {e : En}
theorem Ov.of (h : Ow W w v3 es.length v4 es.length es) : Ov W w v3 v4 es 0 0 := by
  refine ⟨h.bel, ?_, ?_, fun j e he => ?_, h.nd, h.wt, h.ln⟩
  · have := h.o3
    rw [List.take_of_length_le (by simp)] at this
    exact this
  · have := h.o4
    rw [List.take_of_length_le (by simp)] at this
    exact this
  · rw [cu_old (Nat.zero_le _)]
    exact h.kp e (List.mem_of_getElem? he)
theorem Ov.below (h : Ov W w v3 v4 es i k) (hb : Below w.heap.size w w') : Ov W w' v3 v4 es i k :=
  ⟨h.bel.trans (hb.mono h.bel.size), own_below h.o3 hb, own_below h.o4 hb, fun j e he => ⟨(h.kp j e he).1.below hb, (h.kp j e he).2⟩, h.nd, fun e he => (h.wt e he).below hb, h.ln⟩
theorem Ov.next (h : Ov W w v3 v4 es i k) (he : es[i]? = some e) (hk : e.xs.length = k) : Ov W w v3 v4 es (i + 1) 0 := by
  refine ⟨h.bel, h.o3, h.o4, fun j e' he' => ?_, h.nd, h.wt, h.ln⟩
  have := h.kp j e' he'
  rw [cu_next (m := k) (fun hj => by subst hj; rw [he] at he'; cases he'; exact hk)] at this
  exact this
theorem own_at {n : Nat} {v : Value} {xs : List Value} {x : Value} (h : w.ownsRow W.heap.size 24 1 v n xs) (hx : xs[i]? = some x) : ∃ b c, v = .slice (some ⟨b, 0, none⟩) n c ∧ w.cell? ⟨b, i, none⟩ = some x := by
  have hl := h.1
  have hi := (List.getElem?_eq_some_iff.1 hx).1
  obtain ⟨b, cap, cur, h1, _, h2, _, _, _, h3⟩ := own_block h (by omega)
  refine ⟨b, cap, h1, ?_⟩
  have : cur[i]? = some x := by
    have := congrArg (fun z : List Value => z[i]?) h3
    simp only [List.getElem?_take_of_lt (show i < n * 1 by omega), hx] at this
    exact this
  simp [World.cell?, h2, this]
theorem Ov.at3 (h : Ov W w v3 v4 es i k) {j : Nat} (he : es[j]? = some e) : ∃ b c, v3 = .slice (some ⟨b, 0, none⟩) es.length c ∧ w.cell? ⟨b, j, none⟩ = some (.slice (some ⟨e.kb, 0, none⟩) e.xs.length e.xs.length) :=
  own_at (x := kV e) h.o3 (by simp [he])
theorem Ov.at4 (h : Ov W w v3 v4 es i k) {j : Nat} (he : es[j]? = some e) : ∃ b c, v4 = .slice (some ⟨b, 0, none⟩) es.length c ∧ w.cell? ⟨b, j, none⟩ = some (.slice e.o e.xs.length e.c) :=
  own_at (x := wV e) h.o4 (by simp [he])
theorem rf_cell {b : Nat} {l : List Int} (h : Rf w b (iC l)) {t : Nat} {x : Int} (hx : l[t]? = some x) : w.cell? ⟨b, t, none⟩ = some (.int .i64 x) := by
  obtain ⟨g, f, e, _, hc⟩ := h.1 t (.int .i64 x) (by unfold iC; simp [hx])
  cases e
  rw [Nat.zero_add] at hc
  exact hc
theorem rf_fz {b : Nat} {l : List Value} (h : Rf w b l) (j : Nat) : w.frozen? ⟨b, j, none⟩ = false := by
  obtain ⟨_, cs, h2⟩ := h
  simp [World.frozen?, h2]
theorem sc_same {b t : Nat} {cs : Array Value} {T : TypeId} {v : Value} (h : w.heap[b]? = some (.cells cs T (0, 0))) (ht : t < cs.size) : (w.setCell ⟨b, t, none⟩ v).cell? ⟨b, t, none⟩ = some v := by
  have := set_in (j := t) h v
  unfold World.cell?
  rw [this]
  show (cs.setIfInBounds t v)[t]? = some v
  rw [Array.getElem?_setIfInBounds]
  simp [ht]
theorem sc_ne {b t k : Nat} {cs : Array Value} {T : TypeId} {v : Value} (h : w.heap[b]? = some (.cells cs T (0, 0))) (ht : t ≠ k) : (w.setCell ⟨b, k, none⟩ v).cell? ⟨b, t, none⟩ = w.cell? ⟨b, t, none⟩ := by
  have := set_in (j := k) h v
  unfold World.cell?
  rw [this, h]
  show (cs.setIfInBounds k v)[t]? = cs[t]?
  rw [Array.getElem?_setIfInBounds, if_neg (fun e => ht e.symm)]
theorem Ov.set (h : Ov W w v3 v4 es i k) (he : es[i]? = some e) (hk : k < e.xs.length) : Ov W (w.setCell ⟨e.kb, k, none⟩ (.int .i64 (0 - 1000 * (i : Int) - (k : Int)))) v3 v4 es i (k + 1) := by
  obtain ⟨hr, hge⟩ := h.kp i e he
  have ho : ∀ g, g ≠ e.kb → (w.setCell ⟨e.kb, k, none⟩ (.int .i64 (0 - 1000 * (i : Int) - (k : Int)))).heap[g]? = w.heap[g]? := fun g hg => heap_setCell_other w ⟨e.kb, k, none⟩ _ _ hg
  have hsz : (w.setCell ⟨e.kb, k, none⟩ (.int .i64 (0 - 1000 * (i : Int) - (k : Int)))).heap.size = w.heap.size := by simp [World.setCell]
  have hown : ∀ {v : Value} {n : Nat} {xs : List Value}, w.ownsRow W.heap.size 24 1 v n xs → (w.setCell ⟨e.kb, k, none⟩ (.int .i64 (0 - 1000 * (i : Int) - (k : Int)))).ownsRow W.heap.size 24 1 v n xs := fun {v n xs} hv => by
    have hne := own_ne hv hr
    rcases hv with ⟨h1, h2 | ⟨g, cap, cur, rfl, h3, h4, h5⟩⟩
    · exact ⟨h1, Or.inl h2⟩
    · exact ⟨h1, Or.inr ⟨g, cap, cur, rfl, h3, (ho g (fun e => hne (by rw [e]; rfl))).trans h4, h5⟩⟩
  refine ⟨h.bel.setCell (p := ⟨e.kb, k, none⟩) hge _, hown h.o3, hown h.o4, fun j e' he' => ?_, h.nd, fun e' he' => ?_, h.ln⟩
  · obtain ⟨hr', hge'⟩ := h.kp j e' he'
    by_cases hj : j = i
    · subst hj
      rw [he] at he'
      cases he'
      refine ⟨⟨fun t x hx => ?_, ?_⟩, hge⟩
      · have ht : t < e.xs.length := by
          have := (List.getElem?_eq_some_iff.1 hx).1
          unfold iC at this
          rw [List.length_map, cu_len] at this
          exact this
        refine ⟨e.kb, 0, rfl, by rw [hsz]; exact rf_lt hr, ?_⟩
        rw [Nat.zero_add]
        unfold iC at hx
        rw [List.getElem?_map] at hx
        obtain ⟨cs, hcs⟩ := hr.2
        by_cases htk : t = k
        · subst htk
          rw [cu_new ht] at hx
          cases hx
          have hc := rf_cell hr (cu_at (i := j) (k := t) (j := j) ht)
          have hlt : t < cs.size := by
            simp only [World.cell?, hcs] at hc
            exact (Array.getElem?_eq_some_iff.1 hc).1
          exact sc_same hcs hlt
        · have hc := rf_cell hr (cu_at (i := j) (k := k) (j := j) ht)
          rw [cu_step ht htk, cu_at ht] at hx
          cases hx
          exact (sc_ne hcs htk).trans hc
      · obtain ⟨cs, hcs⟩ := hr.2
        exact ⟨_, set_in hcs _⟩
    · rw [cu_other hj]
      refine ⟨hr'.same (ho _ fun hkb => ?_) (by rw [hsz]; exact Nat.le_refl _), hge'⟩
      have l1 := (List.getElem?_eq_some_iff.1 he).1
      have l2 := (List.getElem?_eq_some_iff.1 he').1
      have hi2 : (es.map (·.kb))[i]? = some e.kb := by simp [he]
      have hj2 : (es.map (·.kb))[j]? = some e.kb := by simp [he', hkb]
      obtain ⟨p1, p2⟩ := List.getElem?_eq_some_iff.1 hi2
      obtain ⟨p3, p4⟩ := List.getElem?_eq_some_iff.1 hj2
      exact hj ((List.getElem_inj h.nd).1 (p4.trans p2.symm))
  · refine (h.wt e' he').mono (fun g hg hp => ⟨hp, ho g fun hgk => hp.2.2 ?_⟩) (by rw [hsz]; exact Nat.le_refl _)
    rw [hgk]
    exact List.mem_map.2 ⟨e, List.mem_of_getElem? he, rfl⟩
/-- append behind a list that has no room -/
theorem append_full {P : Program} (w : World) {ops : Array Oper} {rest : List Oper} {o : Oper} {a : Act} {Q : Exit → Act → World → Prop} (hgd : o.guard = none) (s x : Operand) (t : TypeId)
    (ho : o.op = .call { callee := .builtin .append, args := #[s, x], argTypes := #[t, t] })
    (e : TypeId) (i : TypeInfo) (z : Value) (bytes : Nat) (ht : P.underlying t = some (.slice e)) (hi : P.info? e = some i) (hz : i.zero = some z) (hsize : i.size = 1) (hby : i.bytes = bytes)
    (g n : Nat) (xs : List Value) (hs : a.eval s = .slice (some ⟨g, 0, none⟩) n n) (hl0 : xs.length = n) (hr : Rd w (some ⟨g, 0, none⟩) xs)
    (ad : Addr) (m c : Nat) (news : List Value) (hx : a.eval x = .slice (some ad) m c) (hl : news.length = m) (hnews : ∀ j u, news[j]? = some u → w.cell? (ad.add j) = some u)
    (hm : 0 < m) (h63 : n + m ≤ 1000000000) (hbytes : (n + m) * bytes ≤ 140737488355328)
    (h : ∀ b c' w', Below w.heap.size w w' → wpList P ops Q rest (a.put o.dst (.slice (some ⟨b, 0, none⟩) (n + m) c')) w') : wpList P ops Q (o :: rest) a w := by
  refine wpList_plain hgd fun K hK => ?_
  have hrun := run_append_grow (P := P) w t o.type e i z ht hi hz ⟨g, 0, none⟩ n n xs (by rw [hsize, Nat.mul_one]; exact hl0) (fun j v hv => by
    obtain ⟨g', f', e', _, hc⟩ := hr j v hv
    cases e'
    rw [Lib.addr_add]
    exact hc) ad m c news (by rw [hsize, Nat.mul_one]; exact hl) hnews (by omega) (by omega) (by rw [hby]; exact growslice_fits (by omega) hbytes)
  unfold Oper.wp execOp
  simp only [ho, resolve, invoke, builtin, Sem.run_bind, Sem.run_pure, Result.andThen_ok, List.map_toArray, List.map_cons, List.map_nil, hs, hx, hrun]
  exact hK _ _ (h _ _ _ ((Below.refl _ w).drew.alloc (Nat.le_refl _) _))
end
end Go.Proofs.YtelbakkgobkdaaaDoor.Vf

namespace Go.Proofs.YtelbakkgobkdaaaDoor.Vf
open Go.RowKit Go.Proofs.YtelbakkgobkdaaaDoor.Nm

theorem ow_nil (W : World) : Ow W W (.slice none 0 0) 0 (.slice none 0 0) 0 [] :=
  ⟨Below.refl _ _, World.ownsRow_nil _ _ _ _, World.ownsRow_nil _ _ _ _, (fun g h => by cases h), (fun e h => by cases h), List.nodup_nil, (fun e h => by cases h), (fun e h => by cases h)⟩
theorem hp_at {W w : World} {a : Option Addr} {l : List (Hp W)} (hr : Rd W a (l.flatMap hpC)) (hb : Below W.heap.size W w) {i : Nat} {x : Hp W} (hx : l[i]? = some x) : ∃ b off, a = some ⟨b, off, none⟩ ∧ ∀ (j : Nat) (v : Value), j < 6 → (hpC x)[j]? = some v → w.cell? ⟨b, off + i * 6 + j, none⟩ = some v := by
  have hi := (List.getElem?_eq_some_iff.1 hx).1
  have hxe := (List.getElem?_eq_some_iff.1 hx).2
  have h0 := flatN 6 hpC hpC_len l i 0 hi (by omega)
  rw [hxe] at h0
  obtain ⟨b, off, rfl, hlt, _⟩ := hr (i * 6 + 0) _ h0
  refine ⟨b, off, rfl, fun j v hj hv => ?_⟩
  have h1 := flatN 6 hpC hpC_len l i j hi hj
  rw [hxe, hv] at h1
  obtain ⟨b', off', e, hl2, hc⟩ := hr _ _ h1
  cases e
  rw [Nat.add_assoc]
  exact (hb.cell (p := ⟨b, off + (i * 6 + j), none⟩) hl2).trans hc
theorem infoIs : (Tryd.prog.info? 24).map (fun i => (i.zero, i.size, i.bytes)) = some (some (.slice none 0 0), 1, 24) := by kernel_rfl
theorem tk3 {f : En → Value} {fs : List En} {e1 e2 : En} : ((fs ++ [e1, e2]).map f).take (fs.length + 2) = fs.map f ++ [f e1, f e2] := by
  rw [List.take_of_length_le (by simp), List.map_append]
  rfl
theorem rk_of {W w1 w2 : World} {v3 v4 : Value} {n3 n4 : Nat} {es : List En} {o : Option Addr} {l : List Value} (h : Ow W w1 v3 n3 v4 n4 es) (hr : Rd w2 o l) (hg : ∀ g f, o = some ⟨g, f, none⟩ → w1.heap.size ≤ g) : Rk w2 o l (Pw v3 v4 es) := fun k x hx => by
  obtain ⟨g, f, h1, h2, h3⟩ := hr k x hx
  have hge := hg g f h1
  refine ⟨g, f, h1, h2, ⟨fun e => ?_, fun e => ?_, fun e => ?_⟩, h3⟩
  · have := (World.ownsRow.lt h.o3 g e).2
    omega
  · have := (World.ownsRow.lt h.o4 g e).2
    omega
  · obtain ⟨y, hy, rfl⟩ := List.mem_map.1 e
    have := rf_lt (h.kp y hy).1
    omega
set_option maxHeartbeats 12800000 in
set_option maxRecDepth 100000 in
theorem ownWalk (W : World) (a : Option Addr) (l : List (Hp W)) (cap : Nat) (hr : Rd W a (l.flatMap hpC)) (hl : l.length ≤ maxLen) (hE : Ef W) :
    Calls Tryd.prog 5 #[.slice a l.length cap] W fun e w' => e = .returned (.bool true) ∧ Below W.heap.size W w' := by
  have HEf : Hid (∀ X, Below W.heap.size W X → Ef X) := fun X hb => hE.below hb
  have HR : Hid (Rd W a (l.flatMap hpC) ∧ l.length ≤ maxLen) := ⟨hr, hl⟩
  clear hr hl hE
  go_enter Tryd.func5, Tryd.ntmps5
  go_upto_block 0 with fail
  go_cut [3, 4] (fun s3 s4 wx => ∃ es : List En, es.length ≤ 36 ∧ Ow W wx s3 es.length s4 es.length es)
  case first =>
    go_wp2_with fail
    go_loopg [3, 4, 5] (min l.length 9) (fun gq x y z wr => ∃ (i : Nat) (es : List En), i ≤ min l.length 9 ∧ gq = min l.length 9 - i ∧ z = .int .i64 (i : Int) ∧ es.length ≤ 4 * i ∧ Ow W wr x es.length y es.length es)
    case atStart => exact ⟨0, [], Nat.zero_le _, rfl, rfl, Nat.le_refl _, ow_nil W⟩
    case round =>
      obtain ⟨i, es, hi, hgk, rfl, hes, hO⟩ := hrel
      by_cases hlt : i < min l.length 9
      · have hlt1 : (i : Int) < (l.length : Int) := by omega
        have hlt2 : (i : Int) < 9 := by omega
        obtain ⟨x, hx⟩ : ∃ x, l[i]? = some x := ⟨_, List.getElem?_eq_getElem (by omega)⟩
        have HX : Hid (l[i]? = some x ∧ i < min l.length 9 ∧ gk = min l.length 9 - i ∧ es.length ≤ 4 * i) := ⟨hx, hlt, hgk, hes⟩
        have HO : Hid (Ow W wr u3 es.length u4 es.length es) := hO
        obtain ⟨b, off, rfl, hcl⟩ := hp_at HR.out.1 hO.bel hx
        clear hx hlt hgk hes hO hi
        obtain ⟨⟨⟨qo, qc, vo, vc, tto, tc, oo, oc, co, cc⟩, p⟩, hp⟩ := x
        have HCl : Hid (∀ w', Below W.heap.size W w' → w'.cell? ⟨b, off + i * 6, none⟩ = some (.slice qo p.gh.length qc) ∧ w'.cell? ⟨b, off + i * 6 + 1, none⟩ = some (.slice vo p.vs.length vc) ∧ w'.cell? ⟨b, off + i * 6 + 2, none⟩ = some (.slice tto p.ts.length tc) ∧ w'.cell? ⟨b, off + i * 6 + 3, none⟩ = some (.slice oo p.on.length oc) ∧ w'.cell? ⟨b, off + i * 6 + 4, none⟩ = some (.int .i64 p.miss) ∧ w'.cell? ⟨b, off + i * 6 + 5, none⟩ = some (.slice co p.cd.length cc)) := fun w' hb => by
          obtain ⟨b', off', e, hc⟩ := hp_at HR.out.1 hb HX.out.1
          cases e
          exact ⟨hc 0 _ (by omega) rfl, hc 1 _ (by omega) rfl, hc 2 _ (by omega) rfl, hc 3 _ (by omega) rfl, hc 4 _ (by omega) rfl, hc 5 _ (by omega) rfl⟩
        clear hcl
        have HLn : Hid (farB p = false → (p.gh.length ≤ 100 ∧ p.vs.length ≤ 100 ∧ p.ts.length ≤ 100 ∧ p.on.length ≤ 100 ∧ p.cd.length ≤ 524288) ∧ IsPg W ⟨qo, qc, vo, vc, tto, tc, oo, oc, co, cc⟩ p) := fun hf => by
          obtain ⟨l1, l2, l3, l4, l5⟩ := farB_not hf
          exact ⟨⟨l1, l2, l3, l4, l5⟩, hp.is l1 l2 l3 l4 l5⟩
        have HFar : Hid (∀ X, Calls Tryd.prog 6 #[.agg #[.slice qo p.gh.length qc, .slice vo p.vs.length vc, .slice tto p.ts.length tc, .slice oo p.on.length oc, .int .i64 p.miss, .slice co p.cd.length cc]] X fun e w' => e = .returned (.bool (farB p)) ∧ Below X.heap.size X w') := fun X => far_any ⟨qo, qc, vo, vc, tto, tc, oo, oc, co, cc⟩ p X
        obtain ⟨c0, c1, c2, c3, c4, c5⟩ := HCl.out wr HO.out.bel
        go_wp2_with fail
        refine (HFar.out _).mono ?_
        rintro r w1 ⟨rfl, hb1⟩
        have HB1 : Hid (Below wr.heap.size wr w1) := hb1
        clear hb1 c0 c1 c2 c3 c4 c5
        cases hfar : farB p with
        | true =>
          clear hfar
          go_wp2_with fail
          go_roundg (min l.length 9 - (i + 1))
          case measure => have h1 := HX.out; omega
          case rel => exact ⟨i + 1, es, HX.out.2.1, rfl, by go_num, by have := HX.out.2.2.2; omega, HO.out.below HB1.out⟩
        | false =>
          obtain ⟨⟨l1, l2, l3, l4, l5⟩, hP⟩ := HLn.out hfar
          have HL : Hid ((p.gh.length ≤ 100 ∧ p.vs.length ≤ 100 ∧ p.ts.length ≤ 100 ∧ p.on.length ≤ 100 ∧ p.cd.length ≤ 524288) ∧ IsPg W ⟨qo, qc, vo, vc, tto, tc, oo, oc, co, cc⟩ p) := ⟨⟨l1, l2, l3, l4, l5⟩, hP⟩
          have HO1 : Hid (Ow W w1 u3 es.length u4 es.length es) := HO.out.below HB1.out
          clear hfar l1 l2 l3 l4 l5 hP HLn HFar
          have HC : Hid (Calls Tryd.prog 10 #[.agg #[.slice qo p.gh.length qc, .slice vo p.vs.length vc, .slice tto p.ts.length tc, .slice oo p.on.length oc, .int .i64 p.miss, .slice co p.cd.length cc]] w1 (RrP w1 p)) := rrun_any ⟨qo, qc, vo, vc, tto, tc, oo, oc, co, cc⟩ p w1 (HL.out.2.below HO1.out.bel)
          obtain ⟨c0, c1, c2, c3, c4, c5⟩ := HCl.out w1 HO1.out.bel
          cases hj : judge p with
          | error er =>
            obtain ⟨er, en⟩ := er
            have hne := judge_ne hj
            have hne' : ((er : Int) == 0) = false := by rw [beq_eq_false_iff_ne]; omega
            go_wp2_with fail
            refine HC.out.mono ?_
            rintro r w2 hrr
            obtain rfl := hrr.err er en hj
            have hal := al2 w2 (.cells #[.slice none 0 0, .int .i64 0] 32) (.cells #[.int .i64 (er : Int), .int .i64 en] 35)
            have H3 : Hid (Ow W ((w2.alloc (.cells #[.slice none 0 0, .int .i64 0] 32)).alloc (.cells #[.int .i64 (er : Int), .int .i64 en] 35)) u3 es.length u4 es.length es ∧ ((w2.alloc (.cells #[.slice none 0 0, .int .i64 0] 32)).alloc (.cells #[.int .i64 (er : Int), .int .i64 en] 35)).heap[w2.heap.size + 1]? = some (.cells #[.int .i64 (er : Int), .int .i64 en] 35 (0, 0))) := ⟨HO1.out.below (bel_step hrr.bel hal.1), hal.2.2⟩
            have HJ : Hid (judge p = .error (er, en)) := hj
            clear hrr hal HC hj c0 c1 c2 c3 c4 c5 HO1 HO
            go_upto_region 8 with fail
            generalize (w2.alloc (.cells #[.slice none 0 0, .int .i64 0] 32)).alloc (.cells #[.int .i64 (er : Int), .int .i64 en] 35) = W3 at *
            generalize w2.heap.size = ab at *
            have HC : Hid (Calls Tryd.prog 14 #[.agg #[.slice qo p.gh.length qc, .slice vo p.vs.length vc, .slice tto p.ts.length tc, .slice oo p.on.length oc, .int .i64 p.miss, .slice co p.cd.length cc]] W3 (RhP W3 p)) := rheights_any ⟨qo, qc, vo, vc, tto, tc, oo, oc, co, cc⟩ p W3 (HL.out.2.below H3.out.1.bel)
            obtain ⟨c0, c1, c2, c3, c4, c5⟩ := HCl.out W3 H3.out.1.bel
            go_wp2_with fail
            refine HC.out.mono ?_
            rintro r w4 hrr
            obtain rfl := hrr.err er en HJ.out
            have hal : Below w4.heap.size w4 (w4.alloc (.cells #[.int .i64 (er : Int), .int .i64 en] 35)) := (Below.refl _ w4).alloc (Nat.le_refl _) _
            have h3n := bel_step hrr.bel hal
            have H5 : Hid (Ow W (w4.alloc (.cells #[.int .i64 (er : Int), .int .i64 en] 35)) u3 es.length u4 es.length es ∧ (w4.alloc (.cells #[.int .i64 (er : Int), .int .i64 en] 35)).heap[ab + 1]? = some (.cells #[.int .i64 (er : Int), .int .i64 en] 35 (0, 0))) := ⟨H3.out.1.below h3n, (h3n.block _ (blk_lt H3.out.2)).trans H3.out.2⟩
            clear hrr hal h3n HC c0 c1 c2 c3 c4 c5 H3
            go_upto_region 9 with fail
            generalize w4.alloc (.cells #[.int .i64 (er : Int), .int .i64 en] 35) = W5 at *
            generalize w4.heap.size = hb9 at *
            go_wp2_with fail
            go_loopg [3, 4, 10] 0 (fun gq x y z wx => gq = 0 ∧ z = .int .i64 0 ∧ Ow W wx x es.length y es.length es ∧ wx.heap[ab + 1]? = some (.cells #[.int .i64 (er : Int), .int .i64 en] 35 (0, 0)))
            case atStart => exact ⟨rfl, rfl, H5.out.1, H5.out.2⟩
            case round =>
              obtain ⟨hgk, rfl, hT, hb2⟩ := hrel
              obtain ⟨f0, f1⟩ := cells2 hb2
              have HT : Hid (Ow W wr u3 es.length u4 es.length es) := hT
              clear hT hgk hb2 H5
              go_wp2_with fail
              go_roundg (min l.length 9 - (i + 1))
              case measure => have h1 := HX.out; omega
              case rel => exact ⟨i + 1, es, HX.out.2.1, rfl, by go_num, by have := HX.out.2.2.2; omega, HT.out⟩
          | ok g =>
            go_wp2_with fail
            refine HC.out.mono ?_
            rintro r w2 hrr
            obtain ⟨o1, m1, rfl, k1, k2⟩ := hrr.ok g hj
            have hrk := rk_of HO1.out k1 k2
            have hal := al2 w2 (.cells #[.slice o1 p.on.length m1, .int .i64 (cst p p.miss)] 32) (.cells #[.int .i64 0, .int .i64 0] 35)
            have H3 : Hid (Ow W ((w2.alloc (.cells #[.slice o1 p.on.length m1, .int .i64 (cst p p.miss)] 32)).alloc (.cells #[.int .i64 0, .int .i64 0] 35)) u3 es.length u4 es.length es ∧ Rk ((w2.alloc (.cells #[.slice o1 p.on.length m1, .int .i64 (cst p p.miss)] 32)).alloc (.cells #[.int .i64 0, .int .i64 0] 35)) o1 (iC (p.on.map (cst p))) (Pw u3 u4 es) ∧ ((w2.alloc (.cells #[.slice o1 p.on.length m1, .int .i64 (cst p p.miss)] 32)).alloc (.cells #[.int .i64 0, .int .i64 0] 35)).heap[w2.heap.size]? = some (.cells #[.slice o1 p.on.length m1, .int .i64 (cst p p.miss)] 32 (0, 0)) ∧ ((w2.alloc (.cells #[.slice o1 p.on.length m1, .int .i64 (cst p p.miss)] 32)).alloc (.cells #[.int .i64 0, .int .i64 0] 35)).heap[w2.heap.size + 1]? = some (.cells #[.int .i64 0, .int .i64 0] 35 (0, 0)) ∧ Below wr.heap.size wr ((w2.alloc (.cells #[.slice o1 p.on.length m1, .int .i64 (cst p p.miss)] 32)).alloc (.cells #[.int .i64 0, .int .i64 0] 35))) :=
              ⟨HO1.out.below (bel_step hrr.bel hal.1), hrk.below hal.1, hal.2.1, hal.2.2, bel_step HB1.out (bel_step hrr.bel hal.1)⟩
            have HJ : Hid (judge p = .ok g) := hj
            clear hrr k1 k2 hrk hal HC hj c0 c1 c2 c3 c4 c5 HO1 HO
            go_upto_region 8 with fail
            generalize (w2.alloc (.cells #[.slice o1 p.on.length m1, .int .i64 (cst p p.miss)] 32)).alloc (.cells #[.int .i64 0, .int .i64 0] 35) = W3 at *
            generalize w2.heap.size = ab at *
            have HC : Hid (Calls Tryd.prog 14 #[.agg #[.slice qo p.gh.length qc, .slice vo p.vs.length vc, .slice tto p.ts.length tc, .slice oo p.on.length oc, .int .i64 p.miss, .slice co p.cd.length cc]] W3 (RhP W3 p)) := rheights_any ⟨qo, qc, vo, vc, tto, tc, oo, oc, co, cc⟩ p W3 (HL.out.2.below H3.out.1.bel)
            obtain ⟨c0, c1, c2, c3, c4, c5⟩ := HCl.out W3 H3.out.1.bel
            go_wp2_with fail
            refine HC.out.mono ?_
            rintro r w4 hrr
            obtain ⟨o2, m2, rfl, k1, k2⟩ := hrr.ok g HJ.out
            have hrk := rk_of H3.out.1 k1 k2
            have hal : Below w4.heap.size w4 (w4.alloc (.cells #[.int .i64 0, .int .i64 0] 35)) := (Below.refl _ w4).alloc (Nat.le_refl _) _
            have h3n := bel_step hrr.bel hal
            have H5 : Hid (Ow W (w4.alloc (.cells #[.int .i64 0, .int .i64 0] 35)) u3 es.length u4 es.length es ∧ Rk (w4.alloc (.cells #[.int .i64 0, .int .i64 0] 35)) o1 (iC (p.on.map (cst p))) (Pw u3 u4 es) ∧ Rk (w4.alloc (.cells #[.int .i64 0, .int .i64 0] 35)) o2 (iC ((List.range p.cd.length).map (hgt g))) (Pw u3 u4 es) ∧ (w4.alloc (.cells #[.int .i64 0, .int .i64 0] 35)).heap[ab]? = some (.cells #[.slice o1 p.on.length m1, .int .i64 (cst p p.miss)] 32 (0, 0)) ∧ (w4.alloc (.cells #[.int .i64 0, .int .i64 0] 35)).heap[ab + 1]? = some (.cells #[.int .i64 0, .int .i64 0] 35 (0, 0)) ∧ Below wr.heap.size wr (w4.alloc (.cells #[.int .i64 0, .int .i64 0] 35))) :=
              ⟨H3.out.1.below h3n, H3.out.2.1.below h3n, hrk.below hal, (h3n.block _ (blk_lt H3.out.2.2.1)).trans H3.out.2.2.1, (h3n.block _ (blk_lt H3.out.2.2.2.1)).trans H3.out.2.2.2.1, bel_step H3.out.2.2.2.2 h3n⟩
            clear hrr k1 k2 hrk hal h3n HC c0 c1 c2 c3 c4 c5 H3
            go_upto_region 9 with fail
            generalize hw5 : w4.alloc (.cells #[.int .i64 0, .int .i64 0] 35) = W5 at *
            generalize w4.heap.size = hb9 at *
            clear hw5
            go_wp2_with fail
            go_loopg [3, 4, 10] 2 (fun gq x y z wx => ∃ (k : Nat) (fs : List En), k ≤ 2 ∧ gq = 2 - k ∧ z = .int .i64 (k : Int) ∧ fs.length = es.length + 2 * k ∧ Ow W wx x fs.length y fs.length fs ∧ Rk wx o1 (iC (p.on.map (cst p))) (Pw x y fs) ∧ Rk wx o2 (iC ((List.range p.cd.length).map (hgt g))) (Pw x y fs) ∧ wx.heap[ab]? = some (.cells #[.slice o1 p.on.length m1, .int .i64 (cst p p.miss)] 32 (0, 0)) ∧ wx.heap[ab + 1]? = some (.cells #[.int .i64 0, .int .i64 0] 35 (0, 0)))
            case atStart => exact ⟨0, es, Nat.zero_le _, rfl, rfl, rfl, H5.out.1, H5.out.2.1, H5.out.2.2.1, H5.out.2.2.2.1, H5.out.2.2.2.2.1⟩
            case round =>
              obtain ⟨k, fs, hk, hgk, rfl, hfs, hT, hk1, hk2, hb1, hb2⟩ := hrel
              clear H5
              obtain ⟨f0, f1⟩ := cells2 hb2
              by_cases hlt : k < 2
              · have hlt' : (k : Int) < 2 := by omega
                have HT : Hid (Ow W wr u3 fs.length u4 fs.length fs ∧ Rk wr o1 (iC (p.on.map (cst p))) (Pw u3 u4 fs) ∧ Rk wr o2 (iC ((List.range p.cd.length).map (hgt g))) (Pw u3 u4 fs) ∧ wr.heap[ab]? = some (.cells #[.slice o1 p.on.length m1, .int .i64 (cst p p.miss)] 32 (0, 0)) ∧ wr.heap[ab + 1]? = some (.cells #[.int .i64 0, .int .i64 0] 35 (0, 0))) := ⟨hT, hk1, hk2, hb1, hb2⟩
                have HKn : Hid (k < 2 ∧ gk = 2 - k ∧ fs.length = es.length + 2 * k) := ⟨hlt, hgk, hfs⟩
                have HLd : Hid (∀ X, Below W.heap.size W X → Calls Tryd.prog 8 #[.agg #[.slice qo p.gh.length qc, .slice vo p.vs.length vc, .slice tto p.ts.length tc, .slice oo p.on.length oc, .int .i64 p.miss, .slice co p.cd.length cc]] X (LdP X p)) := fun X hb => lendP_any ⟨qo, qc, vo, vc, tto, tc, oo, oc, co, cc⟩ p X (HL.out.2.below hb) HL.out.1.1 HL.out.1.2.1 HL.out.1.2.2.1 HL.out.1.2.2.2.1 HL.out.1.2.2.2.2
                clear hk hgk hfs hT hk1 hk2 hb1 hb2 hlt
                obtain ⟨c0, c1, c2, c3, c4, c5⟩ := HCl.out wr HT.out.1.bel
                go_wp2_with fail
                refine (HLd.out _ HT.out.1.bel).mono ?_
                rintro r x1 hld
                obtain ⟨a1, b1, d1, d2, e1, Ta, Tb, Tc, Td, rfl, hlt1⟩ := lt_of hld
                have HLt : Hid (Lt wr x1 p a1 b1 d1 d2 e1 Ta Tb Tc Td) := hlt1
                have HC : Hid (Calls Tryd.prog 9 #[.agg #[.slice (some ⟨a1, 0, none⟩) p.gh.length (p.gh.length + 3), .slice (some ⟨b1, 0, none⟩) p.vs.length (p.vs.length + 3), .slice (some ⟨d1, 0, none⟩) p.ts.length (p.ts.length + 5), .slice (some ⟨d2, 0, none⟩) p.on.length (p.on.length + 5), .int .i64 p.miss, .slice (some ⟨e1, 0, none⟩) p.cd.length (p.cd.length + 9)]] x1 (RuP x1 p)) := run_any ⟨some ⟨a1, 0, none⟩, p.gh.length + 3, some ⟨b1, 0, none⟩, p.vs.length + 3, some ⟨d1, 0, none⟩, p.ts.length + 5, some ⟨d2, 0, none⟩, p.on.length + 5, some ⟨e1, 0, none⟩, p.cd.length + 9⟩ p x1 (HLt.out.is HL.out.1.1 HL.out.1.2.1 HL.out.1.2.2.1 HL.out.1.2.2.2.1 HL.out.1.2.2.2.2) (HEf.out _ (bel_step HT.out.1.bel HLt.out.bel))
                clear hld hlt1 c0 c1 c2 c3 c4 c5
                go_wp2_with fail
                refine HC.out.mono ?_
                rintro r x2 hru
                obtain ⟨kb1, rfl, g1, r1⟩ := hru.ok g HJ.out
                have hal := al2 x2 (.cells #[.slice (some ⟨kb1, 0, none⟩) p.on.length p.on.length, .int .i64 (cst p p.miss)] 32) (.cells #[.int .i64 0, .int .i64 0] 35)
                have hb6 := bel_step (bel_step HLt.out.bel hru.bel) hal.1
                have hge1 : wr.heap.size ≤ kb1 := Nat.le_trans HLt.out.bel.size g1
                have H6 : Hid (Below wr.heap.size wr ((x2.alloc (.cells #[.slice (some ⟨kb1, 0, none⟩) p.on.length p.on.length, .int .i64 (cst p p.miss)] 32)).alloc (.cells #[.int .i64 0, .int .i64 0] 35)) ∧ wr.heap.size ≤ kb1 ∧ Rf ((x2.alloc (.cells #[.slice (some ⟨kb1, 0, none⟩) p.on.length p.on.length, .int .i64 (cst p p.miss)] 32)).alloc (.cells #[.int .i64 0, .int .i64 0] 35)) kb1 (iC (p.on.map (cst p))) ∧ ((x2.alloc (.cells #[.slice (some ⟨kb1, 0, none⟩) p.on.length p.on.length, .int .i64 (cst p p.miss)] 32)).alloc (.cells #[.int .i64 0, .int .i64 0] 35)).heap[x2.heap.size]? = some (.cells #[.slice (some ⟨kb1, 0, none⟩) p.on.length p.on.length, .int .i64 (cst p p.miss)] 32 (0, 0)) ∧ ((x2.alloc (.cells #[.slice (some ⟨kb1, 0, none⟩) p.on.length p.on.length, .int .i64 (cst p p.miss)] 32)).alloc (.cells #[.int .i64 0, .int .i64 0] 35)).heap[x2.heap.size + 1]? = some (.cells #[.int .i64 0, .int .i64 0] 35 (0, 0))) := ⟨hb6, hge1, r1.below hal.1, hal.2.1, hal.2.2⟩
                clear hru g1 r1 hal hb6 hge1 HC HLt f0 f1
                go_upto_region 13 with fail
                generalize ((x2.alloc (.cells #[.slice (some ⟨kb1, 0, none⟩) p.on.length p.on.length, .int .i64 (cst p p.miss)] 32)).alloc (.cells #[.int .i64 0, .int .i64 0] 35)) = X6 at *
                generalize x2.heap.size = cb at *
                clear x1 x2
                obtain ⟨c0, c1, c2, c3, c4, c5⟩ := HCl.out X6 (bel_step HT.out.1.bel H6.out.1)
                go_wp2_with fail
                refine (HLd.out _ (bel_step HT.out.1.bel H6.out.1)).mono ?_
                rintro r x1 hld
                obtain ⟨a1, b1, d1, d2, e1, Ta, Tb, Tc, Td, rfl, hlt1⟩ := lt_of hld
                have HLt : Hid (Lt X6 x1 p a1 b1 d1 d2 e1 Ta Tb Tc Td) := hlt1
                have HC : Hid (Calls Tryd.prog 13 #[.agg #[.slice (some ⟨a1, 0, none⟩) p.gh.length (p.gh.length + 3), .slice (some ⟨b1, 0, none⟩) p.vs.length (p.vs.length + 3), .slice (some ⟨d1, 0, none⟩) p.ts.length (p.ts.length + 5), .slice (some ⟨d2, 0, none⟩) p.on.length (p.on.length + 5), .int .i64 p.miss, .slice (some ⟨e1, 0, none⟩) p.cd.length (p.cd.length + 9)]] x1 (HgP x1 p)) := heights_any ⟨some ⟨a1, 0, none⟩, p.gh.length + 3, some ⟨b1, 0, none⟩, p.vs.length + 3, some ⟨d1, 0, none⟩, p.ts.length + 5, some ⟨d2, 0, none⟩, p.on.length + 5, some ⟨e1, 0, none⟩, p.cd.length + 9⟩ p x1 (HLt.out.is HL.out.1.1 HL.out.1.2.1 HL.out.1.2.2.1 HL.out.1.2.2.2.1 HL.out.1.2.2.2.2) (HEf.out _ (bel_step (bel_step HT.out.1.bel H6.out.1) HLt.out.bel))
                clear hld hlt1 c0 c1 c2 c3 c4 c5
                go_wp2_with fail
                refine HC.out.mono ?_
                rintro r x2 hhg
                obtain ⟨kb2, rfl, g2, r2⟩ := hhg.ok g HJ.out
                have hal : Below x2.heap.size x2 (x2.alloc (.cells #[.int .i64 0, .int .i64 0] 35)) := (Below.refl _ x2).alloc (Nat.le_refl _) _
                have h69 := bel_step (bel_step HLt.out.bel hhg.bel) hal
                have hw9 := bel_step H6.out.1 h69
                rw [fuC_iC] at r2
                have rf2 : Rf x2 kb2 (iC ((List.range p.cd.length).map (hgt g))) := ⟨rd_blk r2, _, r2⟩
                have hlt1 := rf_lt H6.out.2.2.1
                have hz1 := HLt.out.bel.size
                have hz2 := H6.out.1.size
                have H9 : Hid (Ow W (x2.alloc (.cells #[.int .i64 0, .int .i64 0] 35)) u3 fs.length u4 fs.length (fs ++ [En.mk kb1 (p.on.map (cst p)) o1 m1, En.mk kb2 ((List.range p.cd.length).map (hgt g)) o2 m2]) ∧ Rk (x2.alloc (.cells #[.int .i64 0, .int .i64 0] 35)) o1 (iC (p.on.map (cst p))) (Pw u3 u4 (fs ++ [En.mk kb1 (p.on.map (cst p)) o1 m1, En.mk kb2 ((List.range p.cd.length).map (hgt g)) o2 m2])) ∧ Rk (x2.alloc (.cells #[.int .i64 0, .int .i64 0] 35)) o2 (iC ((List.range p.cd.length).map (hgt g))) (Pw u3 u4 (fs ++ [En.mk kb1 (p.on.map (cst p)) o1 m1, En.mk kb2 ((List.range p.cd.length).map (hgt g)) o2 m2])) ∧ (x2.alloc (.cells #[.int .i64 0, .int .i64 0] 35)).heap[ab]? = some (.cells #[.slice o1 p.on.length m1, .int .i64 (cst p p.miss)] 32 (0, 0)) ∧ (x2.alloc (.cells #[.int .i64 0, .int .i64 0] 35)).heap[ab + 1]? = some (.cells #[.int .i64 0, .int .i64 0] 35 (0, 0)) ∧ (x2.alloc (.cells #[.int .i64 0, .int .i64 0] 35)).heap[cb]? = some (.cells #[.slice (some ⟨kb1, 0, none⟩) p.on.length p.on.length, .int .i64 (cst p p.miss)] 32 (0, 0)) ∧ (x2.alloc (.cells #[.int .i64 0, .int .i64 0] 35)).heap[cb + 1]? = some (.cells #[.int .i64 0, .int .i64 0] 35 (0, 0)) ∧ (x2.alloc (.cells #[.int .i64 0, .int .i64 0] 35)).heap[x2.heap.size]? = some (.cells #[.int .i64 0, .int .i64 0] 35 (0, 0))) := by
                  refine ⟨HT.out.1.put (Nat.le_refl _) (Nat.le_refl _) hw9 H6.out.2.1 (by show _ ≤ kb2; omega) (by show kb1 ≠ kb2; omega) (H6.out.2.2.1.below h69) (rf2.below hal) HT.out.2.1 HT.out.2.2.1 (by show (p.on.map (cst p)).length ≤ 524288; have := HL.out.1.2.2.2.1; simp; omega) (by show ((List.range p.cd.length).map (hgt g)).length ≤ 524288; have := HL.out.1.2.2.2.2; simp; omega), HT.out.2.1.put hw9 H6.out.2.1 (by show _ ≤ kb2; omega), HT.out.2.2.1.put hw9 H6.out.2.1 (by show _ ≤ kb2; omega), (hw9.block _ (blk_lt HT.out.2.2.2.1)).trans HT.out.2.2.2.1, (hw9.block _ (blk_lt HT.out.2.2.2.2)).trans HT.out.2.2.2.2, (h69.block _ (blk_lt H6.out.2.2.2.1)).trans H6.out.2.2.2.1, (h69.block _ (blk_lt H6.out.2.2.2.2)).trans H6.out.2.2.2.2, heap_alloc_new _ _⟩
                clear hhg g2 r2 hal h69 hw9 rf2 hlt1 hz1 hz2 HC HLt HT H6
                go_upto_region 14 with fail
                generalize (x2.alloc (.cells #[.int .i64 0, .int .i64 0] 35)) = X9' at *
                generalize x2.heap.size = db at *
                clear x1 x2
                obtain ⟨q0, q1⟩ := cells2 H9.out.2.2.2.2.2.2.1
                obtain ⟨q2, q3⟩ := cells2 H9.out.2.2.2.2.2.2.2
                obtain ⟨q4, q5⟩ := cells2 H9.out.2.2.2.2.2.1
                obtain ⟨j0, hj, hj0, hj1, hj2⟩ := info_parts infoIs
                have HO3 : Hid ((X9'.alloc (.cells #[.slice (some ⟨kb1, 0, none⟩) p.on.length p.on.length, .slice (some ⟨kb2, 0, none⟩) p.cd.length p.cd.length] 24)).ownsRow W.heap.size 24 1 u3 fs.length (((fs ++ [En.mk kb1 (p.on.map (cst p)) o1 m1, En.mk kb2 ((List.range p.cd.length).map (hgt g)) o2 m2]).map kV).take fs.length)) := own_below H9.out.1.o3 ((Below.refl _ X9').alloc (Nat.le_refl _) _)
                have HSz : Hid (W.heap.size ≤ (X9'.alloc (.cells #[.slice (some ⟨kb1, 0, none⟩) p.on.length p.on.length, .slice (some ⟨kb2, 0, none⟩) p.cd.length p.cd.length] 24)).heap.size ∧ fs.length ≤ 36) := ⟨by have := H9.out.1.bel.size; simp; omega, by have := HKn.out; have := HX.out; omega⟩
                go_wp2_with (at_builtin; refine append_gone _ rfl _ _ 44 rfl W.heap.size 24 j0 (.slice none 0 0) 1 24 Tryd.underlying44 hj hj0 hj1 hj2 rfl (by decide) u3 fs.length (((fs ++ [En.mk kb1 (p.on.map (cst p)) o1 m1, En.mk kb2 ((List.range p.cd.length).map (hgt g)) o2 m2]).map kV).take fs.length) rfl HO3.out ⟨X9'.heap.size, 0, none⟩ 2 2 [.slice (some ⟨kb1, 0, none⟩) p.on.length p.on.length, .slice (some ⟨kb2, 0, none⟩) p.cd.length p.cd.length] rfl rfl ?c1 ?c2 ?c3 ?c4 ?c5 ?c6 ?_)
                case c1 => exact cells_new X9' 24 [.slice (some ⟨kb1, 0, none⟩) p.on.length p.on.length, .slice (some ⟨kb2, 0, none⟩) p.cd.length p.cd.length]
                case c2 => simp [Value.oneCell']
                case c3 => have := HSz.out.2; unfold maxLen; omega
                case c4 => have := HSz.out.2; omega
                case c5 => exact HSz.out.1
                case c6 => decide
                intro v3 y3 ho hG
                have hal9 : Below X9'.heap.size X9' (X9'.alloc (.cells #[.slice (some ⟨kb1, 0, none⟩) p.on.length p.on.length, .slice (some ⟨kb2, 0, none⟩) p.cd.length p.cd.length] 24)) := (Below.refl _ X9').alloc (Nat.le_refl _) _
                have hkv : kV (En.mk kb1 (p.on.map (cst p)) o1 m1) = .slice (some ⟨kb1, 0, none⟩) p.on.length p.on.length ∧ kV (En.mk kb2 ((List.range p.cd.length).map (hgt g)) o2 m2) = .slice (some ⟨kb2, 0, none⟩) p.cd.length p.cd.length := ⟨by simp [kV], by simp [kV]⟩
                have HA : Hid (Ow W y3 v3 (fs.length + 2) u4 fs.length (fs ++ [En.mk kb1 (p.on.map (cst p)) o1 m1, En.mk kb2 ((List.range p.cd.length).map (hgt g)) o2 m2]) ∧ Rk y3 o1 (iC (p.on.map (cst p))) (Pw v3 u4 (fs ++ [En.mk kb1 (p.on.map (cst p)) o1 m1, En.mk kb2 ((List.range p.cd.length).map (hgt g)) o2 m2])) ∧ Rk y3 o2 (iC ((List.range p.cd.length).map (hgt g))) (Pw v3 u4 (fs ++ [En.mk kb1 (p.on.map (cst p)) o1 m1, En.mk kb2 ((List.range p.cd.length).map (hgt g)) o2 m2])) ∧ y3.heap[ab]? = some (.cells #[.slice o1 p.on.length m1, .int .i64 (cst p p.miss)] 32 (0, 0)) ∧ y3.heap[ab + 1]? = some (.cells #[.int .i64 0, .int .i64 0] 35 (0, 0))) := by
                  refine ⟨(H9.out.1.below hal9).app3 hG ?_, (H9.out.2.1.below hal9).gone3 hG, (H9.out.2.2.1.below hal9).gone3 hG, gone_box HO3.out hG (by decide) ((hal9.block _ (blk_lt H9.out.2.2.2.1)).trans H9.out.2.2.2.1), gone_box HO3.out hG (by decide) ((hal9.block _ (blk_lt H9.out.2.2.2.2.1)).trans H9.out.2.2.2.2.1)⟩
                  rw [tk3, hkv.1, hkv.2]
                  exact ho
                clear ho hG hal9 hkv H9 HO3 q0 q1 q2 q3 q4 q5
                obtain ⟨q0, q1⟩ := cells2 HA.out.2.2.2.1
                have HO4 : Hid ((y3.alloc (.cells #[.slice o1 p.on.length m1, .slice o2 p.cd.length m2] 24)).ownsRow W.heap.size 24 1 u4 fs.length (((fs ++ [En.mk kb1 (p.on.map (cst p)) o1 m1, En.mk kb2 ((List.range p.cd.length).map (hgt g)) o2 m2]).map wV).take fs.length)) := own_below HA.out.1.o4 ((Below.refl _ y3).alloc (Nat.le_refl _) _)
                have HSy : Hid (W.heap.size ≤ (y3.alloc (.cells #[.slice o1 p.on.length m1, .slice o2 p.cd.length m2] 24)).heap.size) := by have := HA.out.1.bel.size; show _ ≤ _; simp; omega
                go_wp2_with (at_builtin; refine append_gone _ rfl _ _ 44 rfl W.heap.size 24 j0 (.slice none 0 0) 1 24 Tryd.underlying44 hj hj0 hj1 hj2 rfl (by decide) u4 fs.length (((fs ++ [En.mk kb1 (p.on.map (cst p)) o1 m1, En.mk kb2 ((List.range p.cd.length).map (hgt g)) o2 m2]).map wV).take fs.length) rfl HO4.out ⟨y3.heap.size, 0, none⟩ 2 2 [.slice o1 p.on.length m1, .slice o2 p.cd.length m2] rfl rfl ?c1 ?c2 ?c3 ?c4 ?c5 ?c6 ?_)
                case c1 => exact cells_new y3 24 [.slice o1 p.on.length m1, .slice o2 p.cd.length m2]
                case c2 => simp [Value.oneCell']
                case c3 => have := HSz.out.2; unfold maxLen; omega
                case c4 => have := HSz.out.2; omega
                case c5 => exact HSy.out
                case c6 => decide
                intro v4 y4 ho hG
                have hal9 : Below y3.heap.size y3 (y3.alloc (.cells #[.slice o1 p.on.length m1, .slice o2 p.cd.length m2] 24)) := (Below.refl _ y3).alloc (Nat.le_refl _) _
                have hwv : wV (En.mk kb1 (p.on.map (cst p)) o1 m1) = .slice o1 p.on.length m1 ∧ wV (En.mk kb2 ((List.range p.cd.length).map (hgt g)) o2 m2) = .slice o2 p.cd.length m2 := ⟨by simp [wV], by simp [wV]⟩
                have HC4 : Hid (Ow W y4 v3 (fs.length + 2) v4 (fs.length + 2) (fs ++ [En.mk kb1 (p.on.map (cst p)) o1 m1, En.mk kb2 ((List.range p.cd.length).map (hgt g)) o2 m2]) ∧ Rk y4 o1 (iC (p.on.map (cst p))) (Pw v3 v4 (fs ++ [En.mk kb1 (p.on.map (cst p)) o1 m1, En.mk kb2 ((List.range p.cd.length).map (hgt g)) o2 m2])) ∧ Rk y4 o2 (iC ((List.range p.cd.length).map (hgt g))) (Pw v3 v4 (fs ++ [En.mk kb1 (p.on.map (cst p)) o1 m1, En.mk kb2 ((List.range p.cd.length).map (hgt g)) o2 m2])) ∧ y4.heap[ab]? = some (.cells #[.slice o1 p.on.length m1, .int .i64 (cst p p.miss)] 32 (0, 0)) ∧ y4.heap[ab + 1]? = some (.cells #[.int .i64 0, .int .i64 0] 35 (0, 0))) := by
                  refine ⟨(HA.out.1.below hal9).app4 hG ?_, (HA.out.2.1.below hal9).gone4 hG, (HA.out.2.2.1.below hal9).gone4 hG, gone_box HO4.out hG (by decide) ((hal9.block _ (blk_lt HA.out.2.2.2.1)).trans HA.out.2.2.2.1), gone_box HO4.out hG (by decide) ((hal9.block _ (blk_lt HA.out.2.2.2.2)).trans HA.out.2.2.2.2)⟩
                  rw [tk3, hwv.1, hwv.2]
                  exact ho
                clear ho hG hal9 hwv HA HO4 HSy q0 q1
                go_wp2_with fail
                go_roundg (2 - (k + 1))
                case measure => have h1 := HKn.out; omega
                case rel =>
                  refine ⟨k + 1, fs ++ [En.mk kb1 (p.on.map (cst p)) o1 m1, En.mk kb2 ((List.range p.cd.length).map (hgt g)) o2 m2], HKn.out.1, rfl, by go_num, by have := HKn.out.2.2; simp; omega, ?_, HC4.out.2⟩
                  have e : (fs ++ [En.mk kb1 (p.on.map (cst p)) o1 m1, En.mk kb2 ((List.range p.cd.length).map (hgt g)) o2 m2]).length = fs.length + 2 := by simp
                  rw [e]
                  exact HC4.out.1
              · obtain rfl : k = 2 := by omega
                have HT : Hid (Ow W wr u3 fs.length u4 fs.length fs ∧ fs.length = es.length + 2 * 2) := ⟨hT, hfs⟩
                clear hk hgk hfs hT hk1 hk2 hb1 hb2 hlt f0 f1
                go_wp2_with fail
                go_roundg (min l.length 9 - (i + 1))
                case measure => have h1 := HX.out; omega
                case rel => exact ⟨i + 1, fs, HX.out.2.1, rfl, by go_num, by have := HX.out.2.2.2; have := HT.out.2; omega, HT.out.1⟩
      · have HO : Hid (Ow W wr u3 es.length u4 es.length es ∧ es.length ≤ 36) := ⟨hO, by omega⟩
        have hex : ¬ ((i : Int) < (l.length : Int)) ∨ ¬ ((i : Int) < 9) := by omega
        clear hO hes hlt hgk hi
        by_cases h1 : (i : Int) < (l.length : Int)
        · have h2 : ¬ ((i : Int) < 9) := hex.elim (fun h => absurd h1 h) id
          clear hex
          go_wp2_with fail
          go_meet
          exact ⟨es, HO.out.2, HO.out.1⟩
        · clear hex
          go_wp2_with fail
          go_meet
          exact ⟨es, HO.out.2, HO.out.1⟩
  case rest =>
    obtain ⟨es, hes, hO⟩ := hcut
    have HV : Hid (Ov W wc u3 u4 es 0 0 ∧ es.length ≤ 36) := ⟨Ov.of hO, hes⟩
    obtain ⟨bo3, bc3, rfl⟩ := own_form hO.o3
    obtain ⟨bo4, bc4, rfl⟩ := own_form hO.o4
    clear hO hes
    obtain ⟨Wa, hWa⟩ : ∃ Wa, Wa = wc := ⟨_, rfl⟩
    have HVa : Hid (Ov W Wa (.slice bo3 es.length bc3) (.slice bo4 es.length bc4) es 0 0 ∧ Wa = wc ∧ es.length ≤ 36) := ⟨by rw [hWa]; exact HV.out.1, hWa, HV.out.2⟩
    clear hWa HV
    go_wp2_with fail
    go_loopg [15] es.length (fun gq x wr => ∃ i : Nat, i ≤ es.length ∧ gq = es.length - i ∧ x = .int .i64 (i : Int) ∧ Ov W wr (.slice bo3 es.length bc3) (.slice bo4 es.length bc4) es i 0)
    case atStart => exact ⟨0, Nat.zero_le _, rfl, rfl, by rw [← HVa.out.2.1]; exact HVa.out.1⟩
    case round =>
      obtain ⟨i, hi, hgk, rfl, hO⟩ := hrel
      have hn36 := HVa.out.2.2
      have hn36' : (es.length : Int) ≤ 36 := by omega
      by_cases hlt : i < es.length
      · have hlt' : (i : Int) < (es.length : Int) := by omega
        obtain ⟨e, he⟩ : ∃ e, es[i]? = some e := ⟨_, List.getElem?_eq_getElem hlt⟩
        have HO : Hid (Ov W wr (.slice bo3 es.length bc3) (.slice bo4 es.length bc4) es i 0 ∧ es[i]? = some e ∧ i < es.length ∧ gk = es.length - i ∧ es.length ≤ 36 ∧ e.xs.length ≤ 524288) := ⟨hO, he, hlt, hgk, hn36, hO.ln e (List.mem_of_getElem? he)⟩
        obtain ⟨b3, c3, e3, i3⟩ := hO.at3 he
        obtain ⟨b4, c4, e4, i4⟩ := hO.at4 he
        cases e3
        cases e4
        clear hO he hlt hgk hi hn36
        go_upto_region 21 with fail
        go_cut [115] (fun s wx => s = .bool false ∧ Ov W wx (.slice (some ⟨b3, 0, none⟩) es.length bc3) (.slice (some ⟨b4, 0, none⟩) es.length bc4) es i 0)
        case first =>
          have HS : Hid (∀ X, Below wr.heap.size wr X → Calls Tryd.prog 15 #[.slice (some ⟨e.kb, 0, none⟩) e.xs.length e.xs.length, .slice e.o e.xs.length e.c] X fun r w' => r = .returned (.bool true) ∧ Below X.heap.size X w') := fun X hb => by
            have h1 := ((HO.out.1.below hb).kp i e HO.out.2.1).1.1
            rw [cu_old (Nat.le_refl _)] at h1
            exact sameI_eq e.xs _ _ _ _ X h1 ((HO.out.1.below hb).wt e (List.mem_of_getElem? HO.out.2.1)).rd (by have := HO.out.2.2.2.2.2; omega)
          go_region_with (go_at_call 15; refine (HS.out _ (Below.refl _ wr).drew).mono ?_; rintro _ x1 ⟨rfl, hb1⟩)
          all_goals (go_wp2_with fail; go_meet; exact ⟨rfl, HO.out.1.below (bel_step (Below.refl _ wr).drew hb1)⟩)
        case rest =>
          obtain ⟨rfl, hO⟩ := hcut
          have HO1 : Hid (Ov W wc (.slice (some ⟨b3, 0, none⟩) es.length bc3) (.slice (some ⟨b4, 0, none⟩) es.length bc4) es i 0) := hO
          obtain ⟨b3', c3', e3', j3⟩ := hO.at3 HO.out.2.1
          cases e3'
          clear hO i3 i4
          obtain ⟨j0, hj, hj0, hj1, hj2⟩ := info_parts infoI
          have hxl := HO.out.2.2.2.2.2
          have hxl' : (e.xs.length : Int) ≤ 524288 := by omega
          have hne : (((e.xs.length + 3 : Nat) : Int) != (e.xs.length : Int) + 3) = false := by
            rw [bne_eq_false_iff_eq]
            omega
          have hne2 : (((e.xs.length : Int) + 3) != (e.xs.length : Int) + 3) = false := by simp
          have hbA : Below wc.heap.size wc (wc.alloc (.cells #[.int .i64 (-1), .int .i64 (-2), .int .i64 (-3)] 3)) := (Below.refl _ wc).alloc (Nat.le_refl _) _
          have HRd : Hid (Rd (wc.alloc (.cells #[.int .i64 (-1), .int .i64 (-2), .int .i64 (-3)] 3)) (some ⟨e.kb, 0, none⟩) (iC e.xs)) := by
            have h1 := ((HO1.out.below hbA).kp i e HO.out.2.1).1.1
            rw [cu_old (Nat.le_refl _)] at h1
            exact h1
          have HBA : Hid (Below wc.heap.size wc (wc.alloc (.cells #[.int .i64 (-1), .int .i64 (-2), .int .i64 (-3)] 3))) := hbA
          clear hbA
          go_wp2_with (at_builtin; refine append_full _ rfl _ _ 24 rfl 3 j0 (.int .i64 0) 8 Tryd.underlying24 hj hj0 hj1 hj2 e.kb e.xs.length (iC e.xs) rfl ?c0 HRd.out ⟨wc.heap.size, 0, none⟩ 3 3 [.int .i64 (-1), .int .i64 (-2), .int .i64 (-3)] rfl rfl ?c1 ?c2 ?c3 ?c4 ?_)
          case c0 => unfold iC; simp
          case c1 => exact cells_new wc 3 [.int .i64 (-1), .int .i64 (-2), .int .i64 (-3)]
          case c2 => decide
          case c3 => omega
          case c4 => omega
          intro b' c' x2 hb2
          have hszA : (wc.alloc (.cells #[.int .i64 (-1), .int .i64 (-2), .int .i64 (-3)] 3)).heap.size = wc.heap.size + 1 := by simp
          rw [← hszA] at hb2
          have HO2 : Hid (Ov W x2 (.slice (some ⟨b3, 0, none⟩) es.length bc3) (.slice (some ⟨b4, 0, none⟩) es.length bc4) es i 0) := HO1.out.below (bel_step HBA.out hb2)
          obtain ⟨b3', c3', e3', k3⟩ := HO2.out.at3 HO.out.2.1
          cases e3'
          clear hb2 HBA HRd HO1 j3 hszA
          go_wp2_with fail
          go_loopg [17] e.xs.length (fun gq x wr => ∃ k : Nat, k ≤ e.xs.length ∧ gq = e.xs.length - k ∧ x = .int .i64 (k : Int) ∧ Ov W wr (.slice (some ⟨b3, 0, none⟩) es.length bc3) (.slice (some ⟨b4, 0, none⟩) es.length bc4) es i k)
          case atStart => exact ⟨0, Nat.zero_le _, rfl, rfl, HO2.out⟩
          case round =>
            obtain ⟨k, hk, hgk, rfl, hO⟩ := hrel
            clear HO2 k3
            obtain ⟨b3', c3', e3', k3⟩ := hO.at3 HO.out.2.1
            cases e3'
            by_cases hlt : k < e.xs.length
            · have hkl : (k : Int) < (e.xs.length : Int) := by omega
              have HO3 : Hid (Ov W wr (.slice (some ⟨b3, 0, none⟩) es.length bc3) (.slice (some ⟨b4, 0, none⟩) es.length bc4) es i k ∧ k < e.xs.length ∧ gk = e.xs.length - k) := ⟨hO, hlt, hgk⟩
              have hrf := (hO.kp i e HO.out.2.1).1
              have hcl := rf_cell hrf (cu_at (i := i) (k := k) (j := i) hlt)
              have hfz := rf_fz hrf k
              clear hO hrf hk hgk hlt
              go_wp2_with fail
              have HO4 : Hid (Ov W (wr.setCell ⟨e.kb, k, none⟩ (.int .i64 (-(1000 * (i : Int)) - (k : Int)))) (.slice (some ⟨b3, 0, none⟩) es.length bc3) (.slice (some ⟨b4, 0, none⟩) es.length bc4) es i (k + 1)) := by
                have := HO3.out.1.set HO.out.2.1 HO3.out.2.1
                rw [show (0 - 1000 * (i : Int) - (k : Int)) = -(1000 * (i : Int)) - (k : Int) by omega] at this
                exact this
              go_roundg (e.xs.length - (k + 1))
              case measure => have h1 := HO3.out; omega
              case rel => exact ⟨k + 1, HO3.out.2.1, rfl, by go_num, HO4.out⟩
            · obtain rfl : k = e.xs.length := by omega
              have HO3 : Hid (Ov W wr (.slice (some ⟨b3, 0, none⟩) es.length bc3) (.slice (some ⟨b4, 0, none⟩) es.length bc4) es (i + 1) 0) := hO.next HO.out.2.1 rfl
              clear hO hk hgk hlt
              go_wp2_with fail
              go_roundg (es.length - (i + 1))
              case measure => have h1 := HO.out; omega
              case rel => exact ⟨i + 1, HO.out.2.2.1, rfl, by go_num, HO3.out⟩
      · obtain rfl : i = es.length := by omega
        have HO : Hid (Ov W wr (.slice bo3 es.length bc3) (.slice bo4 es.length bc4) es es.length 0) := hO
        clear hO hlt hgk hi hn36 HVa
        go_upto_region 30 with fail
        obtain ⟨Wb, hWb⟩ : ∃ Wb, Wb = wr := ⟨_, rfl⟩
        have HOb : Hid (Ov W Wb (.slice bo3 es.length bc3) (.slice bo4 es.length bc4) es es.length 0 ∧ Wb = wr) := ⟨by rw [hWb]; exact HO.out, hWb⟩
        clear hWb HO
        go_wp2_with fail
        go_loopg [18] es.length (fun gq x wx => ∃ i : Nat, i ≤ es.length ∧ gq = es.length - i ∧ x = .int .i64 (i : Int) ∧ Wb = wx)
        case atStart => exact ⟨0, Nat.zero_le _, rfl, rfl, HOb.out.2⟩
        case round =>
          obtain ⟨i, hi, hgk, rfl, rfl⟩ := hrel
          by_cases hlt : i < es.length
          · have hlt' : (i : Int) < (es.length : Int) := by omega
            obtain ⟨e, he⟩ : ∃ e, es[i]? = some e := ⟨_, List.getElem?_eq_getElem hlt⟩
            obtain ⟨b3, c3, e3, i3⟩ := HOb.out.1.at3 he
            cases e3
            have HE : Hid (es[i]? = some e ∧ i < es.length ∧ gk = es.length - i) := ⟨he, hlt, hgk⟩
            have hxl' : (e.xs.length : Int) ≤ 524288 := by have := HOb.out.1.ln e (List.mem_of_getElem? he); omega
            clear he hlt hgk hi
            go_wp2_with fail
            go_loopg [19] e.xs.length (fun gq x wx => ∃ k : Nat, k ≤ e.xs.length ∧ gq = e.xs.length - k ∧ x = .int .i64 (k : Int) ∧ Wb = wx)
            case atStart => exact ⟨0, Nat.zero_le _, rfl, rfl, rfl⟩
            case round =>
              obtain ⟨k, hk, hgk, rfl, rfl⟩ := hrel
              by_cases hlt : k < e.xs.length
              · have hkl : (k : Int) < (e.xs.length : Int) := by omega
                have HE2 : Hid (k < e.xs.length ∧ gk = e.xs.length - k) := ⟨hlt, hgk⟩
                have hcl := rf_cell (HOb.out.1.kp i e HE.out.1).1 (cu_all HE.out.2.1 hlt)
                rw [show (0 - 1000 * (i : Int) - (k : Int)) = -(1000 * (i : Int)) - (k : Int) by omega] at hcl
                have hnn : ((-(1000 * (i : Int)) - (k : Int)) != (-(1000 * (i : Int)) - (k : Int))) = false := by simp
                clear hlt hgk hk
                go_wp2_with fail
                go_roundg (e.xs.length - (k + 1))
                case measure => have h1 := HE2.out; omega
                case rel => exact ⟨k + 1, HE2.out.1, rfl, by go_num, rfl⟩
              · obtain rfl : k = e.xs.length := by omega
                clear hlt hgk hk
                go_wp2_with fail
                go_roundg (es.length - (i + 1))
                case measure => have h1 := HE.out; omega
                case rel => exact ⟨i + 1, HE.out.2.1, rfl, by go_num, rfl⟩
          · obtain rfl : i = es.length := by omega
            have HB : Hid (Below W.heap.size W Wb) := HOb.out.1.bel
            clear hlt hgk hi HOb
            go_wp2_with fail
            refine (omake0 _).mono ?_
            rintro r y1 ⟨rfl, hb1⟩
            have HB1 : Hid (Below W.heap.size W y1) := bel_step HB.out hb1
            clear hb1 HB
            go_wp2_with fail
            have hb2 : Below W.heap.size W (y1.alloc (.cells #[.slice none 0 0, .slice none 0 0, .slice none 0 0, .slice none 0 0, .int .i64 (-1), .slice none 0 0] 27)) := HB1.out.alloc HB1.out.size _
            refine (head_any _ (HEf.out _ hb2)).mono ?_
            rintro r y2 ⟨rfl, hb3⟩
            have HB2 : Hid (Below W.heap.size W y2) := bel_step hb2 hb3
            clear hb2 hb3 HB1
            go_wp2_with fail
            go_ret
            exact ⟨rfl, HB2.out⟩
end Go.Proofs.YtelbakkgobkdaaaDoor.Vf

namespace Go.Proofs.YtelbakkgobkdaaaDoor.verifyOwn
open Go.ChangeShapes Go.WideShapes Go.ChangeAt Go.RowKit
open Go.Proofs.YtelbakkgobkdaaaDoor.Nm Go.Proofs.YtelbakkgobkdaaaDoor.Vf

theorem own : ownKnob Tryd.prog.godebug = none := by kernel_rfl
theorem laidOut : laidOutB Tryd.prog = true := by kernel_rfl

set_option maxRecDepth 100000 in
theorem contract (H : Type) (enc : TypeId × Value → H) (W : World) (base : Nat) (args : Array Value) (ds gs : List (DataW H)) (before : List MemPlace)
    (hval : ∀ (j : Nat) t v, Tryd.f5.params[j]? = some t → args[j]? = some v → Value.okWide Tryd.prog W .any base t v)
    (hW : DataW.Whole enc Tryd.prog Tryd.f5.params.toList Rows.verifyOwnSpec.vars false W args.toList ds gs before) (hL : laidMetH Tryd.prog Rows.verifyOwnRow.laid W) :
    Calls Tryd.prog 5 args W fun e W' => ∃ v, e = .returned v ∧ Rows.verifyOwnSpec.post enc Tryd.prog Tryd.f5 false true false false W args v W' := by
  have hW' := hW
  obtain ⟨p, q, hA0, hV, rfl, hfz, hnd⟩ := hW
  have hA : DataW.TrodAll enc Tryd.prog W 0 (fun _ => true) true Tryd.f5.params.toList args.toList ds p := hA0
  rw [Tryd.params5] at hA hval
  obtain ⟨v0, vs0, d0, ds0, p0, q0, hargs, rfl, rfl, h0, r0⟩ := trodAll_cons hA
  obtain ⟨rfl, rfl, rfl⟩ := trodAll_nil r0
  obtain rfl : args = #[v0] := by cases args; simp_all
  obtain ⟨rfl, rfl⟩ := trodVars_none hV
  obtain ⟨a0, len0, cap0, rfl⟩ := okWide_slice Tryd.underlying43 (hval 0 43 v0 rfl rfl)
  have lt0 : ∀ x ∈ p0, x.block < W.heap.size := by obtain ⟨m, hm⟩ := h0; exact DataW.trod_lt m _ _ _ hm
  obtain ⟨l0, rfl, hr0, hm0⟩ := open_progs h0
  refine (ownWalk W a0 l0 cap0 hr0 hm0 (ef_of hL)).mono fun e W2 ⟨he, bel⟩ => ?_
  subst he
  exact ⟨_, rfl, _, _, _, [], _, [], hW', trodAll_mk1 (shut_bool Tryd.underlying4 _), (trodAll_cons_mk (Below.trod laidOut (by kernel_rfl) (of_decide_eq_true (by kernel_rfl)) h0 bel lt0) trodAll_mk0), rfl, bel.frame _, fun h => by cases h⟩

/-- A world for the witness: the settled one, the table holding what its initialiser lays. -/
theorem start (os : Os) : ∃ w0 : World, w0.os = os ∧ (w0.forCall (fun _ _ => 0) ⟨#[], #[Value.slice none 0 0], []⟩).variablesB Tryd.prog = true ∧
    ((w0.forCall (fun _ _ => 0) ⟨#[], #[Value.slice none 0 0], []⟩).heap.toList.drop Tryd.prog.globals.size).take ((begin Tryd.prog (fun _ _ => 0) default).world.heap.size - Tryd.prog.globals.size) = (begin Tryd.prog (fun _ _ => 0) default).world.heap.toList.drop Tryd.prog.globals.size ∧
    Input.okWideB Tryd.prog (w0.forCall (fun _ _ => 0) ⟨#[], #[Value.slice none 0 0], []⟩) 5 ⟨#[], #[Value.slice none 0 0], []⟩ = true ∧
    laidMet Tryd.prog Rows.verifyOwnRow.laid (w0.forCall (fun _ _ => 0) ⟨#[], #[Value.slice none 0 0], []⟩).memory ∧
    ∀ (H : Type) (enc : TypeId × Value → H),
      DataW.whole enc Tryd.prog (w0.forCall (fun _ _ => 0) ⟨#[], #[Value.slice none 0 0], []⟩).memory Tryd.f5.params.toList Rows.verifyOwnSpec.vars false #[Value.slice none 0 0].toList 8 = some ([.nil], [], []) ∧
      (OpenSpec.ofChange Rows.verifyOwnSpec).bare.sizedB enc Tryd.prog Tryd.f5 false (w0.forCall (fun _ _ => 0) ⟨#[], #[Value.slice none 0 0], []⟩).memory #[Value.slice none 0 0] 8 = true :=
  ⟨{ World.holding Tryd.prog os ⟨#[], #[], []⟩ with
      heap := (World.holding Tryd.prog os ⟨#[], #[], []⟩).heap.modify 0 (fun o => match o with
        | .cells _ t frozen => .cells ((List.range 42).flatMap fun op => [Value.int .i64 ((ef op).1 : Int), Value.int .i64 ((ef op).2.1 : Int), Value.int .i64 ((ef op).2.2 : Int)]).toArray t frozen
        | o => o) },
    rfl, by kernel_rfl, by kernel_rfl, by kernel_rfl, laidMet_of_run' 8 (by kernel_rfl) (by kernel_rfl), fun _ _ => ⟨by kernel_rfl, by kernel_rfl⟩⟩

set_option maxRecDepth 100000 in
theorem lifted (os : Os) (started : os.Started) (H : Type) (enc : TypeId × Value → H) (F : Stop.Interp) :
    ReturnsInHanded {} Tryd.checked os 5 .any ((OpenSpec.ofChange Rows.verifyOwnSpec).preRow enc Tryd.prog Tryd.f5 Rows.verifyOwnRow.domain false Rows.verifyOwnRow.laid) (((OpenSpec.ofChange Rows.verifyOwnSpec).at F).post enc Tryd.prog Tryd.f5 false true false false) := by
  obtain ⟨w0, hos, hv, hr, hok, hlaid, hread⟩ := start os
  obtain ⟨hx, hsz⟩ := hread H enc
  refine returnsInHanded_of_row (C := Tryd.checked) (s := OpenSpec.ofChange Rows.verifyOwnSpec) own started (by kernel_rfl) Tryd.func5
    (witness_row_at (enc := enc) (C := Tryd.checked) false w0 #[Value.slice none 0 0] hos hv hr hok
      (OpenSpec.preRow_of_cond 8 hx (by kernel_rfl) (fun k hk => by cases hk) hsz hlaid)) ?_
  intro W base args ds gs before hval hW _ _ _ hL _ _
  exact contract H enc W base args ds gs before hval hW hL

theorem said : Rows.VerifyOwnSaid :=
  OpenClaim.holds_of_cond 5 Tryd.f5 rfl rfl rfl rfl rfl rfl rfl ⟨rfl, rfl, rfl, rfl, rfl⟩ rfl rfl rfl rfl rfl (by kernel_rfl) Tryd.func5 (by kernel_rfl)
    (of_decide_eq_true (by kernel_rfl)) (by unfold Func.isWrapper; first | (rw [if_pos (by decide +kernel)]; kernel_rfl) | (rw [if_neg (by decide +kernel)]; exact ⟨rfl, rfl⟩))
    (fun os started H enc _ F => by rw [OpenClaim.pre_eq_preRow]; exact lifted os started H enc F)

theorem plain (f : FuncId) (fn : Func) (hf : Tryd.pinned.checked.prog.funcNamed "winnow/winnowlaw16.VerifyOwn" = some f) (hfn : Tryd.pinned.checked.prog.funcs[f]? = some fn) :
    false = Tryd.pinned.checked.prog.looks [] ∧ ∀ (j : Nat) t, fn.params[j]? = some t → Tryd.pinned.checked.prog.wantsStandIn t = false := by
  obtain rfl : f = 5 := Option.some.inj ((show Tryd.prog.funcNamed "winnow/winnowlaw16.VerifyOwn" = some 5 by kernel_rfl).symm.trans hf) |>.symm
  obtain rfl : fn = Tryd.f5 := (Option.some.inj (Tryd.func5.symm.trans hfn)).symm
  refine ⟨by kernel_rfl, fun j t ht => ?_⟩
  rw [Tryd.params5] at ht
  obtain rfl : t = 43 := by simpa using Array.mem_of_getElem? ht
  exact (show Tryd.prog.wantsStandIn 43 = false by kernel_rfl)

theorem card : Rows.VerifyOwnCardSaid :=
  Claim7.holds_tied_plain_at .later [] _ _ _ _ said (fun _ h => by cases h) (by kernel_rfl) (fun _ h => by cases h) verifyOwn_row_tie rfl ⟨rfl, rfl⟩ (by kernel_rfl) rfl plain (by kernel_rfl)
end Go.Proofs.YtelbakkgobkdaaaDoor.verifyOwn
