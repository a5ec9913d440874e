import Derived.Test.YtopiakhlajpdaaaGreatJRfRes
import Derived.Test.YtopiakhlajpdaaaGreatJSame
import Derived.Test.YtopiakhlajpdaaaGreatJLend
import Derived.Test.YtopiakhlajpdaaaGreatJHead
import Derived.Test.YtopiakhlajpdaaaGreatJBase
import Derived.ProofKit
import Derived.OpenShut
import Derived.ShutString
import Derived.ChangeOld
import Derived.Below
import Derived.JoinedCond
import Derived.SizedLaws
import Derived.SliceStrings
import Derived.ChangeMaps5
import Derived.Test.YtopiakhlajpdaaaGreatJWrong
import Derived.Deep.Slices
import Derived.ChangeSame
namespace Go.Proofs.YtopiakhlajpdaaaGreat.Nm
open Go.RowKit Go.Maps Go.Proofs.YtopiakhlajpdaaaGreat.Sp Go.Proofs.YtopiakhlajpdaaaGreat.Lx Go.Proofs.YtopiakhlajpdaaaGreat.Gr

theorem far_yes {ao : Option Addr} {n cap : Nat} (h : 65536 < n) (hn : n ≤ 2932031007317) (w : World) : Calls Tryz.prog 6 #[.slice ao n cap] w fun e w' => e = .returned (.bool true) ∧ w = w' := by
  have h1 : decide ((65536 : Int) < (n : Int)) = true := decide_eq_true (by omega)
  have h2 : (65536 : Int) < (n : Int) := by omega
  go_enter Tryz.func6, Tryz.ntmps6
  go_wp2
  go_ret
  exact ⟨rfl, rfl⟩
theorem far_no {ao : Option Addr} {n cap : Nat} (h : ¬ 65536 < n) (w : World) : Calls Tryz.prog 6 #[.slice ao n cap] w fun e w' => e = .returned (.bool false) ∧ w = w' := by
  have h1 : decide ((65536 : Int) < (n : Int)) = false := decide_eq_false (by omega)
  have h3 : decide (65536 < n) = false := decide_eq_false h
  go_enter Tryz.func6, Tryz.ntmps6
  go_wp2
  go_ret
  exact ⟨rfl, rfl⟩
theorem fr_below {w w5 w6 : World} {g b : Nat} (h : Below b w w5) (hF : Fr [g] w5 w6) (hg : b ≤ g) (hb : b ≤ w.heap.size) : Below b w w6 := h.trans ⟨hF.os, hF.tape, hF.output, hF.size, fun k hk => hF.block k (by have := h.size; omega) (by simp; omega)⟩
end Go.Proofs.YtopiakhlajpdaaaGreat.Nm
namespace Go.Proofs.YtopiakhlajpdaaaGreat.namesResolves
open Go.RowKit Go.Maps Go.Proofs.YtopiakhlajpdaaaGreat.Sp Go.Proofs.YtopiakhlajpdaaaGreat.Lx Go.Proofs.YtopiakhlajpdaaaGreat.Gr Go.Proofs.YtopiakhlajpdaaaGreat.Nm

set_option maxHeartbeats 12800000 in
set_option maxRecDepth 100000 in
theorem walk (ao : Option Addr) (l : List Rz) (cap : Nat) (w : World) (h : IsRz w ao l) (hn : l.length ≤ 2932031007317) (hkd : ∀ r ∈ l, r.kids ≤ 9223372036854775807 ∧ r.name.size ≤ 4611686018427387000) :
    Calls Tryz.prog 3 #[.slice ao l.length cap] w fun e w' => e = .returned (.bool true) ∧ Below w.heap.size w w' := by
  have HI : Hid (IsRz w ao l) := h
  have HKd := show Hid _ from hkd
  have HSm := show Hid _ from resP_sm hn
  by_cases hf : 65536 < l.length
  · have HF := show Hid _ from far_yes (ao := ao) (cap := cap) hf hn w
    clear h hn hkd hf
    go_enter Tryz.func3, Tryz.ntmps3
    go_wp2_with fail
    refine Calls.mono HF.out ?_
    rintro _ _ ⟨rfl, rfl⟩
    go_wp2_with fail
    refine Calls.mono (head_any w) ?_
    rintro e w1 ⟨rfl, hb⟩
    have HB := show Hid _ from hb
    clear hb
    go_wp2
    go_ret
    exact ⟨rfl, HB.out⟩
  · have HF := show Hid _ from far_no (ao := ao) (cap := cap) hf w
    have HN : Hid (l.length ≤ 65536) := by show _ ≤ _; omega
    clear h hn hkd hf
    go_enter Tryz.func3, Tryz.ntmps3
    go_wp2_with fail
    refine Calls.mono HF.out ?_
    rintro _ _ ⟨rfl, rfl⟩
    go_wp2_with fail
    refine Calls.mono (lendR_any ao l cap w HI.out (by have := HN.out; omega)) ?_
    rintro e w1 ⟨rfl, hR1, hb1⟩
    have HR1 : Hid (RowZ w1 w.heap.size (fillL l 9) ∧ Below w.heap.size w w1) := ⟨hR1, hb1⟩
    have HZ1 : Hid (IsRz w1 (some ⟨w.heap.size, 0, none⟩) l) := RowZ.reads (l' := (List.range 9).map (fun j => mkL (l.length + j)) ++ List.replicate (9 - 9) rz0) hR1
    clear hR1 hb1
    go_wp2_with fail
    refine Calls.mono (resolve_any (cap := l.length + 9) HZ1.out (by have := HN.out; omega)) ?_
    rintro e w2 hT2
    obtain ⟨ao1, qo1, vo1, to1, uo1, oo1, ac1, qc1, vc1, tc1, uc1, oc1, rfl, hb2, hrd2⟩ := told_g hT2
    have HRr : Hid (∀ W, IsRz W ao l → Calls Tryz.prog 10 #[.slice ao l.length cap] W (Go.Proofs.YtopiakhlajpdaaaGreat.Nm.Told W (res l))) := fun W hW => rresolve_any hW (by have := HN.out; omega) HKd.out
    have HTg : Hid (∀ (w w' : World) (e : Ending), Go.Proofs.YtopiakhlajpdaaaGreat.Nm.Told w (res l) e w' → ∃ ao qo vo tto uo oo ac qc vc tc uc oc, e = .returned (.tuple #[pvG (resP l) ao qo vo tto uo oo ac qc vc tc uc oc, .agg #[.int .i64 ((resC l).1 : Int), .int .i64 ((resC l).2 : Int)]]) ∧ Below w.heap.size w w' ∧ ∀ W : World, (∀ k, w.heap.size ≤ k → k < w'.heap.size → W.heap[k]? = w'.heap[k]?) → RdG W (resP l) ao qo vo tto uo oo) := fun w w' e h => told_g h
    clear hT2
    generalize resP l = P at *
    generalize resC l = C at *
    obtain ⟨c1, c2⟩ := C
    dsimp only [pvG] at HTg ⊢
    have H2 : Hid (Below w1.heap.size w1 w2 ∧ ∀ W : World, (∀ k, w1.heap.size ≤ k → k < w2.heap.size → W.heap[k]? = w2.heap[k]?) → RdG W P ao1 qo1 vo1 to1 uo1 oo1) := ⟨hb2, hrd2⟩
    have hb3 : Below w2.heap.size w2 ((w2.alloc (.cells #[.string P.name, .slice ao1 P.rows.length ac1, .slice qo1 P.qs.length qc1, .slice vo1 P.vs.length vc1, .slice to1 P.ts.length tc1, .slice uo1 P.us.length uc1, .slice oo1 P.on.length oc1, .int .i64 P.miss] 30)).alloc (.cells #[.int .i64 (c1 : Int), .int .i64 (c2 : Int)] 33)) := ((Below.refl _ w2).alloc (Nat.le_refl _) _).alloc (by simp) _
    have hx1 : ((w2.alloc (.cells #[.string P.name, .slice ao1 P.rows.length ac1, .slice qo1 P.qs.length qc1, .slice vo1 P.vs.length vc1, .slice to1 P.ts.length tc1, .slice uo1 P.us.length uc1, .slice oo1 P.on.length oc1, .int .i64 P.miss] 30)).alloc (.cells #[.int .i64 (c1 : Int), .int .i64 (c2 : Int)] 33)).heap[w2.heap.size]? = some (.cells #[.string P.name, .slice ao1 P.rows.length ac1, .slice qo1 P.qs.length qc1, .slice vo1 P.vs.length vc1, .slice to1 P.ts.length tc1, .slice uo1 P.us.length uc1, .slice oo1 P.on.length oc1, .int .i64 P.miss] 30 (0, 0)) := by rw [alloc_old _ _ _ (by simp)]; exact alloc_at _ _ _ rfl
    have hx2 : ((w2.alloc (.cells #[.string P.name, .slice ao1 P.rows.length ac1, .slice qo1 P.qs.length qc1, .slice vo1 P.vs.length vc1, .slice to1 P.ts.length tc1, .slice uo1 P.us.length uc1, .slice oo1 P.on.length oc1, .int .i64 P.miss] 30)).alloc (.cells #[.int .i64 (c1 : Int), .int .i64 (c2 : Int)] 33)).heap[w2.heap.size + 1]? = some (.cells #[.int .i64 (c1 : Int), .int .i64 (c2 : Int)] 33 (0, 0)) := alloc_at _ _ _ (by simp)
    have H3 : Hid (Below w2.heap.size w2 ((w2.alloc (.cells #[.string P.name, .slice ao1 P.rows.length ac1, .slice qo1 P.qs.length qc1, .slice vo1 P.vs.length vc1, .slice to1 P.ts.length tc1, .slice uo1 P.us.length uc1, .slice oo1 P.on.length oc1, .int .i64 P.miss] 30)).alloc (.cells #[.int .i64 (c1 : Int), .int .i64 (c2 : Int)] 33)) ∧ ((w2.alloc (.cells #[.string P.name, .slice ao1 P.rows.length ac1, .slice qo1 P.qs.length qc1, .slice vo1 P.vs.length vc1, .slice to1 P.ts.length tc1, .slice uo1 P.us.length uc1, .slice oo1 P.on.length oc1, .int .i64 P.miss] 30)).alloc (.cells #[.int .i64 (c1 : Int), .int .i64 (c2 : Int)] 33)).heap[w2.heap.size]? = some (.cells #[.string P.name, .slice ao1 P.rows.length ac1, .slice qo1 P.qs.length qc1, .slice vo1 P.vs.length vc1, .slice to1 P.ts.length tc1, .slice uo1 P.us.length uc1, .slice oo1 P.on.length oc1, .int .i64 P.miss] 30 (0, 0)) ∧ ((w2.alloc (.cells #[.string P.name, .slice ao1 P.rows.length ac1, .slice qo1 P.qs.length qc1, .slice vo1 P.vs.length vc1, .slice to1 P.ts.length tc1, .slice uo1 P.us.length uc1, .slice oo1 P.on.length oc1, .int .i64 P.miss] 30)).alloc (.cells #[.int .i64 (c1 : Int), .int .i64 (c2 : Int)] 33)).heap[w2.heap.size + 1]? = some (.cells #[.int .i64 (c1 : Int), .int .i64 (c2 : Int)] 33 (0, 0))) := ⟨hb3, hx1, hx2⟩
    clear hb2 hrd2 hb3 hx1 hx2
    go_wp2_with fail
    generalize ((w2.alloc (.cells #[.string P.name, .slice ao1 P.rows.length ac1, .slice qo1 P.qs.length qc1, .slice vo1 P.vs.length vc1, .slice to1 P.ts.length tc1, .slice uo1 P.us.length uc1, .slice oo1 P.on.length oc1, .int .i64 P.miss] 30)).alloc (.cells #[.int .i64 (c1 : Int), .int .i64 (c2 : Int)] 33)) = w3 at *
    have HB3 : Hid (Below w.heap.size w w3 ∧ Below w1.heap.size w1 w3) := by
      have a := H2.out.1.trans (H3.out.1.mono H2.out.1.size)
      exact ⟨HR1.out.2.trans (a.mono HR1.out.2.size), a⟩
    refine Calls.mono (HRr.out w3 (HI.out.below HB3.out.1)) ?_
    rintro e w4 hT4
    obtain ⟨ao2, qo2, vo2, to2, uo2, oo2, ac2, qc2, vc2, tc2, uc2, oc2, rfl, hb4, hrd4⟩ := HTg.out _ _ _ hT4
    have H4 : Hid (Below w3.heap.size w3 w4 ∧ ∀ W : World, (∀ k, w3.heap.size ≤ k → k < w4.heap.size → W.heap[k]? = w4.heap[k]?) → RdG W P ao2 qo2 vo2 to2 uo2 oo2) := ⟨hb4, hrd4⟩
    have hb5 : Below w4.heap.size w4 ((w4.alloc (.cells #[.string P.name, .slice ao2 P.rows.length ac2, .slice qo2 P.qs.length qc2, .slice vo2 P.vs.length vc2, .slice to2 P.ts.length tc2, .slice uo2 P.us.length uc2, .slice oo2 P.on.length oc2, .int .i64 P.miss] 30)).alloc (.cells #[.int .i64 (c1 : Int), .int .i64 (c2 : Int)] 33)) := ((Below.refl _ w4).alloc (Nat.le_refl _) _).alloc (by simp) _
    have hy1 : ((w4.alloc (.cells #[.string P.name, .slice ao2 P.rows.length ac2, .slice qo2 P.qs.length qc2, .slice vo2 P.vs.length vc2, .slice to2 P.ts.length tc2, .slice uo2 P.us.length uc2, .slice oo2 P.on.length oc2, .int .i64 P.miss] 30)).alloc (.cells #[.int .i64 (c1 : Int), .int .i64 (c2 : Int)] 33)).heap[w4.heap.size]? = some (.cells #[.string P.name, .slice ao2 P.rows.length ac2, .slice qo2 P.qs.length qc2, .slice vo2 P.vs.length vc2, .slice to2 P.ts.length tc2, .slice uo2 P.us.length uc2, .slice oo2 P.on.length oc2, .int .i64 P.miss] 30 (0, 0)) := by rw [alloc_old _ _ _ (by simp)]; exact alloc_at _ _ _ rfl
    have hy2 : ((w4.alloc (.cells #[.string P.name, .slice ao2 P.rows.length ac2, .slice qo2 P.qs.length qc2, .slice vo2 P.vs.length vc2, .slice to2 P.ts.length tc2, .slice uo2 P.us.length uc2, .slice oo2 P.on.length oc2, .int .i64 P.miss] 30)).alloc (.cells #[.int .i64 (c1 : Int), .int .i64 (c2 : Int)] 33)).heap[w4.heap.size + 1]? = some (.cells #[.int .i64 (c1 : Int), .int .i64 (c2 : Int)] 33 (0, 0)) := alloc_at _ _ _ (by simp)
    have H5 : Hid (Below w4.heap.size w4 ((w4.alloc (.cells #[.string P.name, .slice ao2 P.rows.length ac2, .slice qo2 P.qs.length qc2, .slice vo2 P.vs.length vc2, .slice to2 P.ts.length tc2, .slice uo2 P.us.length uc2, .slice oo2 P.on.length oc2, .int .i64 P.miss] 30)).alloc (.cells #[.int .i64 (c1 : Int), .int .i64 (c2 : Int)] 33)) ∧ ((w4.alloc (.cells #[.string P.name, .slice ao2 P.rows.length ac2, .slice qo2 P.qs.length qc2, .slice vo2 P.vs.length vc2, .slice to2 P.ts.length tc2, .slice uo2 P.us.length uc2, .slice oo2 P.on.length oc2, .int .i64 P.miss] 30)).alloc (.cells #[.int .i64 (c1 : Int), .int .i64 (c2 : Int)] 33)).heap[w4.heap.size]? = some (.cells #[.string P.name, .slice ao2 P.rows.length ac2, .slice qo2 P.qs.length qc2, .slice vo2 P.vs.length vc2, .slice to2 P.ts.length tc2, .slice uo2 P.us.length uc2, .slice oo2 P.on.length oc2, .int .i64 P.miss] 30 (0, 0)) ∧ ((w4.alloc (.cells #[.string P.name, .slice ao2 P.rows.length ac2, .slice qo2 P.qs.length qc2, .slice vo2 P.vs.length vc2, .slice to2 P.ts.length tc2, .slice uo2 P.us.length uc2, .slice oo2 P.on.length oc2, .int .i64 P.miss] 30)).alloc (.cells #[.int .i64 (c1 : Int), .int .i64 (c2 : Int)] 33)).heap[w4.heap.size + 1]? = some (.cells #[.int .i64 (c1 : Int), .int .i64 (c2 : Int)] 33 (0, 0))) := ⟨hb5, hy1, hy2⟩
    clear hb4 hrd4 hT4 hb5 hy1 hy2 HRr HTg
    go_wp2_with fail
    generalize ((w4.alloc (.cells #[.string P.name, .slice ao2 P.rows.length ac2, .slice qo2 P.qs.length qc2, .slice vo2 P.vs.length vc2, .slice to2 P.ts.length tc2, .slice uo2 P.us.length uc2, .slice oo2 P.on.length oc2, .int .i64 P.miss] 30)).alloc (.cells #[.int .i64 (c1 : Int), .int .i64 (c2 : Int)] 33)) = w5 at *
    have HB5 : Hid (Below w3.heap.size w3 w5 ∧ Below w1.heap.size w1 w5 ∧ Below w.heap.size w w5) := by
      have a := H4.out.1.trans (H5.out.1.mono H4.out.1.size)
      exact ⟨a, HB3.out.2.trans (a.mono HB3.out.2.size), HB3.out.1.trans (a.mono HB3.out.1.size)⟩
    refine Calls.mono (keptR_any w.heap.size ao l cap w5 (HR1.out.1.below HB5.out.2.1 HR1.out.1.lt) (HI.out.below HB5.out.2.2) (by have := HN.out; omega)) ?_
    rintro e w6 ⟨rfl, hF6⟩
    have hs1 := HR1.out.1.lt
    have hs2 := H2.out.1.size
    have hs3 := H3.out.1.size
    have hs4 := H4.out.1.size
    have hs5 := H5.out.1.size
    have hp1 := blk_lt H3.out.2.1
    have hp2 := blk_lt H3.out.2.2
    have hq1 := blk_lt H5.out.2.1
    have hq2 := blk_lt H5.out.2.2
    have hk6 : ∀ k, k < w5.heap.size → k ≠ w.heap.size → w6.heap[k]? = w5.heap[k]? := fun k hk hne => hF6.block k hk (by simpa using hne)
    have e1 : w6.heap[w2.heap.size]? = some (.cells #[.string P.name, .slice ao1 P.rows.length ac1, .slice qo1 P.qs.length qc1, .slice vo1 P.vs.length vc1, .slice to1 P.ts.length tc1, .slice uo1 P.us.length uc1, .slice oo1 P.on.length oc1, .int .i64 P.miss] 30 (0, 0)) := (hk6 _ (by omega) (by omega)).trans ((HB5.out.1.block _ hp1).trans H3.out.2.1)
    have e2 : w6.heap[w2.heap.size + 1]? = some (.cells #[.int .i64 (c1 : Int), .int .i64 (c2 : Int)] 33 (0, 0)) := (hk6 _ (by omega) (by omega)).trans ((HB5.out.1.block _ hp2).trans H3.out.2.2)
    have e3 : w6.heap[w4.heap.size]? = some (.cells #[.string P.name, .slice ao2 P.rows.length ac2, .slice qo2 P.qs.length qc2, .slice vo2 P.vs.length vc2, .slice to2 P.ts.length tc2, .slice uo2 P.us.length uc2, .slice oo2 P.on.length oc2, .int .i64 P.miss] 30 (0, 0)) := (hk6 _ hq1 (by omega)).trans H5.out.2.1
    have e4 : w6.heap[w4.heap.size + 1]? = some (.cells #[.int .i64 (c1 : Int), .int .i64 (c2 : Int)] 33 (0, 0)) := (hk6 _ hq2 (by omega)).trans H5.out.2.2
    have rd1 : RdG w6 P ao1 qo1 vo1 to1 uo1 oo1 := H2.out.2 w6 (fun k k1 k2 => (hk6 k (by omega) (by omega)).trans ((HB5.out.1.block k (by omega)).trans (H3.out.1.block k k2)))
    have rd2 : RdG w6 P ao2 qo2 vo2 to2 uo2 oo2 := H4.out.2 w6 (fun k k1 k2 => (hk6 k (by omega) (by omega)).trans (H5.out.1.block k k2))
    obtain ⟨a0, a1, a2, a3, a4, a5, a6, a7⟩ := pol8 e1
    obtain ⟨b0, b1, b2, b3, b4, b5, b6, b7⟩ := pol8 e3
    have f0 : w6.cell? ⟨w2.heap.size + 1, 0, none⟩ = some (.int .i64 (c1 : Int)) := by rw [World.cell?, e2]; rfl
    have f1 : w6.cell? ⟨w2.heap.size + 1, 1, none⟩ = some (.int .i64 (c2 : Int)) := by rw [World.cell?, e2]; rfl
    have g0 : w6.cell? ⟨w4.heap.size + 1, 0, none⟩ = some (.int .i64 (c1 : Int)) := by rw [World.cell?, e4]; rfl
    have g1 : w6.cell? ⟨w4.heap.size + 1, 1, none⟩ = some (.int .i64 (c2 : Int)) := by rw [World.cell?, e4]; rfl
    have HS6 := show Hid _ from rsame_any (ac := ac1) (qc := qc1) (vc := vc1) (tc := tc1) (uc := uc1) (oc := oc1) (ac2 := ac2) (qc2 := qc2) (vc2 := vc2) (tc2 := tc2) (uc2 := uc2) (oc2 := oc2) rd1 rd2 HSm.out
    dsimp only [pvG] at HS6
    have HB6 : Hid (Below w.heap.size w w6) := fr_below HB5.out.2.2 hF6 (Nat.le_refl _) (Nat.le_refl _)
    clear hF6 hs1 hs2 hs3 hs4 hs5 hp1 hp2 hq1 hq2 hk6 e1 e2 e3 e4 rd1 rd2
    go_wp2_with fail
    refine Calls.mono HS6.out ?_
    rintro e w7 ⟨⟨b, rfl, hbt⟩, hb7⟩
    obtain rfl : b = true := by simpa using hbt
    have HB7 : Hid (Below w.heap.size w w7) := HB6.out.trans (hb7.mono HB6.out.size)
    clear hb7 hbt HS6 a0 a1 a2 a3 a4 a5 a6 a7 b0 b1 b2 b3 b4 b5 b6 b7 f0 f1 g0 g1
    go_wp2_with fail
    refine Calls.mono (head_any w7) ?_
    rintro e w8 ⟨rfl, hb8⟩
    have HB8 : Hid (Below w.heap.size w w8) := HB7.out.trans (hb8.mono HB7.out.size)
    clear hb8
    go_wp2
    go_ret
    exact ⟨rfl, HB8.out⟩
end Go.Proofs.YtopiakhlajpdaaaGreat.namesResolves

namespace Go.Proofs.YtopiakhlajpdaaaGreat.Lx
open Go.ChangeShapes Go.WideShapes Go.ChangeAt Go.RowKit Go.Proofs.YtopiakhlajpdaaaGreat.Sp

theorem own : ownKnob Tryz.prog.godebug = none := by kernel_rfl
theorem laidOut : laidOutB Tryz.prog = true := by kernel_rfl
theorem bytes5 : Tryz.prog.bytesOf 5 = 1 := by kernel_rfl

theorem open_bytes {H : Type} {enc : TypeId × Value → H} {W : World} {a : Option Addr} {len cap : Nat} {d : DataW H} {p : List MemPlace} (h : DataW.Trod enc Tryz.prog W 0 (fun _ => true) true 115 (.slice a len cap) d p) :
    ∃ s : ByteArray, s.size = len ∧ len ≤ cap ∧ IsBytes W a s ∧ (len = 0 ∨ ∃ el sp, d = .slice el sp ∧ el.length = len) := by
  obtain ⟨fuel, hf⟩ := h
  rcases open_ints Tryz.underlying115 Tryz.underlying5 (by kernel_rfl) hf with ⟨hcs, hx⟩ | ⟨x, l, c, zs, hcs, _, hl, hm, hz, hx, hcell, hwz⟩
  · simp [Value.cells] at hcs
    obtain ⟨rfl, rfl, rfl⟩ := hcs
    exact ⟨ByteArray.empty, rfl, Nat.le_refl _, fun i hi => absurd hi (Nat.not_lt_zero _), Or.inl rfl⟩
  · simp [Value.cells] at hcs
    obtain ⟨rfl, rfl, rfl⟩ := hcs
    simp at hz hx
    obtain ⟨rfl, rfl⟩ := hx
    have hsz : (strOfNums (zs.take len)).size = len := by rw [strOfNums_size]; simp; omega
    refine ⟨strOfNums (zs.take len), hsz, hl, fun i hi => ?_, Or.inr ⟨_, _, rfl, by simp [lits]; omega⟩⟩
    obtain ⟨b, off, spot⟩ := x
    have h0 := hcell 0 (by omega)
    have hspot : spot = none := by simpa [Addr.add] using World.cell?_spot h0
    subst hspot
    have hB : Lib.Bytes W b off (strOfNums (zs.take len)) := Lib.bytes_of_nums (n := len) (by simp; omega) (fun x hx => by
      have hx := bounds_u8 (hwz x (List.mem_of_mem_take hx))
      omega) (fun j hj => by
        have := hcell j (by omega)
        rw [Lib.addr_add] at this
        rw [this]
        simp [List.getD, List.getElem?_take_of_lt hj])
    have hc := hB i hi
    refine ⟨b, off, rfl, World.block_lt_of_cell? W _ hc, ?_⟩
    rw [hc, nb_get _ i hi]
theorem bytes_reach {H : Type} {ts : List TypeId} {ds : List (DataW H)} (hsz : (DataW.weightsEach Tryz.prog ts ds).all (· ≤ reachBytes) = true) {j len : Nat} {d : DataW H} (ht : ts[j]? = some 115) (hd : ds[j]? = some d) (h : len = 0 ∨ ∃ el sp, d = .slice el sp ∧ el.length = len) : len ≤ 140737488351232 := by
  rcases h with rfl | ⟨el, sp, rfl, rfl⟩
  · omega
  · have := sized_slice hsz ht hd Tryz.underlying115
    rw [bytes5] at this
    simp only [reachBytes] at this
    omega
end Go.Proofs.YtopiakhlajpdaaaGreat.Lx

namespace Go.Proofs.YtopiakhlajpdaaaGreat.Gr
open Go.ChangeShapes Go.WideShapes Go.ChangeAt Go.RowKit Go.Deep Go.Proofs.YtopiakhlajpdaaaGreat.Sp Go.Proofs.YtopiakhlajpdaaaGreat.Lx

theorem bytes49 : Tryz.prog.bytesOf 49 = 48 := by kernel_rfl
theorem cells49 : Tryz.prog.cellsOf 49 = 5 := by kernel_rfl
theorem cells3 : Tryz.prog.cellsOf 3 = 1 := by kernel_rfl
theorem cells9 : Tryz.prog.cellsOf 9 = 1 := by kernel_rfl
instance : Inhabited Rz := ⟨rz0⟩
/-- a row's datum -/
def dz {H : Type} (r : Rz) : DataW H := .agg [.lit (.int .i64 r.kind), .lit (.string r.name.data.toList), .lit (.int .i64 r.stop), .lit (.int .i64 r.n), .lit (.int .i64 r.kids)]
theorem wf_le {n : Int} (h : (Lit.int .i64 n).wf = true) : n ≤ 9223372036854775807 := by
  simp [Lit.wf] at h
  omega
theorem five {α : Type} {l : List α} (h : l.length = 5) : ∃ a b c d e, l = [a, b, c, d, e] := by
  match l, h with
  | [a, b, c, d, e], _ => exact ⟨a, b, c, d, e, rfl⟩
theorem open_one {H : Type} {enc : TypeId × Value → H} {W : World} {base n : Nat} {sp : Nat → Bool} {hd : Bool} {cs : List Value} {d : DataW H} {pl : List MemPlace} (h : DataW.trod enc Tryz.prog W base sp hd n 49 cs = some (d, pl)) :
    ∃ r : Rz, cs = [.int .i64 r.kind, .string r.name, .int .i64 r.stop, .int .i64 r.n, .int .i64 r.kids] ∧ d = dz r ∧ r.kids ≤ 9223372036854775807 := by
  obtain ⟨xs, k, hk, hxy, hl, hxl, hf⟩ := DataW.trod_struct Tryz.underlying49 h
  rw [cells49] at hl
  have hxl5 : xs.length = 5 := hxl
  obtain ⟨y0, y1, y2, y3, y4, rfl⟩ := five hxl5
  obtain ⟨v0, v1, v2, v3, v4, rfl⟩ := five hl
  have g0 := hf 0 _ rfl
  have g1 := hf 1 _ rfl
  have g2 := hf 2 _ rfl
  have g3 := hf 3 _ rfl
  have g4 := hf 4 _ rfl
  simp [cells3, cells9] at g0 g1 g2 g3 g4
  obtain ⟨a0, e0, f0, _⟩ := DataW.trod_int Tryz.underlying3 g0
  obtain ⟨a1, e1, f1, _⟩ := DataW.trod_string Tryz.underlying9 g1
  obtain ⟨a2, e2, f2, _⟩ := DataW.trod_int Tryz.underlying3 g2
  obtain ⟨a3, e3, f3, _⟩ := DataW.trod_int Tryz.underlying3 g3
  obtain ⟨a4, e4, f4, w4⟩ := DataW.trod_int Tryz.underlying3 g4
  simp only [List.cons.injEq, and_true] at e0 e1 e2 e3 e4
  subst e0 e1 e2 e3 e4 f0 f1 f2 f3 f4
  simp only [Prod.mk.injEq] at hxy
  exact ⟨⟨a0, a1, a2, a3, a4⟩, rfl, by simpa [dz] using hxy.1, wf_le w4⟩
theorem open_rowsZ {H : Type} {enc : TypeId × Value → H} {W : World} {a : Option Addr} {len cap : Nat} {d : DataW H} {p : List MemPlace} (h : DataW.Trod enc Tryz.prog W 0 (fun _ => true) true 22 (.slice a len cap) d p) :
    ∃ l : List Rz, l.length = len ∧ len ≤ cap ∧ IsRz W a l ∧ (∀ r ∈ l, r.kids ≤ 9223372036854775807) ∧ (l = [] ∨ ∃ sp, d = .slice (l.map dz) sp) := by
  obtain ⟨fuel, hf⟩ := h
  rcases open_slice Tryz.underlying22 hf with ⟨hcs, _⟩ | ⟨x, l, c, m, n, D, Pl, hcs, _, hl, hm, hmm, hx, hcell⟩
  · simp [Value.cells] at hcs
    obtain ⟨rfl, rfl, rfl⟩ := hcs
    exact ⟨[], rfl, Nat.le_refl _, fun i x hx => (by simp at hx), fun r hr => (by cases hr), Or.inl rfl⟩
  · simp [Value.cells] at hcs
    obtain ⟨rfl, rfl, rfl⟩ := hcs
    simp only [if_true] at hmm
    subst hmm
    simp only [Prod.mk.injEq] at hx
    have each : ∀ i, i < len → ∃ r : Rz, W.cells? 0 (x.add (i * 5)) 5 = some [.int .i64 r.kind, .string r.name, .int .i64 r.stop, .int .i64 r.n, .int .i64 r.kids] ∧ D i = dz r ∧ r.kids ≤ 9223372036854775807 := by
      intro i hi
      obtain ⟨cs', h1, h2⟩ := hcell i (by omega)
      obtain ⟨r, rfl, h4, h5⟩ := open_one h2
      rw [cells49] at h1
      exact ⟨r, h1, h4, h5⟩
    obtain ⟨q, hq⟩ := choose_lt each
    refine ⟨(List.range len).map q, by simp, hl, fun i r hr => ?_, fun r hr => ?_, Or.inr ⟨(List.range (m - len)).map fun j => D (len + j), ?_⟩⟩
    · have hi : i < len := by
        have := (List.getElem?_eq_some_iff.1 hr).1
        simpa using this
      have hri : q i = r := by simpa [hi] using hr
      obtain ⟨h1, _, _⟩ := hq i hi
      rw [hri] at h1
      obtain ⟨_, hlen, hc⟩ := World.cells?_some h1
      have e0 := hc 0 (by omega)
      have e1 := hc 1 (by omega)
      have e2 := hc 2 (by omega)
      have e3 := hc 3 (by omega)
      have e4 := hc 4 (by omega)
      rw [add_add] at e0 e1 e2 e3 e4
      simp at e0 e1 e2 e3 e4
      obtain ⟨b, off, spot⟩ := x
      have hspot : spot = none := by
        obtain ⟨g1, _, _⟩ := hq 0 (by omega)
        obtain ⟨_, _, gc⟩ := World.cells?_some g1
        have g0 := gc 0 (by omega)
        simp [Addr.add] at g0
        simpa [Addr.add] using World.cell?_spot g0
      subst hspot
      rw [Lib.addr_add] at e0 e1 e2 e3 e4
      refine ⟨b, off, rfl, World.block_lt_of_cell? W _ e0, e0, ?_, ?_, ?_, ?_⟩
      · rw [Nat.add_assoc]; exact e1
      · rw [Nat.add_assoc]; exact e2
      · rw [Nat.add_assoc]; exact e3
      · rw [Nat.add_assoc]; exact e4
    · obtain ⟨i, hi, rfl⟩ := List.mem_map.1 hr
      exact (hq i (List.mem_range.1 hi)).2.2
    · rw [hx.1]
      congr 1
      rw [List.map_map]
      exact List.map_congr_left fun i hi => (hq i (List.mem_range.1 hi)).2.1
theorem weights_all {H : Type} {P : Program} {e : TypeId} {d : DataW H} {l : List (DataW H)} (h : d ∈ l) : ∀ n ∈ d.weights P e, n ∈ DataW.weightsAll P e l := by
  induction l with
  | nil => cases h
  | cons x r ih =>
    intro n hn
    simp only [DataW.weightsAll, List.mem_append]
    rcases List.mem_cons.1 h with rfl | h1
    · exact Or.inl hn
    · exact Or.inr (ih h1 n hn)
theorem rows_reach {H : Type} {ts : List TypeId} {ds : List (DataW H)} (hsz : (DataW.weightsEach Tryz.prog ts ds).all (· ≤ reachBytes) = true) {j : Nat} {l : List Rz} {d : DataW H} (ht : ts[j]? = some 22) (hd : ds[j]? = some d) (h : l = [] ∨ ∃ sp, d = .slice (l.map dz) sp) :
    l.length ≤ 2932031007317 ∧ ∀ r ∈ l, r.name.size ≤ 140737488351232 := by
  rcases h with rfl | ⟨sp, rfl⟩
  · exact ⟨by simp, fun x hx => by cases hx⟩
  · refine ⟨?_, fun x hx => ?_⟩
    · have := sized_slice hsz ht hd Tryz.underlying22
      rw [bytes49] at this
      simp only [reachBytes, List.length_map] at this
      omega
    · have h1 : (dz x : DataW H) ∈ l.map dz := List.mem_map.2 ⟨x, hx, rfl⟩
      have h2 := weights_all (P := Tryz.prog) (e := 49) h1 x.name.data.toList.length (by simp [dz, DataW.weights, Tryz.underlying49, DataW.weightsEach])
      have h3 := List.all_eq_true.1 hsz _ (DataW.weights_mem_each ht hd x.name.data.toList.length (by
        simp only [DataW.weights, Tryz.underlying22]
        exact List.mem_cons_of_mem _ (List.mem_append_left _ h2)))
      have h4 := of_decide_eq_true h3
      simpa [reachBytes] using h4
end Go.Proofs.YtopiakhlajpdaaaGreat.Gr

namespace Go.Proofs.YtopiakhlajpdaaaGreat.namesResolves
open Go.ChangeShapes Go.WideShapes Go.ChangeAt Go.RowKit
open Go.Proofs.YtopiakhlajpdaaaGreat.Sp Go.Proofs.YtopiakhlajpdaaaGreat.Lx Go.Proofs.YtopiakhlajpdaaaGreat.Gr

set_option maxRecDepth 100000 in
theorem contractF (H : Type) (enc : TypeId × Value → H) (W : World) (base : Nat) (args : Array Value) (ds gs : List (DataW H)) (before : List MemPlace)
    (hval : ∀ (j : Nat) t v, Tryz.f3.params[j]? = some t → args[j]? = some v → Value.okWide Tryz.prog W .any base t v)
    (hW : DataW.Whole enc Tryz.prog Tryz.f3.params.toList Rows.namesResolvesSpec.vars false W args.toList ds gs before)
    (hsz : (DataW.weightsEach Tryz.prog (Tryz.f3.params.toList ++ Rows.namesResolvesSpec.plain.varTypes Tryz.prog) (ds ++ gs)).all (· ≤ reachBytes) = true) :
    Calls Tryz.prog 3 args W fun e W' => ∃ v, e = .returned v ∧ Rows.namesResolvesSpec.post enc Tryz.prog Tryz.f3 false true false false W args v W' := by
  have hW' := hW
  obtain ⟨p, q, hA0, hV, rfl, hfz, hnd⟩ := hW
  have hA : DataW.TrodAll enc Tryz.prog W 0 (fun _ => true) true Tryz.f3.params.toList args.toList ds p := hA0
  rw [Tryz.params3] at hA hval hsz
  obtain ⟨v0, vs0, d0, ds0, p0, q0, hargs, rfl, rfl, h0, r0⟩ := trodAll_cons hA
  obtain ⟨rfl, rfl, rfl⟩ := trodAll_nil r0
  obtain rfl : args = #[v0] := by cases args; simp_all
  obtain ⟨rfl, rfl⟩ := trodVars_none hV
  obtain ⟨a0, len0, cap0, rfl⟩ := okWide_slice Tryz.underlying22 (hval 0 22 v0 rfl rfl)
  have lt0 : ∀ x ∈ p0, x.block < W.heap.size := by obtain ⟨m, hm⟩ := h0; exact DataW.trod_lt m _ _ _ hm
  obtain ⟨s0, rfl, cl0, ib0, kb0, dd0⟩ := open_rowsZ h0
  refine (walk a0 s0 cap0 W ib0 (rows_reach hsz (j := 0) rfl rfl dd0).1 (fun r hr => ⟨kb0 r hr, by have := (rows_reach hsz (j := 0) rfl rfl dd0).2 r hr; omega⟩)).mono fun e W2 ⟨he, bel⟩ => ?_
  subst he
  exact ⟨_, rfl, _, _, _, [], _, [], hW', trodAll_mk1 (shut_bool Tryz.underlying4 _), (trodAll_cons_mk (Below.trod laidOut (by kernel_rfl) (of_decide_eq_true (by kernel_rfl)) h0 bel lt0) trodAll_mk0), rfl, bel.frame _, fun h => by cases h⟩

set_option maxRecDepth 100000 in
theorem liftedF (os : Os) (started : os.Started) (H : Type) (enc : TypeId × Value → H) :
    ReturnsInHanded {} Tryz.checked os 3 .any (Rows.namesResolvesSpec.pre6 enc Tryz.prog Tryz.f3 Rows.namesResolvesRow.domain false) (Rows.namesResolvesSpec.post enc Tryz.prog Tryz.f3 false true false false) := by
  refine returnsInHanded_of_change_sized (C := Tryz.checked) own started (by kernel_rfl) Tryz.func3
    (ChangeSpec.witness6 (enc := enc) (C := Tryz.checked) false ⟨#[], #[.slice none 0 0], []⟩ 8 (by kernel_rfl) (by kernel_rfl) (by kernel_rfl) (by kernel_rfl)) ?_
  intro W base args ds gs before hval hW _ hsz _
  exact contractF H enc W base args ds gs before hval hW hsz

theorem provedF : Rows.NamesResolvesSaid :=
  OpenClaim.holds_of_wide 3 Tryz.f3 rfl rfl rfl rfl rfl rfl rfl ⟨rfl, rfl, rfl, rfl, rfl⟩ rfl rfl rfl rfl rfl (by kernel_rfl) Tryz.func3 (by kernel_rfl)
    (of_decide_eq_true (by kernel_rfl)) (by unfold Func.isWrapper; first | (rw [if_pos (by decide +kernel)]; kernel_rfl) | (rw [if_neg (by decide +kernel)]; exact ⟨rfl, rfl⟩))
    (fun os started H enc _ => liftedF os started H enc)
end Go.Proofs.YtopiakhlajpdaaaGreat.namesResolves
