import Derived.Test.YtopiakhlajpdaaaGreatJBase
import Derived.Test.YtopiakhlajpdaaaGreatJRfRes
import Derived.Test.YtopiakhlajpdaaaGreatJSame
import Derived.Test.YtopiakhlajpdaaaGreatJLend
import Derived.Test.YtopiakhlajpdaaaGreatJHead
import Derived.Test.YtopiakhlajpdaaaGreatJChk
import Derived.Test.YtopiakhlajpdaaaGreatJLaidP
import Derived.ProofKit
import Derived.OpenShut
import Derived.ShutString
import Derived.ChangeOld
import Derived.Below
import Derived.JoinedCond
import Derived.SizedLaws
import Derived.SliceStrings
import Derived.ChangeMaps5
import Derived.Test.YtopiakhlajpdaaaGreatJWrong
import Derived.Deep.Slices
import Derived.ChangeSame
import Derived.Test.YtopiakhlajpdaaaGreatJNmD
import Derived.Deep.SlicePairs
namespace Go.Proofs.YtopiakhlajpdaaaGreat.Lx
open Go.RowKit Go.Proofs.YtopiakhlajpdaaaGreat.Sp

/-- a slice of strings; of numbers -/
def IsStrs (w : World) (ao : Option Addr) (ss : List ByteArray) : Prop := ∀ i x, ss[i]? = some x → ∃ g o, ao = some ⟨g, o, none⟩ ∧ g < w.heap.size ∧ w.cell? ⟨g, o + i, none⟩ = some (.string x)
theorem IsStrs.below {w w' : World} {ao : Option Addr} {ss : List ByteArray} (h : IsStrs w ao ss) (hb : Below w.heap.size w w') : IsStrs w' ao ss := by
  intro i x hx
  obtain ⟨g, o, e, hg, hc⟩ := h i x hx
  exact ⟨g, o, e, Nat.lt_of_lt_of_le hg hb.size, (hb.cell (p := ⟨g, o + i, none⟩) hg).trans hc⟩
def IsInts (w : World) (ao : Option Addr) (n : Nat) (z : Nat → Int) : Prop := ∀ i, i < n → ∃ g o, ao = some ⟨g, o, none⟩ ∧ g < w.heap.size ∧ w.cell? ⟨g, o + i, none⟩ = some (.int .i64 (z i))
theorem IsInts.below {w w' : World} {ao : Option Addr} {n : Nat} {z : Nat → Int} (h : IsInts w ao n z) (hb : Below w.heap.size w w') : IsInts w' ao n z := by
  intro i hi
  obtain ⟨g, o, e, hg, hc⟩ := h i hi
  exact ⟨g, o, e, Nat.lt_of_lt_of_le hg hb.size, (hb.cell (p := ⟨g, o + i, none⟩) hg).trans hc⟩
end Go.Proofs.YtopiakhlajpdaaaGreat.Lx

namespace Go.Proofs.YtopiakhlajpdaaaGreat.Nm
open Go.RowKit Go.Maps Go.Proofs.YtopiakhlajpdaaaGreat.Sp Go.Proofs.YtopiakhlajpdaaaGreat.Lx Go.Proofs.YtopiakhlajpdaaaGreat.Gr

theorem far_yes {ao : Option Addr} {n cap : Nat} (h : 65536 < n) (hn : n ≤ 2932031007317) (w : World) : Calls Tryz.prog 6 #[.slice ao n cap] w fun e w' => e = .returned (.bool true) ∧ w = w' := by
  have h1 : decide ((65536 : Int) < (n : Int)) = true := decide_eq_true (by omega)
  have h2 : (65536 : Int) < (n : Int) := by omega
  go_enter Tryz.func6, Tryz.ntmps6
  go_wp2
  go_ret
  exact ⟨rfl, rfl⟩
theorem far_no {ao : Option Addr} {n cap : Nat} (h : ¬ 65536 < n) (w : World) : Calls Tryz.prog 6 #[.slice ao n cap] w fun e w' => e = .returned (.bool false) ∧ w = w' := by
  have h1 : decide ((65536 : Int) < (n : Int)) = false := decide_eq_false (by omega)
  have h3 : decide (65536 < n) = false := decide_eq_false h
  go_enter Tryz.func6, Tryz.ntmps6
  go_wp2
  go_ret
  exact ⟨rfl, rfl⟩
theorem fr_below {w w5 w6 : World} {g b : Nat} (h : Below b w w5) (hF : Fr [g] w5 w6) (hg : b ≤ g) (hb : b ≤ w.heap.size) : Below b w w6 := h.trans ⟨hF.os, hF.tape, hF.output, hF.size, fun k hk => hF.block k (by have := h.size; omega) (by simp; omega)⟩
end Go.Proofs.YtopiakhlajpdaaaGreat.Nm
namespace Go.Proofs.YtopiakhlajpdaaaGreat.namesResolves
open Go.RowKit Go.Maps Go.Proofs.YtopiakhlajpdaaaGreat.Sp Go.Proofs.YtopiakhlajpdaaaGreat.Lx Go.Proofs.YtopiakhlajpdaaaGreat.Gr Go.Proofs.YtopiakhlajpdaaaGreat.Nm

set_option maxHeartbeats 12800000 in
set_option maxRecDepth 100000 in
theorem walk (ao : Option Addr) (l : List Rz) (cap : Nat) (w : World) (h : IsRz w ao l) (hn : l.length ≤ 2932031007317) (hkd : ∀ r ∈ l, r.kids ≤ 9223372036854775807 ∧ r.name.size ≤ 4611686018427387000) :
    Calls Tryz.prog 3 #[.slice ao l.length cap] w fun e w' => e = .returned (.bool true) ∧ Below w.heap.size w w' := by
  have HI : Hid (IsRz w ao l) := h
  have HKd := show Hid _ from hkd
  have HSm := show Hid _ from resP_sm hn
  by_cases hf : 65536 < l.length
  · have HF := show Hid _ from far_yes (ao := ao) (cap := cap) hf hn w
    clear h hn hkd hf
    go_enter Tryz.func3, Tryz.ntmps3
    go_wp2_with fail
    refine Calls.mono HF.out ?_
    rintro _ _ ⟨rfl, rfl⟩
    go_wp2_with fail
    refine Calls.mono (head_any w) ?_
    rintro e w1 ⟨rfl, hb⟩
    have HB := show Hid _ from hb
    clear hb
    go_wp2
    go_ret
    exact ⟨rfl, HB.out⟩
  · have HF := show Hid _ from far_no (ao := ao) (cap := cap) hf w
    have HN : Hid (l.length ≤ 65536) := by show _ ≤ _; omega
    clear h hn hkd hf
    go_enter Tryz.func3, Tryz.ntmps3
    go_wp2_with fail
    refine Calls.mono HF.out ?_
    rintro _ _ ⟨rfl, rfl⟩
    go_wp2_with fail
    refine Calls.mono (lendR_any ao l cap w HI.out (by have := HN.out; omega)) ?_
    rintro e w1 ⟨rfl, hR1, hb1⟩
    have HR1 : Hid (RowZ w1 w.heap.size (fillL l 9) ∧ Below w.heap.size w w1) := ⟨hR1, hb1⟩
    have HZ1 : Hid (IsRz w1 (some ⟨w.heap.size, 0, none⟩) l) := RowZ.reads (l' := (List.range 9).map (fun j => mkL (l.length + j)) ++ List.replicate (9 - 9) rz0) hR1
    clear hR1 hb1
    go_wp2_with fail
    refine Calls.mono (resolve_any (cap := l.length + 9) HZ1.out (by have := HN.out; omega)) ?_
    rintro e w2 hT2
    obtain ⟨ao1, qo1, vo1, to1, uo1, oo1, ac1, qc1, vc1, tc1, uc1, oc1, rfl, hb2, hrd2⟩ := told_g hT2
    have HRr : Hid (∀ W, IsRz W ao l → Calls Tryz.prog 10 #[.slice ao l.length cap] W (Go.Proofs.YtopiakhlajpdaaaGreat.Nm.Told W (res l))) := fun W hW => rresolve_any hW (by have := HN.out; omega) HKd.out
    have HTg : Hid (∀ (w w' : World) (e : Ending), Go.Proofs.YtopiakhlajpdaaaGreat.Nm.Told w (res l) e w' → ∃ ao qo vo tto uo oo ac qc vc tc uc oc, e = .returned (.tuple #[pvG (resP l) ao qo vo tto uo oo ac qc vc tc uc oc, .agg #[.int .i64 ((resC l).1 : Int), .int .i64 ((resC l).2 : Int)]]) ∧ Below w.heap.size w w' ∧ ∀ W : World, (∀ k, w.heap.size ≤ k → k < w'.heap.size → W.heap[k]? = w'.heap[k]?) → RdG W (resP l) ao qo vo tto uo oo) := fun w w' e h => told_g h
    clear hT2
    generalize resP l = P at *
    generalize resC l = C at *
    obtain ⟨c1, c2⟩ := C
    dsimp only [pvG] at HTg ⊢
    have H2 : Hid (Below w1.heap.size w1 w2 ∧ ∀ W : World, (∀ k, w1.heap.size ≤ k → k < w2.heap.size → W.heap[k]? = w2.heap[k]?) → RdG W P ao1 qo1 vo1 to1 uo1 oo1) := ⟨hb2, hrd2⟩
    have hb3 : Below w2.heap.size w2 ((w2.alloc (.cells #[.string P.name, .slice ao1 P.rows.length ac1, .slice qo1 P.qs.length qc1, .slice vo1 P.vs.length vc1, .slice to1 P.ts.length tc1, .slice uo1 P.us.length uc1, .slice oo1 P.on.length oc1, .int .i64 P.miss] 30)).alloc (.cells #[.int .i64 (c1 : Int), .int .i64 (c2 : Int)] 33)) := ((Below.refl _ w2).alloc (Nat.le_refl _) _).alloc (by simp) _
    have hx1 : ((w2.alloc (.cells #[.string P.name, .slice ao1 P.rows.length ac1, .slice qo1 P.qs.length qc1, .slice vo1 P.vs.length vc1, .slice to1 P.ts.length tc1, .slice uo1 P.us.length uc1, .slice oo1 P.on.length oc1, .int .i64 P.miss] 30)).alloc (.cells #[.int .i64 (c1 : Int), .int .i64 (c2 : Int)] 33)).heap[w2.heap.size]? = some (.cells #[.string P.name, .slice ao1 P.rows.length ac1, .slice qo1 P.qs.length qc1, .slice vo1 P.vs.length vc1, .slice to1 P.ts.length tc1, .slice uo1 P.us.length uc1, .slice oo1 P.on.length oc1, .int .i64 P.miss] 30 (0, 0)) := by rw [alloc_old _ _ _ (by simp)]; exact alloc_at _ _ _ rfl
    have hx2 : ((w2.alloc (.cells #[.string P.name, .slice ao1 P.rows.length ac1, .slice qo1 P.qs.length qc1, .slice vo1 P.vs.length vc1, .slice to1 P.ts.length tc1, .slice uo1 P.us.length uc1, .slice oo1 P.on.length oc1, .int .i64 P.miss] 30)).alloc (.cells #[.int .i64 (c1 : Int), .int .i64 (c2 : Int)] 33)).heap[w2.heap.size + 1]? = some (.cells #[.int .i64 (c1 : Int), .int .i64 (c2 : Int)] 33 (0, 0)) := alloc_at _ _ _ (by simp)
    have H3 : Hid (Below w2.heap.size w2 ((w2.alloc (.cells #[.string P.name, .slice ao1 P.rows.length ac1, .slice qo1 P.qs.length qc1, .slice vo1 P.vs.length vc1, .slice to1 P.ts.length tc1, .slice uo1 P.us.length uc1, .slice oo1 P.on.length oc1, .int .i64 P.miss] 30)).alloc (.cells #[.int .i64 (c1 : Int), .int .i64 (c2 : Int)] 33)) ∧ ((w2.alloc (.cells #[.string P.name, .slice ao1 P.rows.length ac1, .slice qo1 P.qs.length qc1, .slice vo1 P.vs.length vc1, .slice to1 P.ts.length tc1, .slice uo1 P.us.length uc1, .slice oo1 P.on.length oc1, .int .i64 P.miss] 30)).alloc (.cells #[.int .i64 (c1 : Int), .int .i64 (c2 : Int)] 33)).heap[w2.heap.size]? = some (.cells #[.string P.name, .slice ao1 P.rows.length ac1, .slice qo1 P.qs.length qc1, .slice vo1 P.vs.length vc1, .slice to1 P.ts.length tc1, .slice uo1 P.us.length uc1, .slice oo1 P.on.length oc1, .int .i64 P.miss] 30 (0, 0)) ∧ ((w2.alloc (.cells #[.string P.name, .slice ao1 P.rows.length ac1, .slice qo1 P.qs.length qc1, .slice vo1 P.vs.length vc1, .slice to1 P.ts.length tc1, .slice uo1 P.us.length uc1, .slice oo1 P.on.length oc1, .int .i64 P.miss] 30)).alloc (.cells #[.int .i64 (c1 : Int), .int .i64 (c2 : Int)] 33)).heap[w2.heap.size + 1]? = some (.cells #[.int .i64 (c1 : Int), .int .i64 (c2 : Int)] 33 (0, 0))) := ⟨hb3, hx1, hx2⟩
    clear hb2 hrd2 hb3 hx1 hx2
    go_wp2_with fail
    generalize ((w2.alloc (.cells #[.string P.name, .slice ao1 P.rows.length ac1, .slice qo1 P.qs.length qc1, .slice vo1 P.vs.length vc1, .slice to1 P.ts.length tc1, .slice uo1 P.us.length uc1, .slice oo1 P.on.length oc1, .int .i64 P.miss] 30)).alloc (.cells #[.int .i64 (c1 : Int), .int .i64 (c2 : Int)] 33)) = w3 at *
    have HB3 : Hid (Below w.heap.size w w3 ∧ Below w1.heap.size w1 w3) := by
      have a := H2.out.1.trans (H3.out.1.mono H2.out.1.size)
      exact ⟨HR1.out.2.trans (a.mono HR1.out.2.size), a⟩
    refine Calls.mono (HRr.out w3 (HI.out.below HB3.out.1)) ?_
    rintro e w4 hT4
    obtain ⟨ao2, qo2, vo2, to2, uo2, oo2, ac2, qc2, vc2, tc2, uc2, oc2, rfl, hb4, hrd4⟩ := HTg.out _ _ _ hT4
    have H4 : Hid (Below w3.heap.size w3 w4 ∧ ∀ W : World, (∀ k, w3.heap.size ≤ k → k < w4.heap.size → W.heap[k]? = w4.heap[k]?) → RdG W P ao2 qo2 vo2 to2 uo2 oo2) := ⟨hb4, hrd4⟩
    have hb5 : Below w4.heap.size w4 ((w4.alloc (.cells #[.string P.name, .slice ao2 P.rows.length ac2, .slice qo2 P.qs.length qc2, .slice vo2 P.vs.length vc2, .slice to2 P.ts.length tc2, .slice uo2 P.us.length uc2, .slice oo2 P.on.length oc2, .int .i64 P.miss] 30)).alloc (.cells #[.int .i64 (c1 : Int), .int .i64 (c2 : Int)] 33)) := ((Below.refl _ w4).alloc (Nat.le_refl _) _).alloc (by simp) _
    have hy1 : ((w4.alloc (.cells #[.string P.name, .slice ao2 P.rows.length ac2, .slice qo2 P.qs.length qc2, .slice vo2 P.vs.length vc2, .slice to2 P.ts.length tc2, .slice uo2 P.us.length uc2, .slice oo2 P.on.length oc2, .int .i64 P.miss] 30)).alloc (.cells #[.int .i64 (c1 : Int), .int .i64 (c2 : Int)] 33)).heap[w4.heap.size]? = some (.cells #[.string P.name, .slice ao2 P.rows.length ac2, .slice qo2 P.qs.length qc2, .slice vo2 P.vs.length vc2, .slice to2 P.ts.length tc2, .slice uo2 P.us.length uc2, .slice oo2 P.on.length oc2, .int .i64 P.miss] 30 (0, 0)) := by rw [alloc_old _ _ _ (by simp)]; exact alloc_at _ _ _ rfl
    have hy2 : ((w4.alloc (.cells #[.string P.name, .slice ao2 P.rows.length ac2, .slice qo2 P.qs.length qc2, .slice vo2 P.vs.length vc2, .slice to2 P.ts.length tc2, .slice uo2 P.us.length uc2, .slice oo2 P.on.length oc2, .int .i64 P.miss] 30)).alloc (.cells #[.int .i64 (c1 : Int), .int .i64 (c2 : Int)] 33)).heap[w4.heap.size + 1]? = some (.cells #[.int .i64 (c1 : Int), .int .i64 (c2 : Int)] 33 (0, 0)) := alloc_at _ _ _ (by simp)
    have H5 : Hid (Below w4.heap.size w4 ((w4.alloc (.cells #[.string P.name, .slice ao2 P.rows.length ac2, .slice qo2 P.qs.length qc2, .slice vo2 P.vs.length vc2, .slice to2 P.ts.length tc2, .slice uo2 P.us.length uc2, .slice oo2 P.on.length oc2, .int .i64 P.miss] 30)).alloc (.cells #[.int .i64 (c1 : Int), .int .i64 (c2 : Int)] 33)) ∧ ((w4.alloc (.cells #[.string P.name, .slice ao2 P.rows.length ac2, .slice qo2 P.qs.length qc2, .slice vo2 P.vs.length vc2, .slice to2 P.ts.length tc2, .slice uo2 P.us.length uc2, .slice oo2 P.on.length oc2, .int .i64 P.miss] 30)).alloc (.cells #[.int .i64 (c1 : Int), .int .i64 (c2 : Int)] 33)).heap[w4.heap.size]? = some (.cells #[.string P.name, .slice ao2 P.rows.length ac2, .slice qo2 P.qs.length qc2, .slice vo2 P.vs.length vc2, .slice to2 P.ts.length tc2, .slice uo2 P.us.length uc2, .slice oo2 P.on.length oc2, .int .i64 P.miss] 30 (0, 0)) ∧ ((w4.alloc (.cells #[.string P.name, .slice ao2 P.rows.length ac2, .slice qo2 P.qs.length qc2, .slice vo2 P.vs.length vc2, .slice to2 P.ts.length tc2, .slice uo2 P.us.length uc2, .slice oo2 P.on.length oc2, .int .i64 P.miss] 30)).alloc (.cells #[.int .i64 (c1 : Int), .int .i64 (c2 : Int)] 33)).heap[w4.heap.size + 1]? = some (.cells #[.int .i64 (c1 : Int), .int .i64 (c2 : Int)] 33 (0, 0))) := ⟨hb5, hy1, hy2⟩
    clear hb4 hrd4 hT4 hb5 hy1 hy2 HRr HTg
    go_wp2_with fail
    generalize ((w4.alloc (.cells #[.string P.name, .slice ao2 P.rows.length ac2, .slice qo2 P.qs.length qc2, .slice vo2 P.vs.length vc2, .slice to2 P.ts.length tc2, .slice uo2 P.us.length uc2, .slice oo2 P.on.length oc2, .int .i64 P.miss] 30)).alloc (.cells #[.int .i64 (c1 : Int), .int .i64 (c2 : Int)] 33)) = w5 at *
    have HB5 : Hid (Below w3.heap.size w3 w5 ∧ Below w1.heap.size w1 w5 ∧ Below w.heap.size w w5) := by
      have a := H4.out.1.trans (H5.out.1.mono H4.out.1.size)
      exact ⟨a, HB3.out.2.trans (a.mono HB3.out.2.size), HB3.out.1.trans (a.mono HB3.out.1.size)⟩
    refine Calls.mono (keptR_any w.heap.size ao l cap w5 (HR1.out.1.below HB5.out.2.1 HR1.out.1.lt) (HI.out.below HB5.out.2.2) (by have := HN.out; omega)) ?_
    rintro e w6 ⟨rfl, hF6⟩
    have hs1 := HR1.out.1.lt
    have hs2 := H2.out.1.size
    have hs3 := H3.out.1.size
    have hs4 := H4.out.1.size
    have hs5 := H5.out.1.size
    have hp1 := blk_lt H3.out.2.1
    have hp2 := blk_lt H3.out.2.2
    have hq1 := blk_lt H5.out.2.1
    have hq2 := blk_lt H5.out.2.2
    have hk6 : ∀ k, k < w5.heap.size → k ≠ w.heap.size → w6.heap[k]? = w5.heap[k]? := fun k hk hne => hF6.block k hk (by simpa using hne)
    have e1 : w6.heap[w2.heap.size]? = some (.cells #[.string P.name, .slice ao1 P.rows.length ac1, .slice qo1 P.qs.length qc1, .slice vo1 P.vs.length vc1, .slice to1 P.ts.length tc1, .slice uo1 P.us.length uc1, .slice oo1 P.on.length oc1, .int .i64 P.miss] 30 (0, 0)) := (hk6 _ (by omega) (by omega)).trans ((HB5.out.1.block _ hp1).trans H3.out.2.1)
    have e2 : w6.heap[w2.heap.size + 1]? = some (.cells #[.int .i64 (c1 : Int), .int .i64 (c2 : Int)] 33 (0, 0)) := (hk6 _ (by omega) (by omega)).trans ((HB5.out.1.block _ hp2).trans H3.out.2.2)
    have e3 : w6.heap[w4.heap.size]? = some (.cells #[.string P.name, .slice ao2 P.rows.length ac2, .slice qo2 P.qs.length qc2, .slice vo2 P.vs.length vc2, .slice to2 P.ts.length tc2, .slice uo2 P.us.length uc2, .slice oo2 P.on.length oc2, .int .i64 P.miss] 30 (0, 0)) := (hk6 _ hq1 (by omega)).trans H5.out.2.1
    have e4 : w6.heap[w4.heap.size + 1]? = some (.cells #[.int .i64 (c1 : Int), .int .i64 (c2 : Int)] 33 (0, 0)) := (hk6 _ hq2 (by omega)).trans H5.out.2.2
    have rd1 : RdG w6 P ao1 qo1 vo1 to1 uo1 oo1 := H2.out.2 w6 (fun k k1 k2 => (hk6 k (by omega) (by omega)).trans ((HB5.out.1.block k (by omega)).trans (H3.out.1.block k k2)))
    have rd2 : RdG w6 P ao2 qo2 vo2 to2 uo2 oo2 := H4.out.2 w6 (fun k k1 k2 => (hk6 k (by omega) (by omega)).trans (H5.out.1.block k k2))
    obtain ⟨a0, a1, a2, a3, a4, a5, a6, a7⟩ := pol8 e1
    obtain ⟨b0, b1, b2, b3, b4, b5, b6, b7⟩ := pol8 e3
    have f0 : w6.cell? ⟨w2.heap.size + 1, 0, none⟩ = some (.int .i64 (c1 : Int)) := by rw [World.cell?, e2]; rfl
    have f1 : w6.cell? ⟨w2.heap.size + 1, 1, none⟩ = some (.int .i64 (c2 : Int)) := by rw [World.cell?, e2]; rfl
    have g0 : w6.cell? ⟨w4.heap.size + 1, 0, none⟩ = some (.int .i64 (c1 : Int)) := by rw [World.cell?, e4]; rfl
    have g1 : w6.cell? ⟨w4.heap.size + 1, 1, none⟩ = some (.int .i64 (c2 : Int)) := by rw [World.cell?, e4]; rfl
    have HS6 := show Hid _ from rsame_any (ac := ac1) (qc := qc1) (vc := vc1) (tc := tc1) (uc := uc1) (oc := oc1) (ac2 := ac2) (qc2 := qc2) (vc2 := vc2) (tc2 := tc2) (uc2 := uc2) (oc2 := oc2) rd1 rd2 HSm.out
    dsimp only [pvG] at HS6
    have HB6 : Hid (Below w.heap.size w w6) := fr_below HB5.out.2.2 hF6 (Nat.le_refl _) (Nat.le_refl _)
    clear hF6 hs1 hs2 hs3 hs4 hs5 hp1 hp2 hq1 hq2 hk6 e1 e2 e3 e4 rd1 rd2
    go_wp2_with fail
    refine Calls.mono HS6.out ?_
    rintro e w7 ⟨⟨b, rfl, hbt⟩, hb7⟩
    obtain rfl : b = true := by simpa using hbt
    have HB7 : Hid (Below w.heap.size w w7) := HB6.out.trans (hb7.mono HB6.out.size)
    clear hb7 hbt HS6 a0 a1 a2 a3 a4 a5 a6 a7 b0 b1 b2 b3 b4 b5 b6 b7 f0 f1 g0 g1
    go_wp2_with fail
    refine Calls.mono (head_any w7) ?_
    rintro e w8 ⟨rfl, hb8⟩
    have HB8 : Hid (Below w.heap.size w w8) := HB7.out.trans (hb8.mono HB7.out.size)
    clear hb8
    go_wp2
    go_ret
    exact ⟨rfl, HB8.out⟩
end Go.Proofs.YtopiakhlajpdaaaGreat.namesResolves

namespace Go.Proofs.YtopiakhlajpdaaaGreat.Nm
open Go.RowKit Go.Maps Go.Proofs.YtopiakhlajpdaaaGreat.Sp Go.Proofs.YtopiakhlajpdaaaGreat.Lx Go.Proofs.YtopiakhlajpdaaaGreat.Gr

/-- a policy that is not handed in apart -/
def isFar (P : Pg) : Bool := decide (65536 < P.rows.length) || decide (100 < P.qs.length) || decide (100 < P.vs.length) || decide (100 < P.ts.length) || decide (100 < P.us.length) || decide (100 < P.on.length)
set_option maxHeartbeats 6400000 in
set_option maxRecDepth 100000 in
theorem farP_any {P : Pg} {ao qo vo tto uo oo : Option Addr} {ac qc vc tc uc oc : Nat} (w : World) (hr : P.rows.length ≤ 2932031007317) :
    Calls Tryz.prog 13 #[pvG P ao qo vo tto uo oo ac qc vc tc uc oc] w fun e w' => e = .returned (.bool (isFar P)) ∧ Below w.heap.size w w' := by
  dsimp only [pvG]
  have hb1 : Below w.heap.size w (w.alloc (.cells #[.string P.name, .slice ao P.rows.length ac, .slice qo P.qs.length qc, .slice vo P.vs.length vc, .slice tto P.ts.length tc, .slice uo P.us.length uc, .slice oo P.on.length oc, .int .i64 P.miss] 30)) := (Below.refl _ w).alloc (Nat.le_refl _) _
  have HB := show Hid _ from hb1
  obtain ⟨k0, k1, k2, k3, k4, k5, k6, k7⟩ := pol8 (heap_alloc_new w (.cells #[.string P.name, .slice ao P.rows.length ac, .slice qo P.qs.length qc, .slice vo P.vs.length vc, .slice tto P.ts.length tc, .slice uo P.us.length uc, .slice oo P.on.length oc, .int .i64 P.miss] 30))
  clear hb1
  by_cases h1 : 65536 < P.rows.length
  · have HF := show Hid _ from far_yes (ao := ao) (cap := ac) h1 hr (w.alloc (.cells #[.string P.name, .slice ao P.rows.length ac, .slice qo P.qs.length qc, .slice vo P.vs.length vc, .slice tto P.ts.length tc, .slice uo P.us.length uc, .slice oo P.on.length oc, .int .i64 P.miss] 30))
    have HT : Hid (isFar P = true) := by show _ = _; simp [isFar, h1]
    clear h1
    go_enter Tryz.func13, Tryz.ntmps13
    go_wp2_with fail
    refine Calls.mono HF.out ?_
    rintro _ _ ⟨rfl, rfl⟩
    go_wp2
    go_ret
    rw [HT.out]
    exact ⟨rfl, HB.out⟩
  have HF := show Hid _ from far_no (ao := ao) (cap := ac) h1 (w.alloc (.cells #[.string P.name, .slice ao P.rows.length ac, .slice qo P.qs.length qc, .slice vo P.vs.length vc, .slice tto P.ts.length tc, .slice uo P.us.length uc, .slice oo P.on.length oc, .int .i64 P.miss] 30))
  by_cases h2 : 100 < P.qs.length
  · have HT : Hid (isFar P = true) := by show _ = _; simp [isFar, h2]
    have d2 : decide ((100 : Int) < (P.qs.length : Int)) = true := decide_eq_true (by omega)
    have e2 : (100 : Int) < (P.qs.length : Int) := by omega
    clear h1 h2
    go_enter Tryz.func13, Tryz.ntmps13
    go_wp2_with fail
    refine Calls.mono HF.out ?_
    rintro _ _ ⟨rfl, rfl⟩
    go_wp2
    go_ret
    rw [HT.out]
    exact ⟨rfl, HB.out⟩
  by_cases h3 : 100 < P.vs.length
  · have HT : Hid (isFar P = true) := by show _ = _; simp [isFar, h3]
    have d2 : decide ((100 : Int) < (P.qs.length : Int)) = false := decide_eq_false (by omega)
    have e2 : decide (100 < P.qs.length) = false := decide_eq_false (by omega)
    have d3 : decide ((100 : Int) < (P.vs.length : Int)) = true := decide_eq_true (by omega)
    have e3 : (100 : Int) < (P.vs.length : Int) := by omega
    clear h1 h2 h3
    go_enter Tryz.func13, Tryz.ntmps13
    go_wp2_with fail
    refine Calls.mono HF.out ?_
    rintro _ _ ⟨rfl, rfl⟩
    go_wp2
    go_ret
    rw [HT.out]
    exact ⟨rfl, HB.out⟩
  by_cases h4 : 100 < P.ts.length
  · have HT : Hid (isFar P = true) := by show _ = _; simp [isFar, h4]
    have d2 : decide ((100 : Int) < (P.qs.length : Int)) = false := decide_eq_false (by omega)
    have e2 : decide (100 < P.qs.length) = false := decide_eq_false (by omega)
    have d3 : decide ((100 : Int) < (P.vs.length : Int)) = false := decide_eq_false (by omega)
    have e3 : decide (100 < P.vs.length) = false := decide_eq_false (by omega)
    have d4 : decide ((100 : Int) < (P.ts.length : Int)) = true := decide_eq_true (by omega)
    have e4 : (100 : Int) < (P.ts.length : Int) := by omega
    clear h1 h2 h3 h4
    go_enter Tryz.func13, Tryz.ntmps13
    go_wp2_with fail
    refine Calls.mono HF.out ?_
    rintro _ _ ⟨rfl, rfl⟩
    go_wp2
    go_ret
    rw [HT.out]
    exact ⟨rfl, HB.out⟩
  by_cases h5 : 100 < P.us.length
  · have HT : Hid (isFar P = true) := by show _ = _; simp [isFar, h5]
    have d2 : decide ((100 : Int) < (P.qs.length : Int)) = false := decide_eq_false (by omega)
    have e2 : decide (100 < P.qs.length) = false := decide_eq_false (by omega)
    have d3 : decide ((100 : Int) < (P.vs.length : Int)) = false := decide_eq_false (by omega)
    have e3 : decide (100 < P.vs.length) = false := decide_eq_false (by omega)
    have d4 : decide ((100 : Int) < (P.ts.length : Int)) = false := decide_eq_false (by omega)
    have e4 : decide (100 < P.ts.length) = false := decide_eq_false (by omega)
    have d5 : decide ((100 : Int) < (P.us.length : Int)) = true := decide_eq_true (by omega)
    have e5 : (100 : Int) < (P.us.length : Int) := by omega
    clear h1 h2 h3 h4 h5
    go_enter Tryz.func13, Tryz.ntmps13
    go_wp2_with fail
    refine Calls.mono HF.out ?_
    rintro _ _ ⟨rfl, rfl⟩
    go_wp2
    go_ret
    rw [HT.out]
    exact ⟨rfl, HB.out⟩
  by_cases h6 : 100 < P.on.length
  · have HT : Hid (isFar P = true) := by show _ = _; simp [isFar, h6]
    have d2 : decide ((100 : Int) < (P.qs.length : Int)) = false := decide_eq_false (by omega)
    have e2 : decide (100 < P.qs.length) = false := decide_eq_false (by omega)
    have d3 : decide ((100 : Int) < (P.vs.length : Int)) = false := decide_eq_false (by omega)
    have e3 : decide (100 < P.vs.length) = false := decide_eq_false (by omega)
    have d4 : decide ((100 : Int) < (P.ts.length : Int)) = false := decide_eq_false (by omega)
    have e4 : decide (100 < P.ts.length) = false := decide_eq_false (by omega)
    have d5 : decide ((100 : Int) < (P.us.length : Int)) = false := decide_eq_false (by omega)
    have e5 : decide (100 < P.us.length) = false := decide_eq_false (by omega)
    have d6 : decide ((100 : Int) < (P.on.length : Int)) = true := decide_eq_true (by omega)
    have e6 : (100 : Int) < (P.on.length : Int) := by omega
    clear h1 h2 h3 h4 h5 h6
    go_enter Tryz.func13, Tryz.ntmps13
    go_wp2_with fail
    refine Calls.mono HF.out ?_
    rintro _ _ ⟨rfl, rfl⟩
    go_wp2
    go_ret
    rw [HT.out]
    exact ⟨rfl, HB.out⟩
  have HT : Hid (isFar P = false) := by show _ = _; simp [isFar]; omega
  have d2 : decide ((100 : Int) < (P.qs.length : Int)) = false := decide_eq_false (by omega)
  have e2 : decide (100 < P.qs.length) = false := decide_eq_false (by omega)
  have d3 : decide ((100 : Int) < (P.vs.length : Int)) = false := decide_eq_false (by omega)
  have e3 : decide (100 < P.vs.length) = false := decide_eq_false (by omega)
  have d4 : decide ((100 : Int) < (P.ts.length : Int)) = false := decide_eq_false (by omega)
  have e4 : decide (100 < P.ts.length) = false := decide_eq_false (by omega)
  have d5 : decide ((100 : Int) < (P.us.length : Int)) = false := decide_eq_false (by omega)
  have e5 : decide (100 < P.us.length) = false := decide_eq_false (by omega)
  have d6 : decide ((100 : Int) < (P.on.length : Int)) = false := decide_eq_false (by omega)
  have e6 : decide (100 < P.on.length) = false := decide_eq_false (by omega)
  clear h1 h2 h3 h4 h5 h6
  go_enter Tryz.func13, Tryz.ntmps13
  go_wp2_with fail
  refine Calls.mono HF.out ?_
  rintro _ _ ⟨rfl, rfl⟩
  go_wp2
  go_ret
  rw [HT.out]
  exact ⟨rfl, HB.out⟩
end Go.Proofs.YtopiakhlajpdaaaGreat.Nm
namespace Go.Proofs.YtopiakhlajpdaaaGreat.namesChecks
open Go.RowKit Go.Maps Go.Proofs.YtopiakhlajpdaaaGreat.Sp Go.Proofs.YtopiakhlajpdaaaGreat.Lx Go.Proofs.YtopiakhlajpdaaaGreat.Gr Go.Proofs.YtopiakhlajpdaaaGreat.Nm

set_option maxHeartbeats 12800000 in
set_option maxRecDepth 100000 in
theorem walk (P : Pg) (ao qo vo tto uo oo : Option Addr) (ac qc vc tc uc oc : Nat) (w : World) (h : RdG w P ao qo vo tto uo oo) (hr : P.rows.length ≤ 2932031007317) (hkd : ∀ r ∈ P.rows, r.kids ≤ 9223372036854775807 ∧ r.name.size ≤ 4611686018427387000)
    (n2 : qo = none → qc = 0) (n3 : vo = none → vc = 0) (n4 : tto = none → tc = 0) (n5 : uo = none → uc = 0) (n6 : oo = none → oc = 0) :
    Calls Tryz.prog 4 #[pvG P ao qo vo tto uo oo ac qc vc tc uc oc] w fun e w' => e = .returned (.bool true) ∧ Below w.heap.size w w' := by
  have hb1 : Below w.heap.size w (w.alloc (.cells #[.string P.name, .slice ao P.rows.length ac, .slice qo P.qs.length qc, .slice vo P.vs.length vc, .slice tto P.ts.length tc, .slice uo P.us.length uc, .slice oo P.on.length oc, .int .i64 P.miss] 30)) := (Below.refl _ w).alloc (Nat.le_refl _) _
  have H1 : Hid (Below w.heap.size w (w.alloc (.cells #[.string P.name, .slice ao P.rows.length ac, .slice qo P.qs.length qc, .slice vo P.vs.length vc, .slice tto P.ts.length tc, .slice uo P.us.length uc, .slice oo P.on.length oc, .int .i64 P.miss] 30)) ∧ (w.alloc (.cells #[.string P.name, .slice ao P.rows.length ac, .slice qo P.qs.length qc, .slice vo P.vs.length vc, .slice tto P.ts.length tc, .slice uo P.us.length uc, .slice oo P.on.length oc, .int .i64 P.miss] 30)).heap[w.heap.size]? = some (.cells #[.string P.name, .slice ao P.rows.length ac, .slice qo P.qs.length qc, .slice vo P.vs.length vc, .slice tto P.ts.length tc, .slice uo P.us.length uc, .slice oo P.on.length oc, .int .i64 P.miss] 30 (0, 0)) ∧ RdG (w.alloc (.cells #[.string P.name, .slice ao P.rows.length ac, .slice qo P.qs.length qc, .slice vo P.vs.length vc, .slice tto P.ts.length tc, .slice uo P.us.length uc, .slice oo P.on.length oc, .int .i64 P.miss] 30)) P ao qo vo tto uo oo) := ⟨hb1, heap_alloc_new w _, h.below hb1⟩
  have HFr := show Hid _ from farP_any (P := P) (ao := ao) (qo := qo) (vo := vo) (tto := tto) (uo := uo) (oo := oo) (ac := ac) (qc := qc) (vc := vc) (tc := tc) (uc := uc) (oc := oc) (w.alloc (.cells #[.string P.name, .slice ao P.rows.length ac, .slice qo P.qs.length qc, .slice vo P.vs.length vc, .slice tto P.ts.length tc, .slice uo P.us.length uc, .slice oo P.on.length oc, .int .i64 P.miss] 30)) hr
  have HNil : Hid ((qo = none → qc = 0) ∧ (vo = none → vc = 0) ∧ (tto = none → tc = 0) ∧ (uo = none → uc = 0) ∧ (oo = none → oc = 0)) := ⟨n2, n3, n4, n5, n6⟩
  have HKd := show Hid _ from hkd
  have HR := show Hid _ from hr
  obtain ⟨k0, k1, k2, k3, k4, k5, k6, k7⟩ := pol8 H1.out.2.1
  dsimp only [pvG] at HFr ⊢
  clear h hr hkd n2 n3 n4 n5 n6 hb1
  go_enter Tryz.func4, Tryz.ntmps4
  go_wp2_with fail
  generalize (w.alloc (.cells #[.string P.name, .slice ao P.rows.length ac, .slice qo P.qs.length qc, .slice vo P.vs.length vc, .slice tto P.ts.length tc, .slice uo P.us.length uc, .slice oo P.on.length oc, .int .i64 P.miss] 30)) = w1 at *
  refine Calls.mono HFr.out ?_
  rintro e wf ⟨rfl, hbf⟩
  have HBf : Hid (Below w1.heap.size w1 wf ∧ Below w.heap.size w wf) := ⟨hbf, H1.out.1.trans (hbf.mono H1.out.1.size)⟩
  clear hbf HFr k0 k1 k2 k3 k4 k5 k6 k7
  cases hfar : isFar P with
  | true =>
    go_wp2_with fail
    refine Calls.mono (head_any wf) ?_
    rintro e w2 ⟨rfl, hb2⟩
    have HB2 : Hid (Below w.heap.size w w2) := HBf.out.2.trans (hb2.mono HBf.out.2.size)
    clear hb2
    go_wp2
    go_ret
    exact ⟨rfl, HB2.out⟩
  | false =>
    have HSz : Hid (P.rows.length ≤ 65536 ∧ P.qs.length ≤ 100 ∧ P.vs.length ≤ 100 ∧ P.ts.length ≤ 100 ∧ P.us.length ≤ 100 ∧ P.on.length ≤ 100) := by
      simp [isFar] at hfar
      obtain ⟨⟨⟨⟨⟨a, b⟩, c⟩, d⟩, e⟩, f⟩ := hfar
      exact ⟨a, b, c, d, e, f⟩
    have HSm : Hid P.Sm := ⟨by have := HSz.out.1; omega, by have := HSz.out.2.1; omega, by have := HSz.out.2.2.1; omega, by have := HSz.out.2.2.2.1; omega, by have := HSz.out.2.2.2.2.1; omega, by have := HSz.out.2.2.2.2.2; omega⟩
    have HBx : Hid (wf.heap[w.heap.size]? = some (.cells #[.string P.name, .slice ao P.rows.length ac, .slice qo P.qs.length qc, .slice vo P.vs.length vc, .slice tto P.ts.length tc, .slice uo P.us.length uc, .slice oo P.on.length oc, .int .i64 P.miss] 30 (0, 0)) ∧ RdG wf P ao qo vo tto uo oo) := ⟨(HBf.out.1.block _ (blk_lt H1.out.2.1)).trans H1.out.2.1, H1.out.2.2.below HBf.out.1⟩
    have HLn := show Hid _ from lendP_any (ac := ac) (qc := qc) (vc := vc) (tc := tc) (uc := uc) (oc := oc) HBx.out.2 (by have := HSz.out.1; omega) (by have := HSz.out.2.1; omega) (by have := HSz.out.2.2.1; omega) (by have := HSz.out.2.2.2.1; omega) (by have := HSz.out.2.2.2.2.1; omega) (by have := HSz.out.2.2.2.2.2; omega) HNil.out.1 HNil.out.2.1 HNil.out.2.2.1 HNil.out.2.2.2.1 HNil.out.2.2.2.2
    dsimp only [pvG] at HLn
    have hE : ∃ c : Int, (∀ e, ((∃ p', res (P.rows.map unn) = .ok p' ∧ p'.g = P ∧ e = Ending.returned (.int .i64 0)) ∨ ((¬ ∃ p', res (P.rows.map unn) = .ok p' ∧ p'.g = P) ∧ e = .returned (.int .i64 23))) → e = .returned (.int .i64 c)) := by
      by_cases hp : ∃ p', res (P.rows.map unn) = .ok p' ∧ p'.g = P
      · exact ⟨0, fun e he => by
          rcases he with ⟨_, _, _, rfl⟩ | ⟨hn, _⟩
          · rfl
          · exact absurd hp hn⟩
      · exact ⟨23, fun e he => by
          rcases he with ⟨p', h1, h2, _⟩ | ⟨_, rfl⟩
          · exact absurd ⟨p', h1, h2⟩ hp
          · rfl⟩
    obtain ⟨c, hE⟩ := hE
    have HE := show Hid _ from hE
    obtain ⟨k0, k1, k2, k3, k4, k5, k6, k7⟩ := pol8 HBx.out.1
    clear hE hfar H1
    go_wp2_with fail
    refine Calls.mono HLn.out ?_
    rintro e w2 ⟨g, gq, cq, gv, cv, gt, ct, gu, cu, go, co, rfl, hLs, hb2⟩
    clear k0 k1 k2 k3 k4 k5 k6 k7 HLn
    dsimp only [lentV]
    have hb3 : Below w2.heap.size w2 (w2.alloc (.cells #[.string P.name, .slice (some ⟨g, 0, none⟩) P.rows.length (P.rows.length + 9), .slice (some ⟨gq, 0, none⟩) P.qs.length cq, .slice (some ⟨gv, 0, none⟩) P.vs.length cv, .slice (some ⟨gt, 0, none⟩) P.ts.length ct, .slice (some ⟨gu, 0, none⟩) P.us.length cu, .slice (some ⟨go, 0, none⟩) P.on.length co, .int .i64 P.miss] 30)) := (Below.refl _ w2).alloc (Nat.le_refl _) _
    have H3 : Hid (Below wf.heap.size wf (w2.alloc (.cells #[.string P.name, .slice (some ⟨g, 0, none⟩) P.rows.length (P.rows.length + 9), .slice (some ⟨gq, 0, none⟩) P.qs.length cq, .slice (some ⟨gv, 0, none⟩) P.vs.length cv, .slice (some ⟨gt, 0, none⟩) P.ts.length ct, .slice (some ⟨gu, 0, none⟩) P.us.length cu, .slice (some ⟨go, 0, none⟩) P.on.length co, .int .i64 P.miss] 30)) ∧ (w2.alloc (.cells #[.string P.name, .slice (some ⟨g, 0, none⟩) P.rows.length (P.rows.length + 9), .slice (some ⟨gq, 0, none⟩) P.qs.length cq, .slice (some ⟨gv, 0, none⟩) P.vs.length cv, .slice (some ⟨gt, 0, none⟩) P.ts.length ct, .slice (some ⟨gu, 0, none⟩) P.us.length cu, .slice (some ⟨go, 0, none⟩) P.on.length co, .int .i64 P.miss] 30)).heap[w2.heap.size]? = some (.cells #[.string P.name, .slice (some ⟨g, 0, none⟩) P.rows.length (P.rows.length + 9), .slice (some ⟨gq, 0, none⟩) P.qs.length cq, .slice (some ⟨gv, 0, none⟩) P.vs.length cv, .slice (some ⟨gt, 0, none⟩) P.ts.length ct, .slice (some ⟨gu, 0, none⟩) P.us.length cu, .slice (some ⟨go, 0, none⟩) P.on.length co, .int .i64 P.miss] 30 (0, 0)) ∧ Ls (w2.alloc (.cells #[.string P.name, .slice (some ⟨g, 0, none⟩) P.rows.length (P.rows.length + 9), .slice (some ⟨gq, 0, none⟩) P.qs.length cq, .slice (some ⟨gv, 0, none⟩) P.vs.length cv, .slice (some ⟨gt, 0, none⟩) P.ts.length ct, .slice (some ⟨gu, 0, none⟩) P.us.length cu, .slice (some ⟨go, 0, none⟩) P.on.length co, .int .i64 P.miss] 30)) wf.heap.size (lentOs P g gq cq gv cv gt ct gu cu go co)) := ⟨hb2.trans (hb3.mono hb2.size), heap_alloc_new w2 _, hLs.below hb3⟩
    obtain ⟨k0, k1, k2, k3, k4, k5, k6, k7⟩ := pol8 H3.out.2.1
    have HC3 := show Hid _ from checkP_any (ac := P.rows.length + 9) (qc := cq) (vc := cv) (tc := ct) (uc := cu) (oc := co) H3.out.2.2.rd HSm.out (fun e => by cases e)
    dsimp only [pvG] at HC3
    clear hb2 hb3 hLs
    go_wp2_with fail
    generalize hmb : w2.heap.size = mb at *
    generalize w2.alloc (.cells #[.string P.name, .slice (some ⟨g, 0, none⟩) P.rows.length (P.rows.length + 9), .slice (some ⟨gq, 0, none⟩) P.qs.length cq, .slice (some ⟨gv, 0, none⟩) P.vs.length cv, .slice (some ⟨gt, 0, none⟩) P.ts.length ct, .slice (some ⟨gu, 0, none⟩) P.us.length cu, .slice (some ⟨go, 0, none⟩) P.on.length co, .int .i64 P.miss] 30) = w3 at *
    clear hmb k0 k1 k2 k3 k4 k5 k6 k7
    refine Calls.mono HC3.out ?_
    rintro e w4 ⟨he, hb4⟩
    have he2 := HE.out e he
    subst he2
    have H4 : Hid (Below wf.heap.size wf w4 ∧ w4.heap[mb]? = some (.cells #[.string P.name, .slice (some ⟨g, 0, none⟩) P.rows.length (P.rows.length + 9), .slice (some ⟨gq, 0, none⟩) P.qs.length cq, .slice (some ⟨gv, 0, none⟩) P.vs.length cv, .slice (some ⟨gt, 0, none⟩) P.ts.length ct, .slice (some ⟨gu, 0, none⟩) P.us.length cu, .slice (some ⟨go, 0, none⟩) P.on.length co, .int .i64 P.miss] 30 (0, 0)) ∧ Ls w4 wf.heap.size (lentOs P g gq cq gv cv gt ct gu cu go co) ∧ w4.heap[w.heap.size]? = some (.cells #[.string P.name, .slice ao P.rows.length ac, .slice qo P.qs.length qc, .slice vo P.vs.length vc, .slice tto P.ts.length tc, .slice uo P.us.length uc, .slice oo P.on.length oc, .int .i64 P.miss] 30 (0, 0))) := by
      have hb := H3.out.1.trans (hb4.mono H3.out.1.size)
      exact ⟨hb, (hb4.block _ (blk_lt H3.out.2.1)).trans H3.out.2.1, H3.out.2.2.below hb4, (hb.block _ (blk_lt HBx.out.1)).trans HBx.out.1⟩
    obtain ⟨k0, k1, k2, k3, k4, k5, k6, k7⟩ := pol8 H4.out.2.1
    obtain ⟨m0, m1, m2, m3, m4, m5, m6, m7⟩ := pol8 H4.out.2.2.2
    have HKp := show Hid _ from keptP_any (ac := ac) (qc := qc) (vc := vc) (tc := tc) (uc := uc) (oc := oc) HBx.out.2 H4.out.1 H4.out.2.2.1 (by have := HSz.out.1; omega) (by have := HSz.out.2.1; omega) (by have := HSz.out.2.2.1; omega) (by have := HSz.out.2.2.2.1; omega) (by have := HSz.out.2.2.2.2.1; omega) (by have := HSz.out.2.2.2.2.2; omega)
    dsimp only [pvG, lentV] at HKp
    clear he hb4 HC3 H3
    go_wp2_with fail
    refine Calls.mono HKp.out ?_
    rintro e w5 ⟨rfl, hb5⟩
    clear k0 k1 k2 k3 k4 k5 k6 k7 m0 m1 m2 m3 m4 m5 m6 m7 HKp
    have H5 : Hid (Below w.heap.size w w5) := HBf.out.2.trans (hb5.mono HBf.out.2.size)
    obtain ⟨m0, m1, m2, m3, m4, m5, m6, m7⟩ := pol8 ((hb5.block _ (blk_lt HBx.out.1)).trans HBx.out.1)
    have HR5 := show Hid _ from rcheck_any (ac := ac) (qc := qc) (vc := vc) (tc := tc) (uc := uc) (oc := oc) (HBx.out.2.below hb5) HSm.out HKd.out
    dsimp only [pvG] at HR5
    clear hb5 H4
    go_wp2_with fail
    refine Calls.mono HR5.out ?_
    rintro e w6 ⟨he, hb6⟩
    have he2 := HE.out e he
    subst he2
    have H6 : Hid (Below w.heap.size w w6) := H5.out.trans (hb6.mono H5.out.size)
    clear he hb6 HR5 m0 m1 m2 m3 m4 m5 m6 m7
    go_wp2_with fail
    refine Calls.mono (head_any w6) ?_
    rintro e w7 ⟨rfl, hb7⟩
    have HB7 : Hid (Below w.heap.size w w7) := H6.out.trans (hb7.mono H6.out.size)
    clear hb7
    go_wp2
    go_ret
    exact ⟨rfl, HB7.out⟩
end Go.Proofs.YtopiakhlajpdaaaGreat.namesChecks

namespace Go.Proofs.YtopiakhlajpdaaaGreat.Lx
open Go.ChangeShapes Go.WideShapes Go.ChangeAt Go.RowKit Go.Proofs.YtopiakhlajpdaaaGreat.Sp

theorem own : ownKnob Tryz.prog.godebug = none := by kernel_rfl
theorem laidOut : laidOutB Tryz.prog = true := by kernel_rfl
theorem bytes5 : Tryz.prog.bytesOf 5 = 1 := by kernel_rfl

theorem open_bytes {H : Type} {enc : TypeId × Value → H} {W : World} {a : Option Addr} {len cap : Nat} {d : DataW H} {p : List MemPlace} (h : DataW.Trod enc Tryz.prog W 0 (fun _ => true) true 115 (.slice a len cap) d p) :
    ∃ s : ByteArray, s.size = len ∧ len ≤ cap ∧ IsBytes W a s ∧ (len = 0 ∨ ∃ el sp, d = .slice el sp ∧ el.length = len) := by
  obtain ⟨fuel, hf⟩ := h
  rcases open_ints Tryz.underlying115 Tryz.underlying5 (by kernel_rfl) hf with ⟨hcs, hx⟩ | ⟨x, l, c, zs, hcs, _, hl, hm, hz, hx, hcell, hwz⟩
  · simp [Value.cells] at hcs
    obtain ⟨rfl, rfl, rfl⟩ := hcs
    exact ⟨ByteArray.empty, rfl, Nat.le_refl _, fun i hi => absurd hi (Nat.not_lt_zero _), Or.inl rfl⟩
  · simp [Value.cells] at hcs
    obtain ⟨rfl, rfl, rfl⟩ := hcs
    simp at hz hx
    obtain ⟨rfl, rfl⟩ := hx
    have hsz : (strOfNums (zs.take len)).size = len := by rw [strOfNums_size]; simp; omega
    refine ⟨strOfNums (zs.take len), hsz, hl, fun i hi => ?_, Or.inr ⟨_, _, rfl, by simp [lits]; omega⟩⟩
    obtain ⟨b, off, spot⟩ := x
    have h0 := hcell 0 (by omega)
    have hspot : spot = none := by simpa [Addr.add] using World.cell?_spot h0
    subst hspot
    have hB : Lib.Bytes W b off (strOfNums (zs.take len)) := Lib.bytes_of_nums (n := len) (by simp; omega) (fun x hx => by
      have hx := bounds_u8 (hwz x (List.mem_of_mem_take hx))
      omega) (fun j hj => by
        have := hcell j (by omega)
        rw [Lib.addr_add] at this
        rw [this]
        simp [List.getD, List.getElem?_take_of_lt hj])
    have hc := hB i hi
    refine ⟨b, off, rfl, World.block_lt_of_cell? W _ hc, ?_⟩
    rw [hc, nb_get _ i hi]
theorem bytes_reach {H : Type} {ts : List TypeId} {ds : List (DataW H)} (hsz : (DataW.weightsEach Tryz.prog ts ds).all (· ≤ reachBytes) = true) {j len : Nat} {d : DataW H} (ht : ts[j]? = some 115) (hd : ds[j]? = some d) (h : len = 0 ∨ ∃ el sp, d = .slice el sp ∧ el.length = len) : len ≤ 140737488351232 := by
  rcases h with rfl | ⟨el, sp, rfl, rfl⟩
  · omega
  · have := sized_slice hsz ht hd Tryz.underlying115
    rw [bytes5] at this
    simp only [reachBytes] at this
    omega
end Go.Proofs.YtopiakhlajpdaaaGreat.Lx

namespace Go.Proofs.YtopiakhlajpdaaaGreat.Gr
open Go.ChangeShapes Go.WideShapes Go.ChangeAt Go.RowKit Go.Deep Go.Proofs.YtopiakhlajpdaaaGreat.Sp Go.Proofs.YtopiakhlajpdaaaGreat.Lx

theorem bytes49 : Tryz.prog.bytesOf 49 = 48 := by kernel_rfl
theorem cells49 : Tryz.prog.cellsOf 49 = 5 := by kernel_rfl
theorem cells3 : Tryz.prog.cellsOf 3 = 1 := by kernel_rfl
theorem cells9 : Tryz.prog.cellsOf 9 = 1 := by kernel_rfl
instance : Inhabited Rz := ⟨rz0⟩
/-- a row's datum -/
def dz {H : Type} (r : Rz) : DataW H := .agg [.lit (.int .i64 r.kind), .lit (.string r.name.data.toList), .lit (.int .i64 r.stop), .lit (.int .i64 r.n), .lit (.int .i64 r.kids)]
theorem wf_le {n : Int} (h : (Lit.int .i64 n).wf = true) : n ≤ 9223372036854775807 := by
  simp [Lit.wf] at h
  omega
theorem five {α : Type} {l : List α} (h : l.length = 5) : ∃ a b c d e, l = [a, b, c, d, e] := by
  match l, h with
  | [a, b, c, d, e], _ => exact ⟨a, b, c, d, e, rfl⟩
theorem open_one {H : Type} {enc : TypeId × Value → H} {W : World} {base n : Nat} {sp : Nat → Bool} {hd : Bool} {cs : List Value} {d : DataW H} {pl : List MemPlace} (h : DataW.trod enc Tryz.prog W base sp hd n 49 cs = some (d, pl)) :
    ∃ r : Rz, cs = [.int .i64 r.kind, .string r.name, .int .i64 r.stop, .int .i64 r.n, .int .i64 r.kids] ∧ d = dz r ∧ r.kids ≤ 9223372036854775807 := by
  obtain ⟨xs, k, hk, hxy, hl, hxl, hf⟩ := DataW.trod_struct Tryz.underlying49 h
  rw [cells49] at hl
  have hxl5 : xs.length = 5 := hxl
  obtain ⟨y0, y1, y2, y3, y4, rfl⟩ := five hxl5
  obtain ⟨v0, v1, v2, v3, v4, rfl⟩ := five hl
  have g0 := hf 0 _ rfl
  have g1 := hf 1 _ rfl
  have g2 := hf 2 _ rfl
  have g3 := hf 3 _ rfl
  have g4 := hf 4 _ rfl
  simp [cells3, cells9] at g0 g1 g2 g3 g4
  obtain ⟨a0, e0, f0, _⟩ := DataW.trod_int Tryz.underlying3 g0
  obtain ⟨a1, e1, f1, _⟩ := DataW.trod_string Tryz.underlying9 g1
  obtain ⟨a2, e2, f2, _⟩ := DataW.trod_int Tryz.underlying3 g2
  obtain ⟨a3, e3, f3, _⟩ := DataW.trod_int Tryz.underlying3 g3
  obtain ⟨a4, e4, f4, w4⟩ := DataW.trod_int Tryz.underlying3 g4
  simp only [List.cons.injEq, and_true] at e0 e1 e2 e3 e4
  subst e0 e1 e2 e3 e4 f0 f1 f2 f3 f4
  simp only [Prod.mk.injEq] at hxy
  exact ⟨⟨a0, a1, a2, a3, a4⟩, rfl, by simpa [dz] using hxy.1, wf_le w4⟩
theorem open_rowsZ {H : Type} {enc : TypeId × Value → H} {W : World} {a : Option Addr} {len cap : Nat} {d : DataW H} {p : List MemPlace} (h : DataW.Trod enc Tryz.prog W 0 (fun _ => true) true 22 (.slice a len cap) d p) :
    ∃ l : List Rz, l.length = len ∧ len ≤ cap ∧ IsRz W a l ∧ (∀ r ∈ l, r.kids ≤ 9223372036854775807) ∧ (l = [] ∨ ∃ sp, d = .slice (l.map dz) sp) := by
  obtain ⟨fuel, hf⟩ := h
  rcases open_slice Tryz.underlying22 hf with ⟨hcs, _⟩ | ⟨x, l, c, m, n, D, Pl, hcs, _, hl, hm, hmm, hx, hcell⟩
  · simp [Value.cells] at hcs
    obtain ⟨rfl, rfl, rfl⟩ := hcs
    exact ⟨[], rfl, Nat.le_refl _, fun i x hx => (by simp at hx), fun r hr => (by cases hr), Or.inl rfl⟩
  · simp [Value.cells] at hcs
    obtain ⟨rfl, rfl, rfl⟩ := hcs
    simp only [if_true] at hmm
    subst hmm
    simp only [Prod.mk.injEq] at hx
    have each : ∀ i, i < len → ∃ r : Rz, W.cells? 0 (x.add (i * 5)) 5 = some [.int .i64 r.kind, .string r.name, .int .i64 r.stop, .int .i64 r.n, .int .i64 r.kids] ∧ D i = dz r ∧ r.kids ≤ 9223372036854775807 := by
      intro i hi
      obtain ⟨cs', h1, h2⟩ := hcell i (by omega)
      obtain ⟨r, rfl, h4, h5⟩ := open_one h2
      rw [cells49] at h1
      exact ⟨r, h1, h4, h5⟩
    obtain ⟨q, hq⟩ := choose_lt each
    refine ⟨(List.range len).map q, by simp, hl, fun i r hr => ?_, fun r hr => ?_, Or.inr ⟨(List.range (m - len)).map fun j => D (len + j), ?_⟩⟩
    · have hi : i < len := by
        have := (List.getElem?_eq_some_iff.1 hr).1
        simpa using this
      have hri : q i = r := by simpa [hi] using hr
      obtain ⟨h1, _, _⟩ := hq i hi
      rw [hri] at h1
      obtain ⟨_, hlen, hc⟩ := World.cells?_some h1
      have e0 := hc 0 (by omega)
      have e1 := hc 1 (by omega)
      have e2 := hc 2 (by omega)
      have e3 := hc 3 (by omega)
      have e4 := hc 4 (by omega)
      rw [add_add] at e0 e1 e2 e3 e4
      simp at e0 e1 e2 e3 e4
      obtain ⟨b, off, spot⟩ := x
      have hspot : spot = none := by
        obtain ⟨g1, _, _⟩ := hq 0 (by omega)
        obtain ⟨_, _, gc⟩ := World.cells?_some g1
        have g0 := gc 0 (by omega)
        simp [Addr.add] at g0
        simpa [Addr.add] using World.cell?_spot g0
      subst hspot
      rw [Lib.addr_add] at e0 e1 e2 e3 e4
      refine ⟨b, off, rfl, World.block_lt_of_cell? W _ e0, e0, ?_, ?_, ?_, ?_⟩
      · rw [Nat.add_assoc]; exact e1
      · rw [Nat.add_assoc]; exact e2
      · rw [Nat.add_assoc]; exact e3
      · rw [Nat.add_assoc]; exact e4
    · obtain ⟨i, hi, rfl⟩ := List.mem_map.1 hr
      exact (hq i (List.mem_range.1 hi)).2.2
    · rw [hx.1]
      congr 1
      rw [List.map_map]
      exact List.map_congr_left fun i hi => (hq i (List.mem_range.1 hi)).2.1
theorem weights_all {H : Type} {P : Program} {e : TypeId} {d : DataW H} {l : List (DataW H)} (h : d ∈ l) : ∀ n ∈ d.weights P e, n ∈ DataW.weightsAll P e l := by
  induction l with
  | nil => cases h
  | cons x r ih =>
    intro n hn
    simp only [DataW.weightsAll, List.mem_append]
    rcases List.mem_cons.1 h with rfl | h1
    · exact Or.inl hn
    · exact Or.inr (ih h1 n hn)
theorem rows_reach {H : Type} {ts : List TypeId} {ds : List (DataW H)} (hsz : (DataW.weightsEach Tryz.prog ts ds).all (· ≤ reachBytes) = true) {j : Nat} {l : List Rz} {d : DataW H} (ht : ts[j]? = some 22) (hd : ds[j]? = some d) (h : l = [] ∨ ∃ sp, d = .slice (l.map dz) sp) :
    l.length ≤ 2932031007317 ∧ ∀ r ∈ l, r.name.size ≤ 140737488351232 := by
  rcases h with rfl | ⟨sp, rfl⟩
  · exact ⟨by simp, fun x hx => by cases hx⟩
  · refine ⟨?_, fun x hx => ?_⟩
    · have := sized_slice hsz ht hd Tryz.underlying22
      rw [bytes49] at this
      simp only [reachBytes, List.length_map] at this
      omega
    · have h1 : (dz x : DataW H) ∈ l.map dz := List.mem_map.2 ⟨x, hx, rfl⟩
      have h2 := weights_all (P := Tryz.prog) (e := 49) h1 x.name.data.toList.length (by simp [dz, DataW.weights, Tryz.underlying49, DataW.weightsEach])
      have h3 := List.all_eq_true.1 hsz _ (DataW.weights_mem_each ht hd x.name.data.toList.length (by
        simp only [DataW.weights, Tryz.underlying22]
        exact List.mem_cons_of_mem _ (List.mem_append_left _ h2)))
      have h4 := of_decide_eq_true h3
      simpa [reachBytes] using h4
end Go.Proofs.YtopiakhlajpdaaaGreat.Gr

namespace Go.Proofs.YtopiakhlajpdaaaGreat.Lx
open Go.ChangeShapes Go.WideShapes Go.ChangeAt Go.RowKit Go.Proofs.YtopiakhlajpdaaaGreat.Sp

theorem bytes9 : Tryz.prog.bytesOf 9 = 16 := by kernel_rfl
theorem bytes3 : Tryz.prog.bytesOf 3 = 8 := by kernel_rfl

theorem weights_all {H : Type} {P : Program} {e : TypeId} {d : DataW H} {l : List (DataW H)} (h : d ∈ l) : ∀ n ∈ d.weights P e, n ∈ DataW.weightsAll P e l := by
  induction l with
  | nil => cases h
  | cons x r ih =>
    intro n hn
    simp only [DataW.weightsAll, List.mem_append]
    rcases List.mem_cons.1 h with rfl | h1
    · exact Or.inl hn
    · exact Or.inr (ih h1 n hn)

theorem open_texts {H : Type} {enc : TypeId × Value → H} {W : World} {a : Option Addr} {len cap : Nat} {d : DataW H} {p : List MemPlace} (h : DataW.Trod enc Tryz.prog W 0 (fun _ => true) true 27 (.slice a len cap) d p) :
    ∃ ss : List ByteArray, ss.length = len ∧ len ≤ cap ∧ IsStrs W a ss ∧ (ss = [] ∨ ∃ sp, d = .slice (strs ss) sp) := by
  obtain ⟨fuel, hf⟩ := h
  rcases open_strings Tryz.underlying27 Tryz.underlying9 (by kernel_rfl) hf with ⟨hcs, hx⟩ | ⟨x, l, c, zs, hcs, _, hl, hm, hz, hx, hcell, hwz⟩
  · simp [Value.cells] at hcs
    obtain ⟨rfl, rfl, rfl⟩ := hcs
    exact ⟨[], rfl, Nat.le_refl _, fun i x hx => by simp at hx, Or.inl rfl⟩
  · simp [Value.cells] at hcs
    obtain ⟨rfl, rfl, rfl⟩ := hcs
    simp at hz hx
    obtain ⟨rfl, rfl⟩ := hx
    refine ⟨zs.take len, by simp; omega, hl, fun i y hy => ?_, Or.inr ⟨_, rfl⟩⟩
    have hil : i < len := by
      have := (List.getElem?_eq_some_iff.1 hy).1
      simp at this; omega
    have hc := hcell i (by omega)
    obtain ⟨b, off, spot⟩ := x
    have h0 := hcell 0 (by omega)
    have hspot : spot = none := by simpa [Addr.add] using World.cell?_spot h0
    subst hspot
    rw [Lib.addr_add] at hc
    refine ⟨b, off, rfl, World.block_lt_of_cell? W _ hc, ?_⟩
    rw [hc]
    rw [List.getElem?_take_of_lt hil] at hy
    simp [List.getD, hy]
theorem texts_reach {H : Type} {ts : List TypeId} {ds : List (DataW H)} (hsz : (DataW.weightsEach Tryz.prog ts ds).all (· ≤ reachBytes) = true) {j : Nat} {ss : List ByteArray} {d : DataW H} (ht : ts[j]? = some 27) (hd : ds[j]? = some d) (h : ss = [] ∨ ∃ sp, d = .slice (strs ss) sp) :
    ss.length ≤ 140737488351232 ∧ ∀ x ∈ ss, x.size ≤ 140737488351232 := by
  rcases h with rfl | ⟨sp, rfl⟩
  · exact ⟨by simp, fun x hx => by cases hx⟩
  · refine ⟨?_, fun x hx => ?_⟩
    · have := sized_slice hsz ht hd Tryz.underlying27
      rw [bytes9] at this
      simp only [reachBytes, strs, List.length_map] at this
      omega
    · have h1 : (DataW.lit (.string x.data.toList) : DataW H) ∈ strs ss := by
        unfold strs
        exact List.mem_map.2 ⟨x, hx, rfl⟩
      have h2 := weights_all (P := Tryz.prog) (e := 9) h1 x.data.toList.length (by simp [DataW.weights])
      have h3 := List.all_eq_true.1 hsz _ (DataW.weights_mem_each ht hd x.data.toList.length (by
        simp only [DataW.weights, Tryz.underlying27]
        exact List.mem_cons_of_mem _ (List.mem_append_left _ h2)))
      have h4 := of_decide_eq_true h3
      simpa [reachBytes] using h4
theorem text_reach {H : Type} {ts : List TypeId} {ds : List (DataW H)} (hsz : (DataW.weightsEach Tryz.prog ts ds).all (· ≤ reachBytes) = true) {j : Nat} {s : ByteArray} (ht : ts[j]? = some 9) (hd : ds[j]? = some (.lit (.string s.data.toList))) : s.size ≤ 140737488351232 := by
  have := sized_string hsz ht hd
  simpa [reachBytes] using this

theorem open_nums {H : Type} {enc : TypeId × Value → H} {W : World} {a : Option Addr} {len cap : Nat} {d : DataW H} {p : List MemPlace} (h : DataW.Trod enc Tryz.prog W 0 (fun _ => true) true 28 (.slice a len cap) d p) :
    ∃ z : Nat → Int, IsInts W a len z ∧ (len = 0 ∨ ∃ el sp, d = .slice el sp ∧ el.length = len) := by
  obtain ⟨fuel, hf⟩ := h
  rcases open_ints Tryz.underlying28 Tryz.underlying3 (by kernel_rfl) hf with ⟨hcs, hx⟩ | ⟨x, l, c, zs, hcs, _, hl, hm, hz, hx, hcell, hwz⟩
  · simp [Value.cells] at hcs
    obtain ⟨rfl, rfl, rfl⟩ := hcs
    exact ⟨fun _ => 0, fun i hi => absurd hi (Nat.not_lt_zero _), Or.inl rfl⟩
  · simp [Value.cells] at hcs
    obtain ⟨rfl, rfl, rfl⟩ := hcs
    simp at hz hx
    obtain ⟨rfl, rfl⟩ := hx
    refine ⟨fun i => zs.getD i 0, fun i hi => ?_, Or.inr ⟨_, _, rfl, by simp [lits]; omega⟩⟩
    obtain ⟨b, off, spot⟩ := x
    have h0 := hcell 0 (by omega)
    have hspot : spot = none := by simpa [Addr.add] using World.cell?_spot h0
    subst hspot
    have hc := hcell i (by omega)
    rw [Lib.addr_add] at hc
    exact ⟨b, off, rfl, World.block_lt_of_cell? W _ hc, hc⟩
theorem nums_reach {H : Type} {ts : List TypeId} {ds : List (DataW H)} (hsz : (DataW.weightsEach Tryz.prog ts ds).all (· ≤ reachBytes) = true) {j len : Nat} {d : DataW H} (ht : ts[j]? = some 28) (hd : ds[j]? = some d) (h : len = 0 ∨ ∃ el sp, d = .slice el sp ∧ el.length = len) : len ≤ 140737488351232 := by
  rcases h with rfl | ⟨el, sp, rfl, rfl⟩
  · omega
  · have := sized_slice hsz ht hd Tryz.underlying28
    rw [bytes3] at this
    simp only [reachBytes] at this
    omega
end Go.Proofs.YtopiakhlajpdaaaGreat.Lx

namespace Go.Proofs.YtopiakhlajpdaaaGreat.Nm
open Go.ChangeShapes Go.WideShapes Go.ChangeAt Go.RowKit Go.Deep Go.Proofs.YtopiakhlajpdaaaGreat.Sp Go.Proofs.YtopiakhlajpdaaaGreat.Lx Go.Proofs.YtopiakhlajpdaaaGreat.Gr

theorem cellsP : Tryz.prog.cellsOf 30 = 8 := by kernel_rfl
theorem cellsR : Tryz.prog.cellsOf 22 = 1 := by kernel_rfl
theorem cellsQ : Tryz.prog.cellsOf 26 = 1 := by kernel_rfl
theorem cellsSS : Tryz.prog.cellsOf 27 = 1 := by kernel_rfl
theorem cellsII : Tryz.prog.cellsOf 28 = 1 := by kernel_rfl
theorem cellsS : Tryz.prog.cellsOf 9 = 1 := by kernel_rfl
theorem cellsI : Tryz.prog.cellsOf 3 = 1 := by kernel_rfl
theorem cellsB : Tryz.prog.cellsOf 4 = 1 := by kernel_rfl
theorem cellsQu : Tryz.prog.cellsOf 47 = 2 := by kernel_rfl
theorem eight {α : Type} {l : List α} (h : l.length = 8) : ∃ a b c d e f g i, l = [a, b, c, d, e, f, g, i] := by
  match l, h with
  | [a, b, c, d, e, f, g, i], _ => exact ⟨a, b, c, d, e, f, g, i, rfl⟩
section
variable {H : Type} {enc : TypeId × Value → H} {W : World}
/-- a slice in a cell -/
theorem slice_shape {t e : TypeId} {n : Nat} {a : Value} {y : DataW H × List MemPlace} (ht : Tryz.prog.underlying t = some (.slice e)) (h : DataW.trod enc Tryz.prog W 0 (fun _ => true) true n t [a] = some y) :
    ∃ ao len cap, a = .slice ao len cap ∧ (ao = none → cap = 0) ∧ DataW.Trod enc Tryz.prog W 0 (fun _ => true) true t (.slice ao len cap) y.1 y.2 := by
  rcases open_slice ht h with ⟨hcs, _⟩ | ⟨x, l, c, m, k, D, Pl, hcs, _⟩
  · cases hcs
    exact ⟨none, 0, 0, rfl, fun _ => rfl, n, by simpa [Value.cells] using h⟩
  · cases hcs
    exact ⟨some x, l, c, rfl, (fun e => by cases e), n, by simpa [Value.cells] using h⟩
theorem strs_vals {ao : Option Addr} {ss : List ByteArray} (h : IsStrs W ao ss) : IsVals W ao (ss.map Value.string) := fun k x hx => by
  rw [List.getElem?_map] at hx
  cases hs : ss[k]? with
  | none => rw [hs] at hx; cases hx
  | some s =>
    rw [hs] at hx
    cases hx
    exact h k s hs
theorem ints_vals {ao : Option Addr} {len : Nat} {z : Nat → Int} (h : IsInts W ao len z) : IsVals W ao (iv ((List.range len).map z)) := fun k x hx => by
  have hk : k < len := by
    have := (List.getElem?_eq_some_iff.1 hx).1
    simpa [iv] using this
  have e : x = .int .i64 (z k) := by
    rw [show (iv ((List.range len).map z))[k]? = some (.int .i64 (z k)) by simp [iv, hk]] at hx
    cases hx
    rfl
  subst e
  exact h k hk
/-- queues -/
theorem open_queues {a : Option Addr} {len cap : Nat} {d : DataW H} {p : List MemPlace} (h : DataW.Trod enc Tryz.prog W 0 (fun _ => true) true 26 (.slice a len cap) d p) : ∃ qs : List (ByteArray × Bool), qs.length = len ∧ IsVals W a (qF qs) := by
  obtain ⟨fuel, hf⟩ := h
  rcases open_slice_pairs Tryz.underlying26 Tryz.underlying47 cellsQu rfl rfl cellsS cellsB hf with ⟨hcs, _⟩ | ⟨x, l, c, m, n, V0, V1, D0, D1, P0, P1, hcs, _, hl, hm, hmm, hx, hcell⟩
  · simp [Value.cells] at hcs
    obtain ⟨rfl, rfl, rfl⟩ := hcs
    exact ⟨[], rfl, fun i y hy => by simp [qF] at hy⟩
  · simp [Value.cells] at hcs
    obtain ⟨rfl, rfl, rfl⟩ := hcs
    simp only [if_true] at hmm
    subst hmm
    have each : ∀ i, i < len → ∃ q : ByteArray × Bool, V0 i = .string q.1 ∧ V1 i = .bool q.2 := fun i hi => by
      obtain ⟨_, _, t0, t1⟩ := hcell i (by omega)
      obtain ⟨s, e0, _⟩ := DataW.trod_string Tryz.underlying9 t0
      obtain ⟨b, e1, _⟩ := DataW.trod_bool Tryz.underlying4 t1
      simp only [List.cons.injEq, and_true] at e0 e1
      exact ⟨(s, b), e0, e1⟩
    haveI : Inhabited (ByteArray × Bool) := ⟨(⟨#[]⟩, false)⟩
    obtain ⟨q, hq⟩ := choose_lt each
    have hat : ∀ (qs : List (ByteArray × Bool)) (k : Nat) (y : Value), (qF qs)[k]? = some y → ∃ i, ∃ hi : i < qs.length, (k = i * 2 ∧ y = .string qs[i].1) ∨ (k = i * 2 + 1 ∧ y = .bool qs[i].2) := by
      intro qs
      induction qs with
      | nil => intro k y hy; simp [qF] at hy
      | cons z qs ih =>
        intro k y hy
        have e : qF (z :: qs) = [.string z.1, .bool z.2] ++ qF qs := by simp [qF]
        rw [e] at hy
        match k with
        | 0 => exact ⟨0, by simp, Or.inl ⟨rfl, by simpa using hy.symm⟩⟩
        | 1 => exact ⟨0, by simp, Or.inr ⟨rfl, by simpa using hy.symm⟩⟩
        | k + 2 =>
          obtain ⟨i, hi, hh⟩ := ih k y (by simpa using hy)
          refine ⟨i + 1, by simpa using hi, ?_⟩
          rcases hh with ⟨rfl, rfl⟩ | ⟨rfl, rfl⟩
          · exact Or.inl ⟨by omega, by simp⟩
          · exact Or.inr ⟨by omega, by simp⟩
    obtain ⟨b, off, spot⟩ := x
    refine ⟨(List.range len).map q, by simp, fun k y hy => ?_⟩
    obtain ⟨i, hi, hh⟩ := hat _ k y hy
    have hil : i < len := by simpa using hi
    obtain ⟨c0, c1, _, _⟩ := hcell i (by omega)
    have hspot : spot = none := by
      have z0 := (hcell 0 (by omega)).1
      simp [Addr.add] at z0
      simpa using World.cell?_spot z0
    subst hspot
    rw [Lib.addr_add] at c0 c1
    rw [(hq i hil).1] at c0
    rw [(hq i hil).2] at c1
    rcases hh with ⟨rfl, rfl⟩ | ⟨rfl, rfl⟩
    · exact ⟨b, off, rfl, World.block_lt_of_cell? W _ c0, by simpa using c0⟩
    · exact ⟨b, off, rfl, World.block_lt_of_cell? W _ c0, by simpa [Nat.add_assoc] using c1⟩
set_option maxRecDepth 100000 in
/-- a policy that is handed in -/
theorem open_pol {base : Nat} {v : Value} {d : DataW H} {p : List MemPlace} (hv : Value.okWide Tryz.prog W .any base 30 v) (h : DataW.Trod enc Tryz.prog W 0 (fun _ => true) true 30 v d p) :
    ∃ (P : Pg) (ao qo vo tto uo oo : Option Addr) (ac qc vc tc uc oc : Nat) (d0 d1 d2 d3 d4 d5 d6 d7 : DataW H), v = pvG P ao qo vo tto uo oo ac qc vc tc uc oc ∧ RdG W P ao qo vo tto uo oo ∧ ((qo = none → qc = 0) ∧ (vo = none → vc = 0) ∧ (tto = none → tc = 0) ∧ (uo = none → uc = 0) ∧ (oo = none → oc = 0)) ∧ (∀ r ∈ P.rows, r.kids ≤ 9223372036854775807) ∧ d = .agg [d0, d1, d2, d3, d4, d5, d6, d7] ∧ (P.rows = [] ∨ ∃ sp, d1 = .slice (P.rows.map dz) sp) := by
  obtain ⟨cs, rfl, hcs⟩ := okWide_struct Tryz.underlying30 hv
  obtain ⟨fuel, hf⟩ := h
  obtain ⟨xs, n, _, hxy, hl, hxl, hfs⟩ := DataW.trod_struct Tryz.underlying30 hf
  have hc : (Value.agg cs).cells = cs := rfl
  rw [hc] at hl hfs
  rw [cellsP] at hl
  have hxl8 : xs.length = 8 := hxl
  obtain ⟨y0, y1, y2, y3, y4, y5, y6, y7, rfl⟩ := eight hxl8
  obtain ⟨a0, a1, a2, a3, a4, a5, a6, a7, hcl⟩ := eight hl
  rw [hcl] at hfs
  have g0 := hfs 0 _ rfl
  have g1 := hfs 1 _ rfl
  have g2 := hfs 2 _ rfl
  have g3 := hfs 3 _ rfl
  have g4 := hfs 4 _ rfl
  have g5 := hfs 5 _ rfl
  have g6 := hfs 6 _ rfl
  have g7 := hfs 7 _ rfl
  simp [cellsS, cellsR, cellsQ, cellsSS, cellsII, cellsI] at g0 g1 g2 g3 g4 g5 g6 g7
  obtain ⟨nm, e0, _, _⟩ := DataW.trod_string Tryz.underlying9 g0
  obtain ⟨ao, ln1, ac, rfl, _, t1⟩ := slice_shape Tryz.underlying22 g1
  obtain ⟨qo, ln2, qc, rfl, n2, t2⟩ := slice_shape Tryz.underlying26 g2
  obtain ⟨vo, ln3, vc, rfl, n3, t3⟩ := slice_shape Tryz.underlying27 g3
  obtain ⟨tto, ln4, tc, rfl, n4, t4⟩ := slice_shape Tryz.underlying27 g4
  obtain ⟨uo, ln5, uc, rfl, n5, t5⟩ := slice_shape Tryz.underlying28 g5
  obtain ⟨oo, ln6, oc, rfl, n6, t6⟩ := slice_shape Tryz.underlying28 g6
  obtain ⟨ms, e7, _, _⟩ := DataW.trod_int Tryz.underlying3 g7
  obtain ⟨l, rfl, _, hr, hk, hd1⟩ := open_rowsZ t1
  obtain ⟨qs, rfl, hq⟩ := open_queues t2
  obtain ⟨vs, rfl, _, hvs, _⟩ := open_texts t3
  obtain ⟨ts, rfl, _, hts, _⟩ := open_texts t4
  obtain ⟨z5, hz5, _⟩ := open_nums t5
  obtain ⟨z6, hz6, _⟩ := open_nums t6
  simp only [List.cons.injEq, and_true] at e0 e7
  subst e0 e7
  simp only [Prod.mk.injEq, List.map_cons, List.map_nil] at hxy
  refine ⟨⟨nm, l, qs, vs, ts, (List.range ln5).map z5, (List.range ln6).map z6, ms⟩, ao, qo, vo, tto, uo, oo, ac, qc, vc, tc, uc, oc, y0.1, y1.1, y2.1, y3.1, y4.1, y5.1, y6.1, y7.1, ?_, ⟨hr, hq, strs_vals hvs, strs_vals hts, ints_vals hz5, ints_vals hz6⟩, ⟨n2, n3, n4, n5, n6⟩, hk, hxy.1, hd1⟩
  have ha : cs = #[.string nm, .slice ao l.length ac, .slice qo qs.length qc, .slice vo vs.length vc, .slice tto ts.length tc, .slice uo ln5 uc, .slice oo ln6 oc, .int .i64 ms] := by
    apply Array.toList_inj.1
    exact hcl
  rw [ha]
  simp [pvG]
end
set_option maxRecDepth 100000 in
/-- what the form's own reach tells of a policy's rows -/
theorem pol_reach {H : Type} {ts : List TypeId} {ds : List (DataW H)} (hsz : (DataW.weightsEach Tryz.prog ts ds).all (· ≤ reachBytes) = true) {j : Nat} {l : List Rz} {d0 d1 d2 d3 d4 d5 d6 d7 : DataW H} (ht : ts[j]? = some 30) (hd : ds[j]? = some (.agg [d0, d1, d2, d3, d4, d5, d6, d7])) (h : l = [] ∨ ∃ sp, d1 = .slice (l.map dz) sp) :
    l.length ≤ 2932031007317 ∧ ∀ r ∈ l, r.name.size ≤ 140737488351232 := by
  have hs : (DataW.weightsEach Tryz.prog [9, 22, 26, 27, 27, 28, 28, 3] [d0, d1, d2, d3, d4, d5, d6, d7]).all (· ≤ reachBytes) = true := by
    refine List.all_eq_true.2 fun x hx => ?_
    refine List.all_eq_true.1 hsz x (DataW.weights_mem_each ht hd x ?_)
    simpa [DataW.weights, Tryz.underlying30] using hx
  exact rows_reach hs (j := 1) rfl rfl h
end Go.Proofs.YtopiakhlajpdaaaGreat.Nm

namespace Go.Proofs.YtopiakhlajpdaaaGreat.namesChecks
open Go.ChangeShapes Go.WideShapes Go.ChangeAt Go.RowKit
open Go.Proofs.YtopiakhlajpdaaaGreat.Sp Go.Proofs.YtopiakhlajpdaaaGreat.Lx Go.Proofs.YtopiakhlajpdaaaGreat.Gr Go.Proofs.YtopiakhlajpdaaaGreat.Nm

set_option maxRecDepth 100000 in
theorem contractF (H : Type) (enc : TypeId × Value → H) (W : World) (base : Nat) (args : Array Value) (ds gs : List (DataW H)) (before : List MemPlace)
    (hval : ∀ (j : Nat) t v, Tryz.f4.params[j]? = some t → args[j]? = some v → Value.okWide Tryz.prog W .any base t v)
    (hW : DataW.Whole enc Tryz.prog Tryz.f4.params.toList Rows.namesChecksSpec.vars false W args.toList ds gs before)
    (hsz : (DataW.weightsEach Tryz.prog (Tryz.f4.params.toList ++ Rows.namesChecksSpec.plain.varTypes Tryz.prog) (ds ++ gs)).all (· ≤ reachBytes) = true) :
    Calls Tryz.prog 4 args W fun e W' => ∃ v, e = .returned v ∧ Rows.namesChecksSpec.post enc Tryz.prog Tryz.f4 false true false false W args v W' := by
  have hW' := hW
  obtain ⟨p, q, hA0, hV, rfl, hfz, hnd⟩ := hW
  have hA : DataW.TrodAll enc Tryz.prog W 0 (fun _ => true) true Tryz.f4.params.toList args.toList ds p := hA0
  rw [Tryz.params4] at hA hval hsz
  obtain ⟨v0, vs0, d0, ds0, p0, q0, hargs, rfl, rfl, h0, r0⟩ := trodAll_cons hA
  obtain ⟨rfl, rfl, rfl⟩ := trodAll_nil r0
  obtain rfl : args = #[v0] := by cases args; simp_all
  obtain ⟨rfl, rfl⟩ := trodVars_none hV
  have lt0 : ∀ x ∈ p0, x.block < W.heap.size := by obtain ⟨m, hm⟩ := h0; exact DataW.trod_lt m _ _ _ hm
  obtain ⟨P, ao, qo, vo, tto, uo, oo, ac, qc, vc, tc, uc, oc, e0, e1, e2, e3, e4, e5, e6, e7, rfl, hrd, hnil, hk, rfl, hd1⟩ := open_pol (hval 0 30 v0 rfl rfl) h0
  have hpr := pol_reach hsz (j := 0) rfl rfl hd1
  refine (walk P ao qo vo tto uo oo ac qc vc tc uc oc W hrd hpr.1 (fun r hr => ⟨hk r hr, by have := hpr.2 r hr; omega⟩) hnil.1 hnil.2.1 hnil.2.2.1 hnil.2.2.2.1 hnil.2.2.2.2).mono fun e W2 ⟨he, bel⟩ => ?_
  subst he
  exact ⟨_, rfl, _, _, _, [], _, [], hW', trodAll_mk1 (shut_bool Tryz.underlying4 _), (trodAll_cons_mk (Below.trod laidOut (by kernel_rfl) (of_decide_eq_true (by kernel_rfl)) h0 bel lt0) trodAll_mk0), rfl, bel.frame _, fun h => by cases h⟩

set_option maxRecDepth 100000 in
theorem liftedF (os : Os) (started : os.Started) (H : Type) (enc : TypeId × Value → H) :
    ReturnsInHanded {} Tryz.checked os 4 .any (Rows.namesChecksSpec.pre6 enc Tryz.prog Tryz.f4 Rows.namesChecksRow.domain false) (Rows.namesChecksSpec.post enc Tryz.prog Tryz.f4 false true false false) := by
  refine returnsInHanded_of_change_sized (C := Tryz.checked) own started (by kernel_rfl) Tryz.func4
    (ChangeSpec.witness6 (enc := enc) (C := Tryz.checked) false ⟨#[], #[.agg #[.string ⟨#[]⟩, .slice none 0 0, .slice none 0 0, .slice none 0 0, .slice none 0 0, .slice none 0 0, .slice none 0 0, .int .i64 0]], []⟩ 8 (by kernel_rfl) (by kernel_rfl) (by kernel_rfl) (by kernel_rfl)) ?_
  intro W base args ds gs before hval hW _ hsz _
  exact contractF H enc W base args ds gs before hval hW hsz

theorem provedF : Rows.NamesChecksSaid :=
  OpenClaim.holds_of_wide 4 Tryz.f4 rfl rfl rfl rfl rfl rfl rfl ⟨rfl, rfl, rfl, rfl, rfl⟩ rfl rfl rfl rfl rfl (by kernel_rfl) Tryz.func4 (by kernel_rfl)
    (of_decide_eq_true (by kernel_rfl)) (by unfold Func.isWrapper; first | (rw [if_pos (by decide +kernel)]; kernel_rfl) | (rw [if_neg (by decide +kernel)]; exact ⟨rfl, rfl⟩))
    (fun os started H enc _ => liftedF os started H enc)
end Go.Proofs.YtopiakhlajpdaaaGreat.namesChecks
