import Derived.Test.YtopiakhlajpdaaaGreatJBase
import Derived.Test.YtopiakhlajpdaaaGreatJRfRes
import Derived.Test.YtopiakhlajpdaaaGreatJSame
import Derived.Test.YtopiakhlajpdaaaGreatJLend
import Derived.Test.YtopiakhlajpdaaaGreatJHead
import Derived.Test.YtopiakhlajpdaaaGreatJLaidP
import Derived.ProofKit
import Derived.OpenShut
import Derived.ShutString
import Derived.ChangeOld
import Derived.Below
import Derived.JoinedCond
import Derived.SizedLaws
import Derived.SliceStrings
import Derived.ChangeMaps5
import Derived.Test.YtopiakhlajpdaaaGreatJWrong
import Derived.Deep.Slices
import Derived.ChangeSame
namespace Go.Proofs.YtopiakhlajpdaaaGreat.Lx
open Go.RowKit Go.Proofs.YtopiakhlajpdaaaGreat.Sp

/-- a slice of strings; of numbers -/
def IsStrs (w : World) (ao : Option Addr) (ss : List ByteArray) : Prop := ∀ i x, ss[i]? = some x → ∃ g o, ao = some ⟨g, o, none⟩ ∧ g < w.heap.size ∧ w.cell? ⟨g, o + i, none⟩ = some (.string x)
theorem IsStrs.below {w w' : World} {ao : Option Addr} {ss : List ByteArray} (h : IsStrs w ao ss) (hb : Below w.heap.size w w') : IsStrs w' ao ss := by
  intro i x hx
  obtain ⟨g, o, e, hg, hc⟩ := h i x hx
  exact ⟨g, o, e, Nat.lt_of_lt_of_le hg hb.size, (hb.cell (p := ⟨g, o + i, none⟩) hg).trans hc⟩
def IsInts (w : World) (ao : Option Addr) (n : Nat) (z : Nat → Int) : Prop := ∀ i, i < n → ∃ g o, ao = some ⟨g, o, none⟩ ∧ g < w.heap.size ∧ w.cell? ⟨g, o + i, none⟩ = some (.int .i64 (z i))
theorem IsInts.below {w w' : World} {ao : Option Addr} {n : Nat} {z : Nat → Int} (h : IsInts w ao n z) (hb : Below w.heap.size w w') : IsInts w' ao n z := by
  intro i hi
  obtain ⟨g, o, e, hg, hc⟩ := h i hi
  exact ⟨g, o, e, Nat.lt_of_lt_of_le hg hb.size, (hb.cell (p := ⟨g, o + i, none⟩) hg).trans hc⟩
end Go.Proofs.YtopiakhlajpdaaaGreat.Lx

namespace Go.Proofs.YtopiakhlajpdaaaGreat.Nm
open Go.RowKit Go.Maps Go.Proofs.YtopiakhlajpdaaaGreat.Sp Go.Proofs.YtopiakhlajpdaaaGreat.Lx Go.Proofs.YtopiakhlajpdaaaGreat.Gr

theorem far_yes {ao : Option Addr} {n cap : Nat} (h : 65536 < n) (hn : n ≤ 2932031007317) (w : World) : Calls Tryz.prog 6 #[.slice ao n cap] w fun e w' => e = .returned (.bool true) ∧ w = w' := by
  have h1 : decide ((65536 : Int) < (n : Int)) = true := decide_eq_true (by omega)
  have h2 : (65536 : Int) < (n : Int) := by omega
  go_enter Tryz.func6, Tryz.ntmps6
  go_wp2
  go_ret
  exact ⟨rfl, rfl⟩
theorem far_no {ao : Option Addr} {n cap : Nat} (h : ¬ 65536 < n) (w : World) : Calls Tryz.prog 6 #[.slice ao n cap] w fun e w' => e = .returned (.bool false) ∧ w = w' := by
  have h1 : decide ((65536 : Int) < (n : Int)) = false := decide_eq_false (by omega)
  have h3 : decide (65536 < n) = false := decide_eq_false h
  go_enter Tryz.func6, Tryz.ntmps6
  go_wp2
  go_ret
  exact ⟨rfl, rfl⟩
theorem fr_below {w w5 w6 : World} {g b : Nat} (h : Below b w w5) (hF : Fr [g] w5 w6) (hg : b ≤ g) (hb : b ≤ w.heap.size) : Below b w w6 := h.trans ⟨hF.os, hF.tape, hF.output, hF.size, fun k hk => hF.block k (by have := h.size; omega) (by simp; omega)⟩
end Go.Proofs.YtopiakhlajpdaaaGreat.Nm
namespace Go.Proofs.YtopiakhlajpdaaaGreat.namesResolves
open Go.RowKit Go.Maps Go.Proofs.YtopiakhlajpdaaaGreat.Sp Go.Proofs.YtopiakhlajpdaaaGreat.Lx Go.Proofs.YtopiakhlajpdaaaGreat.Gr Go.Proofs.YtopiakhlajpdaaaGreat.Nm

set_option maxHeartbeats 12800000 in
set_option maxRecDepth 100000 in
theorem walk (ao : Option Addr) (l : List Rz) (cap : Nat) (w : World) (h : IsRz w ao l) (hn : l.length ≤ 2932031007317) (hkd : ∀ r ∈ l, r.kids ≤ 9223372036854775807 ∧ r.name.size ≤ 4611686018427387000) :
    Calls Tryz.prog 3 #[.slice ao l.length cap] w fun e w' => e = .returned (.bool true) ∧ Below w.heap.size w w' := by
  have HI : Hid (IsRz w ao l) := h
  have HKd := show Hid _ from hkd
  have HSm := show Hid _ from resP_sm hn
  by_cases hf : 65536 < l.length
  · have HF := show Hid _ from far_yes (ao := ao) (cap := cap) hf hn w
    clear h hn hkd hf
    go_enter Tryz.func3, Tryz.ntmps3
    go_wp2_with fail
    refine Calls.mono HF.out ?_
    rintro _ _ ⟨rfl, rfl⟩
    go_wp2_with fail
    refine Calls.mono (head_any w) ?_
    rintro e w1 ⟨rfl, hb⟩
    have HB := show Hid _ from hb
    clear hb
    go_wp2
    go_ret
    exact ⟨rfl, HB.out⟩
  · have HF := show Hid _ from far_no (ao := ao) (cap := cap) hf w
    have HN : Hid (l.length ≤ 65536) := by show _ ≤ _; omega
    clear h hn hkd hf
    go_enter Tryz.func3, Tryz.ntmps3
    go_wp2_with fail
    refine Calls.mono HF.out ?_
    rintro _ _ ⟨rfl, rfl⟩
    go_wp2_with fail
    refine Calls.mono (lendR_any ao l cap w HI.out (by have := HN.out; omega)) ?_
    rintro e w1 ⟨rfl, hR1, hb1⟩
    have HR1 : Hid (RowZ w1 w.heap.size (fillL l 9) ∧ Below w.heap.size w w1) := ⟨hR1, hb1⟩
    have HZ1 : Hid (IsRz w1 (some ⟨w.heap.size, 0, none⟩) l) := RowZ.reads (l' := (List.range 9).map (fun j => mkL (l.length + j)) ++ List.replicate (9 - 9) rz0) hR1
    clear hR1 hb1
    go_wp2_with fail
    refine Calls.mono (resolve_any (cap := l.length + 9) HZ1.out (by have := HN.out; omega)) ?_
    rintro e w2 hT2
    obtain ⟨ao1, qo1, vo1, to1, uo1, oo1, ac1, qc1, vc1, tc1, uc1, oc1, rfl, hb2, hrd2⟩ := told_g hT2
    have HRr : Hid (∀ W, IsRz W ao l → Calls Tryz.prog 10 #[.slice ao l.length cap] W (Go.Proofs.YtopiakhlajpdaaaGreat.Nm.Told W (res l))) := fun W hW => rresolve_any hW (by have := HN.out; omega) HKd.out
    have HTg : Hid (∀ (w w' : World) (e : Ending), Go.Proofs.YtopiakhlajpdaaaGreat.Nm.Told w (res l) e w' → ∃ ao qo vo tto uo oo ac qc vc tc uc oc, e = .returned (.tuple #[pvG (resP l) ao qo vo tto uo oo ac qc vc tc uc oc, .agg #[.int .i64 ((resC l).1 : Int), .int .i64 ((resC l).2 : Int)]]) ∧ Below w.heap.size w w' ∧ ∀ W : World, (∀ k, w.heap.size ≤ k → k < w'.heap.size → W.heap[k]? = w'.heap[k]?) → RdG W (resP l) ao qo vo tto uo oo) := fun w w' e h => told_g h
    clear hT2
    generalize resP l = P at *
    generalize resC l = C at *
    obtain ⟨c1, c2⟩ := C
    dsimp only [pvG] at HTg ⊢
    have H2 : Hid (Below w1.heap.size w1 w2 ∧ ∀ W : World, (∀ k, w1.heap.size ≤ k → k < w2.heap.size → W.heap[k]? = w2.heap[k]?) → RdG W P ao1 qo1 vo1 to1 uo1 oo1) := ⟨hb2, hrd2⟩
    have hb3 : Below w2.heap.size w2 ((w2.alloc (.cells #[.string P.name, .slice ao1 P.rows.length ac1, .slice qo1 P.qs.length qc1, .slice vo1 P.vs.length vc1, .slice to1 P.ts.length tc1, .slice uo1 P.us.length uc1, .slice oo1 P.on.length oc1, .int .i64 P.miss] 30)).alloc (.cells #[.int .i64 (c1 : Int), .int .i64 (c2 : Int)] 33)) := ((Below.refl _ w2).alloc (Nat.le_refl _) _).alloc (by simp) _
    have hx1 : ((w2.alloc (.cells #[.string P.name, .slice ao1 P.rows.length ac1, .slice qo1 P.qs.length qc1, .slice vo1 P.vs.length vc1, .slice to1 P.ts.length tc1, .slice uo1 P.us.length uc1, .slice oo1 P.on.length oc1, .int .i64 P.miss] 30)).alloc (.cells #[.int .i64 (c1 : Int), .int .i64 (c2 : Int)] 33)).heap[w2.heap.size]? = some (.cells #[.string P.name, .slice ao1 P.rows.length ac1, .slice qo1 P.qs.length qc1, .slice vo1 P.vs.length vc1, .slice to1 P.ts.length tc1, .slice uo1 P.us.length uc1, .slice oo1 P.on.length oc1, .int .i64 P.miss] 30 (0, 0)) := by rw [alloc_old _ _ _ (by simp)]; exact alloc_at _ _ _ rfl
    have hx2 : ((w2.alloc (.cells #[.string P.name, .slice ao1 P.rows.length ac1, .slice qo1 P.qs.length qc1, .slice vo1 P.vs.length vc1, .slice to1 P.ts.length tc1, .slice uo1 P.us.length uc1, .slice oo1 P.on.length oc1, .int .i64 P.miss] 30)).alloc (.cells #[.int .i64 (c1 : Int), .int .i64 (c2 : Int)] 33)).heap[w2.heap.size + 1]? = some (.cells #[.int .i64 (c1 : Int), .int .i64 (c2 : Int)] 33 (0, 0)) := alloc_at _ _ _ (by simp)
    have H3 : Hid (Below w2.heap.size w2 ((w2.alloc (.cells #[.string P.name, .slice ao1 P.rows.length ac1, .slice qo1 P.qs.length qc1, .slice vo1 P.vs.length vc1, .slice to1 P.ts.length tc1, .slice uo1 P.us.length uc1, .slice oo1 P.on.length oc1, .int .i64 P.miss] 30)).alloc (.cells #[.int .i64 (c1 : Int), .int .i64 (c2 : Int)] 33)) ∧ ((w2.alloc (.cells #[.string P.name, .slice ao1 P.rows.length ac1, .slice qo1 P.qs.length qc1, .slice vo1 P.vs.length vc1, .slice to1 P.ts.length tc1, .slice uo1 P.us.length uc1, .slice oo1 P.on.length oc1, .int .i64 P.miss] 30)).alloc (.cells #[.int .i64 (c1 : Int), .int .i64 (c2 : Int)] 33)).heap[w2.heap.size]? = some (.cells #[.string P.name, .slice ao1 P.rows.length ac1, .slice qo1 P.qs.length qc1, .slice vo1 P.vs.length vc1, .slice to1 P.ts.length tc1, .slice uo1 P.us.length uc1, .slice oo1 P.on.length oc1, .int .i64 P.miss] 30 (0, 0)) ∧ ((w2.alloc (.cells #[.string P.name, .slice ao1 P.rows.length ac1, .slice qo1 P.qs.length qc1, .slice vo1 P.vs.length vc1, .slice to1 P.ts.length tc1, .slice uo1 P.us.length uc1, .slice oo1 P.on.length oc1, .int .i64 P.miss] 30)).alloc (.cells #[.int .i64 (c1 : Int), .int .i64 (c2 : Int)] 33)).heap[w2.heap.size + 1]? = some (.cells #[.int .i64 (c1 : Int), .int .i64 (c2 : Int)] 33 (0, 0))) := ⟨hb3, hx1, hx2⟩
    clear hb2 hrd2 hb3 hx1 hx2
    go_wp2_with fail
    generalize ((w2.alloc (.cells #[.string P.name, .slice ao1 P.rows.length ac1, .slice qo1 P.qs.length qc1, .slice vo1 P.vs.length vc1, .slice to1 P.ts.length tc1, .slice uo1 P.us.length uc1, .slice oo1 P.on.length oc1, .int .i64 P.miss] 30)).alloc (.cells #[.int .i64 (c1 : Int), .int .i64 (c2 : Int)] 33)) = w3 at *
    have HB3 : Hid (Below w.heap.size w w3 ∧ Below w1.heap.size w1 w3) := by
      have a := H2.out.1.trans (H3.out.1.mono H2.out.1.size)
      exact ⟨HR1.out.2.trans (a.mono HR1.out.2.size), a⟩
    refine Calls.mono (HRr.out w3 (HI.out.below HB3.out.1)) ?_
    rintro e w4 hT4
    obtain ⟨ao2, qo2, vo2, to2, uo2, oo2, ac2, qc2, vc2, tc2, uc2, oc2, rfl, hb4, hrd4⟩ := HTg.out _ _ _ hT4
    have H4 : Hid (Below w3.heap.size w3 w4 ∧ ∀ W : World, (∀ k, w3.heap.size ≤ k → k < w4.heap.size → W.heap[k]? = w4.heap[k]?) → RdG W P ao2 qo2 vo2 to2 uo2 oo2) := ⟨hb4, hrd4⟩
    have hb5 : Below w4.heap.size w4 ((w4.alloc (.cells #[.string P.name, .slice ao2 P.rows.length ac2, .slice qo2 P.qs.length qc2, .slice vo2 P.vs.length vc2, .slice to2 P.ts.length tc2, .slice uo2 P.us.length uc2, .slice oo2 P.on.length oc2, .int .i64 P.miss] 30)).alloc (.cells #[.int .i64 (c1 : Int), .int .i64 (c2 : Int)] 33)) := ((Below.refl _ w4).alloc (Nat.le_refl _) _).alloc (by simp) _
    have hy1 : ((w4.alloc (.cells #[.string P.name, .slice ao2 P.rows.length ac2, .slice qo2 P.qs.length qc2, .slice vo2 P.vs.length vc2, .slice to2 P.ts.length tc2, .slice uo2 P.us.length uc2, .slice oo2 P.on.length oc2, .int .i64 P.miss] 30)).alloc (.cells #[.int .i64 (c1 : Int), .int .i64 (c2 : Int)] 33)).heap[w4.heap.size]? = some (.cells #[.string P.name, .slice ao2 P.rows.length ac2, .slice qo2 P.qs.length qc2, .slice vo2 P.vs.length vc2, .slice to2 P.ts.length tc2, .slice uo2 P.us.length uc2, .slice oo2 P.on.length oc2, .int .i64 P.miss] 30 (0, 0)) := by rw [alloc_old _ _ _ (by simp)]; exact alloc_at _ _ _ rfl
    have hy2 : ((w4.alloc (.cells #[.string P.name, .slice ao2 P.rows.length ac2, .slice qo2 P.qs.length qc2, .slice vo2 P.vs.length vc2, .slice to2 P.ts.length tc2, .slice uo2 P.us.length uc2, .slice oo2 P.on.length oc2, .int .i64 P.miss] 30)).alloc (.cells #[.int .i64 (c1 : Int), .int .i64 (c2 : Int)] 33)).heap[w4.heap.size + 1]? = some (.cells #[.int .i64 (c1 : Int), .int .i64 (c2 : Int)] 33 (0, 0)) := alloc_at _ _ _ (by simp)
    have H5 : Hid (Below w4.heap.size w4 ((w4.alloc (.cells #[.string P.name, .slice ao2 P.rows.length ac2, .slice qo2 P.qs.length qc2, .slice vo2 P.vs.length vc2, .slice to2 P.ts.length tc2, .slice uo2 P.us.length uc2, .slice oo2 P.on.length oc2, .int .i64 P.miss] 30)).alloc (.cells #[.int .i64 (c1 : Int), .int .i64 (c2 : Int)] 33)) ∧ ((w4.alloc (.cells #[.string P.name, .slice ao2 P.rows.length ac2, .slice qo2 P.qs.length qc2, .slice vo2 P.vs.length vc2, .slice to2 P.ts.length tc2, .slice uo2 P.us.length uc2, .slice oo2 P.on.length oc2, .int .i64 P.miss] 30)).alloc (.cells #[.int .i64 (c1 : Int), .int .i64 (c2 : Int)] 33)).heap[w4.heap.size]? = some (.cells #[.string P.name, .slice ao2 P.rows.length ac2, .slice qo2 P.qs.length qc2, .slice vo2 P.vs.length vc2, .slice to2 P.ts.length tc2, .slice uo2 P.us.length uc2, .slice oo2 P.on.length oc2, .int .i64 P.miss] 30 (0, 0)) ∧ ((w4.alloc (.cells #[.string P.name, .slice ao2 P.rows.length ac2, .slice qo2 P.qs.length qc2, .slice vo2 P.vs.length vc2, .slice to2 P.ts.length tc2, .slice uo2 P.us.length uc2, .slice oo2 P.on.length oc2, .int .i64 P.miss] 30)).alloc (.cells #[.int .i64 (c1 : Int), .int .i64 (c2 : Int)] 33)).heap[w4.heap.size + 1]? = some (.cells #[.int .i64 (c1 : Int), .int .i64 (c2 : Int)] 33 (0, 0))) := ⟨hb5, hy1, hy2⟩
    clear hb4 hrd4 hT4 hb5 hy1 hy2 HRr HTg
    go_wp2_with fail
    generalize ((w4.alloc (.cells #[.string P.name, .slice ao2 P.rows.length ac2, .slice qo2 P.qs.length qc2, .slice vo2 P.vs.length vc2, .slice to2 P.ts.length tc2, .slice uo2 P.us.length uc2, .slice oo2 P.on.length oc2, .int .i64 P.miss] 30)).alloc (.cells #[.int .i64 (c1 : Int), .int .i64 (c2 : Int)] 33)) = w5 at *
    have HB5 : Hid (Below w3.heap.size w3 w5 ∧ Below w1.heap.size w1 w5 ∧ Below w.heap.size w w5) := by
      have a := H4.out.1.trans (H5.out.1.mono H4.out.1.size)
      exact ⟨a, HB3.out.2.trans (a.mono HB3.out.2.size), HB3.out.1.trans (a.mono HB3.out.1.size)⟩
    refine Calls.mono (keptR_any w.heap.size ao l cap w5 (HR1.out.1.below HB5.out.2.1 HR1.out.1.lt) (HI.out.below HB5.out.2.2) (by have := HN.out; omega)) ?_
    rintro e w6 ⟨rfl, hF6⟩
    have hs1 := HR1.out.1.lt
    have hs2 := H2.out.1.size
    have hs3 := H3.out.1.size
    have hs4 := H4.out.1.size
    have hs5 := H5.out.1.size
    have hp1 := blk_lt H3.out.2.1
    have hp2 := blk_lt H3.out.2.2
    have hq1 := blk_lt H5.out.2.1
    have hq2 := blk_lt H5.out.2.2
    have hk6 : ∀ k, k < w5.heap.size → k ≠ w.heap.size → w6.heap[k]? = w5.heap[k]? := fun k hk hne => hF6.block k hk (by simpa using hne)
    have e1 : w6.heap[w2.heap.size]? = some (.cells #[.string P.name, .slice ao1 P.rows.length ac1, .slice qo1 P.qs.length qc1, .slice vo1 P.vs.length vc1, .slice to1 P.ts.length tc1, .slice uo1 P.us.length uc1, .slice oo1 P.on.length oc1, .int .i64 P.miss] 30 (0, 0)) := (hk6 _ (by omega) (by omega)).trans ((HB5.out.1.block _ hp1).trans H3.out.2.1)
    have e2 : w6.heap[w2.heap.size + 1]? = some (.cells #[.int .i64 (c1 : Int), .int .i64 (c2 : Int)] 33 (0, 0)) := (hk6 _ (by omega) (by omega)).trans ((HB5.out.1.block _ hp2).trans H3.out.2.2)
    have e3 : w6.heap[w4.heap.size]? = some (.cells #[.string P.name, .slice ao2 P.rows.length ac2, .slice qo2 P.qs.length qc2, .slice vo2 P.vs.length vc2, .slice to2 P.ts.length tc2, .slice uo2 P.us.length uc2, .slice oo2 P.on.length oc2, .int .i64 P.miss] 30 (0, 0)) := (hk6 _ hq1 (by omega)).trans H5.out.2.1
    have e4 : w6.heap[w4.heap.size + 1]? = some (.cells #[.int .i64 (c1 : Int), .int .i64 (c2 : Int)] 33 (0, 0)) := (hk6 _ hq2 (by omega)).trans H5.out.2.2
    have rd1 : RdG w6 P ao1 qo1 vo1 to1 uo1 oo1 := H2.out.2 w6 (fun k k1 k2 => (hk6 k (by omega) (by omega)).trans ((HB5.out.1.block k (by omega)).trans (H3.out.1.block k k2)))
    have rd2 : RdG w6 P ao2 qo2 vo2 to2 uo2 oo2 := H4.out.2 w6 (fun k k1 k2 => (hk6 k (by omega) (by omega)).trans (H5.out.1.block k k2))
    obtain ⟨a0, a1, a2, a3, a4, a5, a6, a7⟩ := pol8 e1
    obtain ⟨b0, b1, b2, b3, b4, b5, b6, b7⟩ := pol8 e3
    have f0 : w6.cell? ⟨w2.heap.size + 1, 0, none⟩ = some (.int .i64 (c1 : Int)) := by rw [World.cell?, e2]; rfl
    have f1 : w6.cell? ⟨w2.heap.size + 1, 1, none⟩ = some (.int .i64 (c2 : Int)) := by rw [World.cell?, e2]; rfl
    have g0 : w6.cell? ⟨w4.heap.size + 1, 0, none⟩ = some (.int .i64 (c1 : Int)) := by rw [World.cell?, e4]; rfl
    have g1 : w6.cell? ⟨w4.heap.size + 1, 1, none⟩ = some (.int .i64 (c2 : Int)) := by rw [World.cell?, e4]; rfl
    have HS6 := show Hid _ from rsame_any (ac := ac1) (qc := qc1) (vc := vc1) (tc := tc1) (uc := uc1) (oc := oc1) (ac2 := ac2) (qc2 := qc2) (vc2 := vc2) (tc2 := tc2) (uc2 := uc2) (oc2 := oc2) rd1 rd2 HSm.out
    dsimp only [pvG] at HS6
    have HB6 : Hid (Below w.heap.size w w6) := fr_below HB5.out.2.2 hF6 (Nat.le_refl _) (Nat.le_refl _)
    clear hF6 hs1 hs2 hs3 hs4 hs5 hp1 hp2 hq1 hq2 hk6 e1 e2 e3 e4 rd1 rd2
    go_wp2_with fail
    refine Calls.mono HS6.out ?_
    rintro e w7 ⟨⟨b, rfl, hbt⟩, hb7⟩
    obtain rfl : b = true := by simpa using hbt
    have HB7 : Hid (Below w.heap.size w w7) := HB6.out.trans (hb7.mono HB6.out.size)
    clear hb7 hbt HS6 a0 a1 a2 a3 a4 a5 a6 a7 b0 b1 b2 b3 b4 b5 b6 b7 f0 f1 g0 g1
    go_wp2_with fail
    refine Calls.mono (head_any w7) ?_
    rintro e w8 ⟨rfl, hb8⟩
    have HB8 : Hid (Below w.heap.size w w8) := HB7.out.trans (hb8.mono HB7.out.size)
    clear hb8
    go_wp2
    go_ret
    exact ⟨rfl, HB8.out⟩
end Go.Proofs.YtopiakhlajpdaaaGreat.namesResolves

namespace Go.Proofs.YtopiakhlajpdaaaGreat.namesLaid
open Go.RowKit Go.Maps Go.Proofs.YtopiakhlajpdaaaGreat.Sp Go.Proofs.YtopiakhlajpdaaaGreat.Lx Go.Proofs.YtopiakhlajpdaaaGreat.Gr Go.Proofs.YtopiakhlajpdaaaGreat.Nm

set_option maxHeartbeats 25600000 in
set_option maxRecDepth 100000 in
theorem walk (ao : Option Addr) (l : List Rz) (cap : Nat) (bo : Option Addr) (m cb : Nat) (z : Nat → Int) (w : World) (h : IsRz w ao l) (hn : l.length ≤ 2932031007317) (hkd : ∀ r ∈ l, r.kids ≤ 9223372036854775807 ∧ r.name.size ≤ 4611686018427387000) (hz : IsInts w bo m z) (hm : m ≤ 140737488351232) :
    Calls Tryz.prog 5 #[.slice ao l.length cap, .slice bo m cb] w fun e w' => e = .returned (.bool true) ∧ Below w.heap.size w w' := by
  have HI : Hid (IsRz w ao l) := h
  have HKd := show Hid _ from hkd
  have HZ : Hid (IsInts w bo m z) := hz
  have hm2 : (m : Int) ≤ 140737488351232 := by omega
  by_cases hf : 65536 < l.length
  · have HF := show Hid _ from far_yes (ao := ao) (cap := cap) hf hn w
    clear h hn hkd hf hz
    go_enter Tryz.func5, Tryz.ntmps5
    go_wp2_with fail
    refine Calls.mono HF.out ?_
    rintro _ _ ⟨rfl, rfl⟩
    go_wp2_with fail
    refine Calls.mono (head_any w) ?_
    rintro e w1 ⟨rfl, hb⟩
    have HB := show Hid _ from hb
    clear hb
    go_wp2
    go_ret
    exact ⟨rfl, HB.out⟩
  · have HF := show Hid _ from far_no (ao := ao) (cap := cap) hf w
    have HN : Hid (l.length ≤ 65536) := by show _ ≤ _; omega
    have HRs : Hid (Calls Tryz.prog 10 #[.slice ao l.length cap] w (Go.Proofs.YtopiakhlajpdaaaGreat.Nm.Told w (res l))) := rresolve_any h hn hkd
    clear h hn hkd hf hz
    go_enter Tryz.func5, Tryz.ntmps5
    go_wp2_with fail
    refine Calls.mono HF.out ?_
    rintro _ _ ⟨rfl, rfl⟩
    go_wp2_with fail
    refine Calls.mono HRs.out ?_
    rintro e w2 hT2
    cases hres : res l with
    | error ci =>
      rw [hres] at hT2
      obtain ⟨hb2, rfl⟩ := hT2
      obtain ⟨c1, c2⟩ := ci
      have hp := res_pos hres
      dsimp only at hp ⊢
      have hc1 : ((c1 : Int) != 0) = true := by simp; omega
      have HB3 : Hid (Below w.heap.size w ((w2.alloc (.cells #[.string ⟨#[]⟩, pz, pz, pz, pz, pz, pz, .int .i64 0] 30)).alloc (.cells #[.int .i64 (c1 : Int), .int .i64 (c2 : Int)] 33))) := hb2.trans ((((Below.refl _ w2).alloc (Nat.le_refl _) _).alloc (by simp) _).mono hb2.size)
      clear hb2 hp hres HRs
      go_wp2_with fail
      generalize (w2.alloc (.cells #[.string ⟨#[]⟩, pz, pz, pz, pz, pz, pz, .int .i64 0] 30)).alloc (.cells #[.int .i64 (c1 : Int), .int .i64 (c2 : Int)] 33) = w3 at *
      refine Calls.mono (head_any w3) ?_
      rintro e w4 ⟨rfl, hb4⟩
      have HB4 : Hid (Below w.heap.size w w4) := HB3.out.trans (hb4.mono HB3.out.size)
      clear hb4
      go_wp2
      go_ret
      exact ⟨rfl, HB4.out⟩
    | ok p =>
      rw [hres] at hT2
      obtain ⟨hb2, v, rfl, hpl⟩ := hT2
      obtain ⟨ao1, qo1, vo1, to1, uo1, oo1, ac1, qc1, vc1, tc1, uc1, oc1, rfl, huc, hnil, hall⟩ := hpl.allG
      have ht := res_tg HN.out hres
      have HTg : Hid (Tg p ∧ p.us.length ≤ uc1) := ⟨ht, huc⟩
      have HNil := show Hid _ from hnil
      have HSz : Hid (p.g.rows.length ≤ 65536 ∧ 0 < p.g.rows.length ∧ p.g.qs.length ≤ 16 ∧ p.g.vs.length ≤ 16 ∧ p.g.ts.length ≤ 4 ∧ p.g.us.length ≤ 64 ∧ p.g.on.length ≤ 16) := ⟨ht.r, ht.pos, ht.q, ht.v, ht.t, by show (p.us.map _).length ≤ _; rw [List.length_map]; exact ht.u, ht.o⟩
      have HLd : Hid (∀ (W : World) (row : Nat) (ao qo vo tto uo oo : Option Addr) (ac qc vc tc uc oc : Nat), RdG W p.g ao qo vo tto uo oo → p.g.us.length ≤ uc → row < p.g.rows.length → Calls Tryz.prog 19 #[pvG p.g ao qo vo tto uo oo ac qc vc tc uc oc, .int .i64 (row : Int)] W fun e w' => e = .returned (.int .i64 (laidAt p.rows (sumsOf p.rows p.us) row : Nat)) ∧ Below W.heap.size W w') := fun W row _ _ _ _ _ _ _ _ _ _ _ _ hr hu hrow => laidG hr (by have hu2 : (p.us.map fun n : Nat => (n : Int)).length ≤ _ := hu; rw [List.length_map] at hu2; exact hu2) ht hrow
      have HRl : Hid (∀ (W : World) (row : Nat), RdG W p.g ao1 qo1 vo1 to1 uo1 oo1 → row < p.g.rows.length → Calls Tryz.prog 20 #[pvG p.g ao1 qo1 vo1 to1 uo1 oo1 ac1 qc1 vc1 tc1 uc1 oc1, .int .i64 (row : Int)] W fun e w' => e = .returned (.int .i64 (laidAt p.rows (sumsOf p.rows p.us) row : Nat)) ∧ Below W.heap.size W w') := fun W row hr hrow => rlaidG hr ht hrow
      generalize hLa : (fun row => laidAt p.rows (sumsOf p.rows p.us) row) = La at *
      have HLa : Hid (∀ row, laidAt p.rows (sumsOf p.rows p.us) row = La row) := fun row => by rw [← hLa]
      clear hLa
      simp only [HLa.out] at HLd HRl
      have HAl : Hid (Below w.heap.size w w2 ∧ ∀ W : World, (∀ k, w.heap.size ≤ k → k < w2.heap.size → W.heap[k]? = w2.heap[k]?) → RdG W p.g ao1 qo1 vo1 to1 uo1 oo1) := ⟨hb2, hall⟩
      clear hb2 hpl huc hnil hall ht hres HRs HTg HLa
      generalize p.g = P at *
      dsimp only [pvG] at HLd HRl ⊢
      have hb3 : Below w2.heap.size w2 ((w2.alloc (.cells #[.string P.name, .slice ao1 P.rows.length ac1, .slice qo1 P.qs.length qc1, .slice vo1 P.vs.length vc1, .slice to1 P.ts.length tc1, .slice uo1 P.us.length uc1, .slice oo1 P.on.length oc1, .int .i64 P.miss] 30)).alloc (.cells #[.int .i64 0, .int .i64 0] 33)) := ((Below.refl _ w2).alloc (Nat.le_refl _) _).alloc (by simp) _
      have H3 : Hid (Below w2.heap.size w2 ((w2.alloc (.cells #[.string P.name, .slice ao1 P.rows.length ac1, .slice qo1 P.qs.length qc1, .slice vo1 P.vs.length vc1, .slice to1 P.ts.length tc1, .slice uo1 P.us.length uc1, .slice oo1 P.on.length oc1, .int .i64 P.miss] 30)).alloc (.cells #[.int .i64 0, .int .i64 0] 33)) ∧ ((w2.alloc (.cells #[.string P.name, .slice ao1 P.rows.length ac1, .slice qo1 P.qs.length qc1, .slice vo1 P.vs.length vc1, .slice to1 P.ts.length tc1, .slice uo1 P.us.length uc1, .slice oo1 P.on.length oc1, .int .i64 P.miss] 30)).alloc (.cells #[.int .i64 0, .int .i64 0] 33)).heap[w2.heap.size]? = some (.cells #[.string P.name, .slice ao1 P.rows.length ac1, .slice qo1 P.qs.length qc1, .slice vo1 P.vs.length vc1, .slice to1 P.ts.length tc1, .slice uo1 P.us.length uc1, .slice oo1 P.on.length oc1, .int .i64 P.miss] 30 (0, 0))) := ⟨hb3, by rw [alloc_old _ _ _ (by simp)]; exact alloc_at _ _ _ rfl⟩
      clear hb3
      go_wp2_with fail
      generalize ((w2.alloc (.cells #[.string P.name, .slice ao1 P.rows.length ac1, .slice qo1 P.qs.length qc1, .slice vo1 P.vs.length vc1, .slice to1 P.ts.length tc1, .slice uo1 P.us.length uc1, .slice oo1 P.on.length oc1, .int .i64 P.miss] 30)).alloc (.cells #[.int .i64 0, .int .i64 0] 33)) = w3 at *
      have HB3 : Hid (Below w.heap.size w w3 ∧ ∀ W : World, Below w3.heap.size w3 W → RdG W P ao1 qo1 vo1 to1 uo1 oo1 ∧ W.heap[w2.heap.size]? = some (.cells #[.string P.name, .slice ao1 P.rows.length ac1, .slice qo1 P.qs.length qc1, .slice vo1 P.vs.length vc1, .slice to1 P.ts.length tc1, .slice uo1 P.us.length uc1, .slice oo1 P.on.length oc1, .int .i64 P.miss] 30 (0, 0)) ∧ Below w.heap.size w W) := by
        have hb := HAl.out.1.trans (H3.out.1.mono HAl.out.1.size)
        exact ⟨hb, fun W hW => ⟨HAl.out.2 W (fun k k1 k2 => (hW.block k (by have := H3.out.1.size; omega)).trans (H3.out.1.block k k2)), (hW.block _ (blk_lt H3.out.2)).trans H3.out.2, hb.trans (hW.mono hb.size)⟩⟩
      go_loopg [7] 40 (fun gq x wr => ∃ k : Nat, k + gq = 40 ∧ x = .int .i64 (k : Int) ∧ Below w3.heap.size w3 wr)
      case atStart => exact ⟨0, rfl, rfl, Below.refl _ _⟩
      case round =>
        obtain ⟨k, hkg, rfl, hbr⟩ := hrel
        have HR : Hid (Below w3.heap.size w3 wr) := hbr
        have hk40 : (k : Int) ≤ 40 := by omega
        by_cases hlt : k < m ∧ k < 40
        · have hk1 : (k : Int) < (m : Int) := by omega
          have hk2 : (k : Int) < 40 := by omega
          have hk3 : k < m := hlt.1
          have hk4 : k < 40 := hlt.2
          obtain ⟨bg, bof, rfl, _, bcl⟩ := (IsInts.below HZ.out (HB3.out.2 wr hbr).2.2) k hlt.1
          have HK : Hid (k + gk = 40 ∧ k < 40) := ⟨hkg, hlt.2⟩
          have HRo : Hid (∀ W, Calls Tryz.prog 18 #[.int .i64 (z k), .int .i64 (P.rows.length : Int)] W fun r w' => r = .returned (.int .i64 (rnd7 (z k) P.rows.length : Nat)) ∧ w' = W) := fun W => round7 _ _ HSz.out.2.1 (by have := HSz.out.1; omega) W
          have HRw : Hid (rnd7 (z k) P.rows.length < P.rows.length) := rnd7_lt _ HSz.out.2.1
          obtain ⟨k0, k1, k2, k3, k4, k5, k6, k7⟩ := pol8 (HB3.out.2 wr hbr).2.1
          generalize rnd7 (z k) P.rows.length = row at *
          have hrn : (row : Int) ≤ 65536 := by have := HRw.out; have := HSz.out.1; omega
          clear hkg hbr hlt
          go_wp2_with fail
          go_quiet ((go_at_call 18; exact Calls.quiet_of_same (HRo.out _)))
          clear k0 k1 k2 k3 k4 k5 k6 k7 bcl
          have HR4 : Hid (Below w3.heap.size w3 (wr.drewN nq)) := HR.out.trans ((Go.Proofs.YtopiakhlajpdaaaGreat.Nm.below_drewN wr nq).mono HR.out.size)
          generalize wr.drewN nq = w4 at *
          obtain ⟨k0, k1, k2, k3, k4, k5, k6, k7⟩ := pol8 (HB3.out.2 w4 HR4.out).2.1
          have HLn := show Hid _ from lendP_any (ac := ac1) (qc := qc1) (vc := vc1) (tc := tc1) (uc := uc1) (oc := oc1) (HB3.out.2 w4 HR4.out).1 (by have := HSz.out.1; omega) (by have := HSz.out.2.2.1; omega) (by have := HSz.out.2.2.2.1; omega) (by have := HSz.out.2.2.2.2.1; omega) (by have := HSz.out.2.2.2.2.2.1; omega) (by have := HSz.out.2.2.2.2.2.2; omega) HNil.out.1 HNil.out.2.1 HNil.out.2.2.1 HNil.out.2.2.2.1 HNil.out.2.2.2.2
          dsimp only [pvG] at HLn
          go_wp2_with fail
          refine Calls.mono HLn.out ?_
          rintro e w5 ⟨g, gq, cq, gv, cv, gt, ct, gu, cu, go, co, rfl, hLs, hb5⟩
          clear k0 k1 k2 k3 k4 k5 k6 k7 HLn
          dsimp only [lentV]
          have hb6 : Below w5.heap.size w5 (w5.alloc (.cells #[.string P.name, .slice (some ⟨g, 0, none⟩) P.rows.length (P.rows.length + 9), .slice (some ⟨gq, 0, none⟩) P.qs.length cq, .slice (some ⟨gv, 0, none⟩) P.vs.length cv, .slice (some ⟨gt, 0, none⟩) P.ts.length ct, .slice (some ⟨gu, 0, none⟩) P.us.length cu, .slice (some ⟨go, 0, none⟩) P.on.length co, .int .i64 P.miss] 30)) := (Below.refl _ w5).alloc (Nat.le_refl _) _
          have H6 : Hid (Below w4.heap.size w4 (w5.alloc (.cells #[.string P.name, .slice (some ⟨g, 0, none⟩) P.rows.length (P.rows.length + 9), .slice (some ⟨gq, 0, none⟩) P.qs.length cq, .slice (some ⟨gv, 0, none⟩) P.vs.length cv, .slice (some ⟨gt, 0, none⟩) P.ts.length ct, .slice (some ⟨gu, 0, none⟩) P.us.length cu, .slice (some ⟨go, 0, none⟩) P.on.length co, .int .i64 P.miss] 30)) ∧ (w5.alloc (.cells #[.string P.name, .slice (some ⟨g, 0, none⟩) P.rows.length (P.rows.length + 9), .slice (some ⟨gq, 0, none⟩) P.qs.length cq, .slice (some ⟨gv, 0, none⟩) P.vs.length cv, .slice (some ⟨gt, 0, none⟩) P.ts.length ct, .slice (some ⟨gu, 0, none⟩) P.us.length cu, .slice (some ⟨go, 0, none⟩) P.on.length co, .int .i64 P.miss] 30)).heap[w5.heap.size]? = some (.cells #[.string P.name, .slice (some ⟨g, 0, none⟩) P.rows.length (P.rows.length + 9), .slice (some ⟨gq, 0, none⟩) P.qs.length cq, .slice (some ⟨gv, 0, none⟩) P.vs.length cv, .slice (some ⟨gt, 0, none⟩) P.ts.length ct, .slice (some ⟨gu, 0, none⟩) P.us.length cu, .slice (some ⟨go, 0, none⟩) P.on.length co, .int .i64 P.miss] 30 (0, 0)) ∧ Ls (w5.alloc (.cells #[.string P.name, .slice (some ⟨g, 0, none⟩) P.rows.length (P.rows.length + 9), .slice (some ⟨gq, 0, none⟩) P.qs.length cq, .slice (some ⟨gv, 0, none⟩) P.vs.length cv, .slice (some ⟨gt, 0, none⟩) P.ts.length ct, .slice (some ⟨gu, 0, none⟩) P.us.length cu, .slice (some ⟨go, 0, none⟩) P.on.length co, .int .i64 P.miss] 30)) w4.heap.size (lentOs P g gq cq gv cv gt ct gu cu go co)) := ⟨hb5.trans (hb6.mono hb5.size), heap_alloc_new w5 _, hLs.below hb6⟩
          obtain ⟨k0, k1, k2, k3, k4, k5, k6, k7⟩ := pol8 H6.out.2.1
          have HL6 := show Hid _ from HLd.out (w5.alloc (.cells #[.string P.name, .slice (some ⟨g, 0, none⟩) P.rows.length (P.rows.length + 9), .slice (some ⟨gq, 0, none⟩) P.qs.length cq, .slice (some ⟨gv, 0, none⟩) P.vs.length cv, .slice (some ⟨gt, 0, none⟩) P.ts.length ct, .slice (some ⟨gu, 0, none⟩) P.us.length cu, .slice (some ⟨go, 0, none⟩) P.on.length co, .int .i64 P.miss] 30)) row _ _ _ _ _ _ (P.rows.length + 9) cq cv ct cu co H6.out.2.2.rd H6.out.2.2.ucap HRw.out
          clear hb5 hb6 hLs
          go_wp2_with fail
          generalize hmb : w5.heap.size = mb at *
          generalize w5.alloc (.cells #[.string P.name, .slice (some ⟨g, 0, none⟩) P.rows.length (P.rows.length + 9), .slice (some ⟨gq, 0, none⟩) P.qs.length cq, .slice (some ⟨gv, 0, none⟩) P.vs.length cv, .slice (some ⟨gt, 0, none⟩) P.ts.length ct, .slice (some ⟨gu, 0, none⟩) P.us.length cu, .slice (some ⟨go, 0, none⟩) P.on.length co, .int .i64 P.miss] 30) = w6 at *
          clear hmb k0 k1 k2 k3 k4 k5 k6 k7
          refine Calls.mono HL6.out ?_
          rintro e w7 ⟨rfl, hb7⟩
          have HB7 : Hid (Below w4.heap.size w4 w7 ∧ w7.heap[mb]? = some (.cells #[.string P.name, .slice (some ⟨g, 0, none⟩) P.rows.length (P.rows.length + 9), .slice (some ⟨gq, 0, none⟩) P.qs.length cq, .slice (some ⟨gv, 0, none⟩) P.vs.length cv, .slice (some ⟨gt, 0, none⟩) P.ts.length ct, .slice (some ⟨gu, 0, none⟩) P.us.length cu, .slice (some ⟨go, 0, none⟩) P.on.length co, .int .i64 P.miss] 30 (0, 0)) ∧ Ls w7 w4.heap.size (lentOs P g gq cq gv cv gt ct gu cu go co) ∧ Below w3.heap.size w3 w7) := by
            have hb := H6.out.1.trans (hb7.mono H6.out.1.size)
            exact ⟨hb, (hb7.block _ (blk_lt H6.out.2.1)).trans H6.out.2.1, H6.out.2.2.below hb7, HR4.out.trans (hb.mono HR4.out.size)⟩
          obtain ⟨k0, k1, k2, k3, k4, k5, k6, k7⟩ := pol8 (HB3.out.2 w7 HB7.out.2.2.2).2.1
          have HR7 := show Hid _ from HRl.out w7 row (HB3.out.2 w7 HB7.out.2.2.2).1 HRw.out
          clear hb7 HL6 H6
          go_wp2_with fail
          refine Calls.mono HR7.out ?_
          rintro e w8 ⟨rfl, hb8⟩
          clear k0 k1 k2 k3 k4 k5 k6 k7
          have HB8 : Hid (Below w4.heap.size w4 w8 ∧ w8.heap[mb]? = some (.cells #[.string P.name, .slice (some ⟨g, 0, none⟩) P.rows.length (P.rows.length + 9), .slice (some ⟨gq, 0, none⟩) P.qs.length cq, .slice (some ⟨gv, 0, none⟩) P.vs.length cv, .slice (some ⟨gt, 0, none⟩) P.ts.length ct, .slice (some ⟨gu, 0, none⟩) P.us.length cu, .slice (some ⟨go, 0, none⟩) P.on.length co, .int .i64 P.miss] 30 (0, 0)) ∧ Ls w8 w4.heap.size (lentOs P g gq cq gv cv gt ct gu cu go co) ∧ Below w3.heap.size w3 w8) := by
            have hb := HB7.out.1.trans (hb8.mono HB7.out.1.size)
            exact ⟨hb, (hb8.block _ (blk_lt HB7.out.2.1)).trans HB7.out.2.1, HB7.out.2.2.1.below hb8, HR4.out.trans (hb.mono HR4.out.size)⟩
          obtain ⟨k0, k1, k2, k3, k4, k5, k6, k7⟩ := pol8 (HB3.out.2 w8 HB8.out.2.2.2).2.1
          obtain ⟨m0, m1, m2, m3, m4, m5, m6, m7⟩ := pol8 HB8.out.2.1
          have HKp := show Hid _ from keptP_any (ac := ac1) (qc := qc1) (vc := vc1) (tc := tc1) (uc := uc1) (oc := oc1) (HB3.out.2 w4 HR4.out).1 HB8.out.1 HB8.out.2.2.1 (by have := HSz.out.1; omega) (by have := HSz.out.2.2.1; omega) (by have := HSz.out.2.2.2.1; omega) (by have := HSz.out.2.2.2.2.1; omega) (by have := HSz.out.2.2.2.2.2.1; omega) (by have := HSz.out.2.2.2.2.2.2; omega)
          dsimp only [pvG, lentV] at HKp
          have hne : ((La row : Int) != (La row : Int)) = false := by simp
          clear hb8 HR7 HB7
          go_wp2_with fail
          refine Calls.mono HKp.out ?_
          rintro e w9 ⟨rfl, hb9⟩
          have HB9 : Hid (Below w3.heap.size w3 w9) := HR4.out.trans (hb9.mono HR4.out.size)
          clear hb9 HKp k0 k1 k2 k3 k4 k5 k6 k7 m0 m1 m2 m3 m4 m5 m6 m7
          go_wp2_with fail
          go_roundg (40 - (k + 1))
          case measure => have := HK.out.1; have := HK.out.2; omega
          case rel => exact ⟨k + 1, by have := HK.out.2; omega, by go_num, HB9.out⟩
        · have HB8 : Hid (Below w.heap.size w wr) := (HB3.out.2 wr hbr).2.2
          by_cases hkm : k < m
          · have hk1 : (k : Int) < (m : Int) := by omega
            have hk5 : ¬ (k < 40) := fun e => hlt ⟨hkm, e⟩
            have hk2 : decide ((k : Int) < 40) = false := decide_eq_false (by omega)
            have hk4 : decide (k < 40) = false := decide_eq_false hk5
            clear hkg hbr hlt hk5
            go_wp2_with fail
            refine Calls.mono (head_any wr) ?_
            rintro e w4 ⟨rfl, hb4⟩
            have HB4 : Hid (Below w.heap.size w w4) := HB8.out.trans (hb4.mono HB8.out.size)
            clear hb4
            go_wp2
            go_ret
            exact ⟨rfl, HB4.out⟩
          · have hk1 : decide ((k : Int) < (m : Int)) = false := decide_eq_false (by omega)
            have hk4 : decide (k < m) = false := decide_eq_false hkm
            clear hkg hbr hlt hkm
            go_wp2_with fail
            refine Calls.mono (head_any wr) ?_
            rintro e w4 ⟨rfl, hb4⟩
            have HB4 : Hid (Below w.heap.size w w4) := HB8.out.trans (hb4.mono HB8.out.size)
            clear hb4
            go_wp2
            go_ret
            exact ⟨rfl, HB4.out⟩
end Go.Proofs.YtopiakhlajpdaaaGreat.namesLaid

namespace Go.Proofs.YtopiakhlajpdaaaGreat.Lx
open Go.ChangeShapes Go.WideShapes Go.ChangeAt Go.RowKit Go.Proofs.YtopiakhlajpdaaaGreat.Sp

theorem own : ownKnob Tryz.prog.godebug = none := by kernel_rfl
theorem laidOut : laidOutB Tryz.prog = true := by kernel_rfl
theorem bytes5 : Tryz.prog.bytesOf 5 = 1 := by kernel_rfl

theorem open_bytes {H : Type} {enc : TypeId × Value → H} {W : World} {a : Option Addr} {len cap : Nat} {d : DataW H} {p : List MemPlace} (h : DataW.Trod enc Tryz.prog W 0 (fun _ => true) true 115 (.slice a len cap) d p) :
    ∃ s : ByteArray, s.size = len ∧ len ≤ cap ∧ IsBytes W a s ∧ (len = 0 ∨ ∃ el sp, d = .slice el sp ∧ el.length = len) := by
  obtain ⟨fuel, hf⟩ := h
  rcases open_ints Tryz.underlying115 Tryz.underlying5 (by kernel_rfl) hf with ⟨hcs, hx⟩ | ⟨x, l, c, zs, hcs, _, hl, hm, hz, hx, hcell, hwz⟩
  · simp [Value.cells] at hcs
    obtain ⟨rfl, rfl, rfl⟩ := hcs
    exact ⟨ByteArray.empty, rfl, Nat.le_refl _, fun i hi => absurd hi (Nat.not_lt_zero _), Or.inl rfl⟩
  · simp [Value.cells] at hcs
    obtain ⟨rfl, rfl, rfl⟩ := hcs
    simp at hz hx
    obtain ⟨rfl, rfl⟩ := hx
    have hsz : (strOfNums (zs.take len)).size = len := by rw [strOfNums_size]; simp; omega
    refine ⟨strOfNums (zs.take len), hsz, hl, fun i hi => ?_, Or.inr ⟨_, _, rfl, by simp [lits]; omega⟩⟩
    obtain ⟨b, off, spot⟩ := x
    have h0 := hcell 0 (by omega)
    have hspot : spot = none := by simpa [Addr.add] using World.cell?_spot h0
    subst hspot
    have hB : Lib.Bytes W b off (strOfNums (zs.take len)) := Lib.bytes_of_nums (n := len) (by simp; omega) (fun x hx => by
      have hx := bounds_u8 (hwz x (List.mem_of_mem_take hx))
      omega) (fun j hj => by
        have := hcell j (by omega)
        rw [Lib.addr_add] at this
        rw [this]
        simp [List.getD, List.getElem?_take_of_lt hj])
    have hc := hB i hi
    refine ⟨b, off, rfl, World.block_lt_of_cell? W _ hc, ?_⟩
    rw [hc, nb_get _ i hi]
theorem bytes_reach {H : Type} {ts : List TypeId} {ds : List (DataW H)} (hsz : (DataW.weightsEach Tryz.prog ts ds).all (· ≤ reachBytes) = true) {j len : Nat} {d : DataW H} (ht : ts[j]? = some 115) (hd : ds[j]? = some d) (h : len = 0 ∨ ∃ el sp, d = .slice el sp ∧ el.length = len) : len ≤ 140737488351232 := by
  rcases h with rfl | ⟨el, sp, rfl, rfl⟩
  · omega
  · have := sized_slice hsz ht hd Tryz.underlying115
    rw [bytes5] at this
    simp only [reachBytes] at this
    omega
end Go.Proofs.YtopiakhlajpdaaaGreat.Lx

namespace Go.Proofs.YtopiakhlajpdaaaGreat.Gr
open Go.ChangeShapes Go.WideShapes Go.ChangeAt Go.RowKit Go.Deep Go.Proofs.YtopiakhlajpdaaaGreat.Sp Go.Proofs.YtopiakhlajpdaaaGreat.Lx

theorem bytes49 : Tryz.prog.bytesOf 49 = 48 := by kernel_rfl
theorem cells49 : Tryz.prog.cellsOf 49 = 5 := by kernel_rfl
theorem cells3 : Tryz.prog.cellsOf 3 = 1 := by kernel_rfl
theorem cells9 : Tryz.prog.cellsOf 9 = 1 := by kernel_rfl
instance : Inhabited Rz := ⟨rz0⟩
/-- a row's datum -/
def dz {H : Type} (r : Rz) : DataW H := .agg [.lit (.int .i64 r.kind), .lit (.string r.name.data.toList), .lit (.int .i64 r.stop), .lit (.int .i64 r.n), .lit (.int .i64 r.kids)]
theorem wf_le {n : Int} (h : (Lit.int .i64 n).wf = true) : n ≤ 9223372036854775807 := by
  simp [Lit.wf] at h
  omega
theorem five {α : Type} {l : List α} (h : l.length = 5) : ∃ a b c d e, l = [a, b, c, d, e] := by
  match l, h with
  | [a, b, c, d, e], _ => exact ⟨a, b, c, d, e, rfl⟩
theorem open_one {H : Type} {enc : TypeId × Value → H} {W : World} {base n : Nat} {sp : Nat → Bool} {hd : Bool} {cs : List Value} {d : DataW H} {pl : List MemPlace} (h : DataW.trod enc Tryz.prog W base sp hd n 49 cs = some (d, pl)) :
    ∃ r : Rz, cs = [.int .i64 r.kind, .string r.name, .int .i64 r.stop, .int .i64 r.n, .int .i64 r.kids] ∧ d = dz r ∧ r.kids ≤ 9223372036854775807 := by
  obtain ⟨xs, k, hk, hxy, hl, hxl, hf⟩ := DataW.trod_struct Tryz.underlying49 h
  rw [cells49] at hl
  have hxl5 : xs.length = 5 := hxl
  obtain ⟨y0, y1, y2, y3, y4, rfl⟩ := five hxl5
  obtain ⟨v0, v1, v2, v3, v4, rfl⟩ := five hl
  have g0 := hf 0 _ rfl
  have g1 := hf 1 _ rfl
  have g2 := hf 2 _ rfl
  have g3 := hf 3 _ rfl
  have g4 := hf 4 _ rfl
  simp [cells3, cells9] at g0 g1 g2 g3 g4
  obtain ⟨a0, e0, f0, _⟩ := DataW.trod_int Tryz.underlying3 g0
  obtain ⟨a1, e1, f1, _⟩ := DataW.trod_string Tryz.underlying9 g1
  obtain ⟨a2, e2, f2, _⟩ := DataW.trod_int Tryz.underlying3 g2
  obtain ⟨a3, e3, f3, _⟩ := DataW.trod_int Tryz.underlying3 g3
  obtain ⟨a4, e4, f4, w4⟩ := DataW.trod_int Tryz.underlying3 g4
  simp only [List.cons.injEq, and_true] at e0 e1 e2 e3 e4
  subst e0 e1 e2 e3 e4 f0 f1 f2 f3 f4
  simp only [Prod.mk.injEq] at hxy
  exact ⟨⟨a0, a1, a2, a3, a4⟩, rfl, by simpa [dz] using hxy.1, wf_le w4⟩
theorem open_rowsZ {H : Type} {enc : TypeId × Value → H} {W : World} {a : Option Addr} {len cap : Nat} {d : DataW H} {p : List MemPlace} (h : DataW.Trod enc Tryz.prog W 0 (fun _ => true) true 22 (.slice a len cap) d p) :
    ∃ l : List Rz, l.length = len ∧ len ≤ cap ∧ IsRz W a l ∧ (∀ r ∈ l, r.kids ≤ 9223372036854775807) ∧ (l = [] ∨ ∃ sp, d = .slice (l.map dz) sp) := by
  obtain ⟨fuel, hf⟩ := h
  rcases open_slice Tryz.underlying22 hf with ⟨hcs, _⟩ | ⟨x, l, c, m, n, D, Pl, hcs, _, hl, hm, hmm, hx, hcell⟩
  · simp [Value.cells] at hcs
    obtain ⟨rfl, rfl, rfl⟩ := hcs
    exact ⟨[], rfl, Nat.le_refl _, fun i x hx => (by simp at hx), fun r hr => (by cases hr), Or.inl rfl⟩
  · simp [Value.cells] at hcs
    obtain ⟨rfl, rfl, rfl⟩ := hcs
    simp only [if_true] at hmm
    subst hmm
    simp only [Prod.mk.injEq] at hx
    have each : ∀ i, i < len → ∃ r : Rz, W.cells? 0 (x.add (i * 5)) 5 = some [.int .i64 r.kind, .string r.name, .int .i64 r.stop, .int .i64 r.n, .int .i64 r.kids] ∧ D i = dz r ∧ r.kids ≤ 9223372036854775807 := by
      intro i hi
      obtain ⟨cs', h1, h2⟩ := hcell i (by omega)
      obtain ⟨r, rfl, h4, h5⟩ := open_one h2
      rw [cells49] at h1
      exact ⟨r, h1, h4, h5⟩
    obtain ⟨q, hq⟩ := choose_lt each
    refine ⟨(List.range len).map q, by simp, hl, fun i r hr => ?_, fun r hr => ?_, Or.inr ⟨(List.range (m - len)).map fun j => D (len + j), ?_⟩⟩
    · have hi : i < len := by
        have := (List.getElem?_eq_some_iff.1 hr).1
        simpa using this
      have hri : q i = r := by simpa [hi] using hr
      obtain ⟨h1, _, _⟩ := hq i hi
      rw [hri] at h1
      obtain ⟨_, hlen, hc⟩ := World.cells?_some h1
      have e0 := hc 0 (by omega)
      have e1 := hc 1 (by omega)
      have e2 := hc 2 (by omega)
      have e3 := hc 3 (by omega)
      have e4 := hc 4 (by omega)
      rw [add_add] at e0 e1 e2 e3 e4
      simp at e0 e1 e2 e3 e4
      obtain ⟨b, off, spot⟩ := x
      have hspot : spot = none := by
        obtain ⟨g1, _, _⟩ := hq 0 (by omega)
        obtain ⟨_, _, gc⟩ := World.cells?_some g1
        have g0 := gc 0 (by omega)
        simp [Addr.add] at g0
        simpa [Addr.add] using World.cell?_spot g0
      subst hspot
      rw [Lib.addr_add] at e0 e1 e2 e3 e4
      refine ⟨b, off, rfl, World.block_lt_of_cell? W _ e0, e0, ?_, ?_, ?_, ?_⟩
      · rw [Nat.add_assoc]; exact e1
      · rw [Nat.add_assoc]; exact e2
      · rw [Nat.add_assoc]; exact e3
      · rw [Nat.add_assoc]; exact e4
    · obtain ⟨i, hi, rfl⟩ := List.mem_map.1 hr
      exact (hq i (List.mem_range.1 hi)).2.2
    · rw [hx.1]
      congr 1
      rw [List.map_map]
      exact List.map_congr_left fun i hi => (hq i (List.mem_range.1 hi)).2.1
theorem weights_all {H : Type} {P : Program} {e : TypeId} {d : DataW H} {l : List (DataW H)} (h : d ∈ l) : ∀ n ∈ d.weights P e, n ∈ DataW.weightsAll P e l := by
  induction l with
  | nil => cases h
  | cons x r ih =>
    intro n hn
    simp only [DataW.weightsAll, List.mem_append]
    rcases List.mem_cons.1 h with rfl | h1
    · exact Or.inl hn
    · exact Or.inr (ih h1 n hn)
theorem rows_reach {H : Type} {ts : List TypeId} {ds : List (DataW H)} (hsz : (DataW.weightsEach Tryz.prog ts ds).all (· ≤ reachBytes) = true) {j : Nat} {l : List Rz} {d : DataW H} (ht : ts[j]? = some 22) (hd : ds[j]? = some d) (h : l = [] ∨ ∃ sp, d = .slice (l.map dz) sp) :
    l.length ≤ 2932031007317 ∧ ∀ r ∈ l, r.name.size ≤ 140737488351232 := by
  rcases h with rfl | ⟨sp, rfl⟩
  · exact ⟨by simp, fun x hx => by cases hx⟩
  · refine ⟨?_, fun x hx => ?_⟩
    · have := sized_slice hsz ht hd Tryz.underlying22
      rw [bytes49] at this
      simp only [reachBytes, List.length_map] at this
      omega
    · have h1 : (dz x : DataW H) ∈ l.map dz := List.mem_map.2 ⟨x, hx, rfl⟩
      have h2 := weights_all (P := Tryz.prog) (e := 49) h1 x.name.data.toList.length (by simp [dz, DataW.weights, Tryz.underlying49, DataW.weightsEach])
      have h3 := List.all_eq_true.1 hsz _ (DataW.weights_mem_each ht hd x.name.data.toList.length (by
        simp only [DataW.weights, Tryz.underlying22]
        exact List.mem_cons_of_mem _ (List.mem_append_left _ h2)))
      have h4 := of_decide_eq_true h3
      simpa [reachBytes] using h4
end Go.Proofs.YtopiakhlajpdaaaGreat.Gr

namespace Go.Proofs.YtopiakhlajpdaaaGreat.Lx
open Go.ChangeShapes Go.WideShapes Go.ChangeAt Go.RowKit Go.Proofs.YtopiakhlajpdaaaGreat.Sp

theorem bytes9 : Tryz.prog.bytesOf 9 = 16 := by kernel_rfl
theorem bytes3 : Tryz.prog.bytesOf 3 = 8 := by kernel_rfl

theorem weights_all {H : Type} {P : Program} {e : TypeId} {d : DataW H} {l : List (DataW H)} (h : d ∈ l) : ∀ n ∈ d.weights P e, n ∈ DataW.weightsAll P e l := by
  induction l with
  | nil => cases h
  | cons x r ih =>
    intro n hn
    simp only [DataW.weightsAll, List.mem_append]
    rcases List.mem_cons.1 h with rfl | h1
    · exact Or.inl hn
    · exact Or.inr (ih h1 n hn)

theorem open_texts {H : Type} {enc : TypeId × Value → H} {W : World} {a : Option Addr} {len cap : Nat} {d : DataW H} {p : List MemPlace} (h : DataW.Trod enc Tryz.prog W 0 (fun _ => true) true 27 (.slice a len cap) d p) :
    ∃ ss : List ByteArray, ss.length = len ∧ len ≤ cap ∧ IsStrs W a ss ∧ (ss = [] ∨ ∃ sp, d = .slice (strs ss) sp) := by
  obtain ⟨fuel, hf⟩ := h
  rcases open_strings Tryz.underlying27 Tryz.underlying9 (by kernel_rfl) hf with ⟨hcs, hx⟩ | ⟨x, l, c, zs, hcs, _, hl, hm, hz, hx, hcell, hwz⟩
  · simp [Value.cells] at hcs
    obtain ⟨rfl, rfl, rfl⟩ := hcs
    exact ⟨[], rfl, Nat.le_refl _, fun i x hx => by simp at hx, Or.inl rfl⟩
  · simp [Value.cells] at hcs
    obtain ⟨rfl, rfl, rfl⟩ := hcs
    simp at hz hx
    obtain ⟨rfl, rfl⟩ := hx
    refine ⟨zs.take len, by simp; omega, hl, fun i y hy => ?_, Or.inr ⟨_, rfl⟩⟩
    have hil : i < len := by
      have := (List.getElem?_eq_some_iff.1 hy).1
      simp at this; omega
    have hc := hcell i (by omega)
    obtain ⟨b, off, spot⟩ := x
    have h0 := hcell 0 (by omega)
    have hspot : spot = none := by simpa [Addr.add] using World.cell?_spot h0
    subst hspot
    rw [Lib.addr_add] at hc
    refine ⟨b, off, rfl, World.block_lt_of_cell? W _ hc, ?_⟩
    rw [hc]
    rw [List.getElem?_take_of_lt hil] at hy
    simp [List.getD, hy]
theorem texts_reach {H : Type} {ts : List TypeId} {ds : List (DataW H)} (hsz : (DataW.weightsEach Tryz.prog ts ds).all (· ≤ reachBytes) = true) {j : Nat} {ss : List ByteArray} {d : DataW H} (ht : ts[j]? = some 27) (hd : ds[j]? = some d) (h : ss = [] ∨ ∃ sp, d = .slice (strs ss) sp) :
    ss.length ≤ 140737488351232 ∧ ∀ x ∈ ss, x.size ≤ 140737488351232 := by
  rcases h with rfl | ⟨sp, rfl⟩
  · exact ⟨by simp, fun x hx => by cases hx⟩
  · refine ⟨?_, fun x hx => ?_⟩
    · have := sized_slice hsz ht hd Tryz.underlying27
      rw [bytes9] at this
      simp only [reachBytes, strs, List.length_map] at this
      omega
    · have h1 : (DataW.lit (.string x.data.toList) : DataW H) ∈ strs ss := by
        unfold strs
        exact List.mem_map.2 ⟨x, hx, rfl⟩
      have h2 := weights_all (P := Tryz.prog) (e := 9) h1 x.data.toList.length (by simp [DataW.weights])
      have h3 := List.all_eq_true.1 hsz _ (DataW.weights_mem_each ht hd x.data.toList.length (by
        simp only [DataW.weights, Tryz.underlying27]
        exact List.mem_cons_of_mem _ (List.mem_append_left _ h2)))
      have h4 := of_decide_eq_true h3
      simpa [reachBytes] using h4
theorem text_reach {H : Type} {ts : List TypeId} {ds : List (DataW H)} (hsz : (DataW.weightsEach Tryz.prog ts ds).all (· ≤ reachBytes) = true) {j : Nat} {s : ByteArray} (ht : ts[j]? = some 9) (hd : ds[j]? = some (.lit (.string s.data.toList))) : s.size ≤ 140737488351232 := by
  have := sized_string hsz ht hd
  simpa [reachBytes] using this

theorem open_nums {H : Type} {enc : TypeId × Value → H} {W : World} {a : Option Addr} {len cap : Nat} {d : DataW H} {p : List MemPlace} (h : DataW.Trod enc Tryz.prog W 0 (fun _ => true) true 28 (.slice a len cap) d p) :
    ∃ z : Nat → Int, IsInts W a len z ∧ (len = 0 ∨ ∃ el sp, d = .slice el sp ∧ el.length = len) := by
  obtain ⟨fuel, hf⟩ := h
  rcases open_ints Tryz.underlying28 Tryz.underlying3 (by kernel_rfl) hf with ⟨hcs, hx⟩ | ⟨x, l, c, zs, hcs, _, hl, hm, hz, hx, hcell, hwz⟩
  · simp [Value.cells] at hcs
    obtain ⟨rfl, rfl, rfl⟩ := hcs
    exact ⟨fun _ => 0, fun i hi => absurd hi (Nat.not_lt_zero _), Or.inl rfl⟩
  · simp [Value.cells] at hcs
    obtain ⟨rfl, rfl, rfl⟩ := hcs
    simp at hz hx
    obtain ⟨rfl, rfl⟩ := hx
    refine ⟨fun i => zs.getD i 0, fun i hi => ?_, Or.inr ⟨_, _, rfl, by simp [lits]; omega⟩⟩
    obtain ⟨b, off, spot⟩ := x
    have h0 := hcell 0 (by omega)
    have hspot : spot = none := by simpa [Addr.add] using World.cell?_spot h0
    subst hspot
    have hc := hcell i (by omega)
    rw [Lib.addr_add] at hc
    exact ⟨b, off, rfl, World.block_lt_of_cell? W _ hc, hc⟩
theorem nums_reach {H : Type} {ts : List TypeId} {ds : List (DataW H)} (hsz : (DataW.weightsEach Tryz.prog ts ds).all (· ≤ reachBytes) = true) {j len : Nat} {d : DataW H} (ht : ts[j]? = some 28) (hd : ds[j]? = some d) (h : len = 0 ∨ ∃ el sp, d = .slice el sp ∧ el.length = len) : len ≤ 140737488351232 := by
  rcases h with rfl | ⟨el, sp, rfl, rfl⟩
  · omega
  · have := sized_slice hsz ht hd Tryz.underlying28
    rw [bytes3] at this
    simp only [reachBytes] at this
    omega
end Go.Proofs.YtopiakhlajpdaaaGreat.Lx

namespace Go.Proofs.YtopiakhlajpdaaaGreat.namesLaid
open Go.ChangeShapes Go.WideShapes Go.ChangeAt Go.RowKit
open Go.Proofs.YtopiakhlajpdaaaGreat.Sp Go.Proofs.YtopiakhlajpdaaaGreat.Lx Go.Proofs.YtopiakhlajpdaaaGreat.Gr

set_option maxRecDepth 100000 in
theorem contractF (H : Type) (enc : TypeId × Value → H) (W : World) (base : Nat) (args : Array Value) (ds gs : List (DataW H)) (before : List MemPlace)
    (hval : ∀ (j : Nat) t v, Tryz.f5.params[j]? = some t → args[j]? = some v → Value.okWide Tryz.prog W .any base t v)
    (hW : DataW.Whole enc Tryz.prog Tryz.f5.params.toList Rows.namesLaidSpec.vars false W args.toList ds gs before)
    (hsz : (DataW.weightsEach Tryz.prog (Tryz.f5.params.toList ++ Rows.namesLaidSpec.plain.varTypes Tryz.prog) (ds ++ gs)).all (· ≤ reachBytes) = true) :
    Calls Tryz.prog 5 args W fun e W' => ∃ v, e = .returned v ∧ Rows.namesLaidSpec.post enc Tryz.prog Tryz.f5 false true false false W args v W' := by
  have hW' := hW
  obtain ⟨p, q, hA0, hV, rfl, hfz, hnd⟩ := hW
  have hA : DataW.TrodAll enc Tryz.prog W 0 (fun _ => true) true Tryz.f5.params.toList args.toList ds p := hA0
  rw [Tryz.params5] at hA hval hsz
  obtain ⟨v0, vs0, d0, ds0, p0, q0, hargs, rfl, rfl, h0, r0⟩ := trodAll_cons hA
  obtain ⟨v1, vs1, d1, ds1, p1, q1, rfl, rfl, rfl, h1, r1⟩ := trodAll_cons r0
  obtain ⟨rfl, rfl, rfl⟩ := trodAll_nil r1
  obtain rfl : args = #[v0, v1] := by cases args; simp_all
  obtain ⟨rfl, rfl⟩ := trodVars_none hV
  obtain ⟨a0, len0, cap0, rfl⟩ := okWide_slice Tryz.underlying22 (hval 0 22 v0 rfl rfl)
  have lt0 : ∀ x ∈ p0, x.block < W.heap.size := by obtain ⟨m, hm⟩ := h0; exact DataW.trod_lt m _ _ _ hm
  obtain ⟨s0, rfl, cl0, ib0, kb0, dd0⟩ := open_rowsZ h0
  obtain ⟨a1, len1, cap1, rfl⟩ := okWide_slice Tryz.underlying28 (hval 1 28 v1 rfl rfl)
  have lt1 : ∀ x ∈ p1, x.block < W.heap.size := by obtain ⟨m, hm⟩ := h1; exact DataW.trod_lt m _ _ _ hm
  obtain ⟨z1, ib1, dd1⟩ := open_nums h1
  refine (walk a0 s0 cap0 a1 len1 cap1 z1 W ib0 (rows_reach hsz (j := 0) rfl rfl dd0).1 (fun r hr => ⟨kb0 r hr, by have := (rows_reach hsz (j := 0) rfl rfl dd0).2 r hr; omega⟩) ib1 (nums_reach hsz (j := 1) rfl rfl dd1)).mono fun e W2 ⟨he, bel⟩ => ?_
  subst he
  exact ⟨_, rfl, _, _, _, [], _, [], hW', trodAll_mk1 (shut_bool Tryz.underlying4 _), (trodAll_cons_mk (Below.trod laidOut (by kernel_rfl) (of_decide_eq_true (by kernel_rfl)) h0 bel lt0) (trodAll_cons_mk (Below.trod laidOut (by kernel_rfl) (of_decide_eq_true (by kernel_rfl)) h1 bel lt1) trodAll_mk0)), rfl, bel.frame _, fun h => by cases h⟩

set_option maxRecDepth 100000 in
theorem liftedF (os : Os) (started : os.Started) (H : Type) (enc : TypeId × Value → H) :
    ReturnsInHanded {} Tryz.checked os 5 .any (Rows.namesLaidSpec.pre6 enc Tryz.prog Tryz.f5 Rows.namesLaidRow.domain false) (Rows.namesLaidSpec.post enc Tryz.prog Tryz.f5 false true false false) := by
  refine returnsInHanded_of_change_sized (C := Tryz.checked) own started (by kernel_rfl) Tryz.func5
    (ChangeSpec.witness6 (enc := enc) (C := Tryz.checked) false ⟨#[], #[.slice none 0 0, .slice none 0 0], []⟩ 8 (by kernel_rfl) (by kernel_rfl) (by kernel_rfl) (by kernel_rfl)) ?_
  intro W base args ds gs before hval hW _ hsz _
  exact contractF H enc W base args ds gs before hval hW hsz

theorem provedF : Rows.NamesLaidSaid :=
  OpenClaim.holds_of_wide 5 Tryz.f5 rfl rfl rfl rfl rfl rfl rfl ⟨rfl, rfl, rfl, rfl, rfl⟩ rfl rfl rfl rfl rfl (by kernel_rfl) Tryz.func5 (by kernel_rfl)
    (of_decide_eq_true (by kernel_rfl)) (by unfold Func.isWrapper; first | (rw [if_pos (by decide +kernel)]; kernel_rfl) | (rw [if_neg (by decide +kernel)]; exact ⟨rfl, rfl⟩))
    (fun os started H enc _ => liftedF os started H enc)
end Go.Proofs.YtopiakhlajpdaaaGreat.namesLaid
