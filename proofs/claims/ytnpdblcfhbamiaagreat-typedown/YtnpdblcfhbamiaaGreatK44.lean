import Derived.Test.YtnpdblcfhbamiaaGreatK43
import Derived.ProofKit
import Derived.OpenShut
import Derived.ShutString
import Derived.ChangeOld
import Derived.Below
import Derived.JoinedCond
import Derived.SizedLaws
import Derived.SliceStrings
import Derived.ChangeMaps5
set_option maxHeartbeats 12800000
set_option maxRecDepth 100000
namespace Go.Proofs.YtnpdblcfhbamiaaGreat.Nm.Ty
open Go.RowKit Go.Maps Go.Proofs.YtnpdblcfhbamiaaGreat.Sp Go.Proofs.YtnpdblcfhbamiaaGreat.Lx Go.Proofs.YtnpdblcfhbamiaaGreat.Gr Go.Proofs.YtnpdblcfhbamiaaGreat.Nm
/-- known at work: its boxes, the policy -/
structure Kw (B : Nat) (w W : World) (pc : Array Value) (ao qo vo tto uo oo : Option Addr) : Prop where
  p : W.heap[B]? = some (.cells pc 30 (0, 0))
  f : W.heap[B + 1]? = some (.cells #[.int .i64 0, .int .i64 0] 33 (0, 0))
  q : W.heap[B + 1 + 1]? = some (.cells #[.int .i64 4] 3 (0, 0))
  c : W.heap[B + 1 + 1 + 1]? = some (.cells #[.int .i64 9, .slice (some ⟨B + 1 + 1, 0, none⟩) 1 1] 25 (0, 0))
  rd : RdG W tpl.g ao qo vo tto uo oo
  be : Below w.heap.size w W
theorem Kw.below {B : Nat} {w W W' : World} {pc : Array Value} {ao qo vo tto uo oo : Option Addr} (h : Kw B w W pc ao qo vo tto uo oo) (hb : Below W.heap.size W W') : Kw B w W' pc ao qo vo tto uo oo := ⟨(hb.block _ (blk_lt h.p)).trans h.p, (hb.block _ (blk_lt h.f)).trans h.f, (hb.block _ (blk_lt h.q)).trans h.q, (hb.block _ (blk_lt h.c)).trans h.c, h.rd.below hb, h.be.trans (hb.mono h.be.size)⟩
theorem cell_put0 {w : World} {B : Nat} (h : w.heap[B]? = some (.cells #[.int .i64 0, .int .i64 0] 33 (0, 0))) (k : Nat) : ((w.setCell ⟨B, 0, none⟩ (.int .i64 0)).setCell ⟨B, 1, none⟩ (.int .i64 0)).heap[k]? = w.heap[k]? := by
  by_cases hk : k = B
  · subst hk
    have h0 := set_at h (.int .i64 0) (cs' := #[.int .i64 0, .int .i64 0]) (i := 0) rfl
    have h1 := set_at h0 (.int .i64 0) (cs' := #[.int .i64 0, .int .i64 0]) (i := 1) rfl
    rw [h1, h]
  · rw [Below.heap_setCell _ _ _ _ hk, Below.heap_setCell _ _ _ _ hk]
theorem below_put0 {w : World} {B : Nat} (h : w.heap[B]? = some (.cells #[.int .i64 0, .int .i64 0] 33 (0, 0))) : Below w.heap.size w ((w.setCell ⟨B, 0, none⟩ (.int .i64 0)).setCell ⟨B, 1, none⟩ (.int .i64 0)) := ⟨rfl, rfl, rfl, by simp, fun k _ => cell_put0 h k⟩
theorem known_any (w : World) : Calls Tryz.prog 4 #[] w fun e w' => e = .returned (.bool true) ∧ Below w.heap.size w w' := by
  have HSm := show Hid _ from small8_any w
  have hD := fun W => div_any (a := -7) (b := 2) ⟨by omega, by omega⟩ W
  have hd7 : divZ (-7) 2 = -4 := by decide
  have hcl : clampZ 1099511627776 = 1073741824 := by decide
  have HDv : Hid (∀ W : World, Calls Tryz.prog 16 #[.int .i64 (-7), .int .i64 2] W fun e w' => e = .returned (.int .i64 (-4)) ∧ w' = W) := fun W => by have := hD W; rw [hd7] at this; exact this
  have HCl : Hid (∀ W : World, Calls Tryz.prog 17 #[.int .i64 1099511627776] W fun e w' => e = .returned (.int .i64 1073741824) ∧ w' = W) := fun W => by have := clamp_any 1099511627776 W; rw [hcl] at this; exact this
  clear hD hd7 hcl
  go_enter Tryz.func4, Tryz.ntmps4
  go_wp2_with fail
  refine Calls.mono HSm.out ?_
  rintro e w1 ⟨rfl, hR, hb1⟩
  have HRs := show Hid _ from resolve_t hR
  have HB1 : Hid (Below w.heap.size w w1) := hb1
  clear hR hb1 HSm
  go_wp2_with fail
  refine Calls.mono HRs.out ?_
  rintro e w2 ⟨hb2, ao, qo, vo, tto, uo, oo, ac, qc, vc, tc, uc, oc, rfl, hnil, hrd⟩
  have HNil : Hid (ao = none → ac = 0) := hnil
  have hb4 : Below w2.heap.size w2 ((((w2.alloc (.cells #[.string ⟨#[112]⟩, .slice ao 6 ac, .slice qo 1 qc, .slice vo 1 vc, .slice tto 0 tc, .slice uo 0 uc, .slice oo 1 oc, .int .i64 (-1)] 30)).alloc (.cells #[.int .i64 0, .int .i64 0] 33)).alloc (.cells #[.int .i64 4] 3)).alloc (.cells #[.int .i64 9, .slice (some ⟨w2.heap.size + 1 + 1, 0, none⟩) 1 1] 25)) := ((((Below.refl _ w2).alloc (Nat.le_refl _) _).alloc (by simp) _).alloc (by simp; omega) _).alloc (by simp; omega) _
  have HK4 : Hid (Kw w2.heap.size w ((((w2.alloc (.cells #[.string ⟨#[112]⟩, .slice ao 6 ac, .slice qo 1 qc, .slice vo 1 vc, .slice tto 0 tc, .slice uo 0 uc, .slice oo 1 oc, .int .i64 (-1)] 30)).alloc (.cells #[.int .i64 0, .int .i64 0] 33)).alloc (.cells #[.int .i64 4] 3)).alloc (.cells #[.int .i64 9, .slice (some ⟨w2.heap.size + 1 + 1, 0, none⟩) 1 1] 25)) #[.string ⟨#[112]⟩, .slice ao 6 ac, .slice qo 1 qc, .slice vo 1 vc, .slice tto 0 tc, .slice uo 0 uc, .slice oo 1 oc, .int .i64 (-1)] ao qo vo tto uo oo) := by
    refine ⟨?_, ?_, ?_, ?_, hrd.below hb4, (HB1.out.trans (hb2.mono HB1.out.size)).trans (hb4.mono ((HB1.out.trans (hb2.mono HB1.out.size)).size))⟩
    · rw [alloc_old _ _ _ (by simp; omega), alloc_old _ _ _ (by simp; omega), alloc_old _ _ _ (by simp)]
      exact alloc_at _ _ _ rfl
    · rw [alloc_old _ _ _ (by first | (simp; done) | (simp; omega)), alloc_old _ _ _ (by simp)]
      exact alloc_at _ _ _ (by simp)
    · rw [alloc_old _ _ _ (by simp)]
      exact alloc_at _ _ _ (by simp)
    · exact alloc_at _ _ _ (by simp)
  have hf2 : ((w2.alloc (.cells #[.string ⟨#[112]⟩, .slice ao 6 ac, .slice qo 1 qc, .slice vo 1 vc, .slice tto 0 tc, .slice uo 0 uc, .slice oo 1 oc, .int .i64 (-1)] 30)).alloc (.cells #[.int .i64 0, .int .i64 0] 33)).heap[w2.heap.size + 1]? = some (.cells #[.int .i64 0, .int .i64 0] 33 (0, 0)) := alloc_at _ _ _ (by simp)
  obtain ⟨f0, f1⟩ := cells2 hf2
  obtain ⟨k0, k1, k2, k3, k4, k5, k6, k7⟩ := pol8 HK4.out.p
  have HTy := show Hid _ from types_t (qc := qc) (vc := vc) (tc := tc) (uc := uc) (oc := oc) HK4.out.rd HNil.out
  clear hb2 hb4 hrd hnil hf2 HRs
  go_wp2_with fail
  generalize ((((w2.alloc (.cells #[.string ⟨#[112]⟩, .slice ao 6 ac, .slice qo 1 qc, .slice vo 1 vc, .slice tto 0 tc, .slice uo 0 uc, .slice oo 1 oc, .int .i64 (-1)] 30)).alloc (.cells #[.int .i64 0, .int .i64 0] 33)).alloc (.cells #[.int .i64 4] 3)).alloc (.cells #[.int .i64 9, .slice (some ⟨w2.heap.size + 1 + 1, 0, none⟩) 1 1] 25)) = w4 at *
  generalize w2.heap.size = B at *
  refine Calls.mono HTy.out ?_
  rintro e w5 ⟨hb5, gl, rfl, hgl, hvl⟩
  have HK5 := show Hid _ from HK4.out.below hb5
  have hb6 := below_put0 HK5.out.f
  have HK6 := show Hid _ from HK5.out.below hb6
  have HL6 := show Hid _ from IsVals.below hvl hb6
  have hf : ∀ j, w5.frozen? ⟨B + 1, j, none⟩ = false := fun j => by have := HK5.out.f; simp only [World.frozen?, this]; rfl
  clear f0 f1 k0 k1 k2 k3 k4 k5 k6 k7 hb5 hvl HTy HK4
  obtain ⟨f0, f1⟩ := cells2 HK5.out.f
  obtain ⟨k0, k1, k2, k3, k4, k5, k6, k7⟩ := pol8 HK6.out.p
  obtain ⟨d0, d1⟩ := cells2 HK6.out.c
  have HCk := show Hid _ from check_t (qc := qc) (vc := vc) (tc := tc) (uc := uc) (oc := oc) HK6.out.rd HNil.out HK6.out.q
  clear hb6
  go_wp2_with fail
  generalize ((w5.setCell ⟨B + 1, 0, none⟩ (.int .i64 0)).setCell ⟨B + 1, 1, none⟩ (.int .i64 0)) = w6 at *
  refine Calls.mono HCk.out ?_
  rintro e w7 ⟨hb7, v1, vc1, tv, rv, rfl, hv1, ⟨ta, tb, tcc, rfl⟩, ⟨ra, rb, rcc, rfl⟩⟩
  have HK7 := show Hid _ from HK6.out.below hb7
  have HL7 := show Hid _ from IsVals.below HL6.out hb7
  clear f0 f1 k0 k1 k2 k3 k4 k5 k6 k7 d0 d1 hf hb7 HCk HK5 HK6 HL6
  have hb8 : Below w7.heap.size w7 ((w7.alloc (.cells #[.slice v1 1 vc1, .slice ta tb tcc, .slice ra rb rcc] 40)).alloc (.cells #[.int .i64 0, .int .i64 0] 33)) := ((Below.refl _ w7).alloc (Nat.le_refl _) _).alloc (by simp) _
  have HK8 := show Hid _ from HK7.out.below hb8
  have HL8 := show Hid _ from IsVals.below HL7.out hb8
  have HV8 := show Hid _ from IsVals.below hv1 hb8
  have HT8 : Hid (((w7.alloc (.cells #[.slice v1 1 vc1, .slice ta tb tcc, .slice ra rb rcc] 40)).alloc (.cells #[.int .i64 0, .int .i64 0] 33)).heap[w7.heap.size]? = some (.cells #[.slice v1 1 vc1, .slice ta tb tcc, .slice ra rb rcc] 40 (0, 0)) ∧ ((w7.alloc (.cells #[.slice v1 1 vc1, .slice ta tb tcc, .slice ra rb rcc] 40)).alloc (.cells #[.int .i64 0, .int .i64 0] 33)).heap[w7.heap.size + 1]? = some (.cells #[.int .i64 0, .int .i64 0] 33 (0, 0))) := ⟨by rw [alloc_old _ _ _ (by simp)]; exact alloc_at _ _ _ rfl, alloc_at _ _ _ (by simp)⟩
  obtain ⟨k0, k1, k2, k3, k4, k5, k6, k7⟩ := pol8 HK8.out.p
  obtain ⟨d0, d1⟩ := cells2 HK8.out.c
  have HCo := show Hid _ from const_t (qc := qc) (vc := vc) (tc := tc) (uc := uc) (oc := oc) HK8.out.rd HNil.out HK8.out.q
  clear hb8 hv1 HK7 HL7
  go_wp2_with fail
  generalize ((w7.alloc (.cells #[.slice v1 1 vc1, .slice ta tb tcc, .slice ra rb rcc] 40)).alloc (.cells #[.int .i64 0, .int .i64 0] 33)) = w8 at *
  generalize w7.heap.size = B7 at *
  refine Calls.mono HCo.out ?_
  rintro e w9 ⟨hb9, rfl⟩
  have hb10 : Below w9.heap.size w9 (w9.alloc (.cells #[.int .i64 0, .int .i64 0] 33)) := (Below.refl _ w9).alloc (Nat.le_refl _) _
  have hb11 : Below w9.heap.size w9 ((w9.alloc (.cells #[.int .i64 0, .int .i64 0] 33)).alloc (.cells #[.int .i64 0, .int .i64 0, .int .i64 0, .int .i64 1, .int .i64 1, .int .i64 1] 3)) := hb10.alloc hb10.size _
  have hbA := hb9.trans (hb10.mono hb9.size)
  have hbB := hb9.trans (hb11.mono hb9.size)
  have HKA := show Hid _ from HK8.out.below hbA
  have HKB := show Hid _ from HK8.out.below hbB
  have HLB := show Hid _ from IsVals.below HL8.out hbB
  have HVB := show Hid _ from IsVals.below HV8.out hbB
  have HTB : Hid (((w9.alloc (.cells #[.int .i64 0, .int .i64 0] 33)).alloc (.cells #[.int .i64 0, .int .i64 0, .int .i64 0, .int .i64 1, .int .i64 1, .int .i64 1] 3)).heap[B7]? = some (.cells #[.slice v1 1 vc1, .slice ta tb tcc, .slice ra rb rcc] 40 (0, 0))) := (hbB.block _ (blk_lt HT8.out.1)).trans HT8.out.1
  clear k0 k1 k2 k3 k4 k5 k6 k7 d0 d1
  obtain ⟨f0, f1⟩ := cells2 HKA.out.f
  obtain ⟨g0, g1⟩ := cells2 ((hbA.block _ (blk_lt HT8.out.2)).trans HT8.out.2)
  obtain ⟨e0, e1⟩ := cells2 (heap_alloc_new w9 (.cells #[.int .i64 0, .int .i64 0] 33))
  have HLit : Hid (IsVals ((w9.alloc (.cells #[.int .i64 0, .int .i64 0] 33)).alloc (.cells #[.int .i64 0, .int .i64 0, .int .i64 0, .int .i64 1, .int .i64 1, .int .i64 1] 3)) (some ⟨w9.heap.size + 1, 0, none⟩) (iv tyL)) := fun k x hx => by
    have hz : (w9.alloc (.cells #[.int .i64 0, .int .i64 0] 33)).heap.size = w9.heap.size + 1 := by simp
    have hb := heap_alloc_new (w9.alloc (.cells #[.int .i64 0, .int .i64 0] 33)) (.cells #[.int .i64 0, .int .i64 0, .int .i64 0, .int .i64 1, .int .i64 1, .int .i64 1] 3)
    rw [hz] at hb
    have hk : k < 6 := (List.getElem?_eq_some_iff.1 hx).1
    refine ⟨w9.heap.size + 1, 0, rfl, blk_lt hb, ?_⟩
    obtain rfl | rfl | rfl | rfl | rfl | rfl : k = 0 ∨ k = 1 ∨ k = 2 ∨ k = 3 ∨ k = 4 ∨ k = 5 := by omega
    all_goals
      cases hx
      simp only [World.cell?, hb]
      rfl
  have HSa : Hid (Calls Tryz.prog 8 #[.slice (some ⟨gl, 0, none⟩) 6 6, .slice (some ⟨w9.heap.size + 1, 0, none⟩) 6 6] ((w9.alloc (.cells #[.int .i64 0, .int .i64 0] 33)).alloc (.cells #[.int .i64 0, .int .i64 0, .int .i64 0, .int .i64 1, .int .i64 1, .int .i64 1] 3)) fun e w' => e = .returned (.bool true) ∧ Below ((w9.alloc (.cells #[.int .i64 0, .int .i64 0] 33)).alloc (.cells #[.int .i64 0, .int .i64 0, .int .i64 0, .int .i64 1, .int .i64 1, .int .i64 1] 3)).heap.size ((w9.alloc (.cells #[.int .i64 0, .int .i64 0] 33)).alloc (.cells #[.int .i64 0, .int .i64 0, .int .i64 0, .int .i64 1, .int .i64 1, .int .i64 1] 3)) w') := by
    refine Calls.mono (same17 (l := tyL) (m := tyL) HLB.out HLit.out (by decide)) ?_
    rintro e w' ⟨⟨b, rfl, hb⟩, hbe⟩
    rw [hb.2 rfl]
    exact ⟨rfl, hbe⟩
  clear hb9 hb10 hb11 hbA hbB HK8 HL8 HV8 HT8 HKA HCo HLB HLit
  go_wp2_with fail
  generalize ((w9.alloc (.cells #[.int .i64 0, .int .i64 0] 33)).alloc (.cells #[.int .i64 0, .int .i64 0, .int .i64 0, .int .i64 1, .int .i64 1, .int .i64 1] 3)) = wB at *
  refine Calls.mono HSa.out ?_
  rintro e wC ⟨rfl, hbC⟩
  have HKC := show Hid _ from HKB.out.below hbC
  have hT := (hbC.block _ (blk_lt HTB.out)).trans HTB.out
  have hV := IsVals.below HVB.out hbC
  obtain ⟨vb, vof, rfl, _, x0⟩ := hV 0 _ rfl
  obtain ⟨_, _, ea, _, x1⟩ := hV 1 _ rfl
  cases ea
  obtain ⟨_, _, ea, _, x2⟩ := hV 2 _ rfl
  cases ea
  rw [Nat.add_zero] at x0
  obtain ⟨t0, t1, t2⟩ := cells3 hT
  obtain ⟨k0, k1, k2, k3, k4, k5, k6, k7⟩ := pol8 HKC.out.p
  obtain ⟨d0, d1⟩ := cells2 HKC.out.c
  have HFi := show Hid _ from fitF_t (qc := qc) (vc := vc) (tc := tc) (uc := uc) (oc := oc) HKC.out.rd HNil.out HKC.out.q
  clear hbC HSa f0 f1 g0 g1 e0 e1 hT hV HKB HTB HVB
  go_wp2_with fail
  refine Calls.mono HFi.out ?_
  rintro e wD ⟨hbD, rfl⟩
  have HBD : Hid (Below w.heap.size w wD) := HKC.out.be.trans (hbD.mono HKC.out.be.size)
  clear hbD HFi k0 k1 k2 k3 k4 k5 k6 k7 d0 d1 t0 t1 t2 x0 x1 x2 HKC
  go_wp2_with fail
  refine Calls.mono (HDv.out _) ?_
  rintro e _ ⟨rfl, rfl⟩
  go_wp2_with fail
  refine Calls.mono (HCl.out _) ?_
  rintro e _ ⟨rfl, rfl⟩
  go_wp2
  go_ret
  exact ⟨rfl, HBD.out⟩
end Go.Proofs.YtnpdblcfhbamiaaGreat.Nm.Ty
namespace Go.Proofs.YtnpdblcfhbamiaaGreat.Lx
open Go.ChangeShapes Go.WideShapes Go.ChangeAt Go.RowKit Go.Proofs.YtnpdblcfhbamiaaGreat.Sp
theorem own : ownKnob Tryz.prog.godebug = none := by kernel_rfl
theorem laidOut : laidOutB Tryz.prog = true := by kernel_rfl
theorem bytes5 : Tryz.prog.bytesOf 5 = 1 := by kernel_rfl
theorem open_bytes {H : Type} {enc : TypeId × Value → H} {W : World} {a : Option Addr} {len cap : Nat} {d : DataW H} {p : List MemPlace} (h : DataW.Trod enc Tryz.prog W 0 (fun _ => true) true 160 (.slice a len cap) d p) :
    ∃ s : ByteArray, s.size = len ∧ len ≤ cap ∧ IsBytes W a s ∧ (len = 0 ∨ ∃ el sp, d = .slice el sp ∧ el.length = len) := by
  obtain ⟨fuel, hf⟩ := h
  rcases open_ints Tryz.underlying160 Tryz.underlying5 (by kernel_rfl) hf with ⟨hcs, hx⟩ | ⟨x, l, c, zs, hcs, _, hl, hm, hz, hx, hcell, hwz⟩
  · simp [Value.cells] at hcs
    obtain ⟨rfl, rfl, rfl⟩ := hcs
    exact ⟨ByteArray.empty, rfl, Nat.le_refl _, fun i hi => absurd hi (Nat.not_lt_zero _), Or.inl rfl⟩
  · simp [Value.cells] at hcs
    obtain ⟨rfl, rfl, rfl⟩ := hcs
    simp at hz hx
    obtain ⟨rfl, rfl⟩ := hx
    have hsz : (strOfNums (zs.take len)).size = len := by rw [strOfNums_size]; simp; omega
    refine ⟨strOfNums (zs.take len), hsz, hl, fun i hi => ?_, Or.inr ⟨_, _, rfl, by simp [lits]; omega⟩⟩
    obtain ⟨b, off, spot⟩ := x
    have h0 := hcell 0 (by omega)
    have hspot : spot = none := by simpa [Addr.add] using World.cell?_spot h0
    subst hspot
    have hB : Lib.Bytes W b off (strOfNums (zs.take len)) := Lib.bytes_of_nums (n := len) (by simp; omega) (fun x hx => by
      have hx := bounds_u8 (hwz x (List.mem_of_mem_take hx))
      omega) (fun j hj => by
        have := hcell j (by omega)
        rw [Lib.addr_add] at this
        rw [this]
        simp [List.getD, List.getElem?_take_of_lt hj])
    have hc := hB i hi
    refine ⟨b, off, rfl, World.block_lt_of_cell? W _ hc, ?_⟩
    rw [hc, nb_get _ i hi]
theorem bytes_reach {H : Type} {ts : List TypeId} {ds : List (DataW H)} (hsz : (DataW.weightsEach Tryz.prog ts ds).all (· ≤ reachBytes) = true) {j len : Nat} {d : DataW H} (ht : ts[j]? = some 160) (hd : ds[j]? = some d) (h : len = 0 ∨ ∃ el sp, d = .slice el sp ∧ el.length = len) : len ≤ 140737488351232 := by
  rcases h with rfl | ⟨el, sp, rfl, rfl⟩
  · omega
  · have := sized_slice hsz ht hd Tryz.underlying160
    rw [bytes5] at this
    simp only [reachBytes] at this
    omega
end Go.Proofs.YtnpdblcfhbamiaaGreat.Lx
namespace Go.Proofs.YtnpdblcfhbamiaaGreat.Nm.Ty
/-- a number that is handed in -/
theorem wf_in {n : Int} (h : (Lit.int .i64 n).wf = true) : in64 n := by
  simp only [Lit.wf, Bool.and_eq_true, decide_eq_true_eq] at h
  have h1 : IntKind.i64.min = -9223372036854775808 := by decide
  have h2 : IntKind.i64.max = 9223372036854775807 := by decide
  rw [h1, h2] at h
  exact h
end Go.Proofs.YtnpdblcfhbamiaaGreat.Nm.Ty
namespace Go.Proofs.YtnpdblcfhbamiaaGreat.Lx
open Go.RowKit Go.Proofs.YtnpdblcfhbamiaaGreat.Sp
/-- a slice of strings; of numbers -/
def IsStrs (w : World) (ao : Option Addr) (ss : List ByteArray) : Prop := ∀ i x, ss[i]? = some x → ∃ g o, ao = some ⟨g, o, none⟩ ∧ g < w.heap.size ∧ w.cell? ⟨g, o + i, none⟩ = some (.string x)
theorem IsStrs.below {w w' : World} {ao : Option Addr} {ss : List ByteArray} (h : IsStrs w ao ss) (hb : Below w.heap.size w w') : IsStrs w' ao ss := by
  intro i x hx
  obtain ⟨g, o, e, hg, hc⟩ := h i x hx
  exact ⟨g, o, e, Nat.lt_of_lt_of_le hg hb.size, (hb.cell (p := ⟨g, o + i, none⟩) hg).trans hc⟩
def IsInts (w : World) (ao : Option Addr) (n : Nat) (z : Nat → Int) : Prop := ∀ i, i < n → ∃ g o, ao = some ⟨g, o, none⟩ ∧ g < w.heap.size ∧ w.cell? ⟨g, o + i, none⟩ = some (.int .i64 (z i))
theorem IsInts.below {w w' : World} {ao : Option Addr} {n : Nat} {z : Nat → Int} (h : IsInts w ao n z) (hb : Below w.heap.size w w') : IsInts w' ao n z := by
  intro i hi
  obtain ⟨g, o, e, hg, hc⟩ := h i hi
  exact ⟨g, o, e, Nat.lt_of_lt_of_le hg hb.size, (hb.cell (p := ⟨g, o + i, none⟩) hg).trans hc⟩
end Go.Proofs.YtnpdblcfhbamiaaGreat.Lx
namespace Go.Proofs.YtnpdblcfhbamiaaGreat.Lx
open Go.ChangeShapes Go.WideShapes Go.ChangeAt Go.RowKit Go.Proofs.YtnpdblcfhbamiaaGreat.Sp
theorem bytes9 : Tryz.prog.bytesOf 9 = 16 := by kernel_rfl
theorem bytes3 : Tryz.prog.bytesOf 3 = 8 := by kernel_rfl
theorem weights_all {H : Type} {P : Program} {e : TypeId} {d : DataW H} {l : List (DataW H)} (h : d ∈ l) : ∀ n ∈ d.weights P e, n ∈ DataW.weightsAll P e l := by
  induction l with
  | nil => cases h
  | cons x r ih =>
    intro n hn
    simp only [DataW.weightsAll, List.mem_append]
    rcases List.mem_cons.1 h with rfl | h1
    · exact Or.inl hn
    · exact Or.inr (ih h1 n hn)
theorem open_texts {H : Type} {enc : TypeId × Value → H} {W : World} {a : Option Addr} {len cap : Nat} {d : DataW H} {p : List MemPlace} (h : DataW.Trod enc Tryz.prog W 0 (fun _ => true) true 28 (.slice a len cap) d p) :
    ∃ ss : List ByteArray, ss.length = len ∧ len ≤ cap ∧ IsStrs W a ss ∧ (ss = [] ∨ ∃ sp, d = .slice (strs ss) sp) := by
  obtain ⟨fuel, hf⟩ := h
  rcases open_strings Tryz.underlying28 Tryz.underlying9 (by kernel_rfl) hf with ⟨hcs, hx⟩ | ⟨x, l, c, zs, hcs, _, hl, hm, hz, hx, hcell, hwz⟩
  · simp [Value.cells] at hcs
    obtain ⟨rfl, rfl, rfl⟩ := hcs
    exact ⟨[], rfl, Nat.le_refl _, fun i x hx => by simp at hx, Or.inl rfl⟩
  · simp [Value.cells] at hcs
    obtain ⟨rfl, rfl, rfl⟩ := hcs
    simp at hz hx
    obtain ⟨rfl, rfl⟩ := hx
    refine ⟨zs.take len, by simp; omega, hl, fun i y hy => ?_, Or.inr ⟨_, rfl⟩⟩
    have hil : i < len := by
      have := (List.getElem?_eq_some_iff.1 hy).1
      simp at this; omega
    have hc := hcell i (by omega)
    obtain ⟨b, off, spot⟩ := x
    have h0 := hcell 0 (by omega)
    have hspot : spot = none := by simpa [Addr.add] using World.cell?_spot h0
    subst hspot
    rw [Lib.addr_add] at hc
    refine ⟨b, off, rfl, World.block_lt_of_cell? W _ hc, ?_⟩
    rw [hc]
    rw [List.getElem?_take_of_lt hil] at hy
    simp [List.getD, hy]
theorem texts_reach {H : Type} {ts : List TypeId} {ds : List (DataW H)} (hsz : (DataW.weightsEach Tryz.prog ts ds).all (· ≤ reachBytes) = true) {j : Nat} {ss : List ByteArray} {d : DataW H} (ht : ts[j]? = some 28) (hd : ds[j]? = some d) (h : ss = [] ∨ ∃ sp, d = .slice (strs ss) sp) :
    ss.length ≤ 140737488351232 ∧ ∀ x ∈ ss, x.size ≤ 140737488351232 := by
  rcases h with rfl | ⟨sp, rfl⟩
  · exact ⟨by simp, fun x hx => by cases hx⟩
  · refine ⟨?_, fun x hx => ?_⟩
    · have := sized_slice hsz ht hd Tryz.underlying28
      rw [bytes9] at this
      simp only [reachBytes, strs, List.length_map] at this
      omega
    · have h1 : (DataW.lit (.string x.data.toList) : DataW H) ∈ strs ss := by
        unfold strs
        exact List.mem_map.2 ⟨x, hx, rfl⟩
      have h2 := weights_all (P := Tryz.prog) (e := 9) h1 x.data.toList.length (by simp [DataW.weights])
      have h3 := List.all_eq_true.1 hsz _ (DataW.weights_mem_each ht hd x.data.toList.length (by
        simp only [DataW.weights, Tryz.underlying28]
        exact List.mem_cons_of_mem _ (List.mem_append_left _ h2)))
      have h4 := of_decide_eq_true h3
      simpa [reachBytes] using h4
theorem text_reach {H : Type} {ts : List TypeId} {ds : List (DataW H)} (hsz : (DataW.weightsEach Tryz.prog ts ds).all (· ≤ reachBytes) = true) {j : Nat} {s : ByteArray} (ht : ts[j]? = some 9) (hd : ds[j]? = some (.lit (.string s.data.toList))) : s.size ≤ 140737488351232 := by
  have := sized_string hsz ht hd
  simpa [reachBytes] using this
theorem open_nums {H : Type} {enc : TypeId × Value → H} {W : World} {a : Option Addr} {len cap : Nat} {d : DataW H} {p : List MemPlace} (h : DataW.Trod enc Tryz.prog W 0 (fun _ => true) true 23 (.slice a len cap) d p) :
    ∃ z : Nat → Int, IsInts W a len z ∧ (len = 0 ∨ ∃ el sp, d = .slice el sp ∧ el.length = len) := by
  obtain ⟨fuel, hf⟩ := h
  rcases open_ints Tryz.underlying23 Tryz.underlying3 (by kernel_rfl) hf with ⟨hcs, hx⟩ | ⟨x, l, c, zs, hcs, _, hl, hm, hz, hx, hcell, hwz⟩
  · simp [Value.cells] at hcs
    obtain ⟨rfl, rfl, rfl⟩ := hcs
    exact ⟨fun _ => 0, fun i hi => absurd hi (Nat.not_lt_zero _), Or.inl rfl⟩
  · simp [Value.cells] at hcs
    obtain ⟨rfl, rfl, rfl⟩ := hcs
    simp at hz hx
    obtain ⟨rfl, rfl⟩ := hx
    refine ⟨fun i => zs.getD i 0, fun i hi => ?_, Or.inr ⟨_, _, rfl, by simp [lits]; omega⟩⟩
    obtain ⟨b, off, spot⟩ := x
    have h0 := hcell 0 (by omega)
    have hspot : spot = none := by simpa [Addr.add] using World.cell?_spot h0
    subst hspot
    have hc := hcell i (by omega)
    rw [Lib.addr_add] at hc
    exact ⟨b, off, rfl, World.block_lt_of_cell? W _ hc, hc⟩
theorem nums_reach {H : Type} {ts : List TypeId} {ds : List (DataW H)} (hsz : (DataW.weightsEach Tryz.prog ts ds).all (· ≤ reachBytes) = true) {j len : Nat} {d : DataW H} (ht : ts[j]? = some 23) (hd : ds[j]? = some d) (h : len = 0 ∨ ∃ el sp, d = .slice el sp ∧ el.length = len) : len ≤ 140737488351232 := by
  rcases h with rfl | ⟨el, sp, rfl, rfl⟩
  · omega
  · have := sized_slice hsz ht hd Tryz.underlying23
    rw [bytes3] at this
    simp only [reachBytes] at this
    omega
end Go.Proofs.YtnpdblcfhbamiaaGreat.Lx
