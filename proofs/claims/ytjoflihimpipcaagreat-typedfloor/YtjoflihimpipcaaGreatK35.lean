import Derived.Test.YtjoflihimpipcaaGreatK34
import Derived.ProofKit
import Derived.OpenShut
import Derived.ShutString
import Derived.ChangeOld
import Derived.Below
import Derived.JoinedCond
import Derived.SizedLaws
import Derived.SliceStrings
import Derived.ChangeMaps5
set_option maxHeartbeats 12800000
set_option maxRecDepth 100000
namespace Go.Proofs.YtjoflihimpipcaaGreat.Nm.Ty
open Go.RowKit Go.Maps Go.Proofs.YtjoflihimpipcaaGreat.Sp Go.Proofs.YtjoflihimpipcaaGreat.Lx Go.Proofs.YtjoflihimpipcaaGreat.Gr Go.Proofs.YtjoflihimpipcaaGreat.Nm
/-- known at work: its boxes, the policy -/
structure Kw (B : Nat) (w W : World) (pc : Array Value) (ao qo vo tto uo oo : Option Addr) : Prop where
  p : W.heap[B]? = some (.cells pc 27 (0, 0))
  f : W.heap[B + 1]? = some (.cells #[.int .i64 0, .int .i64 0] 32 (0, 0))
  q : W.heap[B + 1 + 1]? = some (.cells #[.int .i64 4] 3 (0, 0))
  c : W.heap[B + 1 + 1 + 1]? = some (.cells #[.int .i64 9, .slice (some ⟨B + 1 + 1, 0, none⟩) 1 1] 39 (0, 0))
  rd : RdG W tpl.g ao qo vo tto uo oo
  be : Below w.heap.size w W
theorem Kw.below {B : Nat} {w W W' : World} {pc : Array Value} {ao qo vo tto uo oo : Option Addr} (h : Kw B w W pc ao qo vo tto uo oo) (hb : Below W.heap.size W W') : Kw B w W' pc ao qo vo tto uo oo := ⟨(hb.block _ (blk_lt h.p)).trans h.p, (hb.block _ (blk_lt h.f)).trans h.f, (hb.block _ (blk_lt h.q)).trans h.q, (hb.block _ (blk_lt h.c)).trans h.c, h.rd.below hb, h.be.trans (hb.mono h.be.size)⟩
theorem cell_put0 {w : World} {B : Nat} (h : w.heap[B]? = some (.cells #[.int .i64 0, .int .i64 0] 32 (0, 0))) (k : Nat) : ((w.setCell ⟨B, 0, none⟩ (.int .i64 0)).setCell ⟨B, 1, none⟩ (.int .i64 0)).heap[k]? = w.heap[k]? := by
  by_cases hk : k = B
  · subst hk
    have h0 := set_at h (.int .i64 0) (cs' := #[.int .i64 0, .int .i64 0]) (i := 0) rfl
    have h1 := set_at h0 (.int .i64 0) (cs' := #[.int .i64 0, .int .i64 0]) (i := 1) rfl
    rw [h1, h]
  · rw [Below.heap_setCell _ _ _ _ hk, Below.heap_setCell _ _ _ _ hk]
theorem below_put0 {w : World} {B : Nat} (h : w.heap[B]? = some (.cells #[.int .i64 0, .int .i64 0] 32 (0, 0))) : Below w.heap.size w ((w.setCell ⟨B, 0, none⟩ (.int .i64 0)).setCell ⟨B, 1, none⟩ (.int .i64 0)) := ⟨rfl, rfl, rfl, by simp, fun k _ => cell_put0 h k⟩
theorem known_any (w : World) : Calls Tryz.prog 9 #[] w fun e w' => e = .returned (.bool true) ∧ Below w.heap.size w w' := by
  have HSm := show Hid _ from small8_any w
  have hD := fun W => div_any (a := -7) (b := 2) ⟨by omega, by omega⟩ W
  have hd7 : divZ (-7) 2 = -4 := by decide
  have hcl : clampZ 1099511627776 = 1073741824 := by decide
  have HDv : Hid (∀ W : World, Calls Tryz.prog 21 #[.int .i64 (-7), .int .i64 2] W fun e w' => e = .returned (.int .i64 (-4)) ∧ w' = W) := fun W => by have := hD W; rw [hd7] at this; exact this
  have HCl : Hid (∀ W : World, Calls Tryz.prog 19 #[.int .i64 1099511627776] W fun e w' => e = .returned (.int .i64 1073741824) ∧ w' = W) := fun W => by have := clamp_any 1099511627776 W; rw [hcl] at this; exact this
  clear hD hd7 hcl
  go_enter Tryz.func9, Tryz.ntmps9
  go_wp2_with fail
  refine Calls.mono HSm.out ?_
  rintro e w1 ⟨rfl, hR, hb1⟩
  have HRs := show Hid _ from resolve_t hR
  have HB1 : Hid (Below w.heap.size w w1) := hb1
  clear hR hb1 HSm
  go_wp2_with fail
  refine Calls.mono HRs.out ?_
  rintro e w2 ⟨hb2, ao, qo, vo, tto, uo, oo, ac, qc, vc, tc, uc, oc, rfl, hnil, hrd⟩
  have HNil : Hid (ao = none → ac = 0) := hnil
  have hb4 : Below w2.heap.size w2 ((((w2.alloc (.cells #[.string ⟨#[112]⟩, .slice ao 6 ac, .slice qo 1 qc, .slice vo 1 vc, .slice tto 0 tc, .slice uo 0 uc, .slice oo 1 oc, .int .i64 (-1)] 27)).alloc (.cells #[.int .i64 0, .int .i64 0] 32)).alloc (.cells #[.int .i64 4] 3)).alloc (.cells #[.int .i64 9, .slice (some ⟨w2.heap.size + 1 + 1, 0, none⟩) 1 1] 39)) := ((((Below.refl _ w2).alloc (Nat.le_refl _) _).alloc (by simp) _).alloc (by simp; omega) _).alloc (by simp; omega) _
  have HK4 : Hid (Kw w2.heap.size w ((((w2.alloc (.cells #[.string ⟨#[112]⟩, .slice ao 6 ac, .slice qo 1 qc, .slice vo 1 vc, .slice tto 0 tc, .slice uo 0 uc, .slice oo 1 oc, .int .i64 (-1)] 27)).alloc (.cells #[.int .i64 0, .int .i64 0] 32)).alloc (.cells #[.int .i64 4] 3)).alloc (.cells #[.int .i64 9, .slice (some ⟨w2.heap.size + 1 + 1, 0, none⟩) 1 1] 39)) #[.string ⟨#[112]⟩, .slice ao 6 ac, .slice qo 1 qc, .slice vo 1 vc, .slice tto 0 tc, .slice uo 0 uc, .slice oo 1 oc, .int .i64 (-1)] ao qo vo tto uo oo) := by
    refine ⟨?_, ?_, ?_, ?_, hrd.below hb4, (HB1.out.trans (hb2.mono HB1.out.size)).trans (hb4.mono ((HB1.out.trans (hb2.mono HB1.out.size)).size))⟩
    · rw [alloc_old _ _ _ (by simp; omega), alloc_old _ _ _ (by simp; omega), alloc_old _ _ _ (by simp)]
      exact alloc_at _ _ _ rfl
    · rw [alloc_old _ _ _ (by first | (simp; done) | (simp; omega)), alloc_old _ _ _ (by simp)]
      exact alloc_at _ _ _ (by simp)
    · rw [alloc_old _ _ _ (by simp)]
      exact alloc_at _ _ _ (by simp)
    · exact alloc_at _ _ _ (by simp)
  have hf2 : ((w2.alloc (.cells #[.string ⟨#[112]⟩, .slice ao 6 ac, .slice qo 1 qc, .slice vo 1 vc, .slice tto 0 tc, .slice uo 0 uc, .slice oo 1 oc, .int .i64 (-1)] 27)).alloc (.cells #[.int .i64 0, .int .i64 0] 32)).heap[w2.heap.size + 1]? = some (.cells #[.int .i64 0, .int .i64 0] 32 (0, 0)) := alloc_at _ _ _ (by simp)
  obtain ⟨f0, f1⟩ := cells2 hf2
  obtain ⟨k0, k1, k2, k3, k4, k5, k6, k7⟩ := pol8 HK4.out.p
  have HTy := show Hid _ from types_t (qc := qc) (vc := vc) (tc := tc) (uc := uc) (oc := oc) HK4.out.rd HNil.out
  clear hb2 hb4 hrd hnil hf2 HRs
  go_wp2_with fail
  generalize ((((w2.alloc (.cells #[.string ⟨#[112]⟩, .slice ao 6 ac, .slice qo 1 qc, .slice vo 1 vc, .slice tto 0 tc, .slice uo 0 uc, .slice oo 1 oc, .int .i64 (-1)] 27)).alloc (.cells #[.int .i64 0, .int .i64 0] 32)).alloc (.cells #[.int .i64 4] 3)).alloc (.cells #[.int .i64 9, .slice (some ⟨w2.heap.size + 1 + 1, 0, none⟩) 1 1] 39)) = w4 at *
  generalize w2.heap.size = B at *
  refine Calls.mono HTy.out ?_
  rintro e w5 ⟨hb5, gl, rfl, hgl, hvl⟩
  have HK5 := show Hid _ from HK4.out.below hb5
  have hb6 := below_put0 HK5.out.f
  have HK6 := show Hid _ from HK5.out.below hb6
  have HL6 := show Hid _ from IsVals.below hvl hb6
  have hf : ∀ j, w5.frozen? ⟨B + 1, j, none⟩ = false := fun j => by have := HK5.out.f; simp only [World.frozen?, this]; rfl
  clear f0 f1 k0 k1 k2 k3 k4 k5 k6 k7 hb5 hvl HTy HK4
  obtain ⟨f0, f1⟩ := cells2 HK5.out.f
  obtain ⟨k0, k1, k2, k3, k4, k5, k6, k7⟩ := pol8 HK6.out.p
  obtain ⟨d0, d1⟩ := cells2 HK6.out.c
  have HCk := show Hid _ from check_t (qc := qc) (vc := vc) (tc := tc) (uc := uc) (oc := oc) HK6.out.rd HNil.out HK6.out.q
  clear hb6
  go_wp2_with fail
  generalize ((w5.setCell ⟨B + 1, 0, none⟩ (.int .i64 0)).setCell ⟨B + 1, 1, none⟩ (.int .i64 0)) = w6 at *
  refine Calls.mono HCk.out ?_
  rintro e w7 ⟨hb7, v1, vc1, tv, rv, rfl, hv1, ⟨ta, tb, tcc, rfl⟩, ⟨ra, rb, rcc, rfl⟩⟩
  have HK7 := show Hid _ from HK6.out.below hb7
  have HL7 := show Hid _ from IsVals.below HL6.out hb7
  clear f0 f1 k0 k1 k2 k3 k4 k5 k6 k7 d0 d1 hf hb7 HCk HK5 HK6 HL6
  have hb8 : Below w7.heap.size w7 ((w7.alloc (.cells #[.slice v1 1 vc1, .slice ta tb tcc, .slice ra rb rcc] 51)).alloc (.cells #[.int .i64 0, .int .i64 0] 32)) := ((Below.refl _ w7).alloc (Nat.le_refl _) _).alloc (by simp) _
  have HK8 := show Hid _ from HK7.out.below hb8
  have HL8 := show Hid _ from IsVals.below HL7.out hb8
  have HV8 := show Hid _ from IsVals.below hv1 hb8
  have HT8 : Hid (((w7.alloc (.cells #[.slice v1 1 vc1, .slice ta tb tcc, .slice ra rb rcc] 51)).alloc (.cells #[.int .i64 0, .int .i64 0] 32)).heap[w7.heap.size]? = some (.cells #[.slice v1 1 vc1, .slice ta tb tcc, .slice ra rb rcc] 51 (0, 0)) ∧ ((w7.alloc (.cells #[.slice v1 1 vc1, .slice ta tb tcc, .slice ra rb rcc] 51)).alloc (.cells #[.int .i64 0, .int .i64 0] 32)).heap[w7.heap.size + 1]? = some (.cells #[.int .i64 0, .int .i64 0] 32 (0, 0))) := ⟨by rw [alloc_old _ _ _ (by simp)]; exact alloc_at _ _ _ rfl, alloc_at _ _ _ (by simp)⟩
  obtain ⟨k0, k1, k2, k3, k4, k5, k6, k7⟩ := pol8 HK8.out.p
  obtain ⟨d0, d1⟩ := cells2 HK8.out.c
  have HCo := show Hid _ from const_t (qc := qc) (vc := vc) (tc := tc) (uc := uc) (oc := oc) HK8.out.rd HNil.out HK8.out.q
  clear hb8 hv1 HK7 HL7
  go_wp2_with fail
  generalize ((w7.alloc (.cells #[.slice v1 1 vc1, .slice ta tb tcc, .slice ra rb rcc] 51)).alloc (.cells #[.int .i64 0, .int .i64 0] 32)) = w8 at *
  generalize w7.heap.size = B7 at *
  refine Calls.mono HCo.out ?_
  rintro e w9 ⟨hb9, rfl⟩
  have hb10 : Below w9.heap.size w9 (w9.alloc (.cells #[.int .i64 0, .int .i64 0] 32)) := (Below.refl _ w9).alloc (Nat.le_refl _) _
  have hb11 : Below w9.heap.size w9 ((w9.alloc (.cells #[.int .i64 0, .int .i64 0] 32)).alloc (.cells #[.int .i64 0, .int .i64 0, .int .i64 0, .int .i64 1, .int .i64 1, .int .i64 1] 3)) := hb10.alloc hb10.size _
  have hbA := hb9.trans (hb10.mono hb9.size)
  have hbB := hb9.trans (hb11.mono hb9.size)
  have HKA := show Hid _ from HK8.out.below hbA
  have HKB := show Hid _ from HK8.out.below hbB
  have HLB := show Hid _ from IsVals.below HL8.out hbB
  have HVB := show Hid _ from IsVals.below HV8.out hbB
  have HTB : Hid (((w9.alloc (.cells #[.int .i64 0, .int .i64 0] 32)).alloc (.cells #[.int .i64 0, .int .i64 0, .int .i64 0, .int .i64 1, .int .i64 1, .int .i64 1] 3)).heap[B7]? = some (.cells #[.slice v1 1 vc1, .slice ta tb tcc, .slice ra rb rcc] 51 (0, 0))) := (hbB.block _ (blk_lt HT8.out.1)).trans HT8.out.1
  clear k0 k1 k2 k3 k4 k5 k6 k7 d0 d1
  obtain ⟨f0, f1⟩ := cells2 HKA.out.f
  obtain ⟨g0, g1⟩ := cells2 ((hbA.block _ (blk_lt HT8.out.2)).trans HT8.out.2)
  obtain ⟨e0, e1⟩ := cells2 (heap_alloc_new w9 (.cells #[.int .i64 0, .int .i64 0] 32))
  have HLit : Hid (IsVals ((w9.alloc (.cells #[.int .i64 0, .int .i64 0] 32)).alloc (.cells #[.int .i64 0, .int .i64 0, .int .i64 0, .int .i64 1, .int .i64 1, .int .i64 1] 3)) (some ⟨w9.heap.size + 1, 0, none⟩) (iv tyL)) := fun k x hx => by
    have hz : (w9.alloc (.cells #[.int .i64 0, .int .i64 0] 32)).heap.size = w9.heap.size + 1 := by simp
    have hb := heap_alloc_new (w9.alloc (.cells #[.int .i64 0, .int .i64 0] 32)) (.cells #[.int .i64 0, .int .i64 0, .int .i64 0, .int .i64 1, .int .i64 1, .int .i64 1] 3)
    rw [hz] at hb
    have hk : k < 6 := (List.getElem?_eq_some_iff.1 hx).1
    refine ⟨w9.heap.size + 1, 0, rfl, blk_lt hb, ?_⟩
    obtain rfl | rfl | rfl | rfl | rfl | rfl : k = 0 ∨ k = 1 ∨ k = 2 ∨ k = 3 ∨ k = 4 ∨ k = 5 := by omega
    all_goals
      cases hx
      simp only [World.cell?, hb]
      rfl
  have HSa : Hid (Calls Tryz.prog 14 #[.slice (some ⟨gl, 0, none⟩) 6 6, .slice (some ⟨w9.heap.size + 1, 0, none⟩) 6 6] ((w9.alloc (.cells #[.int .i64 0, .int .i64 0] 32)).alloc (.cells #[.int .i64 0, .int .i64 0, .int .i64 0, .int .i64 1, .int .i64 1, .int .i64 1] 3)) fun e w' => e = .returned (.bool true) ∧ Below ((w9.alloc (.cells #[.int .i64 0, .int .i64 0] 32)).alloc (.cells #[.int .i64 0, .int .i64 0, .int .i64 0, .int .i64 1, .int .i64 1, .int .i64 1] 3)).heap.size ((w9.alloc (.cells #[.int .i64 0, .int .i64 0] 32)).alloc (.cells #[.int .i64 0, .int .i64 0, .int .i64 0, .int .i64 1, .int .i64 1, .int .i64 1] 3)) w') := by
    refine Calls.mono (same17 (l := tyL) (m := tyL) HLB.out HLit.out (by decide)) ?_
    rintro e w' ⟨⟨b, rfl, hb⟩, hbe⟩
    rw [hb.2 rfl]
    exact ⟨rfl, hbe⟩
  clear hb9 hb10 hb11 hbA hbB HK8 HL8 HV8 HT8 HKA HCo HLB HLit
  go_wp2_with fail
  generalize ((w9.alloc (.cells #[.int .i64 0, .int .i64 0] 32)).alloc (.cells #[.int .i64 0, .int .i64 0, .int .i64 0, .int .i64 1, .int .i64 1, .int .i64 1] 3)) = wB at *
  refine Calls.mono HSa.out ?_
  rintro e wC ⟨rfl, hbC⟩
  have HKC := show Hid _ from HKB.out.below hbC
  have hT := (hbC.block _ (blk_lt HTB.out)).trans HTB.out
  have hV := IsVals.below HVB.out hbC
  obtain ⟨vb, vof, rfl, _, x0⟩ := hV 0 _ rfl
  obtain ⟨_, _, ea, _, x1⟩ := hV 1 _ rfl
  cases ea
  obtain ⟨_, _, ea, _, x2⟩ := hV 2 _ rfl
  cases ea
  rw [Nat.add_zero] at x0
  obtain ⟨t0, t1, t2⟩ := cells3 hT
  obtain ⟨k0, k1, k2, k3, k4, k5, k6, k7⟩ := pol8 HKC.out.p
  obtain ⟨d0, d1⟩ := cells2 HKC.out.c
  have HFi := show Hid _ from fitF_t (qc := qc) (vc := vc) (tc := tc) (uc := uc) (oc := oc) HKC.out.rd HNil.out HKC.out.q
  clear hbC HSa f0 f1 g0 g1 e0 e1 hT hV HKB HTB HVB
  go_wp2_with fail
  refine Calls.mono HFi.out ?_
  rintro e wD ⟨hbD, rfl⟩
  have HBD : Hid (Below w.heap.size w wD) := HKC.out.be.trans (hbD.mono HKC.out.be.size)
  clear hbD HFi k0 k1 k2 k3 k4 k5 k6 k7 d0 d1 t0 t1 t2 x0 x1 x2 HKC
  go_wp2_with fail
  refine Calls.mono (HDv.out _) ?_
  rintro e _ ⟨rfl, rfl⟩
  go_wp2_with fail
  refine Calls.mono (HCl.out _) ?_
  rintro e _ ⟨rfl, rfl⟩
  go_wp2
  go_ret
  exact ⟨rfl, HBD.out⟩
end Go.Proofs.YtjoflihimpipcaaGreat.Nm.Ty
namespace Go.Proofs.YtjoflihimpipcaaGreat.Nm.Ty
open Go.RowKit Go.Maps Go.Proofs.YtjoflihimpipcaaGreat.Sp Go.Proofs.YtjoflihimpipcaaGreat.Lx Go.Proofs.YtjoflihimpipcaaGreat.Gr
theorem rclamp_any (n : Int) (w : World) : Calls Tryz.prog 20 #[.int .i64 n] w fun e w' => e = .returned (.int .i64 (clampZ n)) ∧ w' = w := by
  have HE : Hid (clampZ n = max (-1073741824) (min 1073741824 n)) := by show _ = _; unfold clampZ; omega
  go_enter Tryz.func20, Tryz.ntmps20
  go_wp2
  go_ret
  rw [HE.out]
  exact ⟨rfl, rfl⟩
theorem tmod_sub (a b : Int) : a - a.tdiv b * b = a.tmod b := by
  rw [Int.tmod_def, Int.mul_comm]
theorem rdiv_any {a b : Int} (ha : -9223372036854775808 ≤ a ∧ a ≤ 9223372036854775807) (w : World) : Calls Tryz.prog 22 #[.int .i64 a, .int .i64 b] w fun e w' => e = .returned (.int .i64 (divZ a b)) ∧ w' = w := by
  have HC := show Hid _ from rclamp_any
  have HD : Hid (divZ a b = if b = 0 then 0 else if b = -1 then -clampZ a else clampZ (a.tdiv b - if a.tmod b ≠ 0 ∧ ¬ ((a.tmod b < 0) ↔ (b < 0)) then 1 else 0)) := rfl
  by_cases h0 : b = 0
  · have HR : Hid (divZ a b = 0) := by show _ = _; rw [HD.out, if_pos h0]
    subst h0
    go_enter Tryz.func22, Tryz.ntmps22
    go_wp2
    go_ret
    rw [HR.out]
    exact ⟨rfl, rfl⟩
  · by_cases h1 : b = -1
    · have HR : Hid (divZ a b = -clampZ a) := by show _ = _; rw [HD.out, if_neg h0, if_pos h1]
      by_cases h2 : a = -9223372036854775808
      · have HR2 : Hid (divZ a b = 1073741824) := by show _ = _; rw [HR.out, h2]; decide
        subst h1
        subst h2
        clear HD HR
        go_enter Tryz.func22, Tryz.ntmps22
        go_wp2
        go_ret
        rw [HR2.out]
        exact ⟨rfl, rfl⟩
      · have HR2 : Hid (divZ a b = clampZ (-a)) := by show _ = _; rw [HR.out]; unfold clampZ; omega
        have q2 : (a == -9223372036854775808) = false := beq_false_of_ne h2
        have hw0 : IntKind.i64.wrap (-a) = -a := by rw [IntKind.wrap_i64]; omega
        subst h1
        clear HD HR
        go_enter Tryz.func22, Tryz.ntmps22
        go_wp2_with fail
        refine Calls.mono (HC.out _ _) ?_
        rintro e w1 ⟨rfl, hw⟩
        rw [hw]
        clear hw
        go_wp2
        go_ret
        rw [HR2.out]
        exact ⟨rfl, rfl⟩
    · obtain ⟨hq, hq2⟩ := tdiv_in ha h0 h1
      have hr := tmod_in (b := b) ha
      have hsub := tmod_sub a b
      have HR : Hid (divZ a b = clampZ (a.tdiv b - if a.tmod b ≠ 0 ∧ ¬ ((a.tmod b < 0) ↔ (b < 0)) then 1 else 0)) := by show _ = _; rw [HD.out, if_neg h0, if_neg h1]
      have q0 : (b == 0) = false := beq_false_of_ne h0
      have q1 : (b == -1) = false := beq_false_of_ne h1
      have hm : a.tdiv b * b = a - a.tmod b := by omega
      have hpr : -9223372036854775808 ≤ a.tdiv b * b ∧ a.tdiv b * b ≤ 9223372036854775807 := by
        have h3 : (a.tdiv b * b).natAbs ≤ a.natAbs := by rw [Int.natAbs_mul, Int.natAbs_tdiv]; exact Nat.div_mul_le_self _ _
        by_cases hp : 0 ≤ a
        · generalize a.tdiv b * b = z at *; omega
        · have h4 := Int.tmod_nonneg b (show 0 ≤ -a by omega)
          rw [Int.neg_tmod] at h4
          generalize a.tdiv b * b = z at *
          generalize a.tmod b = r at *
          omega
      have hwq : IntKind.i64.wrap (a.tdiv b) = a.tdiv b := by rw [IntKind.wrap_i64]; generalize a.tdiv b = q at *; omega
      have hwm : IntKind.i64.wrap (a.tdiv b * b) = a.tdiv b * b := by rw [IntKind.wrap_i64]; generalize a.tdiv b * b = z at *; omega
      have hws : IntKind.i64.wrap (a - a.tdiv b * b) = a.tmod b := by rw [hsub, IntKind.wrap_i64]; generalize a.tmod b = r at *; omega
      clear HD hm hpr hsub
      by_cases hr0 : a.tmod b = 0
      · have HR2 : Hid (divZ a b = clampZ (a.tdiv b)) := by show _ = _; rw [HR.out, if_neg (fun h => h.1 hr0), Int.sub_zero]
        have hn : (a.tmod b != 0) = false := by simp [hr0]
        clear hr0 hq2
        go_enter Tryz.func22, Tryz.ntmps22
        go_wp2_with fail
        refine Calls.mono (HC.out _ _) ?_
        rintro e w1 ⟨rfl, hw⟩
        rw [hw]
        clear hw
        go_wp2
        go_ret
        rw [HR2.out]
        exact ⟨rfl, rfl⟩
      · have hn : (a.tmod b != 0) = true := by simp [hr0]
        have hq3 := hq2 hr0
        have hw1 : IntKind.i64.wrap (a.tdiv b - 1) = a.tdiv b - 1 := by rw [IntKind.wrap_i64]; generalize a.tdiv b = q at *; omega
        by_cases hs : a.tmod b < 0
        · have hs' : decide (a.tmod b < 0) = true := decide_eq_true hs
          by_cases hb : b < 0
          · have hb' : decide (b < 0) = true := decide_eq_true hb
            have HR2 : Hid (divZ a b = clampZ (a.tdiv b)) := by show _ = _; rw [HR.out, if_neg (fun h => h.2 ⟨fun _ => hb, fun _ => hs⟩), Int.sub_zero]
            go_enter Tryz.func22, Tryz.ntmps22
            go_wp2_with fail
            refine Calls.mono (HC.out _ _) ?_
            rintro e w1 ⟨rfl, hw⟩
            rw [hw]
            clear hw
            go_wp2
            go_ret
            rw [HR2.out]
            exact ⟨rfl, rfl⟩
          · have hb' : decide (b < 0) = false := decide_eq_false hb
            have HR2 : Hid (divZ a b = clampZ (a.tdiv b - 1)) := by show _ = _; rw [HR.out, if_pos ⟨hr0, fun h => hb (h.1 hs)⟩]
            go_enter Tryz.func22, Tryz.ntmps22
            go_wp2_with fail
            refine Calls.mono (HC.out _ _) ?_
            rintro e w1 ⟨rfl, hw⟩
            rw [hw]
            clear hw
            go_wp2
            go_ret
            rw [HR2.out]
            exact ⟨rfl, rfl⟩
        · have hs' : decide (a.tmod b < 0) = false := decide_eq_false hs
          by_cases hb : b < 0
          · have hb' : decide (b < 0) = true := decide_eq_true hb
            have HR2 : Hid (divZ a b = clampZ (a.tdiv b - 1)) := by show _ = _; rw [HR.out, if_pos ⟨hr0, fun h => hs (h.2 hb)⟩]
            go_enter Tryz.func22, Tryz.ntmps22
            go_wp2_with fail
            refine Calls.mono (HC.out _ _) ?_
            rintro e w1 ⟨rfl, hw⟩
            rw [hw]
            clear hw
            go_wp2
            go_ret
            rw [HR2.out]
            exact ⟨rfl, rfl⟩
          · have hb' : decide (b < 0) = false := decide_eq_false hb
            have HR2 : Hid (divZ a b = clampZ (a.tdiv b)) := by show _ = _; rw [HR.out, if_neg (fun h => h.2 ⟨fun h => absurd h hs, fun h => absurd h hb⟩), Int.sub_zero]
            go_enter Tryz.func22, Tryz.ntmps22
            go_wp2_with fail
            refine Calls.mono (HC.out _ _) ?_
            rintro e w1 ⟨rfl, hw⟩
            rw [hw]
            clear hw
            go_wp2
            go_ret
            rw [HR2.out]
            exact ⟨rfl, rfl⟩
end Go.Proofs.YtjoflihimpipcaaGreat.Nm.Ty
namespace Go.Proofs.YtjoflihimpipcaaGreat.Lx
open Go.ChangeShapes Go.WideShapes Go.ChangeAt Go.RowKit Go.Proofs.YtjoflihimpipcaaGreat.Sp
theorem own : ownKnob Tryz.prog.godebug = none := by kernel_rfl
theorem laidOut : laidOutB Tryz.prog = true := by kernel_rfl
theorem bytes5 : Tryz.prog.bytesOf 5 = 1 := by kernel_rfl
theorem open_bytes {H : Type} {enc : TypeId × Value → H} {W : World} {a : Option Addr} {len cap : Nat} {d : DataW H} {p : List MemPlace} (h : DataW.Trod enc Tryz.prog W 0 (fun _ => true) true 188 (.slice a len cap) d p) :
    ∃ s : ByteArray, s.size = len ∧ len ≤ cap ∧ IsBytes W a s ∧ (len = 0 ∨ ∃ el sp, d = .slice el sp ∧ el.length = len) := by
  obtain ⟨fuel, hf⟩ := h
  rcases open_ints Tryz.underlying188 Tryz.underlying5 (by kernel_rfl) hf with ⟨hcs, hx⟩ | ⟨x, l, c, zs, hcs, _, hl, hm, hz, hx, hcell, hwz⟩
  · simp [Value.cells] at hcs
    obtain ⟨rfl, rfl, rfl⟩ := hcs
    exact ⟨ByteArray.empty, rfl, Nat.le_refl _, fun i hi => absurd hi (Nat.not_lt_zero _), Or.inl rfl⟩
  · simp [Value.cells] at hcs
    obtain ⟨rfl, rfl, rfl⟩ := hcs
    simp at hz hx
    obtain ⟨rfl, rfl⟩ := hx
    have hsz : (strOfNums (zs.take len)).size = len := by rw [strOfNums_size]; simp; omega
    refine ⟨strOfNums (zs.take len), hsz, hl, fun i hi => ?_, Or.inr ⟨_, _, rfl, by simp [lits]; omega⟩⟩
    obtain ⟨b, off, spot⟩ := x
    have h0 := hcell 0 (by omega)
    have hspot : spot = none := by simpa [Addr.add] using World.cell?_spot h0
    subst hspot
    have hB : Lib.Bytes W b off (strOfNums (zs.take len)) := Lib.bytes_of_nums (n := len) (by simp; omega) (fun x hx => by
      have hx := bounds_u8 (hwz x (List.mem_of_mem_take hx))
      omega) (fun j hj => by
        have := hcell j (by omega)
        rw [Lib.addr_add] at this
        rw [this]
        simp [List.getD, List.getElem?_take_of_lt hj])
    have hc := hB i hi
    refine ⟨b, off, rfl, World.block_lt_of_cell? W _ hc, ?_⟩
    rw [hc, nb_get _ i hi]
theorem bytes_reach {H : Type} {ts : List TypeId} {ds : List (DataW H)} (hsz : (DataW.weightsEach Tryz.prog ts ds).all (· ≤ reachBytes) = true) {j len : Nat} {d : DataW H} (ht : ts[j]? = some 188) (hd : ds[j]? = some d) (h : len = 0 ∨ ∃ el sp, d = .slice el sp ∧ el.length = len) : len ≤ 140737488351232 := by
  rcases h with rfl | ⟨el, sp, rfl, rfl⟩
  · omega
  · have := sized_slice hsz ht hd Tryz.underlying188
    rw [bytes5] at this
    simp only [reachBytes] at this
    omega
end Go.Proofs.YtjoflihimpipcaaGreat.Lx
namespace Go.Proofs.YtjoflihimpipcaaGreat.Nm.Ty
/-- a number that is handed in -/
theorem wf_in {n : Int} (h : (Lit.int .i64 n).wf = true) : in64 n := by
  simp only [Lit.wf, Bool.and_eq_true, decide_eq_true_eq] at h
  have h1 : IntKind.i64.min = -9223372036854775808 := by decide
  have h2 : IntKind.i64.max = 9223372036854775807 := by decide
  rw [h1, h2] at h
  exact h
end Go.Proofs.YtjoflihimpipcaaGreat.Nm.Ty
