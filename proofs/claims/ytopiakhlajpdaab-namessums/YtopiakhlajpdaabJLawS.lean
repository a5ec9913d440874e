import Derived.Test.YtopiakhlajpdaabJTold
import Derived.Test.YtopiakhlajpdaabJSum
import Derived.Deep.RegionHeld3
import Derived.Test.YtopiakhlajpdaabJBase
import Derived.ProofKit
import Derived.OpenShut
import Derived.ShutString
import Derived.ChangeOld
import Derived.Below
import Derived.JoinedCond
import Derived.SizedLaws
import Derived.SliceStrings
import Derived.ChangeMaps5
import Derived.Test.YtopiakhlajpdaabJWrong
import Derived.Deep.Slices
import Derived.ChangeSame
namespace Go.Proofs.Ytopiakhlajpdaab.Nm
open Go.RowKit Go.Maps Go.Proofs.Ytopiakhlajpdaab.Sp Go.Proofs.Ytopiakhlajpdaab.Lx Go.Proofs.Ytopiakhlajpdaab.Gr

set_option maxHeartbeats 1600000 in
theorem plusB_any (a b : Nat) (ha : a ≤ 4611686018427387904) (hb : b ≤ 4611686018427387904) (w : World) : Calls Try.prog 11 #[.int .i64 a, .int .i64 b] w fun e w' => e = .returned (.int .i64 (pls a b : Nat)) ∧ w' = w := by
  have h1 : (a : Int) ≤ 4611686018427387904 := by omega
  have h2 : (b : Int) ≤ 4611686018427387904 := by omega
  have h3 : decide ((b : Int) < 0) = false := decide_eq_false (by omega)
  have h4 : decide ((a : Int) < 0) = false := decide_eq_false (by omega)
  by_cases hc : 4611686018427387904 - b < a
  · have h5 : decide (4611686018427387904 - (b : Int) < (a : Int)) = true := decide_eq_true (by omega)
    have h6 : 4611686018427387904 - (b : Int) < (a : Int) := by omega
    have HR : Hid (pls a b = 4611686018427387904) := by show _ = _; unfold pls; omega
    clear hc
    go_enter Try.func11, Try.ntmps11
    go_wp2
    go_ret
    exact ⟨by rw [HR.out]; rfl, rfl⟩
  · have h5 : decide (4611686018427387904 - (b : Int) < (a : Int)) = false := decide_eq_false (by omega)
    have HR : Hid (pls a b = a + b) := by show _ = _; unfold pls; omega
    have h7 : (a : Int) + (b : Int) ≤ 4611686018427387904 := by omega
    clear hc
    go_enter Try.func11, Try.ntmps11
    go_wp2
    go_ret
    exact ⟨by rw [HR.out, show ((a + b : Nat) : Int) = (a : Int) + (b : Int) by omega]; rfl, rfl⟩
set_option maxHeartbeats 25600000 in
set_option maxRecDepth 100000 in
theorem sumsWalk (ao : Option Addr) (l : List Rz) (cap : Nat) (w : World) (h : IsRz w ao l) (hn : l.length ≤ 2932031007317) (_hkd : ∀ r ∈ l, r.kids ≤ 9223372036854775807 ∧ r.name.size ≤ 4611686018427387000) :
    Calls Try.prog 3 #[.slice ao l.length cap] w fun e w' => e = .returned (.bool true) ∧ Below w.heap.size w w' := by
  have HI : Hid (IsRz w ao l) := h
  by_cases hf : 65536 < l.length
  · have HF := show Hid _ from far_yes (ao := ao) (cap := cap) hf hn w
    have HB0 : Hid (Below w.heap.size w w) := Below.refl _ _
    clear h hn hf
    go_enter Try.func3, Try.ntmps3
    go_wp2_with fail
    refine Calls.mono HF.out ?_
    rintro _ _ ⟨rfl, rfl⟩
    go_wp2_with fail
    refine Calls.mono (head_any w) ?_
    rintro e wz ⟨rfl, hbz⟩
    have HBz : Hid (Below w.heap.size w wz) := HB0.out.trans (hbz.mono HB0.out.size)
    clear hbz
    go_wp2
    go_ret
    exact ⟨rfl, HBz.out⟩
  · have HF := show Hid _ from far_no (ao := ao) (cap := cap) hf w
    by_cases hf4 : 400 < l.length
    · have hf5 : decide ((400 : Int) < (l.length : Int)) = true := decide_eq_true (by omega)
      have hf6 : (400 : Int) < (l.length : Int) := by omega
      have HB0 : Hid (Below w.heap.size w w) := Below.refl _ _
      clear h hn hf hf4
      go_enter Try.func3, Try.ntmps3
      go_wp2_with fail
      refine Calls.mono HF.out ?_
      rintro _ _ ⟨rfl, rfl⟩
      go_wp2_with fail
      refine Calls.mono (head_any w) ?_
      rintro e wz ⟨rfl, hbz⟩
      have HBz : Hid (Below w.heap.size w wz) := HB0.out.trans (hbz.mono HB0.out.size)
      clear hbz
      go_wp2
      go_ret
      exact ⟨rfl, HBz.out⟩
    have hf5 : decide ((400 : Int) < (l.length : Int)) = false := decide_eq_false (by omega)
    have hf6 : decide (400 < l.length) = false := decide_eq_false (by omega)
    have HN : Hid (l.length ≤ 400) := by show _ ≤ _; omega
    clear h hn hf hf4
    go_enter Try.func3, Try.ntmps3
    go_wp2_with fail
    refine Calls.mono HF.out ?_
    rintro _ _ ⟨rfl, rfl⟩
    go_wp2_with fail
    refine Calls.mono (lendR_any ao l cap w HI.out (by have := HN.out; omega)) ?_
    rintro e w1 ⟨rfl, hR1, hb1⟩
    have HZ1 : Hid (IsRz w1 (some ⟨w.heap.size, 0, none⟩) l ∧ Below w.heap.size w w1) := ⟨RowZ.reads (l' := (List.range 9).map (fun j => mkL (l.length + j)) ++ List.replicate (9 - 9) rz0) hR1, hb1⟩
    clear hR1 hb1
    go_wp2_with fail
    refine Calls.mono (resolve_any (cap := l.length + 9) HZ1.out.1 (by have := HN.out; omega)) ?_
    rintro e w2 hT2
    cases hres : res l with
    | error ci =>
      rw [hres] at hT2
      obtain ⟨hb2, rfl⟩ := hT2
      obtain ⟨c1, c2⟩ := ci
      have hp := res_pos hres
      dsimp only at hp ⊢
      have hc1 : ((c1 : Int) != 0) = true := by simp; omega
      have hb := HZ1.out.2.trans (hb2.mono HZ1.out.2.size)
      have HB3 : Hid (Below w.heap.size w ((w2.alloc (.cells #[.string ⟨#[]⟩, pz, pz, pz, pz, pz, pz, .int .i64 0] 29)).alloc (.cells #[.int .i64 (c1 : Int), .int .i64 (c2 : Int)] 32))) := hb.trans ((((Below.refl _ w2).alloc (Nat.le_refl _) _).alloc (by simp) _).mono hb.size)
      clear hb2 hp hres hb
      go_wp2_with fail
      generalize ((w2.alloc (.cells #[.string ⟨#[]⟩, pz, pz, pz, pz, pz, pz, .int .i64 0] 29)).alloc (.cells #[.int .i64 (c1 : Int), .int .i64 (c2 : Int)] 32)) = w3 at *
      refine Calls.mono (head_any w3) ?_
      rintro e wz ⟨rfl, hbz⟩
      have HBz : Hid (Below w.heap.size w wz) := HB3.out.trans (hbz.mono HB3.out.size)
      clear hbz
      go_wp2
      go_ret
      exact ⟨rfl, HBz.out⟩
    | ok p =>
      rw [hres] at hT2
      obtain ⟨hb2, v, rfl, hpl⟩ := hT2
      have ht7 := res_told7 (by have := HN.out; omega) hres
      have h7 := res_sm7 hres
      have HLen : Hid (p.rows.length ≤ 400) := by show _ ≤ _; rw [ht7.len]; exact HN.out
      have H7 : Hid (Sm7 l p) := h7
      have HSn : Hid (∀ k x : Nat, (sumsOf p.rows p.us)[k]? = some x → x ≤ 4611686018427387904) := sumsN_le _ _ _
      have HPl : Hid (∀ (a b : Nat) (W : World), a ≤ 4611686018427387904 → b ≤ 4611686018427387904 → Calls Try.prog 11 #[.int .i64 a, .int .i64 b] W fun e w' => e = .returned (.int .i64 (pls a b : Nat)) ∧ W = w') := fun a b W ha hb => Calls.mono (plusB_any a b ha hb W) (fun _ _ h => ⟨h.1, h.2.symm⟩)
      obtain ⟨rb, ac, qv, vv, tv, uv, ov, rfl, hrb, hr, hq, hv, ht, hu, ho⟩ := hpl.ex
      obtain ⟨qo, qc, rfl⟩ := own_form hq
      obtain ⟨vo, vc, rfl⟩ := own_form hv
      obtain ⟨tto, tc, rfl⟩ := own_form ht
      obtain ⟨uo, uc, rfl⟩ := own_form hu
      obtain ⟨oo, oc, rfl⟩ := own_form ho
      have hsm := ht7.sm
      have HLd : Hid (∀ {bx base : Nat} (W : World) (row : Nat), Ps W p bx rb base ac qo vo tto uo oo qc vc tc uc oc → row < p.rows.length → Calls Try.prog 12 #[.agg #[.string p.name, .slice (some ⟨rb, 0, none⟩) p.rows.length ac, .slice qo p.qs.length qc, .slice vo p.vs.length vc, .slice tto p.ts.length tc, .slice uo p.us.length uc, .slice oo p.on.length oc, .int .i64 p.miss], .int .i64 (row : Int)] W fun e w' => e = .returned (.int .i64 (laidAt p.rows (sumsOf p.rows p.us) row : Nat)) ∧ Below W.heap.size W w') := fun W row hP hrow => by
        have hrd := hP.rd
        exact laid_told (p := p) (ac := ac) (qc := qc) (vc := vc) (tc := tc) (uc := uc) (oc := oc) ⟨hrd.r, hrd.q, hrd.v, hrd.t, hrd.u, hrd.o⟩ (nats_of hP.u).1 (nats_of hP.u).2 ⟨hsm.r, by have := h7.ln.1; omega, by have := h7.ln.2.1; omega, by have := h7.ln.2.2.1; omega, by have := h7.us; omega, by have := h7.ln.2.2.2; omega⟩ h7.us h7.tree h7.ul hrow
      have hb3 : Below w2.heap.size w2 ((w2.alloc (.cells #[.string p.name, .slice (some ⟨rb, 0, none⟩) p.rows.length ac, .slice qo p.qs.length qc, .slice vo p.vs.length vc, .slice tto p.ts.length tc, .slice uo p.us.length uc, .slice oo p.on.length oc, .int .i64 p.miss] 29)).alloc (.cells #[.int .i64 0, .int .i64 0] 32)) := ((Below.refl _ w2).alloc (Nat.le_refl _) _).alloc (by simp) _
      have H4 : Hid (Ps ((w2.alloc (.cells #[.string p.name, .slice (some ⟨rb, 0, none⟩) p.rows.length ac, .slice qo p.qs.length qc, .slice vo p.vs.length vc, .slice tto p.ts.length tc, .slice uo p.us.length uc, .slice oo p.on.length oc, .int .i64 p.miss] 29)).alloc (.cells #[.int .i64 0, .int .i64 0] 32)) p w2.heap.size rb w1.heap.size ac qo vo tto uo oo qc vc tc uc oc ∧ Below w.heap.size w ((w2.alloc (.cells #[.string p.name, .slice (some ⟨rb, 0, none⟩) p.rows.length ac, .slice qo p.qs.length qc, .slice vo p.vs.length vc, .slice tto p.ts.length tc, .slice uo p.us.length uc, .slice oo p.on.length oc, .int .i64 p.miss] 29)).alloc (.cells #[.int .i64 0, .int .i64 0] 32))) := by
        have hb := HZ1.out.2.trans (hb2.mono HZ1.out.2.size)
        exact ⟨⟨by rw [alloc_old _ _ _ (by simp)]; exact alloc_at _ _ _ rfl, hr.same (hb3.block _ hr.lt), own_below hq hb3, own_below hv hb3, own_below ht hb3, own_below hu hb3, own_below ho hb3⟩, hb.trans (hb3.mono hb.size)⟩
      clear hb2 hpl hrb hr hq hv ht hu ho hb3 hres ht7 h7 hsm
      go_wp2_with fail
      generalize ((w2.alloc (.cells #[.string p.name, .slice (some ⟨rb, 0, none⟩) p.rows.length ac, .slice qo p.qs.length qc, .slice vo p.vs.length vc, .slice tto p.ts.length tc, .slice uo p.us.length uc, .slice oo p.on.length oc, .int .i64 p.miss] 29)).alloc (.cells #[.int .i64 0, .int .i64 0] 32)) = w4 at *
      generalize w2.heap.size = bx at *
      generalize w1.heap.size = base at *
      go_loopg [5] p.rows.length (fun gq x wr => ∃ i : Nat, i + gq = p.rows.length ∧ x = .int .i64 (i : Int) ∧ Below w4.heap.size w4 wr)
      case atStart => exact ⟨0, by omega, rfl, Below.refl _ _⟩
      case round =>
        obtain ⟨i, hig, rfl, hbr⟩ := hrel
        have HPr : Hid (Ps wr p bx rb base ac qo vo tto uo oo qc vc tc uc oc ∧ Below w4.heap.size w4 wr) := ⟨H4.out.1.below hbr, hbr⟩
        obtain ⟨k0, k1, k2, k3, k4, k5, k6, k7⟩ := pol8 HPr.out.1.bx
        by_cases hlt : i < p.rows.length
        · have hi1 : (i : Int) < (p.rows.length : Int) := by omega
          have hi2 : (i : Int) ≤ 400 := by have := HLen.out; omega
          have HK : Hid (i + gk = p.rows.length ∧ i < p.rows.length) := ⟨hig, hlt⟩
          have HKi := show Hid _ from kids_any (some ⟨rb, 0, none⟩) p.rows ac i wr HPr.out.1.r.rz (by have := HLen.out; omega) H7.out.tree hlt
          clear hig hbr hlt
          go_wp2_with fail
          refine Calls.mono HKi.out ?_
          rintro e w5 ⟨kv, rfl, hkv, hb5⟩
          obtain ⟨ko, kc, rfl⟩ := own_form hkv
          have HP5 : Hid (Ps w5 p bx rb base ac qo vo tto uo oo qc vc tc uc oc ∧ Below w4.heap.size w4 w5) := ⟨HPr.out.1.below hb5, HPr.out.2.trans (hb5.mono HPr.out.2.size)⟩
          have HKv : Hid (IsVals w5 ko ((kl p.rows i (km p.rows i)).map nc)) := vals_of hkv
          have hkm : ((km p.rows i) : Int) ≤ 400 := by have := km_le H7.out.tree.whole HK.out.2; have := HLen.out; omega
          clear k0 k1 k2 k3 k4 k5 k6 k7 hkv hb5 HKi
          go_wp2_with fail
          go_loopg [6, 8] (km p.rows i) (fun gq x y wr => ∃ k : Nat, k + gq = (km p.rows i) ∧ x = .int .i64 (kidSum p.rows (sumsOf p.rows p.us) i k : Nat) ∧ y = .int .i64 (k : Int) ∧ Below w5.heap.size w5 wr)
          case atStart => exact ⟨0, by omega, rfl, rfl, Below.refl _ _⟩
          case round =>
            obtain ⟨k, hkg, rfl, rfl, hbk⟩ := hrel
            have HPk : Hid (Ps wr p bx rb base ac qo vo tto uo oo qc vc tc uc oc ∧ Below w4.heap.size w4 wr) := ⟨HP5.out.1.below hbk, HP5.out.2.trans (hbk.mono HP5.out.2.size)⟩
            have HB5 : Hid (Below w5.heap.size w5 wr) := hbk
            by_cases hkk : k < (km p.rows i)
            · have hk1 : (k : Int) < ((km p.rows i) : Int) := by omega
              have hk2 : (k : Int) ≤ 400 := by omega
              have HKk : Hid (k + gk = (km p.rows i) ∧ k < (km p.rows i)) := ⟨hkg, hkk⟩
              have brow : kidp p.rows i k < p.rows.length := (kid_at H7.out.tree.whole HK.out.2 hkk).1
              obtain ⟨kg, kof, rfl, _, hex⟩ := (HKv.out.below hbk) k (.int .i64 (kidp p.rows i k : Nat)) (by simp [kl, hkk, nc])
              have HNx : Hid (kidSum p.rows (sumsOf p.rows p.us) i (k + 1) = pls (kidSum p.rows (sumsOf p.rows p.us) i k) (laidAt p.rows (sumsOf p.rows p.us) (kidp p.rows i k))) := rfl
              clear hkg hbk hkk
              go_wp2_with fail
              have hS0 : wr.drew.cell? ⟨bx, 0, none⟩ = some (.string p.name) ∧ wr.drew.cell? ⟨bx, 1, none⟩ = some (.slice (some ⟨rb, 0, none⟩) p.rows.length ac) ∧ wr.drew.cell? ⟨bx, 2, none⟩ = some (.slice qo p.qs.length qc) ∧ wr.drew.cell? ⟨bx, 3, none⟩ = some (.slice vo p.vs.length vc) ∧ wr.drew.cell? ⟨bx, 4, none⟩ = some (.slice tto p.ts.length tc) ∧ wr.drew.cell? ⟨bx, 5, none⟩ = some (.slice uo p.us.length uc) ∧ wr.drew.cell? ⟨bx, 6, none⟩ = some (.slice oo p.on.length oc) ∧ wr.drew.cell? ⟨bx, 7, none⟩ = some (.int .i64 p.miss) ∧ wr.drew.cell? ⟨kg, kof + k, none⟩ = some (.int .i64 (kidp p.rows i k : Nat)) := by
                obtain ⟨q0, q1, q2, q3, q4, q5, q6, q7⟩ := pol8 HPk.out.1.bx
                exact ⟨q0, q1, q2, q3, q4, q5, q6, q7, hex⟩
              refine wp_region_held (S := fun w' => w'.cell? ⟨bx, 0, none⟩ = some (.string p.name) ∧ w'.cell? ⟨bx, 1, none⟩ = some (.slice (some ⟨rb, 0, none⟩) p.rows.length ac) ∧ w'.cell? ⟨bx, 2, none⟩ = some (.slice qo p.qs.length qc) ∧ w'.cell? ⟨bx, 3, none⟩ = some (.slice vo p.vs.length vc) ∧ w'.cell? ⟨bx, 4, none⟩ = some (.slice tto p.ts.length tc) ∧ w'.cell? ⟨bx, 5, none⟩ = some (.slice uo p.us.length uc) ∧ w'.cell? ⟨bx, 6, none⟩ = some (.slice oo p.on.length oc) ∧ w'.cell? ⟨bx, 7, none⟩ = some (.int .i64 p.miss) ∧ w'.cell? ⟨kg, kof + k, none⟩ = some (.int .i64 (kidp p.rows i k : Nat))) (by kernel_rfl) ?_
              have hS : (fun w' : World => w'.cell? ⟨bx, 0, none⟩ = some (.string p.name) ∧ w'.cell? ⟨bx, 1, none⟩ = some (.slice (some ⟨rb, 0, none⟩) p.rows.length ac) ∧ w'.cell? ⟨bx, 2, none⟩ = some (.slice qo p.qs.length qc) ∧ w'.cell? ⟨bx, 3, none⟩ = some (.slice vo p.vs.length vc) ∧ w'.cell? ⟨bx, 4, none⟩ = some (.slice tto p.ts.length tc) ∧ w'.cell? ⟨bx, 5, none⟩ = some (.slice uo p.us.length uc) ∧ w'.cell? ⟨bx, 6, none⟩ = some (.slice oo p.on.length oc) ∧ w'.cell? ⟨bx, 7, none⟩ = some (.int .i64 p.miss) ∧ w'.cell? ⟨kg, kof + k, none⟩ = some (.int .i64 (kidp p.rows i k : Nat))) wr.drew := hS0
              change wpAnyH _ _ _ _ _ _ _ _ wr.drew
              refine wpAnyH_take (i := 0) (v := ?bv0) rfl (by kernel_rfl) (by kernel_rfl) (by kernel_rfl) (fun _ _ _ h => h) (Or.inl ⟨by rfl, ?by0⟩) hS ?br0
              case by0 =>
                intro w hSw
                try dsimp only at hSw
                obtain ⟨g0, g1, g2, g3, g4, g5, g6, g7, g8⟩ := hSw
                first
                  | (go_simp; done)
                  | (go_simp; with_reducible rfl)
              refine wpAnyH_take (i := 1) (v := ?bv1) rfl (by kernel_rfl) (by kernel_rfl) (by kernel_rfl) (fun _ _ _ h => h) (Or.inl ⟨by rfl, ?by1⟩) hS ?br1
              case by1 =>
                intro w hSw
                try dsimp only at hSw
                obtain ⟨g0, g1, g2, g3, g4, g5, g6, g7, g8⟩ := hSw
                first
                  | (go_simp; done)
                  | (go_simp; with_reducible rfl)
              refine wpAnyH_take (i := 2) (v := ?bv2) rfl (by kernel_rfl) (by kernel_rfl) (by kernel_rfl) (fun _ _ _ h => h) (Or.inl ⟨by rfl, ?by2⟩) hS ?br2
              case by2 =>
                intro w hSw
                try dsimp only at hSw
                obtain ⟨g0, g1, g2, g3, g4, g5, g6, g7, g8⟩ := hSw
                first
                  | (go_simp; done)
                  | (go_simp; with_reducible rfl)
              refine wpAnyH_take (i := 3) (v := ?bv3) rfl (by kernel_rfl) (by kernel_rfl) (by kernel_rfl) (fun _ _ _ h => h) (Or.inl ⟨by rfl, ?by3⟩) hS ?br3
              case by3 =>
                intro w hSw
                try dsimp only at hSw
                obtain ⟨g0, g1, g2, g3, g4, g5, g6, g7, g8⟩ := hSw
                first
                  | (go_simp; done)
                  | (go_simp; with_reducible rfl)
              refine wpAnyH_take (i := 4) (v := ?bv4) rfl (by kernel_rfl) (by kernel_rfl) (by kernel_rfl) (fun _ _ _ h => h) (Or.inl ⟨by rfl, ?by4⟩) hS ?br4
              case by4 =>
                intro w hSw
                try dsimp only at hSw
                obtain ⟨g0, g1, g2, g3, g4, g5, g6, g7, g8⟩ := hSw
                first
                  | (go_simp; done)
                  | (go_simp; with_reducible rfl)
              refine wpAnyH_take (i := 5) (v := ?bv5) rfl (by kernel_rfl) (by kernel_rfl) (by kernel_rfl) (fun _ _ _ h => h) (Or.inl ⟨by rfl, ?by5⟩) hS ?br5
              case by5 =>
                intro w hSw
                try dsimp only at hSw
                obtain ⟨g0, g1, g2, g3, g4, g5, g6, g7, g8⟩ := hSw
                first
                  | (go_simp; done)
                  | (go_simp; with_reducible rfl)
              refine wpAnyH_ready (rs := [6]) (by kernel_rfl) (by simp) ?_
              refine AllReadyH.cons rfl (fun K hK => ?_) AllReadyH.nil
              go_simp
              refine Calls.mono (HLd.out wr.drew (kidp p.rows i k) (HPk.out.1.below (Below.refl _ wr).drew) brow) ?_
              rintro e w9 ⟨rfl, hb9⟩
              have hbd : Below wr.heap.size wr w9 := (Below.refl _ wr).drew.trans (hb9.mono (Nat.le_refl _))
              have hP9 := HPk.out.1.below hbd
              have hS9 : w9.cell? ⟨bx, 0, none⟩ = some (.string p.name) ∧ w9.cell? ⟨bx, 1, none⟩ = some (.slice (some ⟨rb, 0, none⟩) p.rows.length ac) ∧ w9.cell? ⟨bx, 2, none⟩ = some (.slice qo p.qs.length qc) ∧ w9.cell? ⟨bx, 3, none⟩ = some (.slice vo p.vs.length vc) ∧ w9.cell? ⟨bx, 4, none⟩ = some (.slice tto p.ts.length tc) ∧ w9.cell? ⟨bx, 5, none⟩ = some (.slice uo p.us.length uc) ∧ w9.cell? ⟨bx, 6, none⟩ = some (.slice oo p.on.length oc) ∧ w9.cell? ⟨bx, 7, none⟩ = some (.int .i64 p.miss) ∧ w9.cell? ⟨kg, kof + k, none⟩ = some (.int .i64 (kidp p.rows i k : Nat)) := by
                obtain ⟨q0, q1, q2, q3, q4, q5, q6, q7⟩ := pol8 hP9.bx
                exact ⟨q0, q1, q2, q3, q4, q5, q6, q7, (hbd.cell (p := ⟨kg, kof + k, none⟩) (World.block_lt_of_cell? wr _ hex)).trans hex⟩
              have HP9 : Hid (Ps w9 p bx rb base ac qo vo tto uo oo qc vc tc uc oc ∧ Below w4.heap.size w4 w9) := ⟨hP9, HPk.out.2.trans (hbd.mono HPk.out.2.size)⟩
              clear hb9 hP9
              refine hK.out _ _ hS9 (fun hS => ?_)
              refine wpAnyH_ready (rs := [7]) (by kernel_rfl) (by simp) ?_
              refine AllReadyH.cons rfl (fun K hK => ?_) AllReadyH.nil
              go_simp
              refine Calls.mono (HPl.out (kidSum p.rows (sumsOf p.rows p.us) i k) (laidAt p.rows (sumsOf p.rows p.us) (kidp p.rows i k)) w9 (kidSum_le HSn.out _ _) (laidAt_le HSn.out _)) ?_
              rintro _ _ ⟨rfl, rfl⟩
              refine hK.out _ _ hS9 (fun hS => ?_)
              refine wpAnyH_ready (rs := [8]) (by kernel_rfl) (by simp) ?_
              refine AllReadyH.cons rfl (fun K hK => ?_) AllReadyH.nil
              go_simp
              refine hK.out _ _ hS9 (fun hS => ?_)
              refine wpAnyH_done (by kernel_rfl) ?_ _
              clear hS hS0 hS9 hex
              have HB9 : Hid (Below w5.heap.size w5 w9) := HB5.out.trans (hbd.mono HB5.out.size)
              clear hbd brow
              go_wp2_with fail
              go_roundg ((km p.rows i) - (k + 1))
              case measure => have := HKk.out.1; have := HKk.out.2; omega
              case rel => exact ⟨k + 1, by have := HKk.out.2; omega, by rw [HNx.out], by go_num, HB9.out⟩
            · have hk1 : decide ((k : Int) < ((km p.rows i) : Int)) = false := decide_eq_false (by omega)
              have hk2 : decide (k < (km p.rows i)) = false := decide_eq_false hkk
              obtain rfl : k = (km p.rows i) := by omega
              clear hkg hbk hkk
              obtain ⟨W6, rfl⟩ : ∃ W6, W6 = wr := ⟨_, rfl⟩
              obtain ⟨c0, _, _, c3, _⟩ := HPk.out.1.r.cells (some_rat HK.out.2)
              by_cases h22 : (rat p.rows i).kind = 22
              · obtain ⟨n, hn, h1, h2, h3⟩ := H7.out.call i HK.out.2 h22
                rw [h22] at c0
                rw [h1] at c3
                have hn1 : (n : Int) < (p.us.length : Int) := by omega
                have hn2 : decide ((p.us.length : Int) ≤ (n : Int)) = false := decide_eq_false (by omega)
                have hn4 : decide (p.us.length ≤ n) = false := decide_eq_false (by omega)
                have hn3 : decide ((n : Int) < 0) = false := decide_eq_false (by omega)
                have hnU : (n : Int) ≤ 64 := by have := H7.out.us; omega
                obtain ⟨ug, uof, hue, _, hex⟩ := (nats_of HPk.out.1.u).1 n p.us[n] (List.getElem?_eq_getElem hn)
                have crow : p.us[n] < p.rows.length := H7.out.ul _ (List.getElem_mem hn)
                have hui : decide ((i : Int) ≤ (p.us[n] : Int)) = false := decide_eq_false (by omega)
                have hui2 : decide (i ≤ p.us[n]) = false := decide_eq_false (by omega)
                generalize p.us[n] = u at *
                have hu1 : (u : Int) ≤ 400 := by have := HLen.out; omega
                subst hue
                obtain ⟨k0, k1, k2, k3, k4, k5, k6, k7⟩ := pol8 HPk.out.1.bx
                go_wp2_with fail
                clear k0 k1 k2 k3 k4 k5 k6 k7 c0 c3
                have hS0 : W6.drew.cell? ⟨bx, 0, none⟩ = some (.string p.name) ∧ W6.drew.cell? ⟨bx, 1, none⟩ = some (.slice (some ⟨rb, 0, none⟩) p.rows.length ac) ∧ W6.drew.cell? ⟨bx, 2, none⟩ = some (.slice qo p.qs.length qc) ∧ W6.drew.cell? ⟨bx, 3, none⟩ = some (.slice vo p.vs.length vc) ∧ W6.drew.cell? ⟨bx, 4, none⟩ = some (.slice tto p.ts.length tc) ∧ W6.drew.cell? ⟨bx, 5, none⟩ = some (.slice (some ⟨ug, uof, none⟩) p.us.length uc) ∧ W6.drew.cell? ⟨bx, 6, none⟩ = some (.slice oo p.on.length oc) ∧ W6.drew.cell? ⟨bx, 7, none⟩ = some (.int .i64 p.miss) ∧ W6.drew.cell? ⟨ug, uof + n, none⟩ = some (.int .i64 (u : Nat)) := by
                  obtain ⟨q0, q1, q2, q3, q4, q5, q6, q7⟩ := pol8 HPk.out.1.bx
                  exact ⟨q0, q1, q2, q3, q4, q5, q6, q7, hex⟩
                refine wp_region_held (S := fun w' => w'.cell? ⟨bx, 0, none⟩ = some (.string p.name) ∧ w'.cell? ⟨bx, 1, none⟩ = some (.slice (some ⟨rb, 0, none⟩) p.rows.length ac) ∧ w'.cell? ⟨bx, 2, none⟩ = some (.slice qo p.qs.length qc) ∧ w'.cell? ⟨bx, 3, none⟩ = some (.slice vo p.vs.length vc) ∧ w'.cell? ⟨bx, 4, none⟩ = some (.slice tto p.ts.length tc) ∧ w'.cell? ⟨bx, 5, none⟩ = some (.slice (some ⟨ug, uof, none⟩) p.us.length uc) ∧ w'.cell? ⟨bx, 6, none⟩ = some (.slice oo p.on.length oc) ∧ w'.cell? ⟨bx, 7, none⟩ = some (.int .i64 p.miss) ∧ w'.cell? ⟨ug, uof + n, none⟩ = some (.int .i64 (u : Nat))) (by kernel_rfl) ?_
                have hS : (fun w' : World => w'.cell? ⟨bx, 0, none⟩ = some (.string p.name) ∧ w'.cell? ⟨bx, 1, none⟩ = some (.slice (some ⟨rb, 0, none⟩) p.rows.length ac) ∧ w'.cell? ⟨bx, 2, none⟩ = some (.slice qo p.qs.length qc) ∧ w'.cell? ⟨bx, 3, none⟩ = some (.slice vo p.vs.length vc) ∧ w'.cell? ⟨bx, 4, none⟩ = some (.slice tto p.ts.length tc) ∧ w'.cell? ⟨bx, 5, none⟩ = some (.slice (some ⟨ug, uof, none⟩) p.us.length uc) ∧ w'.cell? ⟨bx, 6, none⟩ = some (.slice oo p.on.length oc) ∧ w'.cell? ⟨bx, 7, none⟩ = some (.int .i64 p.miss) ∧ w'.cell? ⟨ug, uof + n, none⟩ = some (.int .i64 (u : Nat))) W6.drew := hS0
                change wpAnyH _ _ _ _ _ _ _ _ W6.drew
                refine wpAnyH_take (i := 0) (v := ?cv0) rfl (by kernel_rfl) (by kernel_rfl) (by kernel_rfl) (fun _ _ _ h => h) (Or.inl ⟨by rfl, ?cy0⟩) hS ?cr0
                case cy0 =>
                  intro w hSw
                  try dsimp only at hSw
                  obtain ⟨g0, g1, g2, g3, g4, g5, g6, g7, g8⟩ := hSw
                  first
                    | (go_simp; done)
                    | (go_simp; with_reducible rfl)
                refine wpAnyH_take (i := 1) (v := ?cv1) rfl (by kernel_rfl) (by kernel_rfl) (by kernel_rfl) (fun _ _ _ h => h) (Or.inl ⟨by rfl, ?cy1⟩) hS ?cr1
                case cy1 =>
                  intro w hSw
                  try dsimp only at hSw
                  obtain ⟨g0, g1, g2, g3, g4, g5, g6, g7, g8⟩ := hSw
                  first
                    | (go_simp; done)
                    | (go_simp; with_reducible rfl)
                refine wpAnyH_take (i := 2) (v := ?cv2) rfl (by kernel_rfl) (by kernel_rfl) (by kernel_rfl) (fun _ _ _ h => h) (Or.inl ⟨by rfl, ?cy2⟩) hS ?cr2
                case cy2 =>
                  intro w hSw
                  try dsimp only at hSw
                  obtain ⟨g0, g1, g2, g3, g4, g5, g6, g7, g8⟩ := hSw
                  first
                    | (go_simp; done)
                    | (go_simp; with_reducible rfl)
                refine wpAnyH_take (i := 3) (v := ?cv3) rfl (by kernel_rfl) (by kernel_rfl) (by kernel_rfl) (fun _ _ _ h => h) (Or.inl ⟨by rfl, ?cy3⟩) hS ?cr3
                case cy3 =>
                  intro w hSw
                  try dsimp only at hSw
                  obtain ⟨g0, g1, g2, g3, g4, g5, g6, g7, g8⟩ := hSw
                  first
                    | (go_simp; done)
                    | (go_simp; with_reducible rfl)
                refine wpAnyH_take (i := 4) (v := ?cv4) rfl (by kernel_rfl) (by kernel_rfl) (by kernel_rfl) (fun _ _ _ h => h) (Or.inl ⟨by rfl, ?cy4⟩) hS ?cr4
                case cy4 =>
                  intro w hSw
                  try dsimp only at hSw
                  obtain ⟨g0, g1, g2, g3, g4, g5, g6, g7, g8⟩ := hSw
                  first
                    | (go_simp; done)
                    | (go_simp; with_reducible rfl)
                refine wpAnyH_take (i := 5) (v := ?cv5) rfl (by kernel_rfl) (by kernel_rfl) (by kernel_rfl) (fun _ _ _ h => h) (Or.inl ⟨by rfl, ?cy5⟩) hS ?cr5
                case cy5 =>
                  intro w hSw
                  try dsimp only at hSw
                  obtain ⟨g0, g1, g2, g3, g4, g5, g6, g7, g8⟩ := hSw
                  first
                    | (go_simp; done)
                    | (go_simp; with_reducible rfl)
                refine wpAnyH_take (i := 6) (v := ?cv6) rfl (by kernel_rfl) (by kernel_rfl) (by kernel_rfl) (fun _ _ _ h => h) (Or.inl ⟨by rfl, ?cy6⟩) hS ?cr6
                case cy6 =>
                  intro w hSw
                  try dsimp only at hSw
                  obtain ⟨g0, g1, g2, g3, g4, g5, g6, g7, g8⟩ := hSw
                  first
                    | (go_simp; done)
                    | (go_simp; with_reducible rfl)
                refine wpAnyH_ready (rs := [7]) (by kernel_rfl) (by simp) ?_
                refine AllReadyH.cons rfl (fun K hK => ?_) AllReadyH.nil
                go_simp
                refine Calls.mono (HLd.out W6.drew u (HPk.out.1.below (Below.refl _ W6).drew) crow) ?_
                rintro e w9 ⟨rfl, hb9⟩
                have hbd : Below W6.heap.size W6 w9 := (Below.refl _ W6).drew.trans (hb9.mono (Nat.le_refl _))
                have hP9 := HPk.out.1.below hbd
                have hS9 : w9.cell? ⟨bx, 0, none⟩ = some (.string p.name) ∧ w9.cell? ⟨bx, 1, none⟩ = some (.slice (some ⟨rb, 0, none⟩) p.rows.length ac) ∧ w9.cell? ⟨bx, 2, none⟩ = some (.slice qo p.qs.length qc) ∧ w9.cell? ⟨bx, 3, none⟩ = some (.slice vo p.vs.length vc) ∧ w9.cell? ⟨bx, 4, none⟩ = some (.slice tto p.ts.length tc) ∧ w9.cell? ⟨bx, 5, none⟩ = some (.slice (some ⟨ug, uof, none⟩) p.us.length uc) ∧ w9.cell? ⟨bx, 6, none⟩ = some (.slice oo p.on.length oc) ∧ w9.cell? ⟨bx, 7, none⟩ = some (.int .i64 p.miss) ∧ w9.cell? ⟨ug, uof + n, none⟩ = some (.int .i64 (u : Nat)) := by
                  obtain ⟨q0, q1, q2, q3, q4, q5, q6, q7⟩ := pol8 hP9.bx
                  exact ⟨q0, q1, q2, q3, q4, q5, q6, q7, (hbd.cell (p := ⟨ug, uof + n, none⟩) (World.block_lt_of_cell? W6 _ hex)).trans hex⟩
                have HP9 : Hid (Ps w9 p bx rb base ac qo vo tto (some ⟨ug, uof, none⟩) oo qc vc tc uc oc ∧ Below w4.heap.size w4 w9) := ⟨hP9, HPk.out.2.trans (hbd.mono HPk.out.2.size)⟩
                clear hb9 hP9
                refine hK.out _ _ hS9 (fun hS => ?_)
                refine wpAnyH_ready (rs := [8]) (by kernel_rfl) (by simp) ?_
                refine AllReadyH.cons rfl (fun K hK => ?_) AllReadyH.nil
                go_simp
                refine Calls.mono (HPl.out (kidSum p.rows (sumsOf p.rows p.us) i (km p.rows i)) (laidAt p.rows (sumsOf p.rows p.us) u) w9 (kidSum_le HSn.out _ _) (laidAt_le HSn.out _)) ?_
                rintro _ _ ⟨rfl, rfl⟩
                refine hK.out _ _ hS9 (fun hS => ?_)
                refine wpAnyH_ready (rs := [9]) (by kernel_rfl) (by simp) ?_
                refine AllReadyH.cons rfl (fun K hK => ?_) AllReadyH.nil
                go_simp
                refine hK.out _ _ hS9 (fun hS => ?_)
                refine wpAnyH_done (by kernel_rfl) ?_ _
                clear hS hS0 hS9 hex
                clear hbd crow
                obtain ⟨k0, k1, k2, k3, k4, k5, k6, k7⟩ := pol8 HP9.out.1.bx
                have HLi := show Hid _ from HLd.out w9 i HP9.out.1 HK.out.2
                have hEq : laidAt p.rows (sumsOf p.rows p.us) i = pls (kidSum p.rows (sumsOf p.rows p.us) i (km p.rows i)) (laidAt p.rows (sumsOf p.rows p.us) u) := h3
                rw [hEq] at HLi
                have hne : ((pls (kidSum p.rows (sumsOf p.rows p.us) i (km p.rows i)) (laidAt p.rows (sumsOf p.rows p.us) u) : Nat) : Int) = ((pls (kidSum p.rows (sumsOf p.rows p.us) i (km p.rows i)) (laidAt p.rows (sumsOf p.rows p.us) u) : Nat) : Int) := rfl
                have hne2 : (((pls (kidSum p.rows (sumsOf p.rows p.us) i (km p.rows i)) (laidAt p.rows (sumsOf p.rows p.us) u) : Nat) : Int) != ((pls (kidSum p.rows (sumsOf p.rows p.us) i (km p.rows i)) (laidAt p.rows (sumsOf p.rows p.us) u) : Nat) : Int)) = false := by simp
                clear hEq hne
                go_wp2_with fail
                refine Calls.mono HLi.out ?_
                rintro e wy ⟨rfl, hby⟩
                have HBy : Hid (Below w4.heap.size w4 wy) := HP9.out.2.trans (hby.mono HP9.out.2.size)
                clear hby k0 k1 k2 k3 k4 k5 k6 k7 HLi
                go_wp2_with fail
                go_roundg (p.rows.length - (i + 1))
                case measure => have := HK.out.1; have := HK.out.2; omega
                case rel => exact ⟨i + 1, by have := HK.out.2; omega, by go_num, HBy.out⟩
              · have hk22 : ((rat p.rows i).kind == 22) = false := by rw [beq_eq_false_iff_ne]; exact h22
                have h3 := H7.out.plain i HK.out.2 h22
                generalize (rat p.rows i).kind = kd at *
                clear h22 c3
                obtain ⟨k0, k1, k2, k3, k4, k5, k6, k7⟩ := pol8 HPk.out.1.bx
                have HLi := show Hid _ from HLd.out W6 i HPk.out.1 HK.out.2
                have hEq : laidAt p.rows (sumsOf p.rows p.us) i = kidSum p.rows (sumsOf p.rows p.us) i (km p.rows i) := h3
                rw [hEq] at HLi
                have hne : ((kidSum p.rows (sumsOf p.rows p.us) i (km p.rows i) : Nat) : Int) = ((kidSum p.rows (sumsOf p.rows p.us) i (km p.rows i) : Nat) : Int) := rfl
                have hne2 : (((kidSum p.rows (sumsOf p.rows p.us) i (km p.rows i) : Nat) : Int) != ((kidSum p.rows (sumsOf p.rows p.us) i (km p.rows i) : Nat) : Int)) = false := by simp
                clear hEq hne
                go_wp2_with fail
                refine Calls.mono HLi.out ?_
                rintro e wy ⟨rfl, hby⟩
                have HBy : Hid (Below w4.heap.size w4 wy) := HPk.out.2.trans (hby.mono HPk.out.2.size)
                clear hby k0 k1 k2 k3 k4 k5 k6 k7 HLi
                go_wp2_with fail
                go_roundg (p.rows.length - (i + 1))
                case measure => have := HK.out.1; have := HK.out.2; omega
                case rel => exact ⟨i + 1, by have := HK.out.2; omega, by go_num, HBy.out⟩
        · have hi1 : decide ((i : Int) < (p.rows.length : Int)) = false := decide_eq_false (by omega)
          have hi2 : decide (i < p.rows.length) = false := decide_eq_false (by omega)
          have HBw : Hid (Below w.heap.size w wr) := H4.out.2.trans (hbr.mono H4.out.2.size)
          clear hig hbr hlt
          go_wp2_with fail
          refine Calls.mono (head_any wr) ?_
          rintro e wz ⟨rfl, hbz⟩
          have HBz : Hid (Below w.heap.size w wz) := HBw.out.trans (hbz.mono HBw.out.size)
          clear hbz
          go_wp2
          go_ret
          exact ⟨rfl, HBz.out⟩
end Go.Proofs.Ytopiakhlajpdaab.Nm
namespace Go.Proofs.Ytopiakhlajpdaab.namesSums
open Go.RowKit Go.Proofs.Ytopiakhlajpdaab.Gr

theorem walk (ao : Option Addr) (l : List Rz) (cap : Nat) (w : World) (h : IsRz w ao l) (hn : l.length ≤ 2932031007317) (hkd : ∀ r ∈ l, r.kids ≤ 9223372036854775807 ∧ r.name.size ≤ 4611686018427387000) :
    Calls Try.prog 3 #[.slice ao l.length cap] w fun e w' => e = .returned (.bool true) ∧ Below w.heap.size w w' := Go.Proofs.Ytopiakhlajpdaab.Nm.sumsWalk ao l cap w h hn hkd
end Go.Proofs.Ytopiakhlajpdaab.namesSums

namespace Go.Proofs.Ytopiakhlajpdaab.Lx
open Go.ChangeShapes Go.WideShapes Go.ChangeAt Go.RowKit Go.Proofs.Ytopiakhlajpdaab.Sp

theorem own : ownKnob Try.prog.godebug = none := by kernel_rfl
theorem laidOut : laidOutB Try.prog = true := by kernel_rfl
theorem bytes5 : Try.prog.bytesOf 5 = 1 := by kernel_rfl

theorem open_bytes {H : Type} {enc : TypeId × Value → H} {W : World} {a : Option Addr} {len cap : Nat} {d : DataW H} {p : List MemPlace} (h : DataW.Trod enc Try.prog W 0 (fun _ => true) true 67 (.slice a len cap) d p) :
    ∃ s : ByteArray, s.size = len ∧ len ≤ cap ∧ IsBytes W a s ∧ (len = 0 ∨ ∃ el sp, d = .slice el sp ∧ el.length = len) := by
  obtain ⟨fuel, hf⟩ := h
  rcases open_ints Try.underlying67 Try.underlying5 (by kernel_rfl) hf with ⟨hcs, hx⟩ | ⟨x, l, c, zs, hcs, _, hl, hm, hz, hx, hcell, hwz⟩
  · simp [Value.cells] at hcs
    obtain ⟨rfl, rfl, rfl⟩ := hcs
    exact ⟨ByteArray.empty, rfl, Nat.le_refl _, fun i hi => absurd hi (Nat.not_lt_zero _), Or.inl rfl⟩
  · simp [Value.cells] at hcs
    obtain ⟨rfl, rfl, rfl⟩ := hcs
    simp at hz hx
    obtain ⟨rfl, rfl⟩ := hx
    have hsz : (strOfNums (zs.take len)).size = len := by rw [strOfNums_size]; simp; omega
    refine ⟨strOfNums (zs.take len), hsz, hl, fun i hi => ?_, Or.inr ⟨_, _, rfl, by simp [lits]; omega⟩⟩
    obtain ⟨b, off, spot⟩ := x
    have h0 := hcell 0 (by omega)
    have hspot : spot = none := by simpa [Addr.add] using World.cell?_spot h0
    subst hspot
    have hB : Lib.Bytes W b off (strOfNums (zs.take len)) := Lib.bytes_of_nums (n := len) (by simp; omega) (fun x hx => by
      have hx := bounds_u8 (hwz x (List.mem_of_mem_take hx))
      omega) (fun j hj => by
        have := hcell j (by omega)
        rw [Lib.addr_add] at this
        rw [this]
        simp [List.getD, List.getElem?_take_of_lt hj])
    have hc := hB i hi
    refine ⟨b, off, rfl, World.block_lt_of_cell? W _ hc, ?_⟩
    rw [hc, nb_get _ i hi]
theorem bytes_reach {H : Type} {ts : List TypeId} {ds : List (DataW H)} (hsz : (DataW.weightsEach Try.prog ts ds).all (· ≤ reachBytes) = true) {j len : Nat} {d : DataW H} (ht : ts[j]? = some 67) (hd : ds[j]? = some d) (h : len = 0 ∨ ∃ el sp, d = .slice el sp ∧ el.length = len) : len ≤ 140737488351232 := by
  rcases h with rfl | ⟨el, sp, rfl, rfl⟩
  · omega
  · have := sized_slice hsz ht hd Try.underlying67
    rw [bytes5] at this
    simp only [reachBytes] at this
    omega
end Go.Proofs.Ytopiakhlajpdaab.Lx

namespace Go.Proofs.Ytopiakhlajpdaab.Gr
open Go.ChangeShapes Go.WideShapes Go.ChangeAt Go.RowKit Go.Deep Go.Proofs.Ytopiakhlajpdaab.Sp Go.Proofs.Ytopiakhlajpdaab.Lx

theorem bytes40 : Try.prog.bytesOf 40 = 48 := by kernel_rfl
theorem cells40 : Try.prog.cellsOf 40 = 5 := by kernel_rfl
theorem cells3 : Try.prog.cellsOf 3 = 1 := by kernel_rfl
theorem cells9 : Try.prog.cellsOf 9 = 1 := by kernel_rfl
instance : Inhabited Rz := ⟨rz0⟩
/-- a row's datum -/
def dz {H : Type} (r : Rz) : DataW H := .agg [.lit (.int .i64 r.kind), .lit (.string r.name.data.toList), .lit (.int .i64 r.stop), .lit (.int .i64 r.n), .lit (.int .i64 r.kids)]
theorem wf_le {n : Int} (h : (Lit.int .i64 n).wf = true) : n ≤ 9223372036854775807 := by
  simp [Lit.wf] at h
  omega
theorem five {α : Type} {l : List α} (h : l.length = 5) : ∃ a b c d e, l = [a, b, c, d, e] := by
  match l, h with
  | [a, b, c, d, e], _ => exact ⟨a, b, c, d, e, rfl⟩
theorem open_one {H : Type} {enc : TypeId × Value → H} {W : World} {base n : Nat} {sp : Nat → Bool} {hd : Bool} {cs : List Value} {d : DataW H} {pl : List MemPlace} (h : DataW.trod enc Try.prog W base sp hd n 40 cs = some (d, pl)) :
    ∃ r : Rz, cs = [.int .i64 r.kind, .string r.name, .int .i64 r.stop, .int .i64 r.n, .int .i64 r.kids] ∧ d = dz r ∧ r.kids ≤ 9223372036854775807 := by
  obtain ⟨xs, k, hk, hxy, hl, hxl, hf⟩ := DataW.trod_struct Try.underlying40 h
  rw [cells40] at hl
  have hxl5 : xs.length = 5 := hxl
  obtain ⟨y0, y1, y2, y3, y4, rfl⟩ := five hxl5
  obtain ⟨v0, v1, v2, v3, v4, rfl⟩ := five hl
  have g0 := hf 0 _ rfl
  have g1 := hf 1 _ rfl
  have g2 := hf 2 _ rfl
  have g3 := hf 3 _ rfl
  have g4 := hf 4 _ rfl
  simp [cells3, cells9] at g0 g1 g2 g3 g4
  obtain ⟨a0, e0, f0, _⟩ := DataW.trod_int Try.underlying3 g0
  obtain ⟨a1, e1, f1, _⟩ := DataW.trod_string Try.underlying9 g1
  obtain ⟨a2, e2, f2, _⟩ := DataW.trod_int Try.underlying3 g2
  obtain ⟨a3, e3, f3, _⟩ := DataW.trod_int Try.underlying3 g3
  obtain ⟨a4, e4, f4, w4⟩ := DataW.trod_int Try.underlying3 g4
  simp only [List.cons.injEq, and_true] at e0 e1 e2 e3 e4
  subst e0 e1 e2 e3 e4 f0 f1 f2 f3 f4
  simp only [Prod.mk.injEq] at hxy
  exact ⟨⟨a0, a1, a2, a3, a4⟩, rfl, by simpa [dz] using hxy.1, wf_le w4⟩
theorem open_rowsZ {H : Type} {enc : TypeId × Value → H} {W : World} {a : Option Addr} {len cap : Nat} {d : DataW H} {p : List MemPlace} (h : DataW.Trod enc Try.prog W 0 (fun _ => true) true 22 (.slice a len cap) d p) :
    ∃ l : List Rz, l.length = len ∧ len ≤ cap ∧ IsRz W a l ∧ (∀ r ∈ l, r.kids ≤ 9223372036854775807) ∧ (l = [] ∨ ∃ sp, d = .slice (l.map dz) sp) := by
  obtain ⟨fuel, hf⟩ := h
  rcases open_slice Try.underlying22 hf with ⟨hcs, _⟩ | ⟨x, l, c, m, n, D, Pl, hcs, _, hl, hm, hmm, hx, hcell⟩
  · simp [Value.cells] at hcs
    obtain ⟨rfl, rfl, rfl⟩ := hcs
    exact ⟨[], rfl, Nat.le_refl _, fun i x hx => (by simp at hx), fun r hr => (by cases hr), Or.inl rfl⟩
  · simp [Value.cells] at hcs
    obtain ⟨rfl, rfl, rfl⟩ := hcs
    simp only [if_true] at hmm
    subst hmm
    simp only [Prod.mk.injEq] at hx
    have each : ∀ i, i < len → ∃ r : Rz, W.cells? 0 (x.add (i * 5)) 5 = some [.int .i64 r.kind, .string r.name, .int .i64 r.stop, .int .i64 r.n, .int .i64 r.kids] ∧ D i = dz r ∧ r.kids ≤ 9223372036854775807 := by
      intro i hi
      obtain ⟨cs', h1, h2⟩ := hcell i (by omega)
      obtain ⟨r, rfl, h4, h5⟩ := open_one h2
      rw [cells40] at h1
      exact ⟨r, h1, h4, h5⟩
    obtain ⟨q, hq⟩ := choose_lt each
    refine ⟨(List.range len).map q, by simp, hl, fun i r hr => ?_, fun r hr => ?_, Or.inr ⟨(List.range (m - len)).map fun j => D (len + j), ?_⟩⟩
    · have hi : i < len := by
        have := (List.getElem?_eq_some_iff.1 hr).1
        simpa using this
      have hri : q i = r := by simpa [hi] using hr
      obtain ⟨h1, _, _⟩ := hq i hi
      rw [hri] at h1
      obtain ⟨_, hlen, hc⟩ := World.cells?_some h1
      have e0 := hc 0 (by omega)
      have e1 := hc 1 (by omega)
      have e2 := hc 2 (by omega)
      have e3 := hc 3 (by omega)
      have e4 := hc 4 (by omega)
      rw [add_add] at e0 e1 e2 e3 e4
      simp at e0 e1 e2 e3 e4
      obtain ⟨b, off, spot⟩ := x
      have hspot : spot = none := by
        obtain ⟨g1, _, _⟩ := hq 0 (by omega)
        obtain ⟨_, _, gc⟩ := World.cells?_some g1
        have g0 := gc 0 (by omega)
        simp [Addr.add] at g0
        simpa [Addr.add] using World.cell?_spot g0
      subst hspot
      rw [Lib.addr_add] at e0 e1 e2 e3 e4
      refine ⟨b, off, rfl, World.block_lt_of_cell? W _ e0, e0, ?_, ?_, ?_, ?_⟩
      · rw [Nat.add_assoc]; exact e1
      · rw [Nat.add_assoc]; exact e2
      · rw [Nat.add_assoc]; exact e3
      · rw [Nat.add_assoc]; exact e4
    · obtain ⟨i, hi, rfl⟩ := List.mem_map.1 hr
      exact (hq i (List.mem_range.1 hi)).2.2
    · rw [hx.1]
      congr 1
      rw [List.map_map]
      exact List.map_congr_left fun i hi => (hq i (List.mem_range.1 hi)).2.1
theorem weights_all {H : Type} {P : Program} {e : TypeId} {d : DataW H} {l : List (DataW H)} (h : d ∈ l) : ∀ n ∈ d.weights P e, n ∈ DataW.weightsAll P e l := by
  induction l with
  | nil => cases h
  | cons x r ih =>
    intro n hn
    simp only [DataW.weightsAll, List.mem_append]
    rcases List.mem_cons.1 h with rfl | h1
    · exact Or.inl hn
    · exact Or.inr (ih h1 n hn)
theorem rows_reach {H : Type} {ts : List TypeId} {ds : List (DataW H)} (hsz : (DataW.weightsEach Try.prog ts ds).all (· ≤ reachBytes) = true) {j : Nat} {l : List Rz} {d : DataW H} (ht : ts[j]? = some 22) (hd : ds[j]? = some d) (h : l = [] ∨ ∃ sp, d = .slice (l.map dz) sp) :
    l.length ≤ 2932031007317 ∧ ∀ r ∈ l, r.name.size ≤ 140737488351232 := by
  rcases h with rfl | ⟨sp, rfl⟩
  · exact ⟨by simp, fun x hx => by cases hx⟩
  · refine ⟨?_, fun x hx => ?_⟩
    · have := sized_slice hsz ht hd Try.underlying22
      rw [bytes40] at this
      simp only [reachBytes, List.length_map] at this
      omega
    · have h1 : (dz x : DataW H) ∈ l.map dz := List.mem_map.2 ⟨x, hx, rfl⟩
      have h2 := weights_all (P := Try.prog) (e := 40) h1 x.name.data.toList.length (by simp [dz, DataW.weights, Try.underlying40, DataW.weightsEach])
      have h3 := List.all_eq_true.1 hsz _ (DataW.weights_mem_each ht hd x.name.data.toList.length (by
        simp only [DataW.weights, Try.underlying22]
        exact List.mem_cons_of_mem _ (List.mem_append_left _ h2)))
      have h4 := of_decide_eq_true h3
      simpa [reachBytes] using h4
end Go.Proofs.Ytopiakhlajpdaab.Gr

namespace Go.Proofs.Ytopiakhlajpdaab.namesSums
open Go.ChangeShapes Go.WideShapes Go.ChangeAt Go.RowKit
open Go.Proofs.Ytopiakhlajpdaab.Sp Go.Proofs.Ytopiakhlajpdaab.Lx Go.Proofs.Ytopiakhlajpdaab.Gr

set_option maxRecDepth 100000 in
theorem contractF (H : Type) (enc : TypeId × Value → H) (W : World) (base : Nat) (args : Array Value) (ds gs : List (DataW H)) (before : List MemPlace)
    (hval : ∀ (j : Nat) t v, Try.f3.params[j]? = some t → args[j]? = some v → Value.okWide Try.prog W .any base t v)
    (hW : DataW.Whole enc Try.prog Try.f3.params.toList Rows.namesSumsSpec.vars false W args.toList ds gs before)
    (hsz : (DataW.weightsEach Try.prog (Try.f3.params.toList ++ Rows.namesSumsSpec.plain.varTypes Try.prog) (ds ++ gs)).all (· ≤ reachBytes) = true) :
    Calls Try.prog 3 args W fun e W' => ∃ v, e = .returned v ∧ Rows.namesSumsSpec.post enc Try.prog Try.f3 false true false false W args v W' := by
  have hW' := hW
  obtain ⟨p, q, hA0, hV, rfl, hfz, hnd⟩ := hW
  have hA : DataW.TrodAll enc Try.prog W 0 (fun _ => true) true Try.f3.params.toList args.toList ds p := hA0
  rw [Try.params3] at hA hval hsz
  obtain ⟨v0, vs0, d0, ds0, p0, q0, hargs, rfl, rfl, h0, r0⟩ := trodAll_cons hA
  obtain ⟨rfl, rfl, rfl⟩ := trodAll_nil r0
  obtain rfl : args = #[v0] := by cases args; simp_all
  obtain ⟨rfl, rfl⟩ := trodVars_none hV
  obtain ⟨a0, len0, cap0, rfl⟩ := okWide_slice Try.underlying22 (hval 0 22 v0 rfl rfl)
  have lt0 : ∀ x ∈ p0, x.block < W.heap.size := by obtain ⟨m, hm⟩ := h0; exact DataW.trod_lt m _ _ _ hm
  obtain ⟨s0, rfl, cl0, ib0, kb0, dd0⟩ := open_rowsZ h0
  refine (walk a0 s0 cap0 W ib0 (rows_reach hsz (j := 0) rfl rfl dd0).1 (fun r hr => ⟨kb0 r hr, by have := (rows_reach hsz (j := 0) rfl rfl dd0).2 r hr; omega⟩)).mono fun e W2 ⟨he, bel⟩ => ?_
  subst he
  exact ⟨_, rfl, _, _, _, [], _, [], hW', trodAll_mk1 (shut_bool Try.underlying4 _), (trodAll_cons_mk (Below.trod laidOut (by kernel_rfl) (of_decide_eq_true (by kernel_rfl)) h0 bel lt0) trodAll_mk0), rfl, bel.frame _, fun h => by cases h⟩

set_option maxRecDepth 100000 in
theorem liftedF (os : Os) (started : os.Started) (H : Type) (enc : TypeId × Value → H) :
    ReturnsInHanded {} Try.checked os 3 .any (Rows.namesSumsSpec.pre6 enc Try.prog Try.f3 Rows.namesSumsRow.domain false) (Rows.namesSumsSpec.post enc Try.prog Try.f3 false true false false) := by
  refine returnsInHanded_of_change_sized (C := Try.checked) own started (by kernel_rfl) Try.func3
    (ChangeSpec.witness6 (enc := enc) (C := Try.checked) false ⟨#[], #[.slice none 0 0], []⟩ 8 (by kernel_rfl) (by kernel_rfl) (by kernel_rfl) (by kernel_rfl)) ?_
  intro W base args ds gs before hval hW _ hsz _
  exact contractF H enc W base args ds gs before hval hW hsz

theorem provedF : Rows.NamesSumsSaid :=
  OpenClaim.holds_of_wide 3 Try.f3 rfl rfl rfl rfl rfl rfl rfl ⟨rfl, rfl, rfl, rfl, rfl⟩ rfl rfl rfl rfl rfl (by kernel_rfl) Try.func3 (by kernel_rfl)
    (of_decide_eq_true (by kernel_rfl)) (by unfold Func.isWrapper; first | (rw [if_pos (by decide +kernel)]; kernel_rfl) | (rw [if_neg (by decide +kernel)]; exact ⟨rfl, rfl⟩))
    (fun os started H enc _ => liftedF os started H enc)
end Go.Proofs.Ytopiakhlajpdaab.namesSums
