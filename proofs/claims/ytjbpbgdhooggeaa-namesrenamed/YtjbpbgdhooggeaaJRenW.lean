import Derived.Test.YtjbpbgdhooggeaaJRen
import Derived.Test.YtjbpbgdhooggeaaJNmD
import Derived.Test.YtjbpbgdhooggeaaJHead
import Derived.BigQuiet
import Derived.Test.YtjbpbgdhooggeaaJBase
import Derived.ProofKit
import Derived.OpenShut
import Derived.ShutString
import Derived.ChangeOld
import Derived.Below
import Derived.JoinedCond
import Derived.SizedLaws
import Derived.SliceStrings
import Derived.ChangeMaps5
import Derived.Test.YtjbpbgdhooggeaaJWrong
import Derived.Deep.Slices
import Derived.ChangeSame
namespace Go.Proofs.Ytjbpbgdhooggeaa.Nm
open Go.RowKit Go.Maps Go.Proofs.Ytjbpbgdhooggeaa.Sp Go.Proofs.Ytjbpbgdhooggeaa.Lx Go.Proofs.Ytjbpbgdhooggeaa.Gr

theorem cells2 {wq : World} {B : Nat} {v0 v1 : Value} {T : TypeId} (h : wq.heap[B]? = some (.cells #[v0, v1] T (0, 0))) : wq.cell? ⟨B, 0, none⟩ = some v0 ∧ wq.cell? ⟨B, 1, none⟩ = some v1 := by
  refine ⟨?_, ?_⟩
  all_goals
    simp only [World.cell?, h]
    rfl
set_option maxHeartbeats 25600000 in
set_option maxRecDepth 100000 in
theorem renamedWalk (ao : Option Addr) (l : List Rz) (cap : Nat) (wi : ByteArray) (w : World) (h : IsRz w ao l) (hn : l.length ≤ 2932031007317) :
    Calls Try.prog 4 #[.slice ao l.length cap, .string wi] w fun e w' => e = .returned (.bool true) ∧ Below w.heap.size w w' := by
  have HI : Hid (IsRz w ao l) := h
  have HB0 : Hid (Below w.heap.size w w) := Below.refl _ _
  by_cases hf : 65536 < l.length
  · have HF := show Hid _ from far_yes (ao := ao) (cap := cap) hf hn w
    clear h hn hf
    go_enter Try.func4, Try.ntmps4
    go_wp2_with fail
    refine Calls.mono HF.out ?_
    rintro _ _ ⟨rfl, rfl⟩
    go_wp2_with fail
    refine Calls.mono (head_any w) ?_
    rintro e wz ⟨rfl, hbz⟩
    have HBz : Hid (Below w.heap.size w wz) := HB0.out.trans (hbz.mono HB0.out.size)
    clear hbz
    go_wp2
    go_ret
    exact ⟨rfl, HBz.out⟩
  have HF := show Hid _ from far_no (ao := ao) (cap := cap) hf w
  by_cases hf4 : 400 < l.length
  · have hf5 : decide ((400 : Int) < (l.length : Int)) = true := decide_eq_true (by omega)
    have hf6 : (400 : Int) < (l.length : Int) := by omega
    clear h hn hf hf4
    go_enter Try.func4, Try.ntmps4
    go_wp2_with fail
    refine Calls.mono HF.out ?_
    rintro _ _ ⟨rfl, rfl⟩
    go_wp2_with fail
    refine Calls.mono (head_any w) ?_
    rintro e wz ⟨rfl, hbz⟩
    have HBz : Hid (Below w.heap.size w wz) := HB0.out.trans (hbz.mono HB0.out.size)
    clear hbz
    go_wp2
    go_ret
    exact ⟨rfl, HBz.out⟩
  have hf5 : decide ((400 : Int) < (l.length : Int)) = false := decide_eq_false (by omega)
  have hf6 : decide (400 < l.length) = false := decide_eq_false (by omega)
  by_cases hw : 20 < wi.size
  · have hw5 : decide ((20 : Int) < (wi.size : Int)) = true := decide_eq_true (by omega)
    have hw6 : (20 : Int) < (wi.size : Int) := by omega
    clear h hn hf hf4 hw
    go_enter Try.func4, Try.ntmps4
    go_wp2_with fail
    refine Calls.mono HF.out ?_
    rintro _ _ ⟨rfl, rfl⟩
    go_wp2_with fail
    refine Calls.mono (head_any w) ?_
    rintro e wz ⟨rfl, hbz⟩
    have HBz : Hid (Below w.heap.size w wz) := HB0.out.trans (hbz.mono HB0.out.size)
    clear hbz
    go_wp2
    go_ret
    exact ⟨rfl, HBz.out⟩
  have hw5 : decide ((20 : Int) < (wi.size : Int)) = false := decide_eq_false (by omega)
  have hw6 : decide (20 < wi.size) = false := decide_eq_false (by omega)
  have HN : Hid (l.length ≤ 400 ∧ wi.size ≤ 20) := ⟨by omega, by omega⟩
  have hwI : (wi.size : Int) ≤ 20 := by omega
  have hlI : (l.length : Int) ≤ 400 := by omega
  clear h hn hf hf4 hw
  go_enter Try.func4, Try.ntmps4
  go_wp2_with fail
  refine Calls.mono HF.out ?_
  rintro _ _ ⟨rfl, rfl⟩
  go_wp2_with fail
  refine Calls.mono (lendR_any ao l cap w HI.out (by have := HN.out; omega)) ?_
  rintro e w1 ⟨rfl, hR1, hb1⟩
  have HZ1 : Hid (IsRz w1 (some ⟨w.heap.size, 0, none⟩) l ∧ Below w.heap.size w w1) := ⟨RowZ.reads (l' := (List.range 9).map (fun j => mkL (l.length + j)) ++ List.replicate (9 - 9) rz0) hR1, hb1⟩
  clear hR1 hb1 HB0 hf5 hf6 hw5 hw6
  go_wp2_with fail
  refine Calls.mono (check_any (some ⟨w.heap.size, 0, none⟩) l (l.length + 9) w1 HZ1.out.1 (by have := HN.out; omega)) ?_
  rintro e w2 ⟨rfl, hb2⟩
  obtain ⟨c1, hc1⟩ : ∃ c1, (chk l).1 = c1 := ⟨_, rfl⟩
  obtain ⟨c2, hc2⟩ : ∃ c2, (chk l).2 = c2 := ⟨_, rfl⟩
  rw [hc1, hc2]
  have HC1 : Hid ((chk l).1 = c1) := hc1
  have hb3 := HZ1.out.2.trans (hb2.mono HZ1.out.2.size)
  have HB0 : Hid (Below w.heap.size w (w2.alloc (.cells #[.int .i64 (c1 : Int), .int .i64 (c2 : Int)] 32))) := hb3.alloc hb3.size _
  clear hb2 hb3 hc1 hc2
  by_cases h0 : c1 ≠ 0
  · have hc : ((c1 : Int) != 0) = true := by simp; omega
    clear h0
    go_wp2_with fail
    refine Calls.mono (head_any _) ?_
    rintro e wz ⟨rfl, hbz⟩
    have HBz : Hid (Below w.heap.size w wz) := HB0.out.trans (hbz.mono HB0.out.size)
    clear hbz
    go_wp2
    go_ret
    exact ⟨rfl, HBz.out⟩
  have hc : ((c1 : Int) != 0) = false := by simp; omega
  have HC : Hid ((chk l).1 = 0) := by show _ = _; rw [HC1.out]; omega
  clear h0 HC1
  go_wp2_with fail
  generalize w2.alloc (.cells #[.int .i64 (c1 : Int), .int .i64 (c2 : Int)] 32) = w3 at *
  refine Calls.mono (lendR_any ao l cap w3 (HI.out.below HB0.out) (by have := HN.out; omega)) ?_
  rintro e w4 ⟨rfl, hR4, hb4⟩
  have HM : Hid (Rw w4 w3.heap.size l ∧ Below w.heap.size w w4 ∧ w.heap.size ≤ w3.heap.size) := ⟨rw_lent (l' := (List.range 9).map (fun j => mkL (l.length + j)) ++ List.replicate (9 - 9) rz0) hR4, HB0.out.trans (hb4.mono HB0.out.size), HB0.out.size⟩
  clear hR4 hb4 hc HZ1
  generalize w3.heap.size = gm at *
  have HGm : Hid (w.heap.size ≤ gm) := HM.out.2.2
  go_wp2_with fail
  go_loopg [7] l.length (fun gq x wr => ∃ i : Nat, i + gq = l.length ∧ x = .int .i64 (i : Int) ∧ Rw wr gm (rnM l wi i) ∧ Below w.heap.size w wr ∧ ∀ j, j < i → (decl (rat l j).kind ≠ 0 ∨ nmd (rat l j).kind ≠ 0) → dclN l (rat l j).name = true → stdN l (newN l wi (rat l j).name) = false)
  case atStart => exact ⟨0, by omega, rfl, by rw [rnM_zero]; exact HM.out.1, HM.out.2.1, fun j hj => by omega⟩
  case round =>
    obtain ⟨i, hig, rfl, hrw, hbw, hst⟩ := hrel
    by_cases hlt : i < l.length
    · have hi1 : (i : Int) < (l.length : Int) := by omega
      have HO : Hid (i + gk = l.length ∧ i < l.length ∧ ∀ j, j < i → (decl (rat l j).kind ≠ 0 ∨ nmd (rat l j).kind ≠ 0) → dclN l (rat l j).name = true → stdN l (newN l wi (rat l j).name) = false) := ⟨hig, hlt, hst⟩
      have H5 : Hid (Rw wr gm ((rnM l wi i).set i (rnK l wi 0 (rat l i))) ∧ Below w.heap.size w wr) := ⟨by rw [rnK_zero, rnM_same hlt]; exact hrw, hbw⟩
      clear hig hrw hbw hst hlt HM
      go_wp2_with fail
      go_loopg [8] l.length (fun gq x wr => ∃ k : Nat, k + gq = l.length ∧ x = .int .i64 (k : Int) ∧ Rw wr gm ((rnM l wi i).set i (rnK l wi k (rat l i))) ∧ Below w.heap.size w wr ∧ ((decl (rat l i).kind ≠ 0 ∨ nmd (rat l i).kind ≠ 0) → dclN (l.take k) (rat l i).name = true → stdN l (newN l wi (rat l i).name) = false))
      case atStart => exact ⟨0, by omega, rfl, H5.out.1, H5.out.2, fun _ h => by simp [dclN] at h⟩
      case round =>
        obtain ⟨k, hkg, rfl, hrw, hbw, hst⟩ := hrel
        by_cases hkt : k < l.length
        · have hk1 : (k : Int) < (l.length : Int) := by omega
          have HK : Hid (k + gk = l.length ∧ k < l.length) := ⟨hkg, hkt⟩
          have HR5 : Hid (Rw wr gm ((rnM l wi i).set i (rnK l wi k (rat l i))) ∧ Below w.heap.size w wr ∧ ((decl (rat l i).kind ≠ 0 ∨ nmd (rat l i).kind ≠ 0) → dclN (l.take k) (rat l i).name = true → stdN l (newN l wi (rat l i).name) = false)) := ⟨hrw, hbw, hst⟩
          obtain ⟨tg, tof, rfl, _, c0, c1, _⟩ := (HI.out.below hbw) k _ (some_rat hkt)
          obtain ⟨tg2, tof2, e2, _, d0, d1, _⟩ := (HI.out.below hbw) i _ (some_rat HO.out.2.1)
          cases e2
          have HDa : Hid (∀ K W, Calls Try.prog 14 #[.int .i64 K] W fun e w' => e = .returned (.int .i64 (decl K : Nat)) ∧ w' = W) := fun K W => declares_any K W
          have HNa : Hid (∀ K W, Calls Try.prog 15 #[.int .i64 K] W fun e w' => e = .returned (.int .i64 (nmd K : Nat)) ∧ w' = W) := fun K W => names_any K W
          obtain ⟨kk, hkk⟩ : ∃ kk, (rat l k).kind = kk := ⟨_, rfl⟩
          obtain ⟨ki, hki⟩ : ∃ ki, (rat l i).kind = ki := ⟨_, rfl⟩
          obtain ⟨nk, hnk⟩ : ∃ nk, (rat l k).name = nk := ⟨_, rfl⟩
          obtain ⟨ni, hni⟩ : ∃ ni, (rat l i).name = ni := ⟨_, rfl⟩
          have HV : Hid (decl (rat l k).kind = decl kk ∧ decl (rat l i).kind = decl ki ∧ nmd (rat l i).kind = nmd ki ∧ (rat l k).name = nk ∧ (rat l i).name = ni) := ⟨by rw [hkk], by rw [hki], by rw [hki], hnk, hni⟩
          rw [hnk] at c1
          rw [hni] at d1
          rw [hkk] at c0
          rw [hki] at d0
          clear hnk hni hkk hki hkg hkt hrw hbw hst H5
          by_cases h1 : decl kk = 0
          · have e1 : (((decl kk : Nat) : Int) != 0) = false := by simp; omega
            have HP : Hid (decl kk = 0) := h1
            clear h1
            have HX : Hid (rnC l i k = false) := by
              show _ = false
              rw [Bool.eq_false_iff]
              intro h
              exact (rnC_iff.1 h).1.1 (HV.out.1.trans HP.out)
            go_wp2_with fail
            go_quiet ((first | (go_at_call 15; exact Calls.quiet_of_same (HNa.out _ _)) | (go_at_call 14; exact Calls.quiet_of_same (HDa.out _ _))))
            have HE : Hid (Rw (wr.drewN nq) gm ((rnM l wi i).set i (rnK l wi (k + 1) (rat l i))) ∧ Below w.heap.size w (wr.drewN nq) ∧ ((decl (rat l i).kind ≠ 0 ∨ nmd (rat l i).kind ≠ 0) → dclN (l.take (k + 1)) (rat l i).name = true → stdN l (newN l wi (rat l i).name) = false)) := by
              obtain ⟨h1, h2⟩ := rnK_no (wi := wi) HK.out.2 HX.out
              have hb := Go.Proofs.Ytjbpbgdhooggeaa.Nm.below_drewN wr nq
              exact ⟨by rw [h1]; exact HR5.out.1.same (hb.block _ HR5.out.1.lt), HR5.out.2.1.trans (hb.mono HR5.out.2.1.size), fun ho hd => HR5.out.2.2 ho (by rw [← h2 ho]; exact hd)⟩
            go_wp2_with fail
            go_roundg (l.length - (k + 1))
            case measure => have := HK.out; omega
            case rel => exact ⟨k + 1, by have := HK.out; omega, by go_num, HE.out.1, HE.out.2.1, HE.out.2.2⟩
          · have e1 : (((decl kk : Nat) : Int) != 0) = true := by simp; omega
            by_cases h2 : nk = ni
            · have e2 : (nk.toList == ni.toList) = true := by rw [h2]; simp
              by_cases h3 : nmd ki = 0
              · have e3 : (((nmd ki : Nat) : Int) != 0) = false := by simp; omega
                by_cases h4 : decl ki = 0
                · have e4 : (((decl ki : Nat) : Int) != 0) = false := by simp; omega
                  have HP : Hid (nmd ki = 0 ∧ decl ki = 0) := ⟨h3, h4⟩
                  clear h1 h2 h3 h4
                  have HX : Hid (rnC l i k = false) := by
                    show _ = false
                    rw [Bool.eq_false_iff]
                    intro h
                    have := (rnC_iff.1 h).2
                    rw [HV.out.2.1, HV.out.2.2.1] at this
                    have := HP.out
                    omega
                  go_wp2_with fail
                  go_quiet ((first | (go_at_call 15; exact Calls.quiet_of_same (HNa.out _ _)) | (go_at_call 14; exact Calls.quiet_of_same (HDa.out _ _))))
                  have HE : Hid (Rw (wr.drewN nq) gm ((rnM l wi i).set i (rnK l wi (k + 1) (rat l i))) ∧ Below w.heap.size w (wr.drewN nq) ∧ ((decl (rat l i).kind ≠ 0 ∨ nmd (rat l i).kind ≠ 0) → dclN (l.take (k + 1)) (rat l i).name = true → stdN l (newN l wi (rat l i).name) = false)) := by
                    obtain ⟨h1, h2⟩ := rnK_no (wi := wi) HK.out.2 HX.out
                    have hb := Go.Proofs.Ytjbpbgdhooggeaa.Nm.below_drewN wr nq
                    exact ⟨by rw [h1]; exact HR5.out.1.same (hb.block _ HR5.out.1.lt), HR5.out.2.1.trans (hb.mono HR5.out.2.1.size), fun ho hd => HR5.out.2.2 ho (by rw [← h2 ho]; exact hd)⟩
                  go_wp2_with fail
                  go_roundg (l.length - (k + 1))
                  case measure => have := HK.out; omega
                  case rel => exact ⟨k + 1, by have := HK.out; omega, by go_num, HE.out.1, HE.out.2.1, HE.out.2.2⟩
                · have e4 : (((decl ki : Nat) : Int) != 0) = true := by simp; omega
                  have HP : Hid (decl kk ≠ 0 ∧ nk = ni ∧ decl ki ≠ 0) := ⟨h1, h2, h4⟩
                  clear h1 h2 h3 h4
                  have HX : Hid (rnC l i k = true) := rnC_iff.2 (by rw [HV.out.1, HV.out.2.1, HV.out.2.2.2.1, HV.out.2.2.2.2]; exact ⟨⟨HP.out.1, HP.out.2.1⟩, Or.inr HP.out.2.2⟩)
                  go_wp2_with fail
                  go_quiet ((first | (go_at_call 15; exact Calls.quiet_of_same (HNa.out _ _)) | (go_at_call 14; exact Calls.quiet_of_same (HDa.out _ _))))
                  have hbq := Go.Proofs.Ytjbpbgdhooggeaa.Nm.below_drewN wr nq
                  have HB1 : Hid (Rw (wr.drewN nq) gm ((rnM l wi i).set i (rnK l wi k (rat l i))) ∧ Below w.heap.size w (wr.drewN nq)) := ⟨HR5.out.1.same (hbq.block _ HR5.out.1.lt), HR5.out.2.1.trans (hbq.mono HR5.out.2.1.size)⟩
                  replace c0 : True := trivial
                  replace c1 : True := trivial
                  replace d0 : True := trivial
                  replace d1 : (wr.drewN nq).cell? ⟨tg, tof + i * 5 + 1, none⟩ = some (.string ni) := (hbq.cell (p := ⟨tg, tof + i * 5 + 1, none⟩) (World.block_lt_of_cell? wr _ d1)).trans d1
                  clear hbq
                  generalize wr.drewN nq = wB at *
                  have HFi := show Hid _ from first_any (cap := cap) (HI.out.below HB1.out.2) HN.out.1 ni
                  have hfr : frsN l ni < 1000 := by have := (frsN_at (std_yes HO.out.2.1 HV.out.2.2.2.2)).1; have := HN.out; omega
                  have HNu : Hid (∀ W : World, Calls Try.prog 16 #[.int .u8 110, .int .i64 (frsN l ni : Nat)] W fun e w' => e = .returned (.string (nbr 110 (frsN l ni))) ∧ Below W.heap.size W w') := fun W => numbered_any 110 _ hfr W
                  clear hfr
                  go_wp2_with fail
                  refine Calls.mono HFi.out ?_
                  rintro _ _ ⟨rfl, rfl⟩
                  go_wp2_with fail
                  refine Calls.mono (HNu.out _) ?_
                  rintro e wC ⟨rfl, hbC⟩
                  have hRC := HB1.out.1.same (hbC.block _ HB1.out.1.lt)
                  have hsx := rnM_set (wi := wi) HO.out.2.1 (rnK l wi k (rat l i))
                  obtain ⟨_, q1, _, _, _, fz⟩ := hRC.cells hsx
                  have fz1 := fz (i * 5 + 1)
                  have hS := hRC.setName hsx (newN l wi ni)
                  rw [List.set_set, rnK_name, ← HV.out.2.2.2.2, ← (rnK_yes (wi := wi) HK.out.2 HX.out).1, HV.out.2.2.2.2] at hS
                  have HW : Hid (Rw (wC.setCell ⟨gm, i * 5 + 1, none⟩ (.string (newN l wi ni))) gm ((rnM l wi i).set i (rnK l wi (k + 1) (rat l i))) ∧ Below w.heap.size w (wC.setCell ⟨gm, i * 5 + 1, none⟩ (.string (newN l wi ni)))) := ⟨hS, (HB1.out.2.trans (hbC.mono HB1.out.2.size)).setCell (p := ⟨gm, i * 5 + 1, none⟩) HGm.out _⟩
                  have hqi : (i : Int) * 5 + 1 ≤ 3000 := by have := HO.out; have := HN.out; omega
                  have hns : (nbr 110 (frsN l ni)).size = 4 := rfl
                  have HSd := show Hid _ from stands_any (cap := cap) (HI.out.below HW.out.2) HN.out.1 (newN l wi ni)
                  obtain ⟨sd, hsd⟩ : ∃ sd, stdN l (newN l wi ni) = sd := ⟨_, rfl⟩
                  have HSe : Hid (stdN l (newN l wi ni) = sd) := hsd
                  rw [hsd] at HSd
                  clear hRC hsx fz hS hbC d1 hsd
                  go_wp2_with fail
                  refine Calls.mono HSd.out ?_
                  rintro _ _ ⟨rfl, rfl⟩
                  clear HSd q1 fz1
                  cases sd with
                  | true =>
                    go_wp2_with fail
                    refine Calls.mono (head_any _) ?_
                    rintro e wz ⟨rfl, hbz⟩
                    have HBz : Hid (Below w.heap.size w wz) := HW.out.2.trans (hbz.mono HW.out.2.size)
                    clear hbz
                    go_wp2
                    go_ret
                    exact ⟨rfl, HBz.out⟩
                  | false =>
                    go_wp2_with fail
                    go_roundg (l.length - (k + 1))
                    case measure => have := HK.out; omega
                    case rel => exact ⟨k + 1, by have := HK.out; omega, by go_num, HW.out.1, HW.out.2, fun _ _ => by rw [HV.out.2.2.2.2]; exact HSe.out⟩
              · have e3 : (((nmd ki : Nat) : Int) != 0) = true := by simp; omega
                have HP : Hid (decl kk ≠ 0 ∧ nk = ni ∧ nmd ki ≠ 0) := ⟨h1, h2, h3⟩
                clear h1 h2 h3
                have HX : Hid (rnC l i k = true) := rnC_iff.2 (by rw [HV.out.1, HV.out.2.2.1, HV.out.2.2.2.1, HV.out.2.2.2.2]; exact ⟨⟨HP.out.1, HP.out.2.1⟩, Or.inl HP.out.2.2⟩)
                go_wp2_with fail
                go_quiet ((first | (go_at_call 15; exact Calls.quiet_of_same (HNa.out _ _)) | (go_at_call 14; exact Calls.quiet_of_same (HDa.out _ _))))
                have hbq := Go.Proofs.Ytjbpbgdhooggeaa.Nm.below_drewN wr nq
                have HB1 : Hid (Rw (wr.drewN nq) gm ((rnM l wi i).set i (rnK l wi k (rat l i))) ∧ Below w.heap.size w (wr.drewN nq)) := ⟨HR5.out.1.same (hbq.block _ HR5.out.1.lt), HR5.out.2.1.trans (hbq.mono HR5.out.2.1.size)⟩
                replace c0 : True := trivial
                replace c1 : True := trivial
                replace d0 : True := trivial
                replace d1 : (wr.drewN nq).cell? ⟨tg, tof + i * 5 + 1, none⟩ = some (.string ni) := (hbq.cell (p := ⟨tg, tof + i * 5 + 1, none⟩) (World.block_lt_of_cell? wr _ d1)).trans d1
                clear hbq
                generalize wr.drewN nq = wB at *
                have HFi := show Hid _ from first_any (cap := cap) (HI.out.below HB1.out.2) HN.out.1 ni
                have hfr : frsN l ni < 1000 := by have := (frsN_at (std_yes HO.out.2.1 HV.out.2.2.2.2)).1; have := HN.out; omega
                have HNu : Hid (∀ W : World, Calls Try.prog 16 #[.int .u8 110, .int .i64 (frsN l ni : Nat)] W fun e w' => e = .returned (.string (nbr 110 (frsN l ni))) ∧ Below W.heap.size W w') := fun W => numbered_any 110 _ hfr W
                clear hfr
                go_wp2_with fail
                refine Calls.mono HFi.out ?_
                rintro _ _ ⟨rfl, rfl⟩
                go_wp2_with fail
                refine Calls.mono (HNu.out _) ?_
                rintro e wC ⟨rfl, hbC⟩
                have hRC := HB1.out.1.same (hbC.block _ HB1.out.1.lt)
                have hsx := rnM_set (wi := wi) HO.out.2.1 (rnK l wi k (rat l i))
                obtain ⟨_, q1, _, _, _, fz⟩ := hRC.cells hsx
                have fz1 := fz (i * 5 + 1)
                have hS := hRC.setName hsx (newN l wi ni)
                rw [List.set_set, rnK_name, ← HV.out.2.2.2.2, ← (rnK_yes (wi := wi) HK.out.2 HX.out).1, HV.out.2.2.2.2] at hS
                have HW : Hid (Rw (wC.setCell ⟨gm, i * 5 + 1, none⟩ (.string (newN l wi ni))) gm ((rnM l wi i).set i (rnK l wi (k + 1) (rat l i))) ∧ Below w.heap.size w (wC.setCell ⟨gm, i * 5 + 1, none⟩ (.string (newN l wi ni)))) := ⟨hS, (HB1.out.2.trans (hbC.mono HB1.out.2.size)).setCell (p := ⟨gm, i * 5 + 1, none⟩) HGm.out _⟩
                have hqi : (i : Int) * 5 + 1 ≤ 3000 := by have := HO.out; have := HN.out; omega
                have hns : (nbr 110 (frsN l ni)).size = 4 := rfl
                have HSd := show Hid _ from stands_any (cap := cap) (HI.out.below HW.out.2) HN.out.1 (newN l wi ni)
                obtain ⟨sd, hsd⟩ : ∃ sd, stdN l (newN l wi ni) = sd := ⟨_, rfl⟩
                have HSe : Hid (stdN l (newN l wi ni) = sd) := hsd
                rw [hsd] at HSd
                clear hRC hsx fz hS hbC d1 hsd
                go_wp2_with fail
                refine Calls.mono HSd.out ?_
                rintro _ _ ⟨rfl, rfl⟩
                clear HSd q1 fz1
                cases sd with
                | true =>
                  go_wp2_with fail
                  refine Calls.mono (head_any _) ?_
                  rintro e wz ⟨rfl, hbz⟩
                  have HBz : Hid (Below w.heap.size w wz) := HW.out.2.trans (hbz.mono HW.out.2.size)
                  clear hbz
                  go_wp2
                  go_ret
                  exact ⟨rfl, HBz.out⟩
                | false =>
                  go_wp2_with fail
                  go_roundg (l.length - (k + 1))
                  case measure => have := HK.out; omega
                  case rel => exact ⟨k + 1, by have := HK.out; omega, by go_num, HW.out.1, HW.out.2, fun _ _ => by rw [HV.out.2.2.2.2]; exact HSe.out⟩
            · have e2 : (nk.toList == ni.toList) = false := strR_ne h2
              have HP : Hid (nk ≠ ni) := h2
              clear h1 h2
              have HX : Hid (rnC l i k = false) := by
                show _ = false
                rw [Bool.eq_false_iff]
                intro h
                have := (rnC_iff.1 h).1.2
                rw [HV.out.2.2.2.1, HV.out.2.2.2.2] at this
                exact HP.out this
              go_wp2_with fail
              go_quiet ((first | (go_at_call 15; exact Calls.quiet_of_same (HNa.out _ _)) | (go_at_call 14; exact Calls.quiet_of_same (HDa.out _ _))))
              have HE : Hid (Rw (wr.drewN nq) gm ((rnM l wi i).set i (rnK l wi (k + 1) (rat l i))) ∧ Below w.heap.size w (wr.drewN nq) ∧ ((decl (rat l i).kind ≠ 0 ∨ nmd (rat l i).kind ≠ 0) → dclN (l.take (k + 1)) (rat l i).name = true → stdN l (newN l wi (rat l i).name) = false)) := by
                obtain ⟨h1, h2⟩ := rnK_no (wi := wi) HK.out.2 HX.out
                have hb := Go.Proofs.Ytjbpbgdhooggeaa.Nm.below_drewN wr nq
                exact ⟨by rw [h1]; exact HR5.out.1.same (hb.block _ HR5.out.1.lt), HR5.out.2.1.trans (hb.mono HR5.out.2.1.size), fun ho hd => HR5.out.2.2 ho (by rw [← h2 ho]; exact hd)⟩
              go_wp2_with fail
              go_roundg (l.length - (k + 1))
              case measure => have := HK.out; omega
              case rel => exact ⟨k + 1, by have := HK.out; omega, by go_num, HE.out.1, HE.out.2.1, HE.out.2.2⟩
        · have hk' : decide (k < l.length) = false := decide_eq_false hkt
          have hk3 : decide ((k : Int) < (l.length : Int)) = false := decide_eq_false (by omega)
          have hke : k = l.length := by omega
          rw [hke, rnK_all, rnM_next HO.out.2.1] at hrw
          rw [hke, List.take_length] at hst
          have HE : Hid (Rw wr gm (rnM l wi (i + 1)) ∧ Below w.heap.size w wr ∧ ((decl (rat l i).kind ≠ 0 ∨ nmd (rat l i).kind ≠ 0) → dclN l (rat l i).name = true → stdN l (newN l wi (rat l i).name) = false)) := ⟨hrw, hbw, hst⟩
          clear hrw hbw hst hkt hkg hke H5
          go_wp2_with fail
          go_roundg (l.length - (i + 1))
          case measure => have := HO.out; omega
          case rel => exact ⟨i + 1, by have := HO.out; omega, by go_num, HE.out.1, HE.out.2.1, fun j hj => by
            by_cases hji : j = i
            · rw [hji]; exact HE.out.2.2
            · exact HO.out.2.2 j (by omega)⟩
    · have hk' : decide (i < l.length) = false := decide_eq_false hlt
      have hk3 : decide ((i : Int) < (l.length : Int)) = false := decide_eq_false (by omega)
      have hie : i = l.length := by omega
      rw [hie, rnM_all] at hrw
      rw [hie] at hst
      have HSt : Hid (∀ j, j < l.length → (decl (rat l j).kind ≠ 0 ∨ nmd (rat l j).kind ≠ 0) → dclN l (rat l j).name = true → stdN l (newN l wi (rat l j).name) = false) := hst
      obtain ⟨lm, hlm⟩ : ∃ lm, l.map (rnW l wi) = lm := ⟨_, rfl⟩
      have HLm : Hid (l.map (rnW l wi) = lm ∧ lm.length = l.length) := ⟨hlm, by rw [← hlm]; simp⟩
      rw [hlm] at hrw
      have H6 : Hid (Rw wr gm lm ∧ Below w.heap.size w wr) := ⟨hrw, hbw⟩
      have HCk : Hid (Calls Try.prog 13 #[.slice (some ⟨gm, 0, none⟩) l.length (l.length + 9)] wr fun e w' => e = .returned (.agg #[.int .i64 ((chk lm).1 : Nat), .int .i64 ((chk lm).2 : Nat)]) ∧ Below wr.heap.size wr w') := by
        have := check_any (some ⟨gm, 0, none⟩) lm (l.length + 9) wr hrw.rz (by have := HN.out; have := HLm.out.2; omega)
        rw [HLm.out.2] at this
        exact this
      clear hrw hbw hst hlt hig hie hlm HM
      go_wp2_with fail
      refine Calls.mono HCk.out ?_
      rintro e w5 ⟨rfl, hb5⟩
      obtain ⟨d1, hd1⟩ : ∃ d1, (chk lm).1 = d1 := ⟨_, rfl⟩
      obtain ⟨d2, hd2⟩ : ∃ d2, (chk lm).2 = d2 := ⟨_, rfl⟩
      rw [hd1, hd2]
      have HD1 : Hid ((chk lm).1 = d1) := hd1
      have hb6 : Below wr.heap.size wr (w5.alloc (.cells #[.int .i64 (d1 : Int), .int .i64 (d2 : Int)] 32)) := hb5.alloc hb5.size _
      have H7 : Hid (Rw (w5.alloc (.cells #[.int .i64 (d1 : Int), .int .i64 (d2 : Int)] 32)) gm lm ∧ Below w.heap.size w (w5.alloc (.cells #[.int .i64 (d1 : Int), .int .i64 (d2 : Int)] 32))) := ⟨H6.out.1.same (hb6.block _ H6.out.1.lt), H6.out.2.trans (hb6.mono H6.out.2.size)⟩
      clear hb5 hb6 hd1 hd2 HCk H6
      by_cases h0 : d1 ≠ 0
      · have hc : ((d1 : Int) != 0) = true := by simp; omega
        have HB0 : Hid (Below w.heap.size w (w5.alloc (.cells #[.int .i64 (d1 : Int), .int .i64 (d2 : Int)] 32))) := H7.out.2
        clear h0
        go_wp2_with fail
        refine Calls.mono (head_any _) ?_
        rintro e wz ⟨rfl, hbz⟩
        have HBz : Hid (Below w.heap.size w wz) := HB0.out.trans (hbz.mono HB0.out.size)
        clear hbz
        go_wp2
        go_ret
        exact ⟨rfl, HBz.out⟩
      have hc : ((d1 : Int) != 0) = false := by simp; omega
      have HD : Hid ((chk lm).1 = 0) := by show _ = _; rw [HD1.out]; omega
      clear h0 HD1
      go_wp2_with fail
      generalize w5.alloc (.cells #[.int .i64 (d1 : Int), .int .i64 (d2 : Int)] 32) = w6 at *
      refine Calls.mono (lendR_any ao l cap w6 (HI.out.below H7.out.2) (by have := HN.out; omega)) ?_
      rintro e w7 ⟨rfl, hR7, hb7⟩
      have H8 : Hid (IsRz w7 (some ⟨w6.heap.size, 0, none⟩) l ∧ Rw w7 gm lm ∧ Below w.heap.size w w7) := ⟨RowZ.reads (l' := (List.range 9).map (fun j => mkL (l.length + j)) ++ List.replicate (9 - 9) rz0) hR7, H7.out.1.same (hb7.block _ H7.out.1.lt), H7.out.2.trans (hb7.mono H7.out.2.size)⟩
      clear hR7 hb7 hc H7
      go_wp2_with fail
      refine Calls.mono (resolve_any (cap := l.length + 9) H8.out.1 (by have := HN.out; omega)) ?_
      rintro e w8 hT
      obtain ⟨nm, ro, qo, vo, tto, uo, oo, rc, qc, vc, tc, uc, oc, rfl, hr8, hu8, ho8, hb8⟩ := told_bx hT
      obtain ⟨o, hout⟩ : ∃ o, ouOf (res l) = o := ⟨_, rfl⟩
      have HOu : Hid (ouOf (res l) = o ∧ o.rl.length ≤ 400 ∧ o.us.length ≤ 2932031007317 ∧ o.os.length ≤ 2932031007317) := ⟨hout, by rw [← hout]; exact ou_le HN.out.1⟩
      rw [hout] at hr8 hu8 ho8 ⊢
      have hb9 : Below w8.heap.size w8 ((w8.alloc (.cells #[.string nm, .slice ro o.rl.length rc, .slice qo o.nq qc, .slice vo o.nv vc, .slice tto o.nt tc, .slice uo o.us.length uc, .slice oo o.os.length oc, .int .i64 o.ms] 29)).alloc (.cells #[.int .i64 (o.c1 : Int), .int .i64 (o.c2 : Int)] 32)) := ((Below.refl _ w8).alloc (Nat.le_refl _) _).alloc (by simp) _
      have H9 : Hid (Bx ((w8.alloc (.cells #[.string nm, .slice ro o.rl.length rc, .slice qo o.nq qc, .slice vo o.nv vc, .slice tto o.nt tc, .slice uo o.us.length uc, .slice oo o.os.length oc, .int .i64 o.ms] 29)).alloc (.cells #[.int .i64 (o.c1 : Int), .int .i64 (o.c2 : Int)] 32)) w8.heap.size nm o ro qo vo tto uo oo rc qc vc tc uc oc ∧ ((w8.alloc (.cells #[.string nm, .slice ro o.rl.length rc, .slice qo o.nq qc, .slice vo o.nv vc, .slice tto o.nt tc, .slice uo o.us.length uc, .slice oo o.os.length oc, .int .i64 o.ms] 29)).alloc (.cells #[.int .i64 (o.c1 : Int), .int .i64 (o.c2 : Int)] 32)).heap[w8.heap.size + 1]? = some (.cells #[.int .i64 (o.c1 : Int), .int .i64 (o.c2 : Int)] 32 (0, 0)) ∧ Rw ((w8.alloc (.cells #[.string nm, .slice ro o.rl.length rc, .slice qo o.nq qc, .slice vo o.nv vc, .slice tto o.nt tc, .slice uo o.us.length uc, .slice oo o.os.length oc, .int .i64 o.ms] 29)).alloc (.cells #[.int .i64 (o.c1 : Int), .int .i64 (o.c2 : Int)] 32)) gm lm ∧ Below w.heap.size w ((w8.alloc (.cells #[.string nm, .slice ro o.rl.length rc, .slice qo o.nq qc, .slice vo o.nv vc, .slice tto o.nt tc, .slice uo o.us.length uc, .slice oo o.os.length oc, .int .i64 o.ms] 29)).alloc (.cells #[.int .i64 (o.c1 : Int), .int .i64 (o.c2 : Int)] 32))) := by
        have hb := H8.out.2.2.trans (hb8.mono H8.out.2.2.size)
        have hrw := H8.out.2.1.same (hb8.block _ H8.out.2.1.lt)
        exact ⟨⟨by rw [alloc_old _ _ _ (by simp)]; exact alloc_at _ _ _ rfl, hr8.below hb9, IsVals.below hu8 hb9, IsVals.below ho8 hb9⟩, alloc_at _ _ _ (by simp), hrw.same (hb9.block _ hrw.lt), hb.trans (hb9.mono hb.size)⟩
      clear hT hout hr8 hu8 ho8 hb8 hb9 H8
      go_wp2_with fail
      generalize ((w8.alloc (.cells #[.string nm, .slice ro o.rl.length rc, .slice qo o.nq qc, .slice vo o.nv vc, .slice tto o.nt tc, .slice uo o.us.length uc, .slice oo o.os.length oc, .int .i64 o.ms] 29)).alloc (.cells #[.int .i64 (o.c1 : Int), .int .i64 (o.c2 : Int)] 32)) = w9 at *
      have HRe : Hid (Calls Try.prog 8 #[.slice (some ⟨gm, 0, none⟩) l.length (l.length + 9)] w9 (Told w9 (res lm))) := by
        have := resolve_any (cap := l.length + 9) H9.out.2.2.1.rz (by have := HN.out; have := HLm.out.2; omega)
        rw [HLm.out.2] at this
        exact this
      refine Calls.mono HRe.out ?_
      rintro e wA hT
      obtain ⟨nm2, ro2, qo2, vo2, tto2, uo2, oo2, rc2, qc2, vc2, tc2, uc2, oc2, rfl, hrA, huA, hoA, hbA⟩ := told_bx hT
      obtain ⟨σ, hσ⟩ := ou_ren (wi := wi) (by have := HN.out; omega) HSt.out HC.out (by rw [HLm.out.1]; exact HD.out)
      rw [HLm.out.1, HOu.out.1] at hσ
      rw [hσ] at hrA huA hoA ⊢
      dsimp only at hrA huA hoA ⊢
      rw [List.length_map]
      have hbB : Below wA.heap.size wA ((wA.alloc (.cells #[.string nm2, .slice ro2 o.rl.length rc2, .slice qo2 o.nq qc2, .slice vo2 o.nv vc2, .slice tto2 o.nt tc2, .slice uo2 o.us.length uc2, .slice oo2 o.os.length oc2, .int .i64 o.ms] 29)).alloc (.cells #[.int .i64 (o.c1 : Int), .int .i64 (o.c2 : Int)] 32)) := ((Below.refl _ wA).alloc (Nat.le_refl _) _).alloc (by simp) _
      have hbC : Below w9.heap.size w9 ((wA.alloc (.cells #[.string nm2, .slice ro2 o.rl.length rc2, .slice qo2 o.nq qc2, .slice vo2 o.nv vc2, .slice tto2 o.nt tc2, .slice uo2 o.us.length uc2, .slice oo2 o.os.length oc2, .int .i64 o.ms] 29)).alloc (.cells #[.int .i64 (o.c1 : Int), .int .i64 (o.c2 : Int)] 32)) := hbA.trans (hbB.mono hbA.size)
      have HB : Hid (Bx ((wA.alloc (.cells #[.string nm2, .slice ro2 o.rl.length rc2, .slice qo2 o.nq qc2, .slice vo2 o.nv vc2, .slice tto2 o.nt tc2, .slice uo2 o.us.length uc2, .slice oo2 o.os.length oc2, .int .i64 o.ms] 29)).alloc (.cells #[.int .i64 (o.c1 : Int), .int .i64 (o.c2 : Int)] 32)) w8.heap.size nm o ro qo vo tto uo oo rc qc vc tc uc oc ∧ ((wA.alloc (.cells #[.string nm2, .slice ro2 o.rl.length rc2, .slice qo2 o.nq qc2, .slice vo2 o.nv vc2, .slice tto2 o.nt tc2, .slice uo2 o.us.length uc2, .slice oo2 o.os.length oc2, .int .i64 o.ms] 29)).alloc (.cells #[.int .i64 (o.c1 : Int), .int .i64 (o.c2 : Int)] 32)).heap[w8.heap.size + 1]? = some (.cells #[.int .i64 (o.c1 : Int), .int .i64 (o.c2 : Int)] 32 (0, 0)) ∧ (((wA.alloc (.cells #[.string nm2, .slice ro2 o.rl.length rc2, .slice qo2 o.nq qc2, .slice vo2 o.nv vc2, .slice tto2 o.nt tc2, .slice uo2 o.us.length uc2, .slice oo2 o.os.length oc2, .int .i64 o.ms] 29)).alloc (.cells #[.int .i64 (o.c1 : Int), .int .i64 (o.c2 : Int)] 32)).heap[wA.heap.size]? = some (.cells #[.string nm2, .slice ro2 o.rl.length rc2, .slice qo2 o.nq qc2, .slice vo2 o.nv vc2, .slice tto2 o.nt tc2, .slice uo2 o.us.length uc2, .slice oo2 o.os.length oc2, .int .i64 o.ms] 29 (0, 0)) ∧ IsRz ((wA.alloc (.cells #[.string nm2, .slice ro2 o.rl.length rc2, .slice qo2 o.nq qc2, .slice vo2 o.nv vc2, .slice tto2 o.nt tc2, .slice uo2 o.us.length uc2, .slice oo2 o.os.length oc2, .int .i64 o.ms] 29)).alloc (.cells #[.int .i64 (o.c1 : Int), .int .i64 (o.c2 : Int)] 32)) ro2 (o.rl.map (rnR σ)) ∧ IsVals ((wA.alloc (.cells #[.string nm2, .slice ro2 o.rl.length rc2, .slice qo2 o.nq qc2, .slice vo2 o.nv vc2, .slice tto2 o.nt tc2, .slice uo2 o.us.length uc2, .slice oo2 o.os.length oc2, .int .i64 o.ms] 29)).alloc (.cells #[.int .i64 (o.c1 : Int), .int .i64 (o.c2 : Int)] 32)) uo2 (iv o.us) ∧ IsVals ((wA.alloc (.cells #[.string nm2, .slice ro2 o.rl.length rc2, .slice qo2 o.nq qc2, .slice vo2 o.nv vc2, .slice tto2 o.nt tc2, .slice uo2 o.us.length uc2, .slice oo2 o.os.length oc2, .int .i64 o.ms] 29)).alloc (.cells #[.int .i64 (o.c1 : Int), .int .i64 (o.c2 : Int)] 32)) oo2 (iv o.os)) ∧ ((wA.alloc (.cells #[.string nm2, .slice ro2 o.rl.length rc2, .slice qo2 o.nq qc2, .slice vo2 o.nv vc2, .slice tto2 o.nt tc2, .slice uo2 o.us.length uc2, .slice oo2 o.os.length oc2, .int .i64 o.ms] 29)).alloc (.cells #[.int .i64 (o.c1 : Int), .int .i64 (o.c2 : Int)] 32)).heap[wA.heap.size + 1]? = some (.cells #[.int .i64 (o.c1 : Int), .int .i64 (o.c2 : Int)] 32 (0, 0)) ∧ Below w.heap.size w ((wA.alloc (.cells #[.string nm2, .slice ro2 o.rl.length rc2, .slice qo2 o.nq qc2, .slice vo2 o.nv vc2, .slice tto2 o.nt tc2, .slice uo2 o.us.length uc2, .slice oo2 o.os.length oc2, .int .i64 o.ms] 29)).alloc (.cells #[.int .i64 (o.c1 : Int), .int .i64 (o.c2 : Int)] 32))) :=
        ⟨H9.out.1.below hbC, (hbC.block _ (blk_lt H9.out.2.1)).trans H9.out.2.1, ⟨by rw [alloc_old _ _ _ (by simp)]; exact alloc_at _ _ _ rfl, hrA.below hbB, IsVals.below huA hbB, IsVals.below hoA hbB⟩, alloc_at _ _ _ (by simp), H9.out.2.2.2.trans (hbC.mono H9.out.2.2.2.size)⟩
      have HLn : Hid (o.rl.length ≤ 400 ∧ o.us.length ≤ 2932031007317 ∧ o.os.length ≤ 2932031007317) := HOu.out.2
      have hlr : (o.rl.length : Int) ≤ 400 := by have := HLn.out; omega
      clear hT hσ hrA huA hoA hbA hbB hbC H9 HRe HOu HSt HLm HD HC HGm
      obtain ⟨k0, k1, k2, k3, k4, k5, k6, k7⟩ := pol8 HB.out.1.bx
      obtain ⟨j0, j1, j2, j3, j4, j5, j6, j7⟩ := pol8 HB.out.2.2.1.1
      obtain ⟨f0, f1⟩ := cells2 HB.out.2.1
      obtain ⟨g0, g1⟩ := cells2 HB.out.2.2.2.1
      have hne : ∀ n : Nat, (((n : Nat) : Int) != (n : Int)) = false := fun n => by simp
      go_wp2_with fail
      generalize ((wA.alloc (.cells #[.string nm2, .slice ro2 o.rl.length rc2, .slice qo2 o.nq qc2, .slice vo2 o.nv vc2, .slice tto2 o.nt tc2, .slice uo2 o.us.length uc2, .slice oo2 o.os.length oc2, .int .i64 o.ms] 29)).alloc (.cells #[.int .i64 (o.c1 : Int), .int .i64 (o.c2 : Int)] 32)) = wB at *
      generalize w8.heap.size = bp at *
      generalize wA.heap.size = bq at *
      clear k0 k1 k2 k3 k4 k5 k6 k7 j0 j1 j2 j3 j4 j5 j6 j7 f0 f1 g0 g1 hne
      go_loopg [14] o.rl.length (fun gq x wr => ∃ t : Nat, t + gq = o.rl.length ∧ x = .int .i64 (t : Int) ∧ Below wB.heap.size wB wr)
      case atStart => exact ⟨0, by omega, rfl, Below.refl _ _⟩
      case round =>
        obtain ⟨t, htg, rfl, hbr⟩ := hrel
        have HAt : Hid (∀ W, Below wB.heap.size wB W → Bx W bp nm o ro qo vo tto uo oo rc qc vc tc uc oc ∧ (W.heap[bq]? = some (.cells #[.string nm2, .slice ro2 o.rl.length rc2, .slice qo2 o.nq qc2, .slice vo2 o.nv vc2, .slice tto2 o.nt tc2, .slice uo2 o.us.length uc2, .slice oo2 o.os.length oc2, .int .i64 o.ms] 29 (0, 0)) ∧ IsRz W ro2 (o.rl.map (rnR σ)) ∧ IsVals W uo2 (iv o.us) ∧ IsVals W oo2 (iv o.os)) ∧ Below w.heap.size w W) := fun W hb => ⟨HB.out.1.below hb, ⟨(hb.block _ (blk_lt HB.out.2.2.1.1)).trans HB.out.2.2.1.1, HB.out.2.2.1.2.1.below hb, IsVals.below HB.out.2.2.1.2.2.1 hb, IsVals.below HB.out.2.2.1.2.2.2 hb⟩, HB.out.2.2.2.2.trans (hb.mono HB.out.2.2.2.2.size)⟩
        have HBr : Hid (Below wB.heap.size wB wr) := hbr
        obtain ⟨_, k1, _, _, _, k5, k6, k7⟩ := pol8 (HAt.out wr hbr).1.bx
        obtain ⟨_, j1, _, _, _, j5, j6, j7⟩ := pol8 (HAt.out wr hbr).2.1.1
        by_cases hlt : t < o.rl.length
        · have ht1 : (t : Int) < (o.rl.length : Int) := by omega
          have HK : Hid (t + gk = o.rl.length ∧ t < o.rl.length) := ⟨htg, hlt⟩
          obtain ⟨qg, qof, rfl, _, d0, d1, d2, d3, d4⟩ := (HAt.out wr hbr).2.1.2.1 t (rnR σ (rat o.rl t)) (by rw [List.getElem?_map, some_rat hlt]; rfl)
          have HRow : Hid (∀ W, Below wB.heap.size wB W → ∃ pg pof, ro = some ⟨pg, pof, none⟩ ∧ W.cell? ⟨pg, pof + t * 5, none⟩ = some (.int .i64 (rat o.rl t).kind) ∧ W.cell? ⟨pg, pof + t * 5 + 1, none⟩ = some (.string (rat o.rl t).name) ∧ W.cell? ⟨pg, pof + t * 5 + 2, none⟩ = some (.int .i64 (rat o.rl t).stop) ∧ W.cell? ⟨pg, pof + t * 5 + 3, none⟩ = some (.int .i64 (rat o.rl t).n) ∧ W.cell? ⟨pg, pof + t * 5 + 4, none⟩ = some (.int .i64 (rat o.rl t).kids)) := fun W hb => by
            obtain ⟨pg, pof, e, _, c0, c1, c2, c3, c4⟩ := (HAt.out W hb).1.r t _ (some_rat hlt)
            exact ⟨pg, pof, e, c0, c1, c2, c3, c4⟩
          obtain ⟨e0, e2, e3, e4⟩ := rn_kind (σ := σ) (rat o.rl t)
          rw [e0] at d0
          rw [e2] at d2
          rw [e3] at d3
          rw [e4] at d4
          clear e0 e2 e3 e4 htg hlt k5 k6 k7 j5 j6 j7
          generalize (rnR σ (rat o.rl t)).name = n2 at *
          generalize (rat o.rl t).kind = kd at *
          generalize (rat o.rl t).name = n1 at *
          generalize (rat o.rl t).stop = st at *
          generalize (rat o.rl t).n = nn at *
          generalize (rat o.rl t).kids = ks at *
          have hbA : Below wr.heap.size wr (wr.alloc (.cells #[.int .i64 kd, .string n2, .int .i64 st, .int .i64 nn, .int .i64 ks] 40)) := (Below.refl _ wr).alloc (Nat.le_refl _) _
          have hbX : Below wr.heap.size wr (wr.alloc (.cells #[.int .i64 kd, .string n1, .int .i64 st, .int .i64 nn, .int .i64 ks] 40)) := (Below.refl _ wr).alloc (Nat.le_refl _) _
          have hX := heap_alloc_new wr (.cells #[.int .i64 kd, .string n1, .int .i64 st, .int .i64 nn, .int .i64 ks] 40)
          have x0 : (wr.alloc (.cells #[.int .i64 kd, .string n1, .int .i64 st, .int .i64 nn, .int .i64 ks] 40)).cell? ⟨wr.heap.size, 0, none⟩ = some (.int .i64 kd) := by rw [World.cell?, hX]; rfl
          have x1 : (wr.alloc (.cells #[.int .i64 kd, .string n1, .int .i64 st, .int .i64 nn, .int .i64 ks] 40)).cell? ⟨wr.heap.size, 1, none⟩ = some (.string n1) := by rw [World.cell?, hX]; rfl
          have x2 : (wr.alloc (.cells #[.int .i64 kd, .string n1, .int .i64 st, .int .i64 nn, .int .i64 ks] 40)).cell? ⟨wr.heap.size, 2, none⟩ = some (.int .i64 st) := by rw [World.cell?, hX]; rfl
          have x3 : (wr.alloc (.cells #[.int .i64 kd, .string n1, .int .i64 st, .int .i64 nn, .int .i64 ks] 40)).cell? ⟨wr.heap.size, 3, none⟩ = some (.int .i64 nn) := by rw [World.cell?, hX]; rfl
          have x4 : (wr.alloc (.cells #[.int .i64 kd, .string n1, .int .i64 st, .int .i64 nn, .int .i64 ks] 40)).cell? ⟨wr.heap.size, 4, none⟩ = some (.int .i64 ks) := by rw [World.cell?, hX]; rfl
          have hbA2 := hbr.trans (hbA.mono hbr.size)
          have hbX2 := hbr.trans (hbX.mono hbr.size)
          obtain ⟨_, kA1, _⟩ := pol8 (HAt.out _ hbA2).1.bx
          obtain ⟨_, kX1, _⟩ := pol8 (HAt.out _ hbX2).1.bx
          obtain ⟨pg, pof, rfl, _, cA1, _⟩ := HRow.out _ hbA2
          obtain ⟨pg2, pof2, hpe, c0, c1, c2, c3, c4⟩ := HRow.out _ hbX2
          cases hpe
          have HEx : Hid (∀ m, Below wB.heap.size wB (World.drewN (wr.alloc (.cells #[.int .i64 kd, .string n1, .int .i64 st, .int .i64 nn, .int .i64 ks] 40)) m)) := fun m => hbX2.trans ((Go.Proofs.Ytjbpbgdhooggeaa.Nm.below_drewN _ m).mono hbX2.size)
          clear hbA hbX hX hbA2 hbX2 hbr HRow
          go_wp2_with fail
          go_quiet (fail)
          go_wp2_with fail
          go_roundg (o.rl.length - (t + 1))
          case measure => have := HK.out; omega
          case rel => exact ⟨t + 1, by have := HK.out; omega, by go_num, HEx.out _⟩
        · have hk' : decide (t < o.rl.length) = false := decide_eq_false hlt
          have hk3 : decide ((t : Int) < (o.rl.length : Int)) = false := decide_eq_false (by omega)
          have HS1 : Hid (Calls Try.prog 19 #[.slice uo o.us.length uc, .slice uo2 o.us.length uc2] wr fun e w' => e = .returned (.bool true) ∧ Below wr.heap.size wr w') := Calls.mono (rSameIntsJ (HAt.out wr hbr).1.u (HAt.out wr hbr).2.1.2.2.1 (by have := HLn.out; omega)) (fun e w' ⟨⟨b, he, hb⟩, hw⟩ => ⟨by rw [he, hb.2 rfl], hw⟩)
          clear htg hlt hbr
          go_wp2_with fail
          refine Calls.mono HS1.out ?_
          rintro e wE ⟨rfl, hbE⟩
          have HE : Hid (Below wB.heap.size wB wE) := HBr.out.trans (hbE.mono HBr.out.size)
          have HS2 : Hid (Calls Try.prog 19 #[.slice oo o.os.length oc, .slice oo2 o.os.length oc2] wE fun e w' => e = .returned (.bool true) ∧ Below wE.heap.size wE w') := Calls.mono (rSameIntsJ (HAt.out wE HE.out).1.o (HAt.out wE HE.out).2.1.2.2.2 (by have := HLn.out; omega)) (fun e w' ⟨⟨b, he, hb⟩, hw⟩ => ⟨by rw [he, hb.2 rfl], hw⟩)
          clear hbE k1 k5 k6 k7 j1 j5 j6 j7 HS1
          obtain ⟨_, k1, _, _, _, k5, k6, k7⟩ := pol8 (HAt.out wE HE.out).1.bx
          obtain ⟨_, j1, _, _, _, j5, j6, j7⟩ := pol8 (HAt.out wE HE.out).2.1.1
          go_wp2_with fail
          refine Calls.mono HS2.out ?_
          rintro e wF ⟨rfl, hbF⟩
          have HF2 : Hid (Below wB.heap.size wB wF) := HE.out.trans (hbF.mono HE.out.size)
          have HB0 : Hid (Below w.heap.size w wF) := (HAt.out wF HF2.out).2.2
          clear hbF k1 k5 k6 k7 j1 j5 j6 j7 HS2
          obtain ⟨_, k1, _, _, _, k5, k6, k7⟩ := pol8 (HAt.out wF HF2.out).1.bx
          obtain ⟨_, j1, _, _, _, j5, j6, j7⟩ := pol8 (HAt.out wF HF2.out).2.1.1
          go_wp2_with fail
          refine Calls.mono (head_any _) ?_
          rintro e wz ⟨rfl, hbz⟩
          have HBz : Hid (Below w.heap.size w wz) := HB0.out.trans (hbz.mono HB0.out.size)
          clear hbz
          go_wp2
          go_ret
          exact ⟨rfl, HBz.out⟩
end Go.Proofs.Ytjbpbgdhooggeaa.Nm
namespace Go.Proofs.Ytjbpbgdhooggeaa.namesRenamed
open Go.RowKit Go.Proofs.Ytjbpbgdhooggeaa.Gr

theorem walk (ao : Option Addr) (l : List Rz) (cap : Nat) (wi : ByteArray) (w : World) (h : IsRz w ao l) (hn : l.length ≤ 2932031007317) (_hkd : ∀ r ∈ l, r.kids ≤ 9223372036854775807 ∧ r.name.size ≤ 4611686018427387000) :
    Calls Try.prog 4 #[.slice ao l.length cap, .string wi] w fun e w' => e = .returned (.bool true) ∧ Below w.heap.size w w' := Go.Proofs.Ytjbpbgdhooggeaa.Nm.renamedWalk ao l cap wi w h hn
end Go.Proofs.Ytjbpbgdhooggeaa.namesRenamed

namespace Go.Proofs.Ytjbpbgdhooggeaa.Lx
open Go.ChangeShapes Go.WideShapes Go.ChangeAt Go.RowKit Go.Proofs.Ytjbpbgdhooggeaa.Sp

theorem own : ownKnob Try.prog.godebug = none := by kernel_rfl
theorem laidOut : laidOutB Try.prog = true := by kernel_rfl
theorem bytes5 : Try.prog.bytesOf 5 = 1 := by kernel_rfl

theorem open_bytes {H : Type} {enc : TypeId × Value → H} {W : World} {a : Option Addr} {len cap : Nat} {d : DataW H} {p : List MemPlace} (h : DataW.Trod enc Try.prog W 0 (fun _ => true) true 67 (.slice a len cap) d p) :
    ∃ s : ByteArray, s.size = len ∧ len ≤ cap ∧ IsBytes W a s ∧ (len = 0 ∨ ∃ el sp, d = .slice el sp ∧ el.length = len) := by
  obtain ⟨fuel, hf⟩ := h
  rcases open_ints Try.underlying67 Try.underlying5 (by kernel_rfl) hf with ⟨hcs, hx⟩ | ⟨x, l, c, zs, hcs, _, hl, hm, hz, hx, hcell, hwz⟩
  · simp [Value.cells] at hcs
    obtain ⟨rfl, rfl, rfl⟩ := hcs
    exact ⟨ByteArray.empty, rfl, Nat.le_refl _, fun i hi => absurd hi (Nat.not_lt_zero _), Or.inl rfl⟩
  · simp [Value.cells] at hcs
    obtain ⟨rfl, rfl, rfl⟩ := hcs
    simp at hz hx
    obtain ⟨rfl, rfl⟩ := hx
    have hsz : (strOfNums (zs.take len)).size = len := by rw [strOfNums_size]; simp; omega
    refine ⟨strOfNums (zs.take len), hsz, hl, fun i hi => ?_, Or.inr ⟨_, _, rfl, by simp [lits]; omega⟩⟩
    obtain ⟨b, off, spot⟩ := x
    have h0 := hcell 0 (by omega)
    have hspot : spot = none := by simpa [Addr.add] using World.cell?_spot h0
    subst hspot
    have hB : Lib.Bytes W b off (strOfNums (zs.take len)) := Lib.bytes_of_nums (n := len) (by simp; omega) (fun x hx => by
      have hx := bounds_u8 (hwz x (List.mem_of_mem_take hx))
      omega) (fun j hj => by
        have := hcell j (by omega)
        rw [Lib.addr_add] at this
        rw [this]
        simp [List.getD, List.getElem?_take_of_lt hj])
    have hc := hB i hi
    refine ⟨b, off, rfl, World.block_lt_of_cell? W _ hc, ?_⟩
    rw [hc, nb_get _ i hi]
theorem bytes_reach {H : Type} {ts : List TypeId} {ds : List (DataW H)} (hsz : (DataW.weightsEach Try.prog ts ds).all (· ≤ reachBytes) = true) {j len : Nat} {d : DataW H} (ht : ts[j]? = some 67) (hd : ds[j]? = some d) (h : len = 0 ∨ ∃ el sp, d = .slice el sp ∧ el.length = len) : len ≤ 140737488351232 := by
  rcases h with rfl | ⟨el, sp, rfl, rfl⟩
  · omega
  · have := sized_slice hsz ht hd Try.underlying67
    rw [bytes5] at this
    simp only [reachBytes] at this
    omega
end Go.Proofs.Ytjbpbgdhooggeaa.Lx

namespace Go.Proofs.Ytjbpbgdhooggeaa.Gr
open Go.ChangeShapes Go.WideShapes Go.ChangeAt Go.RowKit Go.Deep Go.Proofs.Ytjbpbgdhooggeaa.Sp Go.Proofs.Ytjbpbgdhooggeaa.Lx

theorem bytes40 : Try.prog.bytesOf 40 = 48 := by kernel_rfl
theorem cells40 : Try.prog.cellsOf 40 = 5 := by kernel_rfl
theorem cells3 : Try.prog.cellsOf 3 = 1 := by kernel_rfl
theorem cells9 : Try.prog.cellsOf 9 = 1 := by kernel_rfl
instance : Inhabited Rz := ⟨rz0⟩
/-- a row's datum -/
def dz {H : Type} (r : Rz) : DataW H := .agg [.lit (.int .i64 r.kind), .lit (.string r.name.data.toList), .lit (.int .i64 r.stop), .lit (.int .i64 r.n), .lit (.int .i64 r.kids)]
theorem wf_le {n : Int} (h : (Lit.int .i64 n).wf = true) : n ≤ 9223372036854775807 := by
  simp [Lit.wf] at h
  omega
theorem five {α : Type} {l : List α} (h : l.length = 5) : ∃ a b c d e, l = [a, b, c, d, e] := by
  match l, h with
  | [a, b, c, d, e], _ => exact ⟨a, b, c, d, e, rfl⟩
theorem open_one {H : Type} {enc : TypeId × Value → H} {W : World} {base n : Nat} {sp : Nat → Bool} {hd : Bool} {cs : List Value} {d : DataW H} {pl : List MemPlace} (h : DataW.trod enc Try.prog W base sp hd n 40 cs = some (d, pl)) :
    ∃ r : Rz, cs = [.int .i64 r.kind, .string r.name, .int .i64 r.stop, .int .i64 r.n, .int .i64 r.kids] ∧ d = dz r ∧ r.kids ≤ 9223372036854775807 := by
  obtain ⟨xs, k, hk, hxy, hl, hxl, hf⟩ := DataW.trod_struct Try.underlying40 h
  rw [cells40] at hl
  have hxl5 : xs.length = 5 := hxl
  obtain ⟨y0, y1, y2, y3, y4, rfl⟩ := five hxl5
  obtain ⟨v0, v1, v2, v3, v4, rfl⟩ := five hl
  have g0 := hf 0 _ rfl
  have g1 := hf 1 _ rfl
  have g2 := hf 2 _ rfl
  have g3 := hf 3 _ rfl
  have g4 := hf 4 _ rfl
  simp [cells3, cells9] at g0 g1 g2 g3 g4
  obtain ⟨a0, e0, f0, _⟩ := DataW.trod_int Try.underlying3 g0
  obtain ⟨a1, e1, f1, _⟩ := DataW.trod_string Try.underlying9 g1
  obtain ⟨a2, e2, f2, _⟩ := DataW.trod_int Try.underlying3 g2
  obtain ⟨a3, e3, f3, _⟩ := DataW.trod_int Try.underlying3 g3
  obtain ⟨a4, e4, f4, w4⟩ := DataW.trod_int Try.underlying3 g4
  simp only [List.cons.injEq, and_true] at e0 e1 e2 e3 e4
  subst e0 e1 e2 e3 e4 f0 f1 f2 f3 f4
  simp only [Prod.mk.injEq] at hxy
  exact ⟨⟨a0, a1, a2, a3, a4⟩, rfl, by simpa [dz] using hxy.1, wf_le w4⟩
theorem open_rowsZ {H : Type} {enc : TypeId × Value → H} {W : World} {a : Option Addr} {len cap : Nat} {d : DataW H} {p : List MemPlace} (h : DataW.Trod enc Try.prog W 0 (fun _ => true) true 22 (.slice a len cap) d p) :
    ∃ l : List Rz, l.length = len ∧ len ≤ cap ∧ IsRz W a l ∧ (∀ r ∈ l, r.kids ≤ 9223372036854775807) ∧ (l = [] ∨ ∃ sp, d = .slice (l.map dz) sp) := by
  obtain ⟨fuel, hf⟩ := h
  rcases open_slice Try.underlying22 hf with ⟨hcs, _⟩ | ⟨x, l, c, m, n, D, Pl, hcs, _, hl, hm, hmm, hx, hcell⟩
  · simp [Value.cells] at hcs
    obtain ⟨rfl, rfl, rfl⟩ := hcs
    exact ⟨[], rfl, Nat.le_refl _, fun i x hx => (by simp at hx), fun r hr => (by cases hr), Or.inl rfl⟩
  · simp [Value.cells] at hcs
    obtain ⟨rfl, rfl, rfl⟩ := hcs
    simp only [if_true] at hmm
    subst hmm
    simp only [Prod.mk.injEq] at hx
    have each : ∀ i, i < len → ∃ r : Rz, W.cells? 0 (x.add (i * 5)) 5 = some [.int .i64 r.kind, .string r.name, .int .i64 r.stop, .int .i64 r.n, .int .i64 r.kids] ∧ D i = dz r ∧ r.kids ≤ 9223372036854775807 := by
      intro i hi
      obtain ⟨cs', h1, h2⟩ := hcell i (by omega)
      obtain ⟨r, rfl, h4, h5⟩ := open_one h2
      rw [cells40] at h1
      exact ⟨r, h1, h4, h5⟩
    obtain ⟨q, hq⟩ := choose_lt each
    refine ⟨(List.range len).map q, by simp, hl, fun i r hr => ?_, fun r hr => ?_, Or.inr ⟨(List.range (m - len)).map fun j => D (len + j), ?_⟩⟩
    · have hi : i < len := by
        have := (List.getElem?_eq_some_iff.1 hr).1
        simpa using this
      have hri : q i = r := by simpa [hi] using hr
      obtain ⟨h1, _, _⟩ := hq i hi
      rw [hri] at h1
      obtain ⟨_, hlen, hc⟩ := World.cells?_some h1
      have e0 := hc 0 (by omega)
      have e1 := hc 1 (by omega)
      have e2 := hc 2 (by omega)
      have e3 := hc 3 (by omega)
      have e4 := hc 4 (by omega)
      rw [add_add] at e0 e1 e2 e3 e4
      simp at e0 e1 e2 e3 e4
      obtain ⟨b, off, spot⟩ := x
      have hspot : spot = none := by
        obtain ⟨g1, _, _⟩ := hq 0 (by omega)
        obtain ⟨_, _, gc⟩ := World.cells?_some g1
        have g0 := gc 0 (by omega)
        simp [Addr.add] at g0
        simpa [Addr.add] using World.cell?_spot g0
      subst hspot
      rw [Lib.addr_add] at e0 e1 e2 e3 e4
      refine ⟨b, off, rfl, World.block_lt_of_cell? W _ e0, e0, ?_, ?_, ?_, ?_⟩
      · rw [Nat.add_assoc]; exact e1
      · rw [Nat.add_assoc]; exact e2
      · rw [Nat.add_assoc]; exact e3
      · rw [Nat.add_assoc]; exact e4
    · obtain ⟨i, hi, rfl⟩ := List.mem_map.1 hr
      exact (hq i (List.mem_range.1 hi)).2.2
    · rw [hx.1]
      congr 1
      rw [List.map_map]
      exact List.map_congr_left fun i hi => (hq i (List.mem_range.1 hi)).2.1
theorem weights_all {H : Type} {P : Program} {e : TypeId} {d : DataW H} {l : List (DataW H)} (h : d ∈ l) : ∀ n ∈ d.weights P e, n ∈ DataW.weightsAll P e l := by
  induction l with
  | nil => cases h
  | cons x r ih =>
    intro n hn
    simp only [DataW.weightsAll, List.mem_append]
    rcases List.mem_cons.1 h with rfl | h1
    · exact Or.inl hn
    · exact Or.inr (ih h1 n hn)
theorem rows_reach {H : Type} {ts : List TypeId} {ds : List (DataW H)} (hsz : (DataW.weightsEach Try.prog ts ds).all (· ≤ reachBytes) = true) {j : Nat} {l : List Rz} {d : DataW H} (ht : ts[j]? = some 22) (hd : ds[j]? = some d) (h : l = [] ∨ ∃ sp, d = .slice (l.map dz) sp) :
    l.length ≤ 2932031007317 ∧ ∀ r ∈ l, r.name.size ≤ 140737488351232 := by
  rcases h with rfl | ⟨sp, rfl⟩
  · exact ⟨by simp, fun x hx => by cases hx⟩
  · refine ⟨?_, fun x hx => ?_⟩
    · have := sized_slice hsz ht hd Try.underlying22
      rw [bytes40] at this
      simp only [reachBytes, List.length_map] at this
      omega
    · have h1 : (dz x : DataW H) ∈ l.map dz := List.mem_map.2 ⟨x, hx, rfl⟩
      have h2 := weights_all (P := Try.prog) (e := 40) h1 x.name.data.toList.length (by simp [dz, DataW.weights, Try.underlying40, DataW.weightsEach])
      have h3 := List.all_eq_true.1 hsz _ (DataW.weights_mem_each ht hd x.name.data.toList.length (by
        simp only [DataW.weights, Try.underlying22]
        exact List.mem_cons_of_mem _ (List.mem_append_left _ h2)))
      have h4 := of_decide_eq_true h3
      simpa [reachBytes] using h4
end Go.Proofs.Ytjbpbgdhooggeaa.Gr

namespace Go.Proofs.Ytjbpbgdhooggeaa.namesRenamed
open Go.ChangeShapes Go.WideShapes Go.ChangeAt Go.RowKit
open Go.Proofs.Ytjbpbgdhooggeaa.Sp Go.Proofs.Ytjbpbgdhooggeaa.Lx Go.Proofs.Ytjbpbgdhooggeaa.Gr

set_option maxRecDepth 100000 in
theorem contractF (H : Type) (enc : TypeId × Value → H) (W : World) (base : Nat) (args : Array Value) (ds gs : List (DataW H)) (before : List MemPlace)
    (hval : ∀ (j : Nat) t v, Try.f4.params[j]? = some t → args[j]? = some v → Value.okWide Try.prog W .any base t v)
    (hW : DataW.Whole enc Try.prog Try.f4.params.toList Rows.namesRenamedSpec.vars false W args.toList ds gs before)
    (hsz : (DataW.weightsEach Try.prog (Try.f4.params.toList ++ Rows.namesRenamedSpec.plain.varTypes Try.prog) (ds ++ gs)).all (· ≤ reachBytes) = true) :
    Calls Try.prog 4 args W fun e W' => ∃ v, e = .returned v ∧ Rows.namesRenamedSpec.post enc Try.prog Try.f4 false true false false W args v W' := by
  have hW' := hW
  obtain ⟨p, q, hA0, hV, rfl, hfz, hnd⟩ := hW
  have hA : DataW.TrodAll enc Try.prog W 0 (fun _ => true) true Try.f4.params.toList args.toList ds p := hA0
  rw [Try.params4] at hA hval hsz
  obtain ⟨v0, vs0, d0, ds0, p0, q0, hargs, rfl, rfl, h0, r0⟩ := trodAll_cons hA
  obtain ⟨v1, vs1, d1, ds1, p1, q1, rfl, rfl, rfl, h1, r1⟩ := trodAll_cons r0
  obtain ⟨rfl, rfl, rfl⟩ := trodAll_nil r1
  obtain rfl : args = #[v0, v1] := by cases args; simp_all
  obtain ⟨rfl, rfl⟩ := trodVars_none hV
  obtain ⟨a0, len0, cap0, rfl⟩ := okWide_slice Try.underlying22 (hval 0 22 v0 rfl rfl)
  have lt0 : ∀ x ∈ p0, x.block < W.heap.size := by obtain ⟨m, hm⟩ := h0; exact DataW.trod_lt m _ _ _ hm
  obtain ⟨s0, rfl, cl0, ib0, kb0, dd0⟩ := open_rowsZ h0
  obtain ⟨s1, rfl, rfl, rfl, mx1⟩ := Go.ChangeMaps.open_string Try.underlying9 (hval 1 9 v1 rfl rfl) h1
  refine (walk a0 s0 cap0 s1 W ib0 (rows_reach hsz (j := 0) rfl rfl dd0).1 (fun r hr => ⟨kb0 r hr, by have := (rows_reach hsz (j := 0) rfl rfl dd0).2 r hr; omega⟩)).mono fun e W2 ⟨he, bel⟩ => ?_
  subst he
  exact ⟨_, rfl, _, _, _, [], _, [], hW', trodAll_mk1 (shut_bool Try.underlying4 _), (trodAll_cons_mk (Below.trod laidOut (by kernel_rfl) (of_decide_eq_true (by kernel_rfl)) h0 bel lt0) (trodAll_cons_mk (Go.ChangeMaps.shut_string Try.underlying9 mx1) trodAll_mk0)), rfl, bel.frame _, fun h => by cases h⟩

set_option maxRecDepth 100000 in
theorem liftedF (os : Os) (started : os.Started) (H : Type) (enc : TypeId × Value → H) :
    ReturnsInHanded {} Try.checked os 4 .any (Rows.namesRenamedSpec.pre6 enc Try.prog Try.f4 Rows.namesRenamedRow.domain false) (Rows.namesRenamedSpec.post enc Try.prog Try.f4 false true false false) := by
  refine returnsInHanded_of_change_sized (C := Try.checked) own started (by kernel_rfl) Try.func4
    (ChangeSpec.witness6 (enc := enc) (C := Try.checked) false ⟨#[], #[.slice none 0 0, .string ⟨#[]⟩], []⟩ 8 (by kernel_rfl) (by kernel_rfl) (by kernel_rfl) (by kernel_rfl)) ?_
  intro W base args ds gs before hval hW _ hsz _
  exact contractF H enc W base args ds gs before hval hW hsz

theorem provedF : Rows.NamesRenamedSaid :=
  OpenClaim.holds_of_wide 4 Try.f4 rfl rfl rfl rfl rfl rfl rfl ⟨rfl, rfl, rfl, rfl, rfl⟩ rfl rfl rfl rfl rfl (by kernel_rfl) Try.func4 (by kernel_rfl)
    (of_decide_eq_true (by kernel_rfl)) (by unfold Func.isWrapper; first | (rw [if_pos (by decide +kernel)]; kernel_rfl) | (rw [if_neg (by decide +kernel)]; exact ⟨rfl, rfl⟩))
    (fun os started H enc _ => liftedF os started H enc)
end Go.Proofs.Ytjbpbgdhooggeaa.namesRenamed
