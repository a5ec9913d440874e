import Derived.Test.YtelbakkgobkdaaaDoorVfSi
import Derived.Deep.DeepCutAuto
namespace Go.Proofs.YtelbakkgobkdaaaDoor.Vf
open Go.RowKit Go.Proofs.YtelbakkgobkdaaaDoor.Nm

set_option maxHeartbeats 12800000 in
set_option maxRecDepth 100000 in
/-- mayGo -/
theorem go_any {w : World} {wb gb : Nat} {v : PV} {p : Pg} {eo : Option Addr} {ec gc : Nat} {g : Nat → Option Sd} (h : Wk w wb gb v p eo ec gc g) (hI : Inv p g) (i : Nat) (hi : i < p.cd.length) (s : Sd) (hs : g i = some s) (ha : (p.at i).op = 22 ∨ (p.at i).op = 23 ∨ (p.at i).op = 25 ∨ (p.at i).op = 26 → 0 ≤ (p.at i).a) :
    Calls Tryd.prog 67 #[.pointer (some ⟨wb, 0, none⟩), .int .i64 (i : Int)] w fun e w' => e = .returned (.bool (goB p g i s)) ∧ Below w.heap.size w w' := by
  have HGt : Hid (∀ W, Below w.heap.size w W → ∀ n : Nat, Calls Tryd.prog 89 #[.pointer (some ⟨wb, 0, none⟩), .int .i64 (i : Int), .int .i64 (n : Int)] W fun e w' => e = .returned (.bool (goTo p i (n : Int))) ∧ w' = W) := fun W hb n => goTo_any (h.below hb) i n
  have HTn : Hid (∀ W, Below w.heap.size w W → ∀ n : Nat, Calls Tryd.prog 90 #[.pointer (some ⟨wb, 0, none⟩), .int .i64 (n : Int)] W fun e w' => e = .returned (.bool (isTurn p (n : Int))) ∧ w' = W) := fun W hb n => turn_any (h.below hb) n
  have HCo : Hid (∀ W, Below w.heap.size w W → ∀ n : Int, Calls Tryd.prog 91 #[.slice eo (evs p).length ec, .int .i64 n] W fun e w' => e = .returned (.bool ((evs p).contains n)) ∧ w' = W) := fun W hb n => contains_any eo (evs p) ec n W (h.ev.below hb) (by unfold evs; rw [List.length_append, List.length_singleton]; have := h.pg.lon; omega)
  have hel : (evs p).length = p.on.length + 1 := by unfold evs; simp
  rw [hel] at HCo
  obtain ⟨qo, qc, vo, vc, tto, tc, oo, oc, co, cc⟩ := v
  obtain ⟨cg, cf, rfl, c5, c7, d0, d1, d2, d3, d4⟩ := h.reads hi
  obtain ⟨-, -, -, -, -, -, c6, -⟩ := cells8 h.hw
  obtain ⟨e0, e1, e2, e3, e4, e5, e6, e7⟩ := h.isS hi hs
  obtain ⟨ty, hd, tn⟩ := s
  dsimp only at e0 e1 e2 e3 e4 e6 e7
  have n3 : (p.cd.length : Int) ≤ 1000000000000000 := by have := h.pg.lcd; omega
  have hi' : (i : Int) < (p.cd.length : Int) := by omega
  have HW : Hid (Wk w wb gb ⟨qo, qc, vo, vc, tto, tc, oo, oc, some ⟨cg, cf, none⟩, cc⟩ p eo ec gc g) := h
  have HI : Hid (Inv p g) := hI
  have hx : p.at i = p.cd[i] := at_eq hi
  obtain ⟨R, hR⟩ : ∃ R, R = goB p g i ⟨ty, hd, tn⟩ := ⟨_, rfl⟩
  rw [← hR]
  unfold goB at hR
  rw [hx] at ha hR
  obtain ⟨x, hxx⟩ : ∃ x, x = p.cd[i] := ⟨_, rfl⟩
  obtain ⟨y0, y1, y2, y3, y4⟩ := x
  simp only [← hxx] at ha d0 d1 d2 d3 d4 hR
  have HL : Hid (∀ W, Below w.heap.size w W → (fun w' : World => w'.cell? ⟨wb, 5, none⟩ = some (.slice (some ⟨cg, cf, none⟩) p.cd.length cc) ∧ w'.cell? ⟨wb, 7, none⟩ = some (.slice (some ⟨gb, 0, none⟩) p.cd.length gc) ∧ w'.cell? ⟨gb, i * 8, none⟩ = some (.int .i64 (ty.length : Int)) ∧ w'.cell? ⟨gb, i * 8 + 1, none⟩ = some (.int .u64 (wd ty 0 : Int)) ∧ w'.cell? ⟨gb, i * 8 + 2, none⟩ = some (.int .u64 (wd ty 1 : Int)) ∧ w'.cell? ⟨gb, i * 8 + 3, none⟩ = some (.int .u64 (wd ty 2 : Int)) ∧ w'.cell? ⟨gb, i * 8 + 4, none⟩ = some (.int .u64 (wd ty 3 : Int)) ∧ w'.cell? ⟨gb, i * 8 + 5, none⟩ = some (.bool true) ∧ w'.cell? ⟨gb, i * 8 + 6, none⟩ = some (.int .i64 (hd : Int)) ∧ w'.cell? ⟨gb, i * 8 + 7, none⟩ = some (.int .i64 tn) ∧ w'.cell? ⟨cg, cf + i * 5, none⟩ = some (.int .i64 y0) ∧ w'.cell? ⟨cg, cf + i * 5 + 1, none⟩ = some (.int .i64 y1) ∧ w'.cell? ⟨cg, cf + i * 5 + 2, none⟩ = some (.int .i64 y2) ∧ w'.cell? ⟨cg, cf + i * 5 + 3, none⟩ = some (.int .i64 y3) ∧ w'.cell? ⟨cg, cf + i * 5 + 4, none⟩ = some (.int .i64 y4)) W) := fun W hb => by
    have hc : ∀ b o v, w.cell? ⟨b, o, none⟩ = some v → W.cell? ⟨b, o, none⟩ = some v := fun b o v hv => by
      have hlt : b < w.heap.size := by
        rcases Nat.lt_or_ge b w.heap.size with h1 | h1
        · exact h1
        · exfalso
          simp [World.cell?, Array.getElem?_eq_none h1] at hv
      exact (hb.cell (p := ⟨b, o, none⟩) hlt).trans hv
    exact ⟨hc _ _ _ c5, hc _ _ _ c7, hc _ _ _ e0, hc _ _ _ e1, hc _ _ _ e2, hc _ _ _ e3, hc _ _ _ e4, hc _ _ _ e5, hc _ _ _ e6, hc _ _ _ e7, hc _ _ _ d0, hc _ _ _ d1, hc _ _ _ d2, hc _ _ _ d3, hc _ _ _ d4⟩
  have HSb := HL
  have HR : Hid _ := hR
  clear hR
  clear hx h hI hel c5 c7 d0 d1 d2 d3 d4 e0 e1 e2 e3 e4 e5 e6 e7 HL
  go_enter Tryd.func67, Tryd.ntmps67
  go_upto_region 1 with fail
  go_cut [5, 6] (fun s5 s6 wx => ∃ bs bi, s5 = .pointer (some ⟨bs, 0, none⟩) ∧ s6 = .pointer (some ⟨bi, 0, none⟩) ∧ Si w.heap.size w wx bs bi #[.int .i64 (ty.length : Int), .int .u64 (wd ty 0 : Int), .int .u64 (wd ty 1 : Int), .int .u64 (wd ty 2 : Int), .int .u64 (wd ty 3 : Int), .bool true, .int .i64 (hd : Int), .int .i64 tn] #[.int .i64 y0, .int .i64 y1, .int .i64 y2, .int .i64 y3, .int .i64 y4])
  case first =>
    refine wp_region_held (S := fun w' : World => w'.cell? ⟨wb, 5, none⟩ = some (.slice (some ⟨cg, cf, none⟩) p.cd.length cc) ∧ w'.cell? ⟨wb, 7, none⟩ = some (.slice (some ⟨gb, 0, none⟩) p.cd.length gc) ∧ w'.cell? ⟨gb, i * 8, none⟩ = some (.int .i64 (ty.length : Int)) ∧ w'.cell? ⟨gb, i * 8 + 1, none⟩ = some (.int .u64 (wd ty 0 : Int)) ∧ w'.cell? ⟨gb, i * 8 + 2, none⟩ = some (.int .u64 (wd ty 1 : Int)) ∧ w'.cell? ⟨gb, i * 8 + 3, none⟩ = some (.int .u64 (wd ty 2 : Int)) ∧ w'.cell? ⟨gb, i * 8 + 4, none⟩ = some (.int .u64 (wd ty 3 : Int)) ∧ w'.cell? ⟨gb, i * 8 + 5, none⟩ = some (.bool true) ∧ w'.cell? ⟨gb, i * 8 + 6, none⟩ = some (.int .i64 (hd : Int)) ∧ w'.cell? ⟨gb, i * 8 + 7, none⟩ = some (.int .i64 tn) ∧ w'.cell? ⟨cg, cf + i * 5, none⟩ = some (.int .i64 y0) ∧ w'.cell? ⟨cg, cf + i * 5 + 1, none⟩ = some (.int .i64 y1) ∧ w'.cell? ⟨cg, cf + i * 5 + 2, none⟩ = some (.int .i64 y2) ∧ w'.cell? ⟨cg, cf + i * 5 + 3, none⟩ = some (.int .i64 y3) ∧ w'.cell? ⟨cg, cf + i * 5 + 4, none⟩ = some (.int .i64 y4)) (by kernel_rfl) ?_
    have hS : (fun w' : World => w'.cell? ⟨wb, 5, none⟩ = some (.slice (some ⟨cg, cf, none⟩) p.cd.length cc) ∧ w'.cell? ⟨wb, 7, none⟩ = some (.slice (some ⟨gb, 0, none⟩) p.cd.length gc) ∧ w'.cell? ⟨gb, i * 8, none⟩ = some (.int .i64 (ty.length : Int)) ∧ w'.cell? ⟨gb, i * 8 + 1, none⟩ = some (.int .u64 (wd ty 0 : Int)) ∧ w'.cell? ⟨gb, i * 8 + 2, none⟩ = some (.int .u64 (wd ty 1 : Int)) ∧ w'.cell? ⟨gb, i * 8 + 3, none⟩ = some (.int .u64 (wd ty 2 : Int)) ∧ w'.cell? ⟨gb, i * 8 + 4, none⟩ = some (.int .u64 (wd ty 3 : Int)) ∧ w'.cell? ⟨gb, i * 8 + 5, none⟩ = some (.bool true) ∧ w'.cell? ⟨gb, i * 8 + 6, none⟩ = some (.int .i64 (hd : Int)) ∧ w'.cell? ⟨gb, i * 8 + 7, none⟩ = some (.int .i64 tn) ∧ w'.cell? ⟨cg, cf + i * 5, none⟩ = some (.int .i64 y0) ∧ w'.cell? ⟨cg, cf + i * 5 + 1, none⟩ = some (.int .i64 y1) ∧ w'.cell? ⟨cg, cf + i * 5 + 2, none⟩ = some (.int .i64 y2) ∧ w'.cell? ⟨cg, cf + i * 5 + 3, none⟩ = some (.int .i64 y3) ∧ w'.cell? ⟨cg, cf + i * 5 + 4, none⟩ = some (.int .i64 y4)) w.drew := HSb.out _ (Below.refl _ w).drew
    change wpAnyH _ _ _ _ _ _ _ _ w.drew
    refine tqA 0 rfl hS ?_
    refine tqA 1 rfl hS ?_
    refine tqA 2 rfl hS ?_
    refine tqA 3 rfl hS ?_
    refine tqA 4 rfl hS ?_
    refine tqA 5 rfl hS ?_
    refine tqA 6 rfl hS ?_
    refine tqA 7 rfl hS ?_
    refine tqA 8 rfl hS ?_
    refine tqA 9 rfl hS ?_
    refine tqA 10 rfl hS ?_
    refine tqA 11 rfl hS ?_
    refine tqA 12 rfl hS ?_
    refine tqA 13 rfl hS ?_
    refine tqA 14 rfl hS ?_
    refine wpAnyH_ready (rs := [15, 16]) (by kernel_rfl) (by simp) ?_
    refine AllReadyH.cons rfl (fun K hK => ?_) (AllReadyH.cons rfl (fun K hK => ?_) AllReadyH.nil)
    · go_simp
      refine hK.out _ _ (HSb.out _ ((Below.refl _ w).alloc (Nat.le_refl _) _).drew) (fun hS => ?_)
      refine wpAnyH_ready (rs := [16]) (by kernel_rfl) (by simp) ?_
      refine AllReadyH.cons rfl (fun K hK => ?_) AllReadyH.nil
      go_simp
      refine hK.out _ _ (HSb.out _ (((Below.refl _ w).alloc (Nat.le_refl _) _).alloc (by simp) _).drew) (fun hS => ?_)
      refine wpAnyH_ready (rs := [17]) (by kernel_rfl) (by simp) ?_
      refine AllReadyH.cons rfl (fun K hK => ?_) AllReadyH.nil
      go_simp
      refine hK.out _ _ (HSb.out _ (((Below.refl _ w).alloc (Nat.le_refl _) _).alloc (by simp) _).drew) (fun hS => ?_)
      refine wpAnyH_ready (rs := [18]) (by kernel_rfl) (by simp) ?_
      refine AllReadyH.cons rfl (fun K hK => ?_) AllReadyH.nil
      go_simp
      refine hK.out _ _ (HSb.out _ (((Below.refl _ w).alloc (Nat.le_refl _) _).alloc (by simp) _).drew) (fun hS => ?_)
      refine wpAnyH_done (by kernel_rfl) ?_ _
      clear hK K hS
      go_wp2_with fail
      go_meet
      exact ⟨_, _, rfl, rfl, Si.mk1 w _ _⟩
    · go_simp
      refine hK.out _ _ (HSb.out _ ((Below.refl _ w).alloc (Nat.le_refl _) _).drew) (fun hS => ?_)
      refine wpAnyH_ready (rs := [15]) (by kernel_rfl) (by simp) ?_
      refine AllReadyH.cons rfl (fun K hK => ?_) AllReadyH.nil
      go_simp
      refine hK.out _ _ (HSb.out _ (((Below.refl _ w).alloc (Nat.le_refl _) _).alloc (by simp) _).drew) (fun hS => ?_)
      refine wpAnyH_ready (rs := [17]) (by kernel_rfl) (by simp) ?_
      refine AllReadyH.cons rfl (fun K hK => ?_) AllReadyH.nil
      go_simp
      refine hK.out _ _ (HSb.out _ (((Below.refl _ w).alloc (Nat.le_refl _) _).alloc (by simp) _).drew) (fun hS => ?_)
      refine wpAnyH_ready (rs := [18]) (by kernel_rfl) (by simp) ?_
      refine AllReadyH.cons rfl (fun K hK => ?_) AllReadyH.nil
      go_simp
      refine hK.out _ _ (HSb.out _ (((Below.refl _ w).alloc (Nat.le_refl _) _).alloc (by simp) _).drew) (fun hS => ?_)
      refine wpAnyH_done (by kernel_rfl) ?_ _
      clear hK K hS
      go_wp2_with fail
      go_meet
      exact ⟨_, _, rfl, rfl, Si.mk2 w _ _⟩
  case rest =>
    obtain ⟨bs, bi, rfl, rfl, hsi⟩ := hcut
    obtain ⟨i0, i1, i2, i3, i4⟩ := cells5 hsi.hi
    obtain ⟨j0, j1, j2, j3, j4, j5, j6, j7⟩ := cells8 hsi.hs
    have HX : Hid _ := hsi
    clear hsi HSb
    have hWk : Wk wc wb gb ⟨qo, qc, vo, vc, tto, tc, oo, oc, some ⟨cg, cf, none⟩, cc⟩ p eo ec gc g := HW.out.below HX.out.bel
    obtain ⟨-, -, -, -, -, c5, c6, c7⟩ := cells8 hWk.hw
    dsimp only at c5
    have HWk : Hid (Wk wc wb gb ⟨qo, qc, vo, vc, tto, tc, oo, oc, some ⟨cg, cf, none⟩, cc⟩ p eo ec gc g) := hWk
    clear hWk HW
    have HGt2 : Hid (∀ n : Nat, Calls Tryd.prog 89 #[.pointer (some ⟨wb, 0, none⟩), .int .i64 (i : Int), .int .i64 (n : Int)] wc fun e w' => e = .returned (.bool (goTo p i (n : Int))) ∧ w' = wc) := fun n => HGt.out wc HX.out.bel n
    have hR := HR.out
    clear HR
    by_cases o22 : y0 = 22 ∨ y0 = 23
    · obtain ⟨n, rfl⟩ : ∃ n : Nat, y1 = (n : Int) := ⟨y1.toNat, by have := ha (by omega); omega⟩
      have HC2 := show Hid _ from HGt2.out n
      rcases o22 with rfl | rfl
      all_goals
        replace hR : R = goTo p i (n : Int) := hR
        generalize goTo p i (n : Int) = r at *
        clear ha HGt HTn HCo HGt2 HWk
        have HRr : Hid _ := hR
        clear hR
        go_wp2_with fail
        refine Calls.mono HC2.out ?_
        rintro e w1 ⟨rfl, rfl⟩
        go_wp2_with fail
        go_ret
        exact ⟨by rw [HRr.out]; simp, HX.out.bel⟩
    have o1 : ¬ y0 = 22 := fun e => o22 (Or.inl e)
    have o2 : ¬ y0 = 23 := fun e => o22 (Or.inr e)
    clear o22
    simp only [o1, o2, decide_false, Bool.or_self, Bool.false_eq_true, if_false] at hR
    by_cases o24 : y0 = 24
    · subst o24
      have HC2 : Hid (Calls Tryd.prog 90 #[.pointer (some ⟨wb, 0, none⟩), .int .i64 ((i : Int) + 1)] wc fun e w' => e = .returned (.bool (isTurn p ((i : Int) + 1))) ∧ w' = wc) := by
        have := HTn.out wc HX.out.bel (i + 1)
        rw [show ((i + 1 : Nat) : Int) = (i : Int) + 1 by omega] at this
        exact this
      simp only [if_true] at hR
      generalize isTurn p ((i : Int) + 1) = r at *
      clear ha HGt HTn HCo HGt2 HWk o1 o2
      have HRr : Hid _ := hR
      clear hR
      go_wp2_with fail
      refine Calls.mono HC2.out ?_
      rintro e w1 ⟨rfl, rfl⟩
      go_wp2_with fail
      go_ret
      exact ⟨by rw [HRr.out]; rfl, HX.out.bel⟩
    simp only [o24, if_false] at hR
    by_cases o25 : y0 = 25
    · subst o25
      obtain ⟨n, rfl⟩ : ∃ n : Nat, y1 = (n : Int) := ⟨y1.toNat, by have := ha (by omega); omega⟩
      have HC2 := show Hid _ from HGt2.out n
      simp only [if_true] at hR
      generalize goTo p i (n : Int) = r at *
      clear ha HGt HTn HGt2
      cases r
      · rw [Bool.false_and] at hR
        have HRr : Hid _ := hR
        clear hR
        go_wp2_with fail
        refine Calls.mono HC2.out ?_
        rintro e w1 ⟨rfl, rfl⟩
        go_wp2_with fail
        go_ret
        exact ⟨by rw [HRr.out]; rfl, HX.out.bel⟩
      rw [Bool.true_and] at hR
      by_cases hi0 : i = 0
      · subst hi0
        rw [decide_eq_false (by omega), Bool.false_and] at hR
        have HRr : Hid _ := hR
        clear hR
        go_wp2_with fail
        refine Calls.mono HC2.out ?_
        rintro e w1 ⟨rfl, rfl⟩
        go_wp2_with fail
        go_ret
        exact ⟨by rw [HRr.out]; rfl, HX.out.bel⟩
      obtain ⟨m, hm⟩ : ∃ m, i = m + 1 := ⟨i - 1, by omega⟩
      have hm1 : (i : Int) - 1 = (m : Int) := by omega
      have hi1 : (0 : Int) < (i : Int) := by omega
      have hml : m < p.cd.length := by omega
      have hml' : (m : Int) < (p.cd.length : Int) := by omega
      obtain ⟨cg2, cf2, hco2, -, -, f0, -⟩ := HWk.out.reads hml
      obtain ⟨rfl, rfl⟩ : cg = cg2 ∧ cf = cf2 := by cases hco2; exact ⟨rfl, rfl⟩
      rw [decide_eq_true (by omega), Bool.true_and, show i - 1 = m by omega, at_eq hml] at hR
      generalize p.cd[m].op = ym at *
      have HCo2 : Hid (Calls Tryd.prog 91 #[.slice eo (p.on.length + 1) ec, .int .i64 (i : Int)] wc fun e w' => e = .returned (.bool ((evs p).contains (i : Int))) ∧ w' = wc) := HCo.out wc HX.out.bel _
      generalize (evs p).contains (i : Int) = ev at *
      clear HCo HWk hm hml hco2 hi0
      by_cases hy : ym = 24
      · subst hy
        rw [decide_eq_true rfl, Bool.true_and] at hR
        have HRr : Hid _ := hR
        clear hR
        go_wp2_with fail
        refine Calls.mono HC2.out ?_
        rintro e w1 ⟨rfl, rfl⟩
        go_wp2_with fail
        refine Calls.mono HCo2.out ?_
        rintro e w1 ⟨rfl, rfl⟩
        go_wp2_with fail
        go_ret
        exact ⟨by rw [HRr.out]; rfl, HX.out.bel⟩
      · have hy' : (ym == 24) = false := by simpa using hy
        rw [decide_eq_false hy, Bool.false_and] at hR
        have HRr : Hid _ := hR
        clear hR
        go_wp2_with fail
        refine Calls.mono HC2.out ?_
        rintro e w1 ⟨rfl, rfl⟩
        go_wp2_with fail
        go_ret
        exact ⟨by rw [HRr.out]; simp, HX.out.bel⟩
    simp only [o25, if_false] at hR
    have HBq : Hid (∀ n, Below w.heap.size w (wc.drewN n)) := fun n => HX.out.bel.trans ((drN _ n).mono HX.out.bel.size)
    by_cases o26 : y0 = 26
    · subst o26
      obtain ⟨n, rfl⟩ : ∃ n : Nat, y1 = (n : Int) := ⟨y1.toNat, by have := ha (by omega); omega⟩
      have HGq : Hid (∀ W, Below wc.heap.size wc W → Calls Tryd.prog 89 #[.pointer (some ⟨wb, 0, none⟩), .int .i64 (i : Int), .int .i64 (n : Int)] W fun e w' => e = .returned (.bool (goTo p i (n : Int))) ∧ w' = W) := fun W hb => goTo_any (HWk.out.below hb) i n
      simp only [if_true] at hR
      generalize goTo p i (n : Int) = r at *
      clear ha HGt HTn HCo HGt2 o1 o2
      cases r
      · rw [Bool.false_and] at hR
        clear HWk HI
        have HRr : Hid _ := hR
        clear hR
        go_wp2_with fail
        go_quiet ((go_at_call 89; exact Calls.quiet_of_same (HGq.out _ (drN _ _))))
        go_wp2_with fail
        go_ret
        exact ⟨by rw [HRr.out]; rfl, HBq.out _⟩
      rw [Bool.true_and] at hR
      by_cases ht : tn = -1
      · subst ht
        rw [decide_eq_true rfl] at hR
        clear HWk HI
        have HRr : Hid _ := hR
        clear hR
        go_wp2_with fail
        go_quiet ((go_at_call 89; exact Calls.quiet_of_same (HGq.out _ (drN _ _))))
        go_wp2_with fail
        go_ret
        exact ⟨by rw [HRr.out]; rfl, HBq.out _⟩
      have ht' : (tn == -1) = false := by simpa using ht
      rw [decide_eq_false ht] at hR
      obtain ⟨k, rfl, hk⟩ : ∃ k : Nat, tn = (k : Int) ∧ k < p.cd.length := by
        rcases HI.out.tn i _ hs with h1 | ⟨h1, t, h2⟩
        · exact absurd h1 ht
        · have h1' : 0 ≤ tn := h1
          have h2' : g tn.toNat = some t := h2
          exact ⟨tn.toNat, by omega, HI.out.lt _ _ h2'⟩
      have hk' : (k : Int) < (p.cd.length : Int) := by omega
      obtain ⟨cg2, cf2, hco2, -, -, -, f1, -⟩ := HWk.out.reads hk
      obtain ⟨rfl, rfl⟩ : cg = cg2 ∧ cf = cf2 := by cases hco2; exact ⟨rfl, rfl⟩
      have hd2 : decide ((n : Int) = (p.at (k : Int).toNat).a) = ((n : Int) == p.cd[k].a) := by
        rw [Int.toNat_natCast, at_eq hk]
        rfl
      rw [hd2] at hR
      generalize p.cd[k].a = ak at *
      clear HWk HI hco2 hd2 hk hs
      have HRr : Hid _ := hR
      clear hR
      go_wp2_with fail
      go_quiet ((go_at_call 89; exact Calls.quiet_of_same (HGq.out _ (drN _ _))))
      go_wp2_with fail
      go_ret
      exact ⟨by rw [HRr.out]; rfl, HBq.out _⟩
    simp only [o26, if_false] at hR
    by_cases o27 : y0 = 27
    · subst o27
      simp only [if_true] at hR
      clear ha HGt HTn HCo HGt2 o1 o2
      by_cases ht : tn = -1
      · subst ht
        rw [decide_eq_true rfl] at hR
        have HRr : Hid _ := hR
        clear hR HWk HI
        go_wp2_with fail
        go_quiet (fail)
        go_wp2_with fail
        go_ret
        exact ⟨by rw [HRr.out]; rfl, HBq.out _⟩
      have ht' : (tn == -1) = false := by simpa using ht
      rw [decide_eq_false ht] at hR
      by_cases hy : y1 = tn
      case neg =>
        rw [decide_eq_false hy] at hR
        have hy' : (y1 == tn) = false := by simpa using hy
        have ht2 : (tn != -1) = true := by simpa using ht
        have HRr : Hid _ := hR
        clear hR HWk HI hs
        have HS3 : Hid ((fun w' : World => w'.cell? ⟨bs, 7, none⟩ = some (.int .i64 tn) ∧ w'.cell? ⟨bi, 1, none⟩ = some (.int .i64 y1)) wc) := ⟨j7, i1⟩
        go_wp2_with fail
        refine wp_region_held (S := fun w' : World => w'.cell? ⟨bs, 7, none⟩ = some (.int .i64 tn) ∧ w'.cell? ⟨bi, 1, none⟩ = some (.int .i64 y1)) (by kernel_rfl) ?_
        have hS : (fun w' : World => w'.cell? ⟨bs, 7, none⟩ = some (.int .i64 tn) ∧ w'.cell? ⟨bi, 1, none⟩ = some (.int .i64 y1)) wc.drew := HS3.out
        change wpAnyH _ _ _ _ _ _ _ _ wc.drew
        refine tqA 0 rfl hS ?_
        refine tqA 1 rfl hS ?_
        refine tqA (v := .bool true) 2 rfl hS ?_
        refine tqA (v := .bool true) 3 rfl hS ?_
        refine tkA 4 rfl hS ?_
        refine tkA 5 rfl hS ?_
        refine tkA 6 rfl hS ?_
        refine tkA 7 rfl hS ?_
        refine tkA (v := .bool false) 8 rfl hS ?_
        refine tkA (v := .bool false) 9 rfl hS ?_
        refine tkA (v := .bool false) 10 rfl hS ?_
        refine tuA 11 rfl hS ?_
        refine tuA 12 rfl hS ?_
        refine tuA 13 rfl hS ?_
        refine tuA 14 rfl hS ?_
        refine tuA 15 rfl hS ?_
        refine tuA 16 rfl hS ?_
        refine tuA 17 rfl hS ?_
        refine tuA 18 rfl hS ?_
        refine tuA 19 rfl hS ?_
        refine tuA 20 rfl hS ?_
        refine tuA 21 rfl hS ?_
        refine tuA 22 rfl hS ?_
        refine tqA 23 rfl hS ?_
        refine wpAnyH_ready (rs := [24]) (by kernel_rfl) (by simp) ?_
        refine AllReadyH.cons rfl (fun K hK => ?_) AllReadyH.nil
        go_simp
        refine hK.out _ _ hS (fun hS => ?_)
        refine wpAnyH_done (by kernel_rfl) ?_ _
        clear hK K hS
        go_wp2_with fail
        go_ret
        exact ⟨by rw [HRr.out]; rfl, HBq.out 1⟩
      subst hy
      obtain ⟨k, rfl, tk, hk⟩ : ∃ k : Nat, y1 = (k : Int) ∧ ∃ tk, g k = some tk := by
        rcases HI.out.tn i _ hs with h1 | ⟨h1, t, h2⟩
        · exact absurd h1 ht
        · have h1' : 0 ≤ y1 := h1
          have h2' : g y1.toNat = some t := h2
          exact ⟨y1.toNat, by omega, t, h2'⟩
      have hkl := HI.out.lt _ _ hk
      have hk' : (k : Int) < (p.cd.length : Int) := by omega
      have ht2 := HI.out.ht _ _ hk
      have hty : tyAt g (k : Int) = tk.ty := by unfold tyAt; rw [Int.toNat_natCast, hk]
      rw [decide_eq_true rfl, hty] at hR
      obtain ⟨f0, f1, f2, f3, f4, -, -, -⟩ := HWk.out.isS hkl hk
      obtain ⟨t2, hd2, tn2⟩ := tk
      dsimp only at f0 f1 f2 f3 f4 hR ht2
      have HAl : Hid (∀ W, Calls Tryd.prog 70 #[.agg (opV ty).toArray, .agg (opV t2).toArray] W fun e w' => e = .returned (.bool (decide (ty = t2))) ∧ Below W.heap.size W w') := fun W => alike_any ty t2 ht2 W
      have HS2 : Hid (∀ W, Below wc.heap.size wc W → (fun w' : World => w'.cell? ⟨bs, 0, none⟩ = some (.int .i64 (ty.length : Int)) ∧ w'.cell? ⟨bs, 1, none⟩ = some (.int .u64 (wd ty 0 : Int)) ∧ w'.cell? ⟨bs, 2, none⟩ = some (.int .u64 (wd ty 1 : Int)) ∧ w'.cell? ⟨bs, 3, none⟩ = some (.int .u64 (wd ty 2 : Int)) ∧ w'.cell? ⟨bs, 4, none⟩ = some (.int .u64 (wd ty 3 : Int)) ∧ w'.cell? ⟨bs, 7, none⟩ = some (.int .i64 (k : Int)) ∧ w'.cell? ⟨bi, 1, none⟩ = some (.int .i64 (k : Int)) ∧ w'.cell? ⟨wb, 7, none⟩ = some (.slice (some ⟨gb, 0, none⟩) p.cd.length gc) ∧ w'.cell? ⟨gb, k * 8, none⟩ = some (.int .i64 (t2.length : Int)) ∧ w'.cell? ⟨gb, k * 8 + 1, none⟩ = some (.int .u64 (wd t2 0 : Int)) ∧ w'.cell? ⟨gb, k * 8 + 2, none⟩ = some (.int .u64 (wd t2 1 : Int)) ∧ w'.cell? ⟨gb, k * 8 + 3, none⟩ = some (.int .u64 (wd t2 2 : Int)) ∧ w'.cell? ⟨gb, k * 8 + 4, none⟩ = some (.int .u64 (wd t2 3 : Int))) W) := fun W hb => by
        have hc : ∀ b o v, wc.cell? ⟨b, o, none⟩ = some v → W.cell? ⟨b, o, none⟩ = some v := fun b o v hv => by
          have hlt : b < wc.heap.size := by
            rcases Nat.lt_or_ge b wc.heap.size with h1 | h1
            · exact h1
            · exfalso
              simp [World.cell?, Array.getElem?_eq_none h1] at hv
          exact (hb.cell (p := ⟨b, o, none⟩) hlt).trans hv
        exact ⟨hc _ _ _ j0, hc _ _ _ j1, hc _ _ _ j2, hc _ _ _ j3, hc _ _ _ j4, hc _ _ _ j7, hc _ _ _ i1, hc _ _ _ c7, hc _ _ _ f0, hc _ _ _ f1, hc _ _ _ f2, hc _ _ _ f3, hc _ _ _ f4⟩
      have ht3 : ((k : Int) != -1) = true := bne_iff_ne.2 (by omega)
      generalize decide (ty = t2) = r at *
      have HRr : Hid _ := hR
      clear hR HWk HI hs hk hkl ht2 hty
      unfold opV at HAl
      go_wp2_with fail
      refine wp_region_held (S := fun w' : World => w'.cell? ⟨bs, 0, none⟩ = some (.int .i64 (ty.length : Int)) ∧ w'.cell? ⟨bs, 1, none⟩ = some (.int .u64 (wd ty 0 : Int)) ∧ w'.cell? ⟨bs, 2, none⟩ = some (.int .u64 (wd ty 1 : Int)) ∧ w'.cell? ⟨bs, 3, none⟩ = some (.int .u64 (wd ty 2 : Int)) ∧ w'.cell? ⟨bs, 4, none⟩ = some (.int .u64 (wd ty 3 : Int)) ∧ w'.cell? ⟨bs, 7, none⟩ = some (.int .i64 (k : Int)) ∧ w'.cell? ⟨bi, 1, none⟩ = some (.int .i64 (k : Int)) ∧ w'.cell? ⟨wb, 7, none⟩ = some (.slice (some ⟨gb, 0, none⟩) p.cd.length gc) ∧ w'.cell? ⟨gb, k * 8, none⟩ = some (.int .i64 (t2.length : Int)) ∧ w'.cell? ⟨gb, k * 8 + 1, none⟩ = some (.int .u64 (wd t2 0 : Int)) ∧ w'.cell? ⟨gb, k * 8 + 2, none⟩ = some (.int .u64 (wd t2 1 : Int)) ∧ w'.cell? ⟨gb, k * 8 + 3, none⟩ = some (.int .u64 (wd t2 2 : Int)) ∧ w'.cell? ⟨gb, k * 8 + 4, none⟩ = some (.int .u64 (wd t2 3 : Int))) (by kernel_rfl) ?_
      have hS : (fun w' : World => w'.cell? ⟨bs, 0, none⟩ = some (.int .i64 (ty.length : Int)) ∧ w'.cell? ⟨bs, 1, none⟩ = some (.int .u64 (wd ty 0 : Int)) ∧ w'.cell? ⟨bs, 2, none⟩ = some (.int .u64 (wd ty 1 : Int)) ∧ w'.cell? ⟨bs, 3, none⟩ = some (.int .u64 (wd ty 2 : Int)) ∧ w'.cell? ⟨bs, 4, none⟩ = some (.int .u64 (wd ty 3 : Int)) ∧ w'.cell? ⟨bs, 7, none⟩ = some (.int .i64 (k : Int)) ∧ w'.cell? ⟨bi, 1, none⟩ = some (.int .i64 (k : Int)) ∧ w'.cell? ⟨wb, 7, none⟩ = some (.slice (some ⟨gb, 0, none⟩) p.cd.length gc) ∧ w'.cell? ⟨gb, k * 8, none⟩ = some (.int .i64 (t2.length : Int)) ∧ w'.cell? ⟨gb, k * 8 + 1, none⟩ = some (.int .u64 (wd t2 0 : Int)) ∧ w'.cell? ⟨gb, k * 8 + 2, none⟩ = some (.int .u64 (wd t2 1 : Int)) ∧ w'.cell? ⟨gb, k * 8 + 3, none⟩ = some (.int .u64 (wd t2 2 : Int)) ∧ w'.cell? ⟨gb, k * 8 + 4, none⟩ = some (.int .u64 (wd t2 3 : Int))) wc.drew := HS2.out _ (Below.refl _ wc).drew
      change wpAnyH _ _ _ _ _ _ _ _ wc.drew
      refine tqA 0 rfl hS ?_
      refine tqA 1 rfl hS ?_
      refine tqA (v := .bool true) 2 rfl hS ?_
      refine tqA (v := .bool true) 3 rfl hS ?_
      refine tkA 4 rfl hS ?_
      refine tkA 5 rfl hS ?_
      refine tkA 6 rfl hS ?_
      refine tkA 7 rfl hS ?_
      refine tkA (v := .bool true) 8 rfl hS ?_
      refine tkA (v := .bool true) 9 rfl hS ?_
      refine tkA (v := .bool true) 10 rfl hS ?_
      refine tkA 11 rfl hS ?_
      refine tkA 12 rfl hS ?_
      refine tkA 13 rfl hS ?_
      refine tkA 14 rfl hS ?_
      refine tkA 15 rfl hS ?_
      refine tkA 16 rfl hS ?_
      refine tkA 17 rfl hS ?_
      refine tkA 18 rfl hS ?_
      refine tkA 19 rfl hS ?_
      refine tkA 20 rfl hS ?_
      refine tkA 21 rfl hS ?_
      refine wpAnyH_ready (rs := [22]) (by kernel_rfl) (by simp) ?_
      refine AllReadyH.cons rfl (fun K hK => ?_) AllReadyH.nil
      go_simp
      refine Calls.mono (HAl.out _) ?_
      rintro e w7 ⟨rfl, hb7⟩
      have hb8 : Below wc.heap.size wc w7 := (Below.refl _ wc).drew.trans (hb7.mono (Nat.le_refl _))
      have HB8 : Hid (Below w.heap.size w w7) := HX.out.bel.trans (hb8.mono HX.out.bel.size)
      refine hK.out _ _ (HS2.out _ hb8) (fun hS => ?_)
      refine tqA 23 rfl hS ?_
      refine wpAnyH_ready (rs := [24]) (by kernel_rfl) (by simp) ?_
      refine AllReadyH.cons rfl (fun K hK => ?_) AllReadyH.nil
      go_simp
      refine hK.out _ _ hS (fun hS => ?_)
      refine wpAnyH_done (by kernel_rfl) ?_ _
      clear hK K hS hb7 hb8
      go_wp2_with fail
      go_ret
      exact ⟨by rw [HRr.out]; simp, HB8.out⟩
    simp only [o27, if_false] at hR
    by_cases o0 : y0 = 0
    · subst o0
      simp only [if_true] at hR
      clear ha HGt HTn HCo HGt2 HWk HI
      have hd2 : decide (tn = -1) = (tn == -1) := rfl
      rw [hd2] at hR
      clear hd2
      have HRr : Hid _ := hR
      clear hR
      go_wp2_with fail
      go_ret
      exact ⟨by rw [HRr.out]; rfl, HX.out.bel⟩
    simp only [o0, if_false] at hR
    clear ha HGt HTn HCo HGt2 HWk HI
    have HRr : Hid _ := hR
    clear hR
    go_wp2_with fail
    go_ret
    exact ⟨by rw [HRr.out]; simp, HX.out.bel⟩
end Go.Proofs.YtelbakkgobkdaaaDoor.Vf
