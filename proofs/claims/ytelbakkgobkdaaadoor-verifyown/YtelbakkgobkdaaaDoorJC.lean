import Derived.Test.YtelbakkgobkdaaaDoorJA
namespace Go.Proofs.YtelbakkgobkdaaaDoor.Vf
open Go.RowKit Go.Proofs.YtelbakkgobkdaaaDoor.Nm
set_option maxHeartbeats 12800000 in
set_option maxRecDepth 100000 in
theorem rjumps_25 {W : World} {lb ab ub sb : Nat} {v : PV} {p : Pg} {g : Nat → Option Sd} {u : Nat → Int} {st : List Bool} (h : Lk W lb ab ub sb v p g u st) (i : Nat) (ty : List Bool) (tn : Int) (hJ : JmP p g st i tn) (hd : Nat) (hop : (p.at i).op = 25) :
    Calls Tryd.prog 54 #[.pointer (some ⟨lb, 0, none⟩), .int .i64 (i : Int), .agg #[.string (strT ty), .int .i64 tn, .int .i64 0, .bool false]] W fun e w' => e = .returned (.bool (goB p g i ⟨ty, hd, tn⟩)) ∧ Below W.heap.size W w' := by
  have n3 : (p.cd.length : Int) ≤ 1000000000000000 := by have := h.pg.lcd; omega
  have hi' : (i : Int) < (p.cd.length : Int) := by have := hJ.hi; omega
  have hi0 : (0 : Int) ≤ (i : Int) := by omega
  have HTn : Hid (∀ n W', Below W.heap.size W W' → Calls Tryd.prog 77 #[.pointer (some ⟨lb, 0, none⟩), .int .i64 ((n : Nat) : Int)] W' fun e w' => e = .returned (.bool (isTurn p (n : Int))) ∧ w' = W') := fun n W' hb => rturn_any (h.below hb) n
  have hx := at_eq hJ.hi
  obtain ⟨qo, qc, vo, vc, tto, tc, oo, oc, co, cc⟩ := v
  obtain ⟨g1, f1, hvo, hg, -⟩ := rd_ins h.pg.cd hJ.hi
  obtain rfl : co = some ⟨g1, f1, none⟩ := hvo
  have HJ : Hid (JmP p g st i tn) := hJ
  have HGo : Hid (goB p g i ⟨ty, hd, tn⟩ = goB p g i ⟨ty, hd, tn⟩) := rfl
  have hop' := hop
  rw [hx] at hop'
  obtain ⟨x, hxe⟩ : ∃ x, x = p.cd[i]'hJ.hi := ⟨_, rfl⟩
  obtain ⟨xo, xa, xb, xc, xd⟩ := x
  rw [← hxe] at hop' hx
  dsimp only at hop'
  subst hop'
  have hb1 : Below W.heap.size W (W.alloc (.cells #[.string (strT ty), .int .i64 tn, .int .i64 0, .bool false] 76)) := (Below.refl _ W).alloc (Nat.le_refl _) _
  have hb2 : Below W.heap.size W ((W.alloc (.cells #[.string (strT ty), .int .i64 tn, .int .i64 0, .bool false] 76)).alloc (.cells #[.int .i64 25, .int .i64 xa, .int .i64 xb, .int .i64 xc, .int .i64 xd] 54)) := hb1.alloc hb1.size _
  obtain ⟨t1, t2, t3⟩ := two_al W (.cells #[.string (strT ty), .int .i64 tn, .int .i64 0, .bool false] 76) (.cells #[.int .i64 25, .int .i64 xa, .int .i64 xb, .int .i64 xc, .int .i64 xd] 54)
  have HX : Hid (Lk (W.alloc (.cells #[.string (strT ty), .int .i64 tn, .int .i64 0, .bool false] 76)) lb ab ub sb ⟨qo, qc, vo, vc, tto, tc, oo, oc, some ⟨g1, f1, none⟩, cc⟩ p g u st) := h.below hb1
  have HY : Hid (Lk ((W.alloc (.cells #[.string (strT ty), .int .i64 tn, .int .i64 0, .bool false] 76)).alloc (.cells #[.int .i64 25, .int .i64 xa, .int .i64 xb, .int .i64 xc, .int .i64 xd] 54)) lb ab ub sb ⟨qo, qc, vo, vc, tto, tc, oo, oc, some ⟨g1, f1, none⟩, cc⟩ p g u st ∧ ((W.alloc (.cells #[.string (strT ty), .int .i64 tn, .int .i64 0, .bool false] 76)).alloc (.cells #[.int .i64 25, .int .i64 xa, .int .i64 xb, .int .i64 xc, .int .i64 xd] 54)).heap[W.heap.size]? = some (.cells #[.string (strT ty), .int .i64 tn, .int .i64 0, .bool false] 76 (0, 0)) ∧ ((W.alloc (.cells #[.string (strT ty), .int .i64 tn, .int .i64 0, .bool false] 76)).alloc (.cells #[.int .i64 25, .int .i64 xa, .int .i64 xb, .int .i64 xc, .int .i64 xd] 54)).heap[W.heap.size + 1]? = some (.cells #[.int .i64 25, .int .i64 xa, .int .i64 xb, .int .i64 xc, .int .i64 xd] 54 (0, 0)) ∧ (∀ n, Below W.heap.size W (((W.alloc (.cells #[.string (strT ty), .int .i64 tn, .int .i64 0, .bool false] 76)).alloc (.cells #[.int .i64 25, .int .i64 xa, .int .i64 xb, .int .i64 xc, .int .i64 xd] 54)).drewN n)) ∧ p.at i = ⟨25, xa, xb, xc, xd⟩ ∧ ∀ h9 : i < p.cd.length, p.cd[i]'h9 = ⟨25, xa, xb, xc, xd⟩) := ⟨h.below hb2, t1.trans (heap_alloc_new _ _), t2.trans (heap_alloc_new _ _), fun n => hb2.trans ((drN _ n).mono hb2.size), hx, fun _ => hxe.symm⟩
  have HW1 : Hid ((W.alloc (.cells #[.string (strT ty), .int .i64 tn, .int .i64 0, .bool false] 76)).heap.size = W.heap.size + 1) := t3
  clear hb1 hb2 t1 t2 t3 h hxe hx hop hg HGo
  unfold goB
  rw [HY.out.2.2.2.2.1]
  dsimp only
  clear hJ
  show Calls _ _ _ _ (fun e w' => e = .returned (.bool (goTo p i xa && (decide (0 < i) && (decide ((p.at (i - 1)).op = 24) && !(evs p).contains (i : Int))))) ∧ _)
  have hxa0 : 0 ≤ xa := by have := HJ.out.ha; rw [HY.out.2.2.2.2.1] at this; exact this (by simp)
  obtain ⟨a, rfl⟩ : ∃ a : Nat, xa = (a : Int) := ⟨xa.toNat, by omega⟩
  by_cases hle : (a : Int) ≤ (i : Int)
  · have hr : (goTo p i (a : Int) && (decide (0 < i) && (decide ((p.at (i - 1)).op = 24) && !(evs p).contains (i : Int)))) = false := by
      unfold goTo
      rw [decide_eq_false (p := (i : Int) < (a : Int)) (by omega)]
      simp
    rw [hr]
    clear hr
    go_enter Tryd.func54, Tryd.ntmps54
    go_upto_region 1 with fail
    obtain ⟨-, -, -, -, -, c5, -, -, -⟩ := cells9 HX.out.hw
    obtain ⟨g2, f2, hvo2, hg2, d0, d1, d2, d3, d4⟩ := rd_ins HX.out.pg.cd HJ.out.hi
    obtain ⟨rfl, rfl⟩ : g1 = g2 ∧ f1 = f2 := by cases hvo2; exact ⟨rfl, rfl⟩
    rw [HY.out.2.2.2.2.2 HJ.out.hi] at d0 d1 d2 d3 d4
    dsimp only at c5 d0 d1 d2 d3 d4
    generalize W.alloc (.cells #[.string (strT ty), .int .i64 tn, .int .i64 0, .bool false] 76) = W1 at *
    have hs1 := HW1.out
    go_upto_region 2 with fail
    clear c5 d0 d1 d2 d3 d4 hvo2 hg2 HX
    generalize W1.alloc (.cells #[.int .i64 25, .int .i64 (a : Int), .int .i64 xb, .int .i64 xc, .int .i64 xd] 54) = W2 at *
    clear hs1 HW1
    generalize hbx : W.heap.size = bx at *
    obtain ⟨i0, i1, i2, i3, i4⟩ := cells5 HY.out.2.2.1
    obtain ⟨s0, s1, s2, s3⟩ := cells4s HY.out.2.1
    obtain ⟨-, -, -, -, -, c5, c6, c7, c8⟩ := cells9 HY.out.1.hw
    dsimp only at c5
    go_wp2_with fail
    go_ret
    exact ⟨rfl, hbx ▸ HY.out.2.2.2.1 0⟩
  · have hg9 : goTo p i (a : Int) = !isTurn p (a : Int) := by unfold goTo; rw [decide_eq_true (by omega)]; rfl
    rw [hg9]
    clear hg9
    obtain ⟨it, hit⟩ : ∃ it, it = isTurn p (a : Int) := ⟨_, rfl⟩
    have HIt : Hid (∀ W', Below W.heap.size W W' → Calls Tryd.prog 77 #[.pointer (some ⟨lb, 0, none⟩), .int .i64 (a : Int)] W' fun e w' => e = .returned (.bool it) ∧ w' = W') := by rw [hit]; exact HTn.out a
    rw [← hit]
    clear hit HTn
    cases it
    · obtain ⟨R, hR⟩ : ∃ R : Bool, R = (!false && (decide (0 < i) && (decide ((p.at (i - 1)).op = 24) && !(evs p).contains (i : Int)))) := ⟨_, rfl⟩
      rw [← hR]
      have HR : Hid (R = (!false && (decide (0 < i) && (decide ((p.at (i - 1)).op = 24) && !(evs p).contains (i : Int))))) := hR
      clear hR
      go_enter Tryd.func54, Tryd.ntmps54
      go_upto_region 1 with fail
      obtain ⟨-, -, -, -, -, c5, -, -, -⟩ := cells9 HX.out.hw
      obtain ⟨g2, f2, hvo2, hg2, d0, d1, d2, d3, d4⟩ := rd_ins HX.out.pg.cd HJ.out.hi
      obtain ⟨rfl, rfl⟩ : g1 = g2 ∧ f1 = f2 := by cases hvo2; exact ⟨rfl, rfl⟩
      rw [HY.out.2.2.2.2.2 HJ.out.hi] at d0 d1 d2 d3 d4
      dsimp only at c5 d0 d1 d2 d3 d4
      generalize W.alloc (.cells #[.string (strT ty), .int .i64 tn, .int .i64 0, .bool false] 76) = W1 at *
      have hs1 := HW1.out
      go_upto_region 2 with fail
      clear c5 d0 d1 d2 d3 d4 hvo2 hg2 HX
      generalize W1.alloc (.cells #[.int .i64 25, .int .i64 (a : Int), .int .i64 xb, .int .i64 xc, .int .i64 xd] 54) = W2 at *
      clear hs1 HW1
      generalize hbx : W.heap.size = bx at *
      obtain ⟨i0, i1, i2, i3, i4⟩ := cells5 HY.out.2.2.1
      obtain ⟨s0, s1, s2, s3⟩ := cells4s HY.out.2.1
      obtain ⟨-, -, -, -, -, c5, c6, c7, c8⟩ := cells9 HY.out.1.hw
      dsimp only at c5
      go_wp2_with fail
      refine (HIt.out _ (HY.out.2.2.2.1 0)).mono ?_
      rintro e w1 ⟨rfl, rfl⟩
      by_cases hi1 : 0 < (i : Int)
      rotate_left
      · go_wp2_with fail
        go_ret
        exact ⟨by rw [HR.out, decide_eq_false (p := 0 < i) (by omega)]; rfl, hbx ▸ HY.out.2.2.2.1 0⟩
      · obtain ⟨j, rfl⟩ : ∃ j, i = j + 1 := ⟨i - 1, by omega⟩
        have hj : j < p.cd.length := by have := HJ.out.hi; omega
        obtain ⟨g2, f2, hvo2, hg2, d0, -, -, -, -⟩ := rd_ins HY.out.1.pg.cd hj
        obtain ⟨rfl, rfl⟩ : g1 = g2 ∧ f1 = f2 := by cases hvo2; exact ⟨rfl, rfl⟩
        have hst : j + 1 < st.length := by rw [HJ.out.sl]; exact HJ.out.hi
        have hs9 := cell_of (i := j + 1) (v := .bool st[j + 1]) HY.out.1.ss (by simp [bC, hst])
        have HR2 : Hid (R = (decide (p.cd[j].op = 24) && !st[j + 1])) := by
          show R = _
          rw [HR.out, HJ.out.sa (j + 1) hst, show j + 1 - 1 = j by omega, at_eq hj, decide_eq_true (p := 0 < j + 1) (by omega)]
          rfl
        have hwr : IntKind.i64.wrap (((j + 1 : Nat) : Int) - 1) = (j : Int) := by rw [IntKind.wrap_i64]; omega
        have hwr2 : IntKind.i64.wrap ((j : Int) + 1 - 1) = (j : Int) := by rw [IntKind.wrap_i64]; omega
        have hj0 : (0 : Int) ≤ (j : Int) := by omega
        have hj1 : (j : Int) < (p.cd.length : Int) := by omega
        have hj2 : (0 : Int) < (j : Int) + 1 := by omega
        have hj3 : (j : Int) + 1 < (p.cd.length : Int) := by omega
        generalize p.cd[j].op = y at *
        generalize st[j + 1] = z at *
        have hcc : ((j + 1 : Nat) : Int) = (j : Int) + 1 := by omega
        clear hvo2 hg2 hst hj
        by_cases hy : y = 24
        · subst hy
          cases z
          · go_wp2_with fail
            go_ret
            exact ⟨by rw [HR2.out]; rfl, hbx ▸ HY.out.2.2.2.1 0⟩
          · go_wp2_with fail
            go_ret
            exact ⟨by rw [HR2.out]; rfl, hbx ▸ HY.out.2.2.2.1 0⟩
        · go_wp2_with fail
          go_ret
          exact ⟨by rw [HR2.out, decide_eq_false hy]; rfl, hbx ▸ HY.out.2.2.2.1 0⟩
    · have hr : (!true && (decide (0 < i) && (decide ((p.at (i - 1)).op = 24) && !(evs p).contains (i : Int)))) = false := by simp
      rw [hr]
      clear hr
      go_enter Tryd.func54, Tryd.ntmps54
      go_upto_region 1 with fail
      obtain ⟨-, -, -, -, -, c5, -, -, -⟩ := cells9 HX.out.hw
      obtain ⟨g2, f2, hvo2, hg2, d0, d1, d2, d3, d4⟩ := rd_ins HX.out.pg.cd HJ.out.hi
      obtain ⟨rfl, rfl⟩ : g1 = g2 ∧ f1 = f2 := by cases hvo2; exact ⟨rfl, rfl⟩
      rw [HY.out.2.2.2.2.2 HJ.out.hi] at d0 d1 d2 d3 d4
      dsimp only at c5 d0 d1 d2 d3 d4
      generalize W.alloc (.cells #[.string (strT ty), .int .i64 tn, .int .i64 0, .bool false] 76) = W1 at *
      have hs1 := HW1.out
      go_upto_region 2 with fail
      clear c5 d0 d1 d2 d3 d4 hvo2 hg2 HX
      generalize W1.alloc (.cells #[.int .i64 25, .int .i64 (a : Int), .int .i64 xb, .int .i64 xc, .int .i64 xd] 54) = W2 at *
      clear hs1 HW1
      generalize hbx : W.heap.size = bx at *
      obtain ⟨i0, i1, i2, i3, i4⟩ := cells5 HY.out.2.2.1
      obtain ⟨s0, s1, s2, s3⟩ := cells4s HY.out.2.1
      obtain ⟨-, -, -, -, -, c5, c6, c7, c8⟩ := cells9 HY.out.1.hw
      dsimp only at c5
      go_wp2_with fail
      refine (HIt.out _ (HY.out.2.2.2.1 0)).mono ?_
      rintro e w1 ⟨rfl, rfl⟩
      go_wp2_with fail
      go_ret
      exact ⟨rfl, hbx ▸ HY.out.2.2.2.1 0⟩
end Go.Proofs.YtelbakkgobkdaaaDoor.Vf

namespace Go.Proofs.YtelbakkgobkdaaaDoor.Vf
open Go.RowKit Go.Proofs.YtelbakkgobkdaaaDoor.Nm
set_option maxHeartbeats 12800000 in
set_option maxRecDepth 100000 in
theorem rjumps_26 {W : World} {lb ab ub sb : Nat} {v : PV} {p : Pg} {g : Nat → Option Sd} {u : Nat → Int} {st : List Bool} (h : Lk W lb ab ub sb v p g u st) (i : Nat) (ty : List Bool) (tn : Int) (hJ : JmP p g st i tn) (hd : Nat) (hop : (p.at i).op = 26) :
    Calls Tryd.prog 54 #[.pointer (some ⟨lb, 0, none⟩), .int .i64 (i : Int), .agg #[.string (strT ty), .int .i64 tn, .int .i64 0, .bool false]] W fun e w' => e = .returned (.bool (goB p g i ⟨ty, hd, tn⟩)) ∧ Below W.heap.size W w' := by
  have n3 : (p.cd.length : Int) ≤ 1000000000000000 := by have := h.pg.lcd; omega
  have hi' : (i : Int) < (p.cd.length : Int) := by have := hJ.hi; omega
  have hi0 : (0 : Int) ≤ (i : Int) := by omega
  have HTn : Hid (∀ n W', Below W.heap.size W W' → Calls Tryd.prog 77 #[.pointer (some ⟨lb, 0, none⟩), .int .i64 ((n : Nat) : Int)] W' fun e w' => e = .returned (.bool (isTurn p (n : Int))) ∧ w' = W') := fun n W' hb => rturn_any (h.below hb) n
  have hx := at_eq hJ.hi
  obtain ⟨qo, qc, vo, vc, tto, tc, oo, oc, co, cc⟩ := v
  obtain ⟨g1, f1, hvo, hg, -⟩ := rd_ins h.pg.cd hJ.hi
  obtain rfl : co = some ⟨g1, f1, none⟩ := hvo
  have HJ : Hid (JmP p g st i tn) := hJ
  have HGo : Hid (goB p g i ⟨ty, hd, tn⟩ = goB p g i ⟨ty, hd, tn⟩) := rfl
  have hop' := hop
  rw [hx] at hop'
  obtain ⟨x, hxe⟩ : ∃ x, x = p.cd[i]'hJ.hi := ⟨_, rfl⟩
  obtain ⟨xo, xa, xb, xc, xd⟩ := x
  rw [← hxe] at hop' hx
  dsimp only at hop'
  subst hop'
  have hb1 : Below W.heap.size W (W.alloc (.cells #[.string (strT ty), .int .i64 tn, .int .i64 0, .bool false] 76)) := (Below.refl _ W).alloc (Nat.le_refl _) _
  have hb2 : Below W.heap.size W ((W.alloc (.cells #[.string (strT ty), .int .i64 tn, .int .i64 0, .bool false] 76)).alloc (.cells #[.int .i64 26, .int .i64 xa, .int .i64 xb, .int .i64 xc, .int .i64 xd] 54)) := hb1.alloc hb1.size _
  obtain ⟨t1, t2, t3⟩ := two_al W (.cells #[.string (strT ty), .int .i64 tn, .int .i64 0, .bool false] 76) (.cells #[.int .i64 26, .int .i64 xa, .int .i64 xb, .int .i64 xc, .int .i64 xd] 54)
  have HX : Hid (Lk (W.alloc (.cells #[.string (strT ty), .int .i64 tn, .int .i64 0, .bool false] 76)) lb ab ub sb ⟨qo, qc, vo, vc, tto, tc, oo, oc, some ⟨g1, f1, none⟩, cc⟩ p g u st) := h.below hb1
  have HY : Hid (Lk ((W.alloc (.cells #[.string (strT ty), .int .i64 tn, .int .i64 0, .bool false] 76)).alloc (.cells #[.int .i64 26, .int .i64 xa, .int .i64 xb, .int .i64 xc, .int .i64 xd] 54)) lb ab ub sb ⟨qo, qc, vo, vc, tto, tc, oo, oc, some ⟨g1, f1, none⟩, cc⟩ p g u st ∧ ((W.alloc (.cells #[.string (strT ty), .int .i64 tn, .int .i64 0, .bool false] 76)).alloc (.cells #[.int .i64 26, .int .i64 xa, .int .i64 xb, .int .i64 xc, .int .i64 xd] 54)).heap[W.heap.size]? = some (.cells #[.string (strT ty), .int .i64 tn, .int .i64 0, .bool false] 76 (0, 0)) ∧ ((W.alloc (.cells #[.string (strT ty), .int .i64 tn, .int .i64 0, .bool false] 76)).alloc (.cells #[.int .i64 26, .int .i64 xa, .int .i64 xb, .int .i64 xc, .int .i64 xd] 54)).heap[W.heap.size + 1]? = some (.cells #[.int .i64 26, .int .i64 xa, .int .i64 xb, .int .i64 xc, .int .i64 xd] 54 (0, 0)) ∧ (∀ n, Below W.heap.size W (((W.alloc (.cells #[.string (strT ty), .int .i64 tn, .int .i64 0, .bool false] 76)).alloc (.cells #[.int .i64 26, .int .i64 xa, .int .i64 xb, .int .i64 xc, .int .i64 xd] 54)).drewN n)) ∧ p.at i = ⟨26, xa, xb, xc, xd⟩ ∧ ∀ h9 : i < p.cd.length, p.cd[i]'h9 = ⟨26, xa, xb, xc, xd⟩) := ⟨h.below hb2, t1.trans (heap_alloc_new _ _), t2.trans (heap_alloc_new _ _), fun n => hb2.trans ((drN _ n).mono hb2.size), hx, fun _ => hxe.symm⟩
  have HW1 : Hid ((W.alloc (.cells #[.string (strT ty), .int .i64 tn, .int .i64 0, .bool false] 76)).heap.size = W.heap.size + 1) := t3
  clear hb1 hb2 t1 t2 t3 h hxe hx hop hg HGo
  unfold goB
  rw [HY.out.2.2.2.2.1]
  dsimp only
  clear hJ
  show Calls _ _ _ _ (fun e w' => e = .returned (.bool (goTo p i xa && (!decide (tn = -1) && decide (xa = (p.at tn.toNat).a)))) ∧ _)
  have hxa0 : 0 ≤ xa := by have := HJ.out.ha; rw [HY.out.2.2.2.2.1] at this; exact this (by simp)
  obtain ⟨a, rfl⟩ : ∃ a : Nat, xa = (a : Int) := ⟨xa.toNat, by omega⟩
  by_cases hle : (a : Int) ≤ (i : Int)
  · have hr : (goTo p i (a : Int) && (!decide (tn = -1) && decide ((a : Int) = (p.at tn.toNat).a))) = false := by
      unfold goTo
      rw [decide_eq_false (p := (i : Int) < (a : Int)) (by omega)]
      simp
    rw [hr]
    clear hr
    go_enter Tryd.func54, Tryd.ntmps54
    go_upto_region 1 with fail
    obtain ⟨-, -, -, -, -, c5, -, -, -⟩ := cells9 HX.out.hw
    obtain ⟨g2, f2, hvo2, hg2, d0, d1, d2, d3, d4⟩ := rd_ins HX.out.pg.cd HJ.out.hi
    obtain ⟨rfl, rfl⟩ : g1 = g2 ∧ f1 = f2 := by cases hvo2; exact ⟨rfl, rfl⟩
    rw [HY.out.2.2.2.2.2 HJ.out.hi] at d0 d1 d2 d3 d4
    dsimp only at c5 d0 d1 d2 d3 d4
    generalize W.alloc (.cells #[.string (strT ty), .int .i64 tn, .int .i64 0, .bool false] 76) = W1 at *
    have hs1 := HW1.out
    go_upto_region 2 with fail
    clear c5 d0 d1 d2 d3 d4 hvo2 hg2 HX
    generalize W1.alloc (.cells #[.int .i64 26, .int .i64 (a : Int), .int .i64 xb, .int .i64 xc, .int .i64 xd] 54) = W2 at *
    clear hs1 HW1
    generalize hbx : W.heap.size = bx at *
    obtain ⟨i0, i1, i2, i3, i4⟩ := cells5 HY.out.2.2.1
    obtain ⟨s0, s1, s2, s3⟩ := cells4s HY.out.2.1
    obtain ⟨-, -, -, -, -, c5, c6, c7, c8⟩ := cells9 HY.out.1.hw
    dsimp only at c5
    go_wp2_with fail
    go_ret
    exact ⟨rfl, hbx ▸ HY.out.2.2.2.1 0⟩
  · have hg9 : goTo p i (a : Int) = !isTurn p (a : Int) := by unfold goTo; rw [decide_eq_true (by omega)]; rfl
    rw [hg9]
    clear hg9
    obtain ⟨it, hit⟩ : ∃ it, it = isTurn p (a : Int) := ⟨_, rfl⟩
    have HIt : Hid (∀ W', Below W.heap.size W W' → Calls Tryd.prog 77 #[.pointer (some ⟨lb, 0, none⟩), .int .i64 (a : Int)] W' fun e w' => e = .returned (.bool it) ∧ w' = W') := by rw [hit]; exact HTn.out a
    rw [← hit]
    clear hit HTn
    cases it
    · obtain ⟨R, hR⟩ : ∃ R : Bool, R = (!false && (!decide (tn = -1) && decide ((a : Int) = (p.at tn.toNat).a))) := ⟨_, rfl⟩
      rw [← hR]
      have HR : Hid (R = (!false && (!decide (tn = -1) && decide ((a : Int) = (p.at tn.toNat).a)))) := hR
      clear hR
      go_enter Tryd.func54, Tryd.ntmps54
      go_upto_region 1 with fail
      obtain ⟨-, -, -, -, -, c5, -, -, -⟩ := cells9 HX.out.hw
      obtain ⟨g2, f2, hvo2, hg2, d0, d1, d2, d3, d4⟩ := rd_ins HX.out.pg.cd HJ.out.hi
      obtain ⟨rfl, rfl⟩ : g1 = g2 ∧ f1 = f2 := by cases hvo2; exact ⟨rfl, rfl⟩
      rw [HY.out.2.2.2.2.2 HJ.out.hi] at d0 d1 d2 d3 d4
      dsimp only at c5 d0 d1 d2 d3 d4
      generalize W.alloc (.cells #[.string (strT ty), .int .i64 tn, .int .i64 0, .bool false] 76) = W1 at *
      have hs1 := HW1.out
      go_upto_region 2 with fail
      clear c5 d0 d1 d2 d3 d4 hvo2 hg2 HX
      generalize W1.alloc (.cells #[.int .i64 26, .int .i64 (a : Int), .int .i64 xb, .int .i64 xc, .int .i64 xd] 54) = W2 at *
      clear hs1 HW1
      generalize hbx : W.heap.size = bx at *
      obtain ⟨i0, i1, i2, i3, i4⟩ := cells5 HY.out.2.2.1
      obtain ⟨s0, s1, s2, s3⟩ := cells4s HY.out.2.1
      obtain ⟨-, -, -, -, -, c5, c6, c7, c8⟩ := cells9 HY.out.1.hw
      dsimp only at c5
      go_wp2_with fail
      refine (HIt.out _ (HY.out.2.2.2.1 0)).mono ?_
      rintro e w1 ⟨rfl, rfl⟩
      rcases HJ.out.tn with rfl | ⟨h0, h1, -⟩
      · go_wp2_with fail
        go_quiet (fail)
        go_wp2_with fail
        go_ret
        exact ⟨by rw [HR.out]; rfl, hbx ▸ HY.out.2.2.2.1 _⟩
      · obtain ⟨m, rfl⟩ : ∃ m : Nat, tn = (m : Int) := ⟨tn.toNat, by omega⟩
        rw [Int.toNat_natCast] at h1
        obtain ⟨g2, f2, hvo2, hg2, -, d1, -, -, -⟩ := rd_ins HY.out.1.pg.cd h1
        obtain ⟨rfl, rfl⟩ : g1 = g2 ∧ f1 = f2 := by cases hvo2; exact ⟨rfl, rfl⟩
        have HR2 : Hid (R = decide ((a : Int) = p.cd[m].a)) := by
          show R = _
          rw [HR.out, Int.toNat_natCast, at_eq h1, decide_eq_false (p := (m : Int) = -1) (by omega)]
          rfl
        have hm1 : (m : Int) < (p.cd.length : Int) := by omega
        have hk0 : decide ((0 : Int) ≤ (m : Int)) = true := decide_eq_true h0
        generalize p.cd[m].a = y at *
        clear hvo2 hg2 h1
        by_cases hy : (a : Int) = y
        · have hk1 : ((a : Int) == y) = true := beq_iff_eq.2 hy
          have HR3 : Hid (R = true) := HR2.out.trans (decide_eq_true hy)
          clear hy
          go_wp2_with fail
          go_quiet (fail)
          go_wp2_with fail
          go_ret
          exact ⟨by rw [HR3.out]; rfl, hbx ▸ HY.out.2.2.2.1 _⟩
        · have hk1 : ((a : Int) == y) = false := beq_eq_false_iff_ne.2 hy
          have HR3 : Hid (R = false) := HR2.out.trans (decide_eq_false hy)
          clear hy
          go_wp2_with fail
          go_quiet (fail)
          go_wp2_with fail
          go_ret
          exact ⟨by rw [HR3.out]; rfl, hbx ▸ HY.out.2.2.2.1 _⟩
    · have hr : (!true && (!decide (tn = -1) && decide ((a : Int) = (p.at tn.toNat).a))) = false := by simp
      rw [hr]
      clear hr
      go_enter Tryd.func54, Tryd.ntmps54
      go_upto_region 1 with fail
      obtain ⟨-, -, -, -, -, c5, -, -, -⟩ := cells9 HX.out.hw
      obtain ⟨g2, f2, hvo2, hg2, d0, d1, d2, d3, d4⟩ := rd_ins HX.out.pg.cd HJ.out.hi
      obtain ⟨rfl, rfl⟩ : g1 = g2 ∧ f1 = f2 := by cases hvo2; exact ⟨rfl, rfl⟩
      rw [HY.out.2.2.2.2.2 HJ.out.hi] at d0 d1 d2 d3 d4
      dsimp only at c5 d0 d1 d2 d3 d4
      generalize W.alloc (.cells #[.string (strT ty), .int .i64 tn, .int .i64 0, .bool false] 76) = W1 at *
      have hs1 := HW1.out
      go_upto_region 2 with fail
      clear c5 d0 d1 d2 d3 d4 hvo2 hg2 HX
      generalize W1.alloc (.cells #[.int .i64 26, .int .i64 (a : Int), .int .i64 xb, .int .i64 xc, .int .i64 xd] 54) = W2 at *
      clear hs1 HW1
      generalize hbx : W.heap.size = bx at *
      obtain ⟨i0, i1, i2, i3, i4⟩ := cells5 HY.out.2.2.1
      obtain ⟨s0, s1, s2, s3⟩ := cells4s HY.out.2.1
      obtain ⟨-, -, -, -, -, c5, c6, c7, c8⟩ := cells9 HY.out.1.hw
      dsimp only at c5
      go_wp2_with fail
      refine (HIt.out _ (HY.out.2.2.2.1 0)).mono ?_
      rintro e w1 ⟨rfl, rfl⟩
      go_wp2_with fail
      go_ret
      exact ⟨rfl, hbx ▸ HY.out.2.2.2.1 0⟩
end Go.Proofs.YtelbakkgobkdaaaDoor.Vf

namespace Go.Proofs.YtelbakkgobkdaaaDoor.Vf
open Go.RowKit Go.Proofs.YtelbakkgobkdaaaDoor.Nm
set_option maxHeartbeats 12800000 in
set_option maxRecDepth 100000 in
theorem rjumps_24 {W : World} {lb ab ub sb : Nat} {v : PV} {p : Pg} {g : Nat → Option Sd} {u : Nat → Int} {st : List Bool} (h : Lk W lb ab ub sb v p g u st) (i : Nat) (ty : List Bool) (tn : Int) (hJ : JmP p g st i tn) (hd : Nat) (hop : (p.at i).op = 24) :
    Calls Tryd.prog 54 #[.pointer (some ⟨lb, 0, none⟩), .int .i64 (i : Int), .agg #[.string (strT ty), .int .i64 tn, .int .i64 0, .bool false]] W fun e w' => e = .returned (.bool (goB p g i ⟨ty, hd, tn⟩)) ∧ Below W.heap.size W w' := by
  have n3 : (p.cd.length : Int) ≤ 1000000000000000 := by have := h.pg.lcd; omega
  have hi' : (i : Int) < (p.cd.length : Int) := by have := hJ.hi; omega
  have hi0 : (0 : Int) ≤ (i : Int) := by omega
  have HTn : Hid (∀ n W', Below W.heap.size W W' → Calls Tryd.prog 77 #[.pointer (some ⟨lb, 0, none⟩), .int .i64 ((n : Nat) : Int)] W' fun e w' => e = .returned (.bool (isTurn p (n : Int))) ∧ w' = W') := fun n W' hb => rturn_any (h.below hb) n
  have hx := at_eq hJ.hi
  obtain ⟨qo, qc, vo, vc, tto, tc, oo, oc, co, cc⟩ := v
  obtain ⟨g1, f1, hvo, hg, -⟩ := rd_ins h.pg.cd hJ.hi
  obtain rfl : co = some ⟨g1, f1, none⟩ := hvo
  have HJ : Hid (JmP p g st i tn) := hJ
  have HGo : Hid (goB p g i ⟨ty, hd, tn⟩ = goB p g i ⟨ty, hd, tn⟩) := rfl
  have hop' := hop
  rw [hx] at hop'
  obtain ⟨x, hxe⟩ : ∃ x, x = p.cd[i]'hJ.hi := ⟨_, rfl⟩
  obtain ⟨xo, xa, xb, xc, xd⟩ := x
  rw [← hxe] at hop' hx
  dsimp only at hop'
  subst hop'
  have hb1 : Below W.heap.size W (W.alloc (.cells #[.string (strT ty), .int .i64 tn, .int .i64 0, .bool false] 76)) := (Below.refl _ W).alloc (Nat.le_refl _) _
  have hb2 : Below W.heap.size W ((W.alloc (.cells #[.string (strT ty), .int .i64 tn, .int .i64 0, .bool false] 76)).alloc (.cells #[.int .i64 24, .int .i64 xa, .int .i64 xb, .int .i64 xc, .int .i64 xd] 54)) := hb1.alloc hb1.size _
  obtain ⟨t1, t2, t3⟩ := two_al W (.cells #[.string (strT ty), .int .i64 tn, .int .i64 0, .bool false] 76) (.cells #[.int .i64 24, .int .i64 xa, .int .i64 xb, .int .i64 xc, .int .i64 xd] 54)
  have HX : Hid (Lk (W.alloc (.cells #[.string (strT ty), .int .i64 tn, .int .i64 0, .bool false] 76)) lb ab ub sb ⟨qo, qc, vo, vc, tto, tc, oo, oc, some ⟨g1, f1, none⟩, cc⟩ p g u st) := h.below hb1
  have HY : Hid (Lk ((W.alloc (.cells #[.string (strT ty), .int .i64 tn, .int .i64 0, .bool false] 76)).alloc (.cells #[.int .i64 24, .int .i64 xa, .int .i64 xb, .int .i64 xc, .int .i64 xd] 54)) lb ab ub sb ⟨qo, qc, vo, vc, tto, tc, oo, oc, some ⟨g1, f1, none⟩, cc⟩ p g u st ∧ ((W.alloc (.cells #[.string (strT ty), .int .i64 tn, .int .i64 0, .bool false] 76)).alloc (.cells #[.int .i64 24, .int .i64 xa, .int .i64 xb, .int .i64 xc, .int .i64 xd] 54)).heap[W.heap.size]? = some (.cells #[.string (strT ty), .int .i64 tn, .int .i64 0, .bool false] 76 (0, 0)) ∧ ((W.alloc (.cells #[.string (strT ty), .int .i64 tn, .int .i64 0, .bool false] 76)).alloc (.cells #[.int .i64 24, .int .i64 xa, .int .i64 xb, .int .i64 xc, .int .i64 xd] 54)).heap[W.heap.size + 1]? = some (.cells #[.int .i64 24, .int .i64 xa, .int .i64 xb, .int .i64 xc, .int .i64 xd] 54 (0, 0)) ∧ (∀ n, Below W.heap.size W (((W.alloc (.cells #[.string (strT ty), .int .i64 tn, .int .i64 0, .bool false] 76)).alloc (.cells #[.int .i64 24, .int .i64 xa, .int .i64 xb, .int .i64 xc, .int .i64 xd] 54)).drewN n)) ∧ p.at i = ⟨24, xa, xb, xc, xd⟩ ∧ ∀ h9 : i < p.cd.length, p.cd[i]'h9 = ⟨24, xa, xb, xc, xd⟩) := ⟨h.below hb2, t1.trans (heap_alloc_new _ _), t2.trans (heap_alloc_new _ _), fun n => hb2.trans ((drN _ n).mono hb2.size), hx, fun _ => hxe.symm⟩
  have HW1 : Hid ((W.alloc (.cells #[.string (strT ty), .int .i64 tn, .int .i64 0, .bool false] 76)).heap.size = W.heap.size + 1) := t3
  clear hb1 hb2 t1 t2 t3 h hxe hx hop hg HGo
  unfold goB
  rw [HY.out.2.2.2.2.1]
  dsimp only
  clear hJ
  show Calls _ _ _ _ (fun e w' => e = .returned (.bool (isTurn p ((i : Int) + 1))) ∧ _)
  obtain ⟨it, hit⟩ : ∃ it, it = isTurn p ((i : Int) + 1) := ⟨_, rfl⟩
  have HIt : Hid (∀ W', Below W.heap.size W W' → Calls Tryd.prog 77 #[.pointer (some ⟨lb, 0, none⟩), .int .i64 ((i : Int) + 1)] W' fun e w' => e = .returned (.bool it) ∧ w' = W') := by rw [hit]; exact HTn.out (i + 1)
  rw [← hit]
  clear hit HTn
  have hwr : IntKind.i64.wrap ((i : Int) + 1) = (i : Int) + 1 := by rw [IntKind.wrap_i64]; omega
  go_enter Tryd.func54, Tryd.ntmps54
  go_upto_region 1 with fail
  obtain ⟨-, -, -, -, -, c5, -, -, -⟩ := cells9 HX.out.hw
  obtain ⟨g2, f2, hvo2, hg2, d0, d1, d2, d3, d4⟩ := rd_ins HX.out.pg.cd HJ.out.hi
  obtain ⟨rfl, rfl⟩ : g1 = g2 ∧ f1 = f2 := by cases hvo2; exact ⟨rfl, rfl⟩
  rw [HY.out.2.2.2.2.2 HJ.out.hi] at d0 d1 d2 d3 d4
  dsimp only at c5 d0 d1 d2 d3 d4
  generalize W.alloc (.cells #[.string (strT ty), .int .i64 tn, .int .i64 0, .bool false] 76) = W1 at *
  have hs1 := HW1.out
  go_upto_region 2 with fail
  clear c5 d0 d1 d2 d3 d4 hvo2 hg2 HX
  generalize W1.alloc (.cells #[.int .i64 24, .int .i64 xa, .int .i64 xb, .int .i64 xc, .int .i64 xd] 54) = W2 at *
  clear hs1 HW1
  generalize hbx : W.heap.size = bx at *
  obtain ⟨i0, i1, i2, i3, i4⟩ := cells5 HY.out.2.2.1
  obtain ⟨s0, s1, s2, s3⟩ := cells4s HY.out.2.1
  obtain ⟨-, -, -, -, -, c5, c6, c7, c8⟩ := cells9 HY.out.1.hw
  dsimp only at c5
  go_wp2_with fail
  refine (HIt.out _ (HY.out.2.2.2.1 0)).mono ?_
  rintro e w1 ⟨rfl, rfl⟩
  go_wp2_with fail
  go_ret
  exact ⟨rfl, hbx ▸ HY.out.2.2.2.1 0⟩
set_option maxHeartbeats 12800000 in
set_option maxRecDepth 100000 in
theorem rjumps_0 {W : World} {lb ab ub sb : Nat} {v : PV} {p : Pg} {g : Nat → Option Sd} {u : Nat → Int} {st : List Bool} (h : Lk W lb ab ub sb v p g u st) (i : Nat) (ty : List Bool) (tn : Int) (hJ : JmP p g st i tn) (hd : Nat) (hop : (p.at i).op = 0) :
    Calls Tryd.prog 54 #[.pointer (some ⟨lb, 0, none⟩), .int .i64 (i : Int), .agg #[.string (strT ty), .int .i64 tn, .int .i64 0, .bool false]] W fun e w' => e = .returned (.bool (goB p g i ⟨ty, hd, tn⟩)) ∧ Below W.heap.size W w' := by
  have n3 : (p.cd.length : Int) ≤ 1000000000000000 := by have := h.pg.lcd; omega
  have hi' : (i : Int) < (p.cd.length : Int) := by have := hJ.hi; omega
  have hi0 : (0 : Int) ≤ (i : Int) := by omega
  have HTn : Hid (∀ n W', Below W.heap.size W W' → Calls Tryd.prog 77 #[.pointer (some ⟨lb, 0, none⟩), .int .i64 ((n : Nat) : Int)] W' fun e w' => e = .returned (.bool (isTurn p (n : Int))) ∧ w' = W') := fun n W' hb => rturn_any (h.below hb) n
  have hx := at_eq hJ.hi
  obtain ⟨qo, qc, vo, vc, tto, tc, oo, oc, co, cc⟩ := v
  obtain ⟨g1, f1, hvo, hg, -⟩ := rd_ins h.pg.cd hJ.hi
  obtain rfl : co = some ⟨g1, f1, none⟩ := hvo
  have HJ : Hid (JmP p g st i tn) := hJ
  have HGo : Hid (goB p g i ⟨ty, hd, tn⟩ = goB p g i ⟨ty, hd, tn⟩) := rfl
  have hop' := hop
  rw [hx] at hop'
  obtain ⟨x, hxe⟩ : ∃ x, x = p.cd[i]'hJ.hi := ⟨_, rfl⟩
  obtain ⟨xo, xa, xb, xc, xd⟩ := x
  rw [← hxe] at hop' hx
  dsimp only at hop'
  subst hop'
  have hb1 : Below W.heap.size W (W.alloc (.cells #[.string (strT ty), .int .i64 tn, .int .i64 0, .bool false] 76)) := (Below.refl _ W).alloc (Nat.le_refl _) _
  have hb2 : Below W.heap.size W ((W.alloc (.cells #[.string (strT ty), .int .i64 tn, .int .i64 0, .bool false] 76)).alloc (.cells #[.int .i64 0, .int .i64 xa, .int .i64 xb, .int .i64 xc, .int .i64 xd] 54)) := hb1.alloc hb1.size _
  obtain ⟨t1, t2, t3⟩ := two_al W (.cells #[.string (strT ty), .int .i64 tn, .int .i64 0, .bool false] 76) (.cells #[.int .i64 0, .int .i64 xa, .int .i64 xb, .int .i64 xc, .int .i64 xd] 54)
  have HX : Hid (Lk (W.alloc (.cells #[.string (strT ty), .int .i64 tn, .int .i64 0, .bool false] 76)) lb ab ub sb ⟨qo, qc, vo, vc, tto, tc, oo, oc, some ⟨g1, f1, none⟩, cc⟩ p g u st) := h.below hb1
  have HY : Hid (Lk ((W.alloc (.cells #[.string (strT ty), .int .i64 tn, .int .i64 0, .bool false] 76)).alloc (.cells #[.int .i64 0, .int .i64 xa, .int .i64 xb, .int .i64 xc, .int .i64 xd] 54)) lb ab ub sb ⟨qo, qc, vo, vc, tto, tc, oo, oc, some ⟨g1, f1, none⟩, cc⟩ p g u st ∧ ((W.alloc (.cells #[.string (strT ty), .int .i64 tn, .int .i64 0, .bool false] 76)).alloc (.cells #[.int .i64 0, .int .i64 xa, .int .i64 xb, .int .i64 xc, .int .i64 xd] 54)).heap[W.heap.size]? = some (.cells #[.string (strT ty), .int .i64 tn, .int .i64 0, .bool false] 76 (0, 0)) ∧ ((W.alloc (.cells #[.string (strT ty), .int .i64 tn, .int .i64 0, .bool false] 76)).alloc (.cells #[.int .i64 0, .int .i64 xa, .int .i64 xb, .int .i64 xc, .int .i64 xd] 54)).heap[W.heap.size + 1]? = some (.cells #[.int .i64 0, .int .i64 xa, .int .i64 xb, .int .i64 xc, .int .i64 xd] 54 (0, 0)) ∧ (∀ n, Below W.heap.size W (((W.alloc (.cells #[.string (strT ty), .int .i64 tn, .int .i64 0, .bool false] 76)).alloc (.cells #[.int .i64 0, .int .i64 xa, .int .i64 xb, .int .i64 xc, .int .i64 xd] 54)).drewN n)) ∧ p.at i = ⟨0, xa, xb, xc, xd⟩ ∧ ∀ h9 : i < p.cd.length, p.cd[i]'h9 = ⟨0, xa, xb, xc, xd⟩) := ⟨h.below hb2, t1.trans (heap_alloc_new _ _), t2.trans (heap_alloc_new _ _), fun n => hb2.trans ((drN _ n).mono hb2.size), hx, fun _ => hxe.symm⟩
  have HW1 : Hid ((W.alloc (.cells #[.string (strT ty), .int .i64 tn, .int .i64 0, .bool false] 76)).heap.size = W.heap.size + 1) := t3
  clear hb1 hb2 t1 t2 t3 h hxe hx hop hg HGo
  unfold goB
  rw [HY.out.2.2.2.2.1]
  dsimp only
  clear hJ
  show Calls _ _ _ _ (fun e w' => e = .returned (.bool (decide (tn = -1))) ∧ _)
  rcases HJ.out.tn with rfl | ⟨h0, h1, -⟩
  · show Calls _ _ _ _ (fun e w' => e = .returned (.bool true) ∧ _)
    go_enter Tryd.func54, Tryd.ntmps54
    go_upto_region 1 with fail
    obtain ⟨-, -, -, -, -, c5, -, -, -⟩ := cells9 HX.out.hw
    obtain ⟨g2, f2, hvo2, hg2, d0, d1, d2, d3, d4⟩ := rd_ins HX.out.pg.cd HJ.out.hi
    obtain ⟨rfl, rfl⟩ : g1 = g2 ∧ f1 = f2 := by cases hvo2; exact ⟨rfl, rfl⟩
    rw [HY.out.2.2.2.2.2 HJ.out.hi] at d0 d1 d2 d3 d4
    dsimp only at c5 d0 d1 d2 d3 d4
    generalize W.alloc (.cells #[.string (strT ty), .int .i64 (-1), .int .i64 0, .bool false] 76) = W1 at *
    have hs1 := HW1.out
    go_upto_region 2 with fail
    clear c5 d0 d1 d2 d3 d4 hvo2 hg2 HX
    generalize W1.alloc (.cells #[.int .i64 0, .int .i64 xa, .int .i64 xb, .int .i64 xc, .int .i64 xd] 54) = W2 at *
    clear hs1 HW1
    generalize hbx : W.heap.size = bx at *
    obtain ⟨i0, i1, i2, i3, i4⟩ := cells5 HY.out.2.2.1
    obtain ⟨s0, s1, s2, s3⟩ := cells4s HY.out.2.1
    obtain ⟨-, -, -, -, -, c5, c6, c7, c8⟩ := cells9 HY.out.1.hw
    dsimp only at c5
    go_wp2_with fail
    go_ret
    exact ⟨rfl, hbx ▸ HY.out.2.2.2.1 0⟩
  · rw [decide_eq_false (p := tn = -1) (by omega)]
    have h9 : ¬ tn < 0 := by omega
    go_enter Tryd.func54, Tryd.ntmps54
    go_upto_region 1 with fail
    obtain ⟨-, -, -, -, -, c5, -, -, -⟩ := cells9 HX.out.hw
    obtain ⟨g2, f2, hvo2, hg2, d0, d1, d2, d3, d4⟩ := rd_ins HX.out.pg.cd HJ.out.hi
    obtain ⟨rfl, rfl⟩ : g1 = g2 ∧ f1 = f2 := by cases hvo2; exact ⟨rfl, rfl⟩
    rw [HY.out.2.2.2.2.2 HJ.out.hi] at d0 d1 d2 d3 d4
    dsimp only at c5 d0 d1 d2 d3 d4
    generalize W.alloc (.cells #[.string (strT ty), .int .i64 tn, .int .i64 0, .bool false] 76) = W1 at *
    have hs1 := HW1.out
    go_upto_region 2 with fail
    clear c5 d0 d1 d2 d3 d4 hvo2 hg2 HX
    generalize W1.alloc (.cells #[.int .i64 0, .int .i64 xa, .int .i64 xb, .int .i64 xc, .int .i64 xd] 54) = W2 at *
    clear hs1 HW1
    generalize hbx : W.heap.size = bx at *
    obtain ⟨i0, i1, i2, i3, i4⟩ := cells5 HY.out.2.2.1
    obtain ⟨s0, s1, s2, s3⟩ := cells4s HY.out.2.1
    obtain ⟨-, -, -, -, -, c5, c6, c7, c8⟩ := cells9 HY.out.1.hw
    dsimp only at c5
    go_wp2_with fail
    go_ret
    exact ⟨rfl, hbx ▸ HY.out.2.2.2.1 0⟩
set_option maxHeartbeats 12800000 in
set_option maxRecDepth 100000 in
theorem rjumps_x {W : World} {lb ab ub sb : Nat} {v : PV} {p : Pg} {g : Nat → Option Sd} {u : Nat → Int} {st : List Bool} (h : Lk W lb ab ub sb v p g u st) (i : Nat) (ty : List Bool) (tn : Int) (hJ : JmP p g st i tn) (hd : Nat) (k22 : ¬ (p.at i).op = 22) (k23 : ¬ (p.at i).op = 23) (k24 : ¬ (p.at i).op = 24) (k25 : ¬ (p.at i).op = 25) (k26 : ¬ (p.at i).op = 26) (k27 : ¬ (p.at i).op = 27) (k0 : ¬ (p.at i).op = 0) :
    Calls Tryd.prog 54 #[.pointer (some ⟨lb, 0, none⟩), .int .i64 (i : Int), .agg #[.string (strT ty), .int .i64 tn, .int .i64 0, .bool false]] W fun e w' => e = .returned (.bool (goB p g i ⟨ty, hd, tn⟩)) ∧ Below W.heap.size W w' := by
  have n3 : (p.cd.length : Int) ≤ 1000000000000000 := by have := h.pg.lcd; omega
  have hi' : (i : Int) < (p.cd.length : Int) := by have := hJ.hi; omega
  have hi0 : (0 : Int) ≤ (i : Int) := by omega
  have HTn : Hid (∀ n W', Below W.heap.size W W' → Calls Tryd.prog 77 #[.pointer (some ⟨lb, 0, none⟩), .int .i64 ((n : Nat) : Int)] W' fun e w' => e = .returned (.bool (isTurn p (n : Int))) ∧ w' = W') := fun n W' hb => rturn_any (h.below hb) n
  have hx := at_eq hJ.hi
  obtain ⟨qo, qc, vo, vc, tto, tc, oo, oc, co, cc⟩ := v
  obtain ⟨g1, f1, hvo, hg, -⟩ := rd_ins h.pg.cd hJ.hi
  obtain rfl : co = some ⟨g1, f1, none⟩ := hvo
  have HJ : Hid (JmP p g st i tn) := hJ
  have HGo : Hid (goB p g i ⟨ty, hd, tn⟩ = goB p g i ⟨ty, hd, tn⟩) := rfl
  have h22 := k22
  have h23 := k23
  have h24 := k24
  have h25 := k25
  have h26 := k26
  have h27 := k27
  have h0 := k0
  rw [hx] at h22 h23 h24 h25 h26 h27 h0
  obtain ⟨x, hxe⟩ : ∃ x, x = p.cd[i]'hJ.hi := ⟨_, rfl⟩
  obtain ⟨xo, xa, xb, xc, xd⟩ := x
  rw [← hxe] at hx h22 h23 h24 h25 h26 h27 h0
  dsimp only at h22 h23 h24 h25 h26 h27 h0
  clear k22 k23 k24 k25 k26 k27 k0
  have hb1 : Below W.heap.size W (W.alloc (.cells #[.string (strT ty), .int .i64 tn, .int .i64 0, .bool false] 76)) := (Below.refl _ W).alloc (Nat.le_refl _) _
  have hb2 : Below W.heap.size W ((W.alloc (.cells #[.string (strT ty), .int .i64 tn, .int .i64 0, .bool false] 76)).alloc (.cells #[.int .i64 xo, .int .i64 xa, .int .i64 xb, .int .i64 xc, .int .i64 xd] 54)) := hb1.alloc hb1.size _
  obtain ⟨t1, t2, t3⟩ := two_al W (.cells #[.string (strT ty), .int .i64 tn, .int .i64 0, .bool false] 76) (.cells #[.int .i64 xo, .int .i64 xa, .int .i64 xb, .int .i64 xc, .int .i64 xd] 54)
  have HX : Hid (Lk (W.alloc (.cells #[.string (strT ty), .int .i64 tn, .int .i64 0, .bool false] 76)) lb ab ub sb ⟨qo, qc, vo, vc, tto, tc, oo, oc, some ⟨g1, f1, none⟩, cc⟩ p g u st) := h.below hb1
  have HY : Hid (Lk ((W.alloc (.cells #[.string (strT ty), .int .i64 tn, .int .i64 0, .bool false] 76)).alloc (.cells #[.int .i64 xo, .int .i64 xa, .int .i64 xb, .int .i64 xc, .int .i64 xd] 54)) lb ab ub sb ⟨qo, qc, vo, vc, tto, tc, oo, oc, some ⟨g1, f1, none⟩, cc⟩ p g u st ∧ ((W.alloc (.cells #[.string (strT ty), .int .i64 tn, .int .i64 0, .bool false] 76)).alloc (.cells #[.int .i64 xo, .int .i64 xa, .int .i64 xb, .int .i64 xc, .int .i64 xd] 54)).heap[W.heap.size]? = some (.cells #[.string (strT ty), .int .i64 tn, .int .i64 0, .bool false] 76 (0, 0)) ∧ ((W.alloc (.cells #[.string (strT ty), .int .i64 tn, .int .i64 0, .bool false] 76)).alloc (.cells #[.int .i64 xo, .int .i64 xa, .int .i64 xb, .int .i64 xc, .int .i64 xd] 54)).heap[W.heap.size + 1]? = some (.cells #[.int .i64 xo, .int .i64 xa, .int .i64 xb, .int .i64 xc, .int .i64 xd] 54 (0, 0)) ∧ (∀ n, Below W.heap.size W (((W.alloc (.cells #[.string (strT ty), .int .i64 tn, .int .i64 0, .bool false] 76)).alloc (.cells #[.int .i64 xo, .int .i64 xa, .int .i64 xb, .int .i64 xc, .int .i64 xd] 54)).drewN n)) ∧ p.at i = ⟨xo, xa, xb, xc, xd⟩ ∧ ∀ h9 : i < p.cd.length, p.cd[i]'h9 = ⟨xo, xa, xb, xc, xd⟩) := ⟨h.below hb2, t1.trans (heap_alloc_new _ _), t2.trans (heap_alloc_new _ _), fun n => hb2.trans ((drN _ n).mono hb2.size), hx, fun _ => hxe.symm⟩
  have HW1 : Hid ((W.alloc (.cells #[.string (strT ty), .int .i64 tn, .int .i64 0, .bool false] 76)).heap.size = W.heap.size + 1) := t3
  clear hb1 hb2 t1 t2 t3 h hxe hx hg HGo
  unfold goB
  rw [HY.out.2.2.2.2.1]
  dsimp only
  clear hJ
  rw [if_neg (by simp [h22, h23]), if_neg h24, if_neg h25, if_neg h26, if_neg h27, if_neg h0]
  go_enter Tryd.func54, Tryd.ntmps54
  go_upto_region 1 with fail
  obtain ⟨-, -, -, -, -, c5, -, -, -⟩ := cells9 HX.out.hw
  obtain ⟨g2, f2, hvo2, hg2, d0, d1, d2, d3, d4⟩ := rd_ins HX.out.pg.cd HJ.out.hi
  obtain ⟨rfl, rfl⟩ : g1 = g2 ∧ f1 = f2 := by cases hvo2; exact ⟨rfl, rfl⟩
  rw [HY.out.2.2.2.2.2 HJ.out.hi] at d0 d1 d2 d3 d4
  dsimp only at c5 d0 d1 d2 d3 d4
  generalize W.alloc (.cells #[.string (strT ty), .int .i64 tn, .int .i64 0, .bool false] 76) = W1 at *
  have hs1 := HW1.out
  go_upto_region 2 with fail
  clear c5 d0 d1 d2 d3 d4 hvo2 hg2 HX
  generalize W1.alloc (.cells #[.int .i64 xo, .int .i64 xa, .int .i64 xb, .int .i64 xc, .int .i64 xd] 54) = W2 at *
  clear hs1 HW1
  generalize hbx : W.heap.size = bx at *
  obtain ⟨i0, i1, i2, i3, i4⟩ := cells5 HY.out.2.2.1
  obtain ⟨s0, s1, s2, s3⟩ := cells4s HY.out.2.1
  obtain ⟨-, -, -, -, -, c5, c6, c7, c8⟩ := cells9 HY.out.1.hw
  dsimp only at c5
  go_wp2_with fail
  go_ret
  exact ⟨rfl, hbx ▸ HY.out.2.2.2.1 0⟩
end Go.Proofs.YtelbakkgobkdaaaDoor.Vf

namespace Go.Proofs.YtelbakkgobkdaaaDoor.Vf
open Go.RowKit Go.Proofs.YtelbakkgobkdaaaDoor.Nm
set_option maxHeartbeats 12800000 in
set_option maxRecDepth 100000 in
theorem rjumps_27 {W : World} {lb ab ub sb : Nat} {v : PV} {p : Pg} {g : Nat → Option Sd} {u : Nat → Int} {st : List Bool} (h : Lk W lb ab ub sb v p g u st) (i : Nat) (ty : List Bool) (tn : Int) (hJ : JmP p g st i tn) (hd : Nat) (hop : (p.at i).op = 27) :
    Calls Tryd.prog 54 #[.pointer (some ⟨lb, 0, none⟩), .int .i64 (i : Int), .agg #[.string (strT ty), .int .i64 tn, .int .i64 0, .bool false]] W fun e w' => e = .returned (.bool (goB p g i ⟨ty, hd, tn⟩)) ∧ Below W.heap.size W w' := by
  have n3 : (p.cd.length : Int) ≤ 1000000000000000 := by have := h.pg.lcd; omega
  have hi' : (i : Int) < (p.cd.length : Int) := by have := hJ.hi; omega
  have hi0 : (0 : Int) ≤ (i : Int) := by omega
  have HTn : Hid (∀ n W', Below W.heap.size W W' → Calls Tryd.prog 77 #[.pointer (some ⟨lb, 0, none⟩), .int .i64 ((n : Nat) : Int)] W' fun e w' => e = .returned (.bool (isTurn p (n : Int))) ∧ w' = W') := fun n W' hb => rturn_any (h.below hb) n
  have hx := at_eq hJ.hi
  obtain ⟨qo, qc, vo, vc, tto, tc, oo, oc, co, cc⟩ := v
  obtain ⟨g1, f1, hvo, hg, -⟩ := rd_ins h.pg.cd hJ.hi
  obtain rfl : co = some ⟨g1, f1, none⟩ := hvo
  have HJ : Hid (JmP p g st i tn) := hJ
  have HGo : Hid (goB p g i ⟨ty, hd, tn⟩ = goB p g i ⟨ty, hd, tn⟩) := rfl
  have hop' := hop
  rw [hx] at hop'
  obtain ⟨x, hxe⟩ : ∃ x, x = p.cd[i]'hJ.hi := ⟨_, rfl⟩
  obtain ⟨xo, xa, xb, xc, xd⟩ := x
  rw [← hxe] at hop' hx
  dsimp only at hop'
  subst hop'
  have hb1 : Below W.heap.size W (W.alloc (.cells #[.string (strT ty), .int .i64 tn, .int .i64 0, .bool false] 76)) := (Below.refl _ W).alloc (Nat.le_refl _) _
  have hb2 : Below W.heap.size W ((W.alloc (.cells #[.string (strT ty), .int .i64 tn, .int .i64 0, .bool false] 76)).alloc (.cells #[.int .i64 27, .int .i64 xa, .int .i64 xb, .int .i64 xc, .int .i64 xd] 54)) := hb1.alloc hb1.size _
  obtain ⟨t1, t2, t3⟩ := two_al W (.cells #[.string (strT ty), .int .i64 tn, .int .i64 0, .bool false] 76) (.cells #[.int .i64 27, .int .i64 xa, .int .i64 xb, .int .i64 xc, .int .i64 xd] 54)
  have HX : Hid (Lk (W.alloc (.cells #[.string (strT ty), .int .i64 tn, .int .i64 0, .bool false] 76)) lb ab ub sb ⟨qo, qc, vo, vc, tto, tc, oo, oc, some ⟨g1, f1, none⟩, cc⟩ p g u st) := h.below hb1
  have HY : Hid (Lk ((W.alloc (.cells #[.string (strT ty), .int .i64 tn, .int .i64 0, .bool false] 76)).alloc (.cells #[.int .i64 27, .int .i64 xa, .int .i64 xb, .int .i64 xc, .int .i64 xd] 54)) lb ab ub sb ⟨qo, qc, vo, vc, tto, tc, oo, oc, some ⟨g1, f1, none⟩, cc⟩ p g u st ∧ ((W.alloc (.cells #[.string (strT ty), .int .i64 tn, .int .i64 0, .bool false] 76)).alloc (.cells #[.int .i64 27, .int .i64 xa, .int .i64 xb, .int .i64 xc, .int .i64 xd] 54)).heap[W.heap.size]? = some (.cells #[.string (strT ty), .int .i64 tn, .int .i64 0, .bool false] 76 (0, 0)) ∧ ((W.alloc (.cells #[.string (strT ty), .int .i64 tn, .int .i64 0, .bool false] 76)).alloc (.cells #[.int .i64 27, .int .i64 xa, .int .i64 xb, .int .i64 xc, .int .i64 xd] 54)).heap[W.heap.size + 1]? = some (.cells #[.int .i64 27, .int .i64 xa, .int .i64 xb, .int .i64 xc, .int .i64 xd] 54 (0, 0)) ∧ (∀ n, Below W.heap.size W (((W.alloc (.cells #[.string (strT ty), .int .i64 tn, .int .i64 0, .bool false] 76)).alloc (.cells #[.int .i64 27, .int .i64 xa, .int .i64 xb, .int .i64 xc, .int .i64 xd] 54)).drewN n)) ∧ p.at i = ⟨27, xa, xb, xc, xd⟩ ∧ ∀ h9 : i < p.cd.length, p.cd[i]'h9 = ⟨27, xa, xb, xc, xd⟩) := ⟨h.below hb2, t1.trans (heap_alloc_new _ _), t2.trans (heap_alloc_new _ _), fun n => hb2.trans ((drN _ n).mono hb2.size), hx, fun _ => hxe.symm⟩
  have HW1 : Hid ((W.alloc (.cells #[.string (strT ty), .int .i64 tn, .int .i64 0, .bool false] 76)).heap.size = W.heap.size + 1) := t3
  clear hb1 hb2 t1 t2 t3 h hxe hx hop hg HGo
  unfold goB
  rw [HY.out.2.2.2.2.1]
  dsimp only
  clear hJ
  show Calls _ _ _ _ (fun e w' => e = .returned (.bool (!decide (tn = -1) && (decide (xa = tn) && decide (ty = tyAt g tn)))) ∧ _)
  rcases HJ.out.tn with rfl | ⟨h0, h1, t, ht⟩
  · show Calls _ _ _ _ (fun e w' => e = .returned (.bool false) ∧ _)
    go_enter Tryd.func54, Tryd.ntmps54
    go_upto_region 1 with fail
    obtain ⟨-, -, -, -, -, c5, -, -, -⟩ := cells9 HX.out.hw
    obtain ⟨g2, f2, hvo2, hg2, d0, d1, d2, d3, d4⟩ := rd_ins HX.out.pg.cd HJ.out.hi
    obtain ⟨rfl, rfl⟩ : g1 = g2 ∧ f1 = f2 := by cases hvo2; exact ⟨rfl, rfl⟩
    rw [HY.out.2.2.2.2.2 HJ.out.hi] at d0 d1 d2 d3 d4
    dsimp only at c5 d0 d1 d2 d3 d4
    generalize W.alloc (.cells #[.string (strT ty), .int .i64 (-1), .int .i64 0, .bool false] 76) = W1 at *
    have hs1 := HW1.out
    go_upto_region 2 with fail
    clear c5 d0 d1 d2 d3 d4 hvo2 hg2 HX
    generalize W1.alloc (.cells #[.int .i64 27, .int .i64 xa, .int .i64 xb, .int .i64 xc, .int .i64 xd] 54) = W2 at *
    clear hs1 HW1
    generalize hbx : W.heap.size = bx at *
    obtain ⟨i0, i1, i2, i3, i4⟩ := cells5 HY.out.2.2.1
    obtain ⟨s0, s1, s2, s3⟩ := cells4s HY.out.2.1
    obtain ⟨-, -, -, -, -, c5, c6, c7, c8⟩ := cells9 HY.out.1.hw
    dsimp only at c5
    go_wp2_with fail
    go_quiet (fail)
    go_wp2_with fail
    go_ret
    exact ⟨rfl, hbx ▸ HY.out.2.2.2.1 _⟩
  obtain ⟨m, rfl⟩ : ∃ m : Nat, tn = (m : Int) := ⟨tn.toNat, by omega⟩
  rw [Int.toNat_natCast] at h1 ht
  have hta : tyAt g (m : Int) = t.ty := by unfold tyAt; rw [Int.toNat_natCast, ht]
  rw [hta, decide_eq_false (p := (m : Int) = -1) (by omega)]
  have HM : Hid (m < p.cd.length ∧ g m = some t) := ⟨h1, ht⟩
  have hm1 : (m : Int) < (p.cd.length : Int) := by omega
  have hk0 : decide ((0 : Int) ≤ (m : Int)) = true := decide_eq_true h0
  clear h1 ht hta
  by_cases hy : xa = (m : Int)
  rotate_left
  · rw [decide_eq_false hy]
    have hk1 : (xa == (m : Int)) = false := beq_eq_false_iff_ne.2 hy
    clear hy
    show Calls _ _ _ _ (fun e w' => e = .returned (.bool false) ∧ _)
    go_enter Tryd.func54, Tryd.ntmps54
    go_upto_region 1 with fail
    obtain ⟨-, -, -, -, -, c5, -, -, -⟩ := cells9 HX.out.hw
    obtain ⟨g2, f2, hvo2, hg2, d0, d1, d2, d3, d4⟩ := rd_ins HX.out.pg.cd HJ.out.hi
    obtain ⟨rfl, rfl⟩ : g1 = g2 ∧ f1 = f2 := by cases hvo2; exact ⟨rfl, rfl⟩
    rw [HY.out.2.2.2.2.2 HJ.out.hi] at d0 d1 d2 d3 d4
    dsimp only at c5 d0 d1 d2 d3 d4
    generalize W.alloc (.cells #[.string (strT ty), .int .i64 (m : Int), .int .i64 0, .bool false] 76) = W1 at *
    have hs1 := HW1.out
    go_upto_region 2 with fail
    clear c5 d0 d1 d2 d3 d4 hvo2 hg2 HX
    generalize W1.alloc (.cells #[.int .i64 27, .int .i64 xa, .int .i64 xb, .int .i64 xc, .int .i64 xd] 54) = W2 at *
    clear hs1 HW1
    generalize hbx : W.heap.size = bx at *
    obtain ⟨i0, i1, i2, i3, i4⟩ := cells5 HY.out.2.2.1
    obtain ⟨s0, s1, s2, s3⟩ := cells4s HY.out.2.1
    obtain ⟨-, -, -, -, -, c5, c6, c7, c8⟩ := cells9 HY.out.1.hw
    dsimp only at c5
    go_wp2_with fail
    go_quiet (fail)
    go_wp2_with fail
    go_ret
    exact ⟨rfl, hbx ▸ HY.out.2.2.2.1 _⟩
  subst hy
  rw [decide_eq_true (p := (m : Int) = (m : Int)) rfl]
  by_cases hz : ty = t.ty
  · rw [decide_eq_true hz]
    have HZ : Hid (strT ty = strT t.ty) := by show strT ty = _; rw [hz]
    clear hz
    show Calls _ _ _ _ (fun e w' => e = .returned (.bool true) ∧ _)
    go_enter Tryd.func54, Tryd.ntmps54
    go_upto_region 1 with fail
    obtain ⟨-, -, -, -, -, c5, -, -, -⟩ := cells9 HX.out.hw
    obtain ⟨g2, f2, hvo2, hg2, d0, d1, d2, d3, d4⟩ := rd_ins HX.out.pg.cd HJ.out.hi
    obtain ⟨rfl, rfl⟩ : g1 = g2 ∧ f1 = f2 := by cases hvo2; exact ⟨rfl, rfl⟩
    rw [HY.out.2.2.2.2.2 HJ.out.hi] at d0 d1 d2 d3 d4
    dsimp only at c5 d0 d1 d2 d3 d4
    generalize W.alloc (.cells #[.string (strT ty), .int .i64 (m : Int), .int .i64 0, .bool false] 76) = W1 at *
    have hs1 := HW1.out
    go_upto_region 2 with fail
    clear c5 d0 d1 d2 d3 d4 hvo2 hg2 HX
    generalize W1.alloc (.cells #[.int .i64 27, .int .i64 (m : Int), .int .i64 xb, .int .i64 xc, .int .i64 xd] 54) = W2 at *
    clear hs1 HW1
    generalize hbx : W.heap.size = bx at *
    obtain ⟨i0, i1, i2, i3, i4⟩ := cells5 HY.out.2.2.1
    obtain ⟨s0, s1, s2, s3⟩ := cells4s HY.out.2.1
    obtain ⟨-, -, -, -, -, c5, c6, c7, c8⟩ := cells9 HY.out.1.hw
    dsimp only at c5
    obtain ⟨a0, -, -, -⟩ := HY.out.1.isS HM.out.1 HM.out.2
    rw [← HZ.out] at a0
    go_wp2_with fail
    go_quiet (fail)
    go_wp2_with fail
    go_ret
    exact ⟨rfl, hbx ▸ HY.out.2.2.2.1 _⟩
  · rw [decide_eq_false hz]
    have HZ : Hid (((strT ty).toList == (strT t.ty).toList) = false) := strR_ne (fun e => hz (strT_inj e) : ¬ strT ty = strT t.ty)
    clear hz
    show Calls _ _ _ _ (fun e w' => e = .returned (.bool false) ∧ _)
    go_enter Tryd.func54, Tryd.ntmps54
    go_upto_region 1 with fail
    obtain ⟨-, -, -, -, -, c5, -, -, -⟩ := cells9 HX.out.hw
    obtain ⟨g2, f2, hvo2, hg2, d0, d1, d2, d3, d4⟩ := rd_ins HX.out.pg.cd HJ.out.hi
    obtain ⟨rfl, rfl⟩ : g1 = g2 ∧ f1 = f2 := by cases hvo2; exact ⟨rfl, rfl⟩
    rw [HY.out.2.2.2.2.2 HJ.out.hi] at d0 d1 d2 d3 d4
    dsimp only at c5 d0 d1 d2 d3 d4
    generalize W.alloc (.cells #[.string (strT ty), .int .i64 (m : Int), .int .i64 0, .bool false] 76) = W1 at *
    have hs1 := HW1.out
    go_upto_region 2 with fail
    clear c5 d0 d1 d2 d3 d4 hvo2 hg2 HX
    generalize W1.alloc (.cells #[.int .i64 27, .int .i64 (m : Int), .int .i64 xb, .int .i64 xc, .int .i64 xd] 54) = W2 at *
    clear hs1 HW1
    generalize hbx : W.heap.size = bx at *
    obtain ⟨i0, i1, i2, i3, i4⟩ := cells5 HY.out.2.2.1
    obtain ⟨s0, s1, s2, s3⟩ := cells4s HY.out.2.1
    obtain ⟨-, -, -, -, -, c5, c6, c7, c8⟩ := cells9 HY.out.1.hw
    dsimp only at c5
    obtain ⟨a0, -, -, -⟩ := HY.out.1.isS HM.out.1 HM.out.2
    have hz2 := HZ.out
    go_wp2_with fail
    go_quiet (fail)
    go_wp2_with fail
    go_ret
    exact ⟨rfl, hbx ▸ HY.out.2.2.2.1 _⟩
end Go.Proofs.YtelbakkgobkdaaaDoor.Vf
