import Derived.Test.YtoeioppmlnognaaArTurn
namespace Go.Proofs.Ytoeioppmlnognaa.Ar
open Go.RowKit

section
variable {w : World} {g : Nat} {o : Lo} {a : As}
theorem Goes.under {w w1 w2 : World} {g : Nat} {o : Lo} {a : As} (h : Goes w1 g o a w2) (hb : Below w.heap.size w w1) : Goes w g o a w2 := by
  obtain ⟨o', h1, h2, h3⟩ := h
  exact ⟨o', h1, (Fr.of_below hb (F := o.foot g a.nl)).trans h2 (fun _ hx => Or.inl hx), fun k hk => (h3 k hk).imp id (fun h => Nat.le_trans hb.size h)⟩
theorem Goes.trans {w w1 w2 : World} {g : Nat} {o o1 : Lo} {a a' : As} (hF : Fr (o.foot g a'.nl) w w1) (hk : ∀ k ∈ o1.foot g a'.nl, k ∈ o.foot g a'.nl ∨ w.heap.size ≤ k) (h2 : Goes w1 g o1 a' w2) (_h : a.nl = a'.nl) : Goes w g o a' w2 := by
  obtain ⟨o2, h3, h4, h5⟩ := h2
  exact ⟨o2, h3, hF.trans h4 hk, fun k hm => (h5 k hm).elim (fun h => hk k h) (fun h => Or.inr (Nat.le_trans hF.size h))⟩

set_option maxHeartbeats 1600000 in
set_option maxRecDepth 100000 in
theorem move_any (h : IsAr w g o a) (n l e : Int) : Calls Try.prog 18 #[.pointer (some ⟨g, 0, none⟩), I n, I l, I e] w fun r w' => r = .returned (I (a.move n l e).1) ∧ Goes w g o (a.move n l e).2 w' := by
  have HG := show Hid _ from h.goes
  have HL := show Hid _ from h.linked n
  obtain ⟨c, hm, hi⟩ := h
  have H0 := show Hid _ from hasNode_any hm n
  have H1 := show Hid _ from hasList_any hm l
  have H2 := show Hid _ from isEnd_any e w
  by_cases hn : 0 ≤ n ∧ n < a.size
  · rw [decide_eq_true hn] at H0
    by_cases hl : 0 ≤ l ∧ l < a.nl
    · rw [decide_eq_true hl] at H1
      by_cases he : e = 0 ∨ e = 1
      · rw [decide_eq_true he] at H2
        cases hw : a.wh n.toNat with
        | none =>
          have hp : a.move n l e = (53, a) := by unfold As.move; rw [if_pos ⟨hn, hl, he⟩, hw]
          rw [hp]
          rw [hw, decide_eq_false (by simp)] at HL
          clear hm hi hn hl he hw hp
          go_enter Try.func18, Try.ntmps18
          go_wp2_with fail
          refine Calls.mono H0.out ?_
          rintro r w1 ⟨rfl, rfl⟩
          go_wp2_with fail
          refine Calls.mono H1.out ?_
          rintro r w1 ⟨rfl, rfl⟩
          go_wp2_with fail
          refine Calls.mono H2.out ?_
          rintro r w1 ⟨rfl, rfl⟩
          go_wp2_with fail
          refine Calls.mono HL.out ?_
          rintro r w1 ⟨rfl, rfl⟩
          go_wp2
          go_ret
          exact ⟨rfl, HG.out⟩
        | some j =>
          have hp : a.move n l e = (0, (a.unlink n.toNat j).link n.toNat l.toNat e.toNat) := by unfold As.move; rw [if_pos ⟨hn, hl, he⟩, hw]
          rw [hp]
          rw [hw, decide_eq_true (p := 0 ≤ n ∧ (some j).isSome = true) ⟨hn.1, rfl⟩] at HL
          obtain ⟨x, rfl⟩ := Int.eq_ofNat_of_zero_le hn.1
          obtain ⟨i, rfl⟩ := Int.eq_ofNat_of_zero_le hl.1
          obtain ⟨e, rfl⟩ : ∃ k : Nat, e = k := ⟨e.toNat, by omega⟩
          rw [Int.toNat_natCast] at hw
          rw [Int.toNat_natCast, Int.toNat_natCast, Int.toNat_natCast]
          obtain ⟨hj, hmm⟩ := As.wh_some hw
          obtain ⟨hxu, hli, hv⟩ := hi.lt j hj x hmm
          have hct : c.ct j ≤ 4194304 := Nat.le_trans (hi.ct_le hj) (Nat.le_trans hm.us hm.sz)
          have HU := show Hid _ from unlink_any hm hxu hj hli hct (hi.ct_pos hj hmm) (hi.bs_ok hj hmm)
          have hI2 := hi.unlink hj hmm
          have hvv : (c.unlink x j).vl x = a.val x := by
            rw [← hv]
            unfold Cs.unlink Cs.un1
            dsimp only
            split <;> split <;> rfl
          have HI : Hid (Inv (c.unlink x j) (a.unlink x j) [x] ∧ (c.unlink x j).vl x = a.val x ∧ i < a.nl ∧ e < 2) := ⟨hI2, hvv, by omega, by omega⟩
          clear hm hi hn hl he hw hp HG hli hv hct hI2 hvv hj hmm
          go_enter Try.func18, Try.ntmps18
          go_wp2_with fail
          refine Calls.mono H0.out ?_
          rintro r w1 ⟨rfl, rfl⟩
          go_wp2_with fail
          refine Calls.mono H1.out ?_
          rintro r w1 ⟨rfl, rfl⟩
          go_wp2_with fail
          refine Calls.mono H2.out ?_
          rintro r w1 ⟨rfl, rfl⟩
          go_wp2_with fail
          refine Calls.mono HL.out ?_
          rintro r w1 ⟨rfl, rfl⟩
          go_wp2_with fail
          refine Calls.mono HU.out ?_
          rintro r w2 ⟨rfl, h2⟩
          have HM := show Hid _ from h2
          clear h2
          go_wp2_with fail
          refine (link_any HM.out.1 (e := e) hxu HI.out.2.2.1 HI.out.2.2.2 ?_ ?_).mono ?_
          · exact Nat.le_trans (HI.out.1.ct_le (i := i) HI.out.2.2.1) (Nat.le_trans HM.out.1.us HM.out.1.sz)
          · exact HI.out.1.la_ok (i := i) HI.out.2.2.1 HI.out.2.2.2
          rintro r w5 ⟨rfl, h5⟩
          have H5 := show Hid _ from h5
          clear h5
          go_wp2
          go_ret
          exact ⟨rfl, o, ⟨_, H5.out.1, HI.out.1.link HI.out.2.1 HI.out.2.2.1 HI.out.2.2.2⟩, HM.out.2.trans H5.out.2 (fun _ hx => Or.inl hx), fun _ hk => Or.inl hk⟩
      · rw [decide_eq_false he] at H2
        have hp : a.move n l e = (1, a) := by unfold As.move; rw [if_neg (fun h => he h.2.2)]
        rw [hp]
        clear hm hi hn hl he hp HL
        go_enter Try.func18, Try.ntmps18
        go_wp2_with fail
        refine Calls.mono H0.out ?_
        rintro r w1 ⟨rfl, rfl⟩
        go_wp2_with fail
        refine Calls.mono H1.out ?_
        rintro r w1 ⟨rfl, rfl⟩
        go_wp2_with fail
        refine Calls.mono H2.out ?_
        rintro r w1 ⟨rfl, rfl⟩
        go_wp2
        go_ret
        exact ⟨rfl, HG.out⟩
    · rw [decide_eq_false hl] at H1
      have hp : a.move n l e = (1, a) := by unfold As.move; rw [if_neg (fun h => hl h.2.1)]
      rw [hp]
      clear hm hi hn hl hp HL H2
      go_enter Try.func18, Try.ntmps18
      go_wp2_with fail
      refine Calls.mono H0.out ?_
      rintro r w1 ⟨rfl, rfl⟩
      go_wp2_with fail
      refine Calls.mono H1.out ?_
      rintro r w1 ⟨rfl, rfl⟩
      go_wp2
      go_ret
      exact ⟨rfl, HG.out⟩
  · rw [decide_eq_false hn] at H0
    have hp : a.move n l e = (1, a) := by unfold As.move; rw [if_neg (fun h => hn h.1)]
    rw [hp]
    clear hm hi hn hp HL H1 H2
    go_enter Try.func18, Try.ntmps18
    go_wp2_with fail
    refine Calls.mono H0.out ?_
    rintro r w1 ⟨rfl, rfl⟩
    go_wp2
    go_ret
    exact ⟨rfl, HG.out⟩
end

/-- one step that changes something -/
def As.act (a : As) (k A B C : Int) : As :=
  if k = 1 then (a.push A B C).2.2 else if k = 2 then (a.pop A B).2.2 else if k = 3 then (a.unl A).2.2 else if k = 4 then (a.move A B C).2 else if k = 6 then (a.set A C).2 else a
theorem As.act_nl (a : As) (k A B C : Int) : (a.act k A B C).nl = a.nl ∧ (a.act k A B C).size = a.size := by
  unfold As.act
  split
  · exact a.push_nl _ _ _
  split
  · exact a.pop_nl _ _
  split
  · exact a.unl_nl _
  split
  · exact a.move_nl _ _ _
  split
  · exact a.set_nl _ _
  exact ⟨rfl, rfl⟩
set_option maxHeartbeats 1600000 in
set_option maxRecDepth 100000 in
theorem do_any {w : World} {g : Nat} {o : Lo} {a : As} (h : IsAr w g o a) (k A B C : Int) : Calls Try.prog 15 #[.pointer (some ⟨g, 0, none⟩), .agg #[I k, I A, I B, I C]] w fun r w' => r = .returned (.tuple #[]) ∧ Goes w g o (a.act k A B C) w' := by
  have hb : Below w.heap.size w (w.alloc (.cells #[I k, I A, I B, I C] 29)) := (Below.refl _ w).alloc (Nat.le_refl _) _
  have h1 : IsAr (w.alloc (.cells #[I k, I A, I B, I C] 29)) g o a := by
    obtain ⟨c, hm, hi⟩ := h
    exact ⟨c, hm.below hb, hi⟩
  have HB := show Hid _ from And.intro hb h1
  unfold As.act
  by_cases k1 : k = 1
  · subst k1
    rw [if_pos rfl]
    have HP := show Hid _ from push_any h1 A B C
    clear h h1 hb
    go_enter Try.func15, Try.ntmps15
    go_wp2_with fail
    refine Calls.mono HP.out ?_
    rintro r w1 ⟨rfl, h1⟩
    have H1 := show Hid _ from h1
    clear h1
    go_wp2
    go_end0
    exact ⟨rfl, Goes.under H1.out HB.out.1⟩
  rw [if_neg k1]
  by_cases k2 : k = 2
  · subst k2
    rw [if_pos rfl]
    have HP := show Hid _ from pop_any h1 A B
    clear h h1 hb k1
    go_enter Try.func15, Try.ntmps15
    go_wp2_with fail
    refine Calls.mono HP.out ?_
    rintro r w1 ⟨rfl, h1⟩
    have H1 := show Hid _ from h1
    clear h1
    go_wp2
    go_end0
    exact ⟨rfl, Goes.under H1.out HB.out.1⟩
  rw [if_neg k2]
  by_cases k3 : k = 3
  · subst k3
    rw [if_pos rfl]
    have HP := show Hid _ from unl_any h1 A
    clear h h1 hb k1 k2
    go_enter Try.func15, Try.ntmps15
    go_wp2_with fail
    refine Calls.mono HP.out ?_
    rintro r w1 ⟨rfl, h1⟩
    have H1 := show Hid _ from h1
    clear h1
    go_wp2
    go_end0
    exact ⟨rfl, Goes.under H1.out HB.out.1⟩
  rw [if_neg k3]
  by_cases k4 : k = 4
  · subst k4
    rw [if_pos rfl]
    have HP := show Hid _ from move_any h1 A B C
    clear h h1 hb k1 k2 k3
    go_enter Try.func15, Try.ntmps15
    go_wp2_with fail
    refine Calls.mono HP.out ?_
    rintro r w1 ⟨rfl, h1⟩
    have H1 := show Hid _ from h1
    clear h1
    go_wp2
    go_end0
    exact ⟨rfl, Goes.under H1.out HB.out.1⟩
  rw [if_neg k4]
  by_cases k6 : k = 6
  · subst k6
    rw [if_pos rfl]
    have HP := show Hid _ from set_any h1 A C
    clear h h1 hb k1 k2 k3 k4
    go_enter Try.func15, Try.ntmps15
    go_wp2_with fail
    refine Calls.mono HP.out ?_
    rintro r w1 ⟨rfl, h1⟩
    have H1 := show Hid _ from h1
    clear h1
    go_wp2
    go_end0
    exact ⟨rfl, Goes.under H1.out HB.out.1⟩
  rw [if_neg k6]
  have q1 : (k == 1) = false := by simp [k1]
  have q2 : (k == 2) = false := by simp [k2]
  have q3 : (k == 3) = false := by simp [k3]
  have q4 : (k == 4) = false := by simp [k4]
  have q6 : (k == 6) = false := by simp [k6]
  clear h h1 hb k1 k2 k3 k4 k6
  go_enter Try.func15, Try.ntmps15
  go_wp2
  go_end0
  exact ⟨rfl, HB.out.2.goes.under HB.out.1⟩
end Go.Proofs.Ytoeioppmlnognaa.Ar
