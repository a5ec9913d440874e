import Derived.Test.YtoeioppmlnognaaArFace
import Derived.Test.YtoeioppmlnognaaArUnlink
namespace Go.Proofs.Ytoeioppmlnognaa.Ar
open Go.RowKit

section
variable {w : World} {g : Nat} {o : Lo} {a : As}

/-- a node is laid behind take -/
theorem Took.lay {w w1 w2 w3 : World} {g : Nat} {o o' : Lo} {a : As} {c : Cs} {x i e free : Nat} {v : Int}
    (hI : Inv c a [x]) (hF : Fr (o.foot g a.nl) w w1) (hk : ∀ k ∈ o'.foot g a.nl, k ∈ o.foot g a.nl ∨ w.heap.size ≤ k)
    (hf : free = a.free) (hi : i < a.nl) (he : e < 2)
    (h2 : MF w1 w2 g o' { c with vl := up c.vl x v } a.size a.nl a.used free (hd a.fr))
    (h3 : MF w2 w3 g o' (Cs.link { c with vl := up c.vl x v } x i e) a.size a.nl a.used free (hd a.fr)) : Goes w g o (As.link { a with val := up a.val x v } x i e) w3 := by
  subst hf
  refine ⟨o', ⟨_, h3.1, (hI.set x v).link (by simp [up]) hi he⟩, ?_, hk⟩
  exact (hF.trans h2.2 hk).trans h3.2 hk

set_option maxHeartbeats 1600000 in
set_option maxRecDepth 100000 in
theorem push_any (h : IsAr w g o a) (l e v : Int) : Calls Try.prog 20 #[.pointer (some ⟨g, 0, none⟩), I l, I e, I v] w fun r w' => r = .returned (.tuple #[I (a.push l e v).1, I (a.push l e v).2.1]) ∧ Goes w g o (a.push l e v).2.2 w' := by
  have HG := show Hid _ from h.goes
  have HT := show Hid (a.free ≠ 0 → _) from take_any h
  obtain ⟨c, hm, hi⟩ := h
  have H1 := show Hid _ from hasList_any hm l
  have H2 := show Hid _ from isEnd_any e w
  by_cases hl : 0 ≤ l ∧ l < a.nl
  · rw [decide_eq_true hl] at H1
    by_cases he : e = 0 ∨ e = 1
    · rw [decide_eq_true he] at H2
      obtain ⟨_, _, _, _, a4, _⟩ := hm.cellsA
      by_cases hf : a.free = 0
      · have hp : a.push l e v = (0, 51, a) := by unfold As.push; rw [if_pos ⟨hl, he⟩, if_pos hf]
        rw [hp]
        rw [hf] at a4
        clear hm hi hl he hp hf HT
        go_enter Try.func20, Try.ntmps20
        go_wp2_with fail
        refine Calls.mono H1.out ?_
        rintro e w1 ⟨rfl, rfl⟩
        go_wp2_with fail
        refine Calls.mono H2.out ?_
        rintro e w1 ⟨rfl, rfl⟩
        go_wp2
        go_ret2
        exact ⟨rfl, HG.out⟩
      · have hp : a.push l e v = ((a.take.1 : Int), 0, As.link { a.take.2 with val := up a.take.2.val a.take.1 v } a.take.1 l.toNat e.toNat) := by unfold As.push; rw [if_pos ⟨hl, he⟩, if_neg hf]
        rw [hp]
        have HT' := show Hid _ from HT.out hf
        have q4 : ((a.free : Int) == 0) = false := by simp [hf]
        have htf := a.take_free
        have htn : a.take.2.nl = a.nl := by unfold As.take; split <;> rfl
        obtain ⟨i, rfl⟩ := Int.eq_ofNat_of_zero_le hl.1
        have hi' : i < a.take.2.nl := by rw [htn]; omega
        obtain ⟨e, rfl⟩ : ∃ k : Nat, e = k := ⟨e.toNat, by omega⟩
        have he' : e < 2 := by omega
        rw [Int.toNat_natCast, Int.toNat_natCast]
        have HX : Hid (a.take.2.free = a.free - 1 ∧ i < a.take.2.nl ∧ e < 2) := ⟨htf, hi', he'⟩
        clear hm hi hl he hp hf HT HG htf htn hi' he'
        generalize hx : a.take.1 = x at *
        generalize ha : a.take.2 = a' at *
        clear hx ha
        go_enter Try.func20, Try.ntmps20
        go_wp2_with fail
        refine Calls.mono H1.out ?_
        rintro r w1 ⟨rfl, rfl⟩
        go_wp2_with fail
        refine Calls.mono H2.out ?_
        rintro r w1 ⟨rfl, rfl⟩
        go_wp2_with fail
        refine Calls.mono HT'.out ?_
        rintro r w2 ⟨rfl, o', c', hm2, hI2, hF2, hk2⟩
        obtain ⟨hxu, _, _⟩ := hI2.awl x (by simp)
        have hxs : x < a'.size := Nat.lt_of_lt_of_le hxu hm2.us
        obtain ⟨b, hb⟩ := hm2.page hxu
        obtain ⟨_, _, _, s3, sf⟩ := hm2.cellsS hxs hb
        have HM : Hid (MF w2 w2 g o' c' a'.size a'.nl a'.used (a.free - 1) (hd a'.fr)) := ⟨hm2, Fr.refl _ _⟩
        have HI := show Hid _ from And.intro hI2 (And.intro hF2 hk2)
        clear hm2 hI2 hF2 hk2 a4
        go_wp2_with fail
        refine (at_any HM.out.1 hxs hb).mono ?_
        rintro r w3 ⟨rfl, rfl⟩
        go_upto_region 7 with fail
        have HM3 : Hid (MF w3 (w3.setCell ⟨b, x % 64 * 4 + 3, none⟩ (I v)) g o' { c' with vl := up c'.vl x v } a'.size a'.nl a'.used (a.free - 1) (hd a'.fr)) := HM.out.putV hb v
        generalize w3.setCell ⟨b, x % 64 * 4 + 3, none⟩ (I v) = w4 at *
        clear HM s3 sf
        go_wp2_with fail
        refine (link_any HM3.out.1 (e := e) hxu HX.out.2.1 HX.out.2.2 ?_ ?_).mono ?_
        · show c'.ct i ≤ 4194304
          exact Nat.le_trans (HI.out.1.ct_le HX.out.2.1) (Nat.le_trans HM3.out.1.us HM3.out.1.sz)
        · exact HI.out.1.la_ok HX.out.2.1 HX.out.2.2
        rintro r w5 ⟨rfl, h5⟩
        have H5 := show Hid _ from h5
        clear h5
        go_wp2
        go_ret2
        exact ⟨rfl, Took.lay HI.out.1 HI.out.2.1 HI.out.2.2 HX.out.1.symm HX.out.2.1 HX.out.2.2 HM3.out H5.out⟩
    · rw [decide_eq_false he] at H2
      have hp : a.push l e v = (0, 1, a) := by unfold As.push; rw [if_neg (fun h => he h.2)]
      rw [hp]
      clear hm hi hl he hp HT
      go_enter Try.func20, Try.ntmps20
      go_wp2_with fail
      refine Calls.mono H1.out ?_
      rintro e w1 ⟨rfl, rfl⟩
      go_wp2_with fail
      refine Calls.mono H2.out ?_
      rintro e w1 ⟨rfl, rfl⟩
      go_wp2
      go_ret2
      exact ⟨rfl, HG.out⟩
  · rw [decide_eq_false hl] at H1
    have hp : a.push l e v = (0, 1, a) := by unfold As.push; rw [if_neg (fun h => hl h.1)]
    rw [hp]
    clear hm hi hl hp H2 HT
    go_enter Try.func20, Try.ntmps20
    go_wp2_with fail
    refine Calls.mono H1.out ?_
    rintro e w1 ⟨rfl, rfl⟩
    go_wp2
    go_ret2
    exact ⟨rfl, HG.out⟩

set_option maxHeartbeats 1600000 in
set_option maxRecDepth 100000 in
theorem unl_any (h : IsAr w g o a) (n : Int) : Calls Try.prog 19 #[.pointer (some ⟨g, 0, none⟩), I n] w fun r w' => r = .returned (.tuple #[I (a.unl n).1, I (a.unl n).2.1]) ∧ Goes w g o (a.unl n).2.2 w' := by
  have H1 := show Hid _ from h.refuse n
  have HG := show Hid _ from h.goes
  obtain ⟨c, hm, hi⟩ := h
  rcases a.bad_cases n with hb | ⟨hb, hb2⟩
  · have hp : a.unl n = (a.val n.toNat, 0, a.cut n.toNat) := by unfold As.unl; rw [if_pos hb]
    rw [hp]
    rw [hb] at H1
    obtain ⟨x, i, rfl, hx, hw⟩ := As.bad_zero hb
    obtain ⟨hi', hmm⟩ := As.wh_some hw
    obtain ⟨hxu, hli, hv⟩ := hi.lt i hi' x hmm
    rw [Int.toNat_natCast]
    have hct : c.ct i ≤ 4194304 := Nat.le_trans (hi.ct_le hi') (Nat.le_trans hm.us hm.sz)
    have HU := show Hid _ from unlink_any hm hxu hi' hli hct (hi.ct_pos hi' hmm) (hi.bs_ok hi' hmm)
    have hI2 := hi.unlink hi' hmm
    have hvv : (c.unlink x i).vl x = a.val x := by
      rw [← hv]
      unfold Cs.unlink Cs.un1
      dsimp only
      split <;> split <;> rfl
    have hfl : a.free ≤ 4194304 := Nat.le_trans hi.free_le hm.sz
    have HI : Hid (Inv (c.unlink x i) (a.unlink x i) [x] ∧ (c.unlink x i).vl x = a.val x ∧ a.free ≤ 4194304 ∧ a.wh x = some i) := ⟨hI2, hvv, hfl, hw⟩
    clear hm hi hb hw hmm hli hv hct hI2 hvv hfl hp HG
    go_enter Try.func19, Try.ntmps19
    go_wp2_with fail
    refine Calls.mono H1.out ?_
    rintro e w1 ⟨rfl, rfl⟩
    go_wp2_with fail
    refine Calls.mono HU.out ?_
    rintro e w2 ⟨rfl, h2⟩
    have H2 := show Hid _ from h2
    clear h2
    go_wp2_with fail
    refine Calls.mono (give_any H2.out.1 hxu HI.out.2.2.1) ?_
    rintro e w3 ⟨rfl, h3⟩
    rw [HI.out.2.1]
    have H3 := show Hid _ from h3
    clear h3
    go_wp2
    go_ret2
    refine ⟨rfl, ?_⟩
    have e1 : a.cut x = { a.unlink x i with fr := x :: a.fr } := by unfold As.cut; rw [HI.out.2.2.2]; rfl
    rw [e1]
    refine ⟨o, ⟨_, ?_, HI.out.1.give⟩, H2.out.2.trans H3.out.2 (fun _ hx => Or.inl hx), fun _ hk => Or.inl hk⟩
    have e2 : As.free { a.unlink x i with fr := x :: a.fr } = a.free + 1 := by simp only [As.free, As.unlink, List.length_cons]; omega
    rw [e2]
    exact H3.out.1
  · have hp : a.unl n = (0, a.bad n, a) := by unfold As.unl; rw [if_neg hb]
    rw [hp]
    clear hm hi hb hp
    generalize a.bad n = z at *
    go_enter Try.func19, Try.ntmps19
    go_wp2_with fail
    refine Calls.mono H1.out ?_
    rintro e w1 ⟨rfl, rfl⟩
    go_wp2
    go_ret2
    exact ⟨rfl, HG.out⟩

set_option maxHeartbeats 1600000 in
set_option maxRecDepth 100000 in
theorem set_any (h : IsAr w g o a) (n v : Int) : Calls Try.prog 44 #[.pointer (some ⟨g, 0, none⟩), I n, I v] w fun r w' => r = .returned (I (a.set n v).1) ∧ Goes w g o (a.set n v).2 w' := by
  have H1 := show Hid _ from h.refuse n
  have HG := show Hid _ from h.goes
  obtain ⟨c, hm, hi⟩ := h
  rcases a.bad_cases n with hb | ⟨hb, hb2⟩
  · have hp : a.set n v = (0, { a with val := up a.val n.toNat v }) := by unfold As.set; rw [if_pos hb, hb]
    rw [hp]
    rw [hb] at H1
    obtain ⟨x, i, rfl, hx, hw⟩ := As.bad_zero hb
    obtain ⟨hi', hmm⟩ := As.wh_some hw
    obtain ⟨hxu, _, _⟩ := hi.lt i hi' x hmm
    obtain ⟨b, hpb⟩ := hm.page hxu
    obtain ⟨_, _, _, s3, sf⟩ := hm.cellsS hx hpb
    have HA := show Hid _ from at_any hm hx hpb
    have HM : Hid (MF w w g o c a.size a.nl a.used a.free (hd a.fr) ∧ Inv c a []) := ⟨⟨hm, Fr.refl _ _⟩, hi⟩
    rw [Int.toNat_natCast]
    clear hm hi hb hw hmm hp HG
    go_enter Try.func44, Try.ntmps44
    go_wp2_with fail
    refine Calls.mono H1.out ?_
    rintro e w1 ⟨rfl, rfl⟩
    go_wp2_with fail
    refine Calls.mono HA.out ?_
    rintro e w1 ⟨rfl, rfl⟩
    go_wp2
    go_ret
    have := HM.out.1.putV hpb v
    exact ⟨rfl, o, ⟨_, this.1, HM.out.2.set x v⟩, this.2, fun _ hk => Or.inl hk⟩
  · have hp : a.set n v = (a.bad n, a) := by unfold As.set; rw [if_neg hb]
    rw [hp]
    clear hm hi hb hp
    generalize a.bad n = z at *
    go_enter Try.func44, Try.ntmps44
    go_wp2_with fail
    refine Calls.mono H1.out ?_
    rintro e w1 ⟨rfl, rfl⟩
    go_wp2
    go_ret
    exact ⟨rfl, HG.out⟩

set_option maxHeartbeats 1600000 in
set_option maxRecDepth 100000 in
theorem pop_any (h : IsAr w g o a) (l e : Int) : Calls Try.prog 43 #[.pointer (some ⟨g, 0, none⟩), I l, I e] w fun r w' => r = .returned (.tuple #[I (a.pop l e).1, I (a.pop l e).2.1]) ∧ Goes w g o (a.pop l e).2.2 w' := by
  have HG := show Hid _ from h.goes
  have HP := show Hid _ from peek_any h l e
  have HU := show Hid (∀ n : Int, _) from unl_any h
  obtain ⟨c, hm, hi⟩ := h
  have H1 := show Hid _ from hasList_any hm l
  have H2 := show Hid _ from isEnd_any e w
  by_cases hl : 0 ≤ l ∧ l < a.nl
  · rw [decide_eq_true hl] at H1
    by_cases he : e = 0 ∨ e = 1
    · rw [decide_eq_true he] at H2
      cases hk : a.peek l e with
      | none =>
        have hp : a.pop l e = (0, 52, a) := by unfold As.pop; rw [if_pos ⟨hl, he⟩, hk]
        rw [hp]
        rw [hk] at HP
        simp only [Option.getD_none, Option.isSome_none] at HP
        clear hm hi hl he hp hk HU
        go_enter Try.func43, Try.ntmps43
        go_wp2_with fail
        refine Calls.mono H1.out ?_
        rintro e w1 ⟨rfl, rfl⟩
        go_wp2_with fail
        refine Calls.mono H2.out ?_
        rintro e w1 ⟨rfl, rfl⟩
        go_wp2_with fail
        refine Calls.mono HP.out ?_
        rintro e w1 ⟨rfl, rfl⟩
        go_wp2
        go_ret2
        exact ⟨rfl, HG.out⟩
      | some x =>
        have hp : a.pop l e = a.unl x := by unfold As.pop; rw [if_pos ⟨hl, he⟩, hk]
        rw [hp]
        rw [hk] at HP
        simp only [Option.getD_some, Option.isSome_some] at HP
        have HU' := show Hid _ from HU.out (x : Int)
        clear hm hi hl he hp hk HU HG
        generalize a.unl (x : Int) = z at *
        go_enter Try.func43, Try.ntmps43
        go_wp2_with fail
        refine Calls.mono H1.out ?_
        rintro e w1 ⟨rfl, rfl⟩
        go_wp2_with fail
        refine Calls.mono H2.out ?_
        rintro e w1 ⟨rfl, rfl⟩
        go_wp2_with fail
        refine Calls.mono HP.out ?_
        rintro e w1 ⟨rfl, rfl⟩
        go_wp2_with fail
        refine Calls.mono HU'.out ?_
        rintro e w2 ⟨rfl, h2⟩
        have H2 := show Hid _ from h2
        clear h2
        go_wp2
        go_ret2
        exact ⟨rfl, H2.out⟩
    · rw [decide_eq_false he] at H2
      have hp : a.pop l e = (0, 1, a) := by unfold As.pop; rw [if_neg (fun h => he h.2)]
      rw [hp]
      clear hm hi hl he hp HU HP
      go_enter Try.func43, Try.ntmps43
      go_wp2_with fail
      refine Calls.mono H1.out ?_
      rintro e w1 ⟨rfl, rfl⟩
      go_wp2_with fail
      refine Calls.mono H2.out ?_
      rintro e w1 ⟨rfl, rfl⟩
      go_wp2
      go_ret2
      exact ⟨rfl, HG.out⟩
  · rw [decide_eq_false hl] at H1
    have hp : a.pop l e = (0, 1, a) := by unfold As.pop; rw [if_neg (fun h => hl h.1)]
    rw [hp]
    clear hm hi hl hp H2 HU HP
    go_enter Try.func43, Try.ntmps43
    go_wp2_with fail
    refine Calls.mono H1.out ?_
    rintro e w1 ⟨rfl, rfl⟩
    go_wp2
    go_ret2
    exact ⟨rfl, HG.out⟩
end
end Go.Proofs.Ytoeioppmlnognaa.Ar
