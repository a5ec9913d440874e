import Derived.Test.YtoeioppmlnognaaArTake

namespace Go.Proofs.Ytoeioppmlnognaa.Ar
open Go.RowKit

theorem take_while_mid {p q : List Nat} {x : Nat} (h : x ∉ p) : (p ++ x :: q).takeWhile (fun y => decide (y ≠ x)) = p ∧ (p ++ x :: q).dropWhile (fun y => decide (y ≠ x)) = x :: q := by
  induction p with
  | nil => simp
  | cons y p ih =>
    have hy : y ≠ x := fun e => h (by simp [e])
    obtain ⟨h1, h2⟩ := ih (fun hm => h (by simp [hm]))
    simp only [List.cons_append]
    rw [List.takeWhile_cons, List.dropWhile_cons, decide_eq_true hy]
    exact ⟨by rw [if_pos rfl, h1], by rw [if_pos rfl, h2]⟩
/-- a node's neighbour towards an end -/
def nbr (l : List Nat) (x e : Nat) : Option Nat := if e = 0 then (l.takeWhile (fun y => decide (y ≠ x))).getLast? else ((l.dropWhile (fun y => decide (y ≠ x))).drop 1).head?
theorem nbr_mid {p q : List Nat} {x : Nat} (h : x ∉ p) : nbr (p ++ x :: q) x 0 = p.getLast? ∧ nbr (p ++ x :: q) x 1 = q.head? := by
  obtain ⟨h1, h2⟩ := take_while_mid (q := q) h
  unfold nbr
  rw [h1, h2]
  exact ⟨rfl, rfl⟩
def As.next (a : As) (n e : Int) : Option Nat := if 0 ≤ n ∧ (e = 0 ∨ e = 1) then (match a.wh n.toNat with | none => none | some i => nbr (a.L i) n.toNat e.toNat) else none
def As.len (a : As) (l : Int) : Int := if 0 ≤ l ∧ l < a.nl then ((a.L l.toNat).length : Int) else 0

theorem As.bad_cases (a : As) (n : Int) : a.bad n = 0 ∨ a.bad n ≠ 0 ∧ (a.bad n != 0) = true := by
  by_cases h : a.bad n = 0
  · exact Or.inl h
  · exact Or.inr ⟨h, by simp [h]⟩
theorem As.bad_zero {a : As} {n : Int} (h : a.bad n = 0) : ∃ x i : Nat, n = x ∧ x < a.size ∧ a.wh x = some i := by
  unfold As.bad at h
  split at h
  · rename_i h0
    split at h
    · rename_i h1
      cases hw : a.wh n.toNat with
      | none => rw [hw] at h1; cases h1
      | some i => exact ⟨n.toNat, i, by omega, by omega, hw⟩
    · omega
  · omega
theorem As.take_free (a : As) : a.take.2.free = a.free - 1 := by
  unfold As.take
  cases hf : a.fr with
  | nil => simp only [As.free, hf]; simp; omega
  | cons x t => simp only [As.free, hf]; simp

section
variable {w : World} {g : Nat} {o : Lo} {a : As}
theorem IsAr.goes (h : IsAr w g o a) : Goes w g o a w := ⟨o, h, Fr.refl _ _, fun _ hk => Or.inl hk⟩
theorem IsAr.refuse (h : IsAr w g o a) (n : Int) : Calls Try.prog 55 #[.pointer (some ⟨g, 0, none⟩), I n] w fun e w' => e = .returned (I (a.bad n)) ∧ w' = w := by
  obtain ⟨c, hm, hi⟩ := h
  have e : Ar.refuse a.size a.used c.li n = a.bad n := by
    unfold Ar.refuse As.bad
    by_cases h0 : 0 ≤ n ∧ n < a.size
    · rw [if_pos h0, if_pos h0]
      by_cases h1 : (a.wh n.toNat).isSome = true
      · rw [if_pos h1, if_pos ((hi.linked n).2 ⟨h0.1, h1⟩)]
      · rw [if_neg h1, if_neg (fun h => h1 ((hi.linked n).1 h).2)]
    · rw [if_neg h0, if_neg h0]
  rw [← e]
  exact refusal_any hm n
theorem IsAr.linked (h : IsAr w g o a) (n : Int) : Calls Try.prog 52 #[.pointer (some ⟨g, 0, none⟩), I n] w fun e w' => e = .returned (.bool (decide (0 ≤ n ∧ (a.wh n.toNat).isSome = true))) ∧ w' = w := by
  obtain ⟨c, hm, hi⟩ := h
  have := isLinked_any hm n
  rw [show decide (0 ≤ n ∧ n < a.used ∧ c.li n.toNat ≠ -1) = decide (0 ≤ n ∧ (a.wh n.toNat).isSome = true) from by rw [decide_eq_decide]; exact hi.linked n] at this
  exact this

set_option maxHeartbeats 800000 in
theorem free_any (h : IsAr w g o a) : Calls Try.prog 12 #[.pointer (some ⟨g, 0, none⟩)] w fun r w' => r = .returned (I (a.free : Nat)) ∧ w' = w := by
  obtain ⟨c, hm, hi⟩ := h
  obtain ⟨_, _, _, _, a4, _⟩ := hm.cellsA
  clear hm hi
  go_enter Try.func12, Try.ntmps12
  go_wp2
  go_ret
  exact ⟨rfl, rfl⟩
set_option maxHeartbeats 800000 in
set_option maxRecDepth 100000 in
theorem len_any (h : IsAr w g o a) (l : Int) : Calls Try.prog 30 #[.pointer (some ⟨g, 0, none⟩), I l] w fun r w' => r = .returned (I (a.len l)) ∧ w' = w := by
  obtain ⟨c, hm, hi⟩ := h
  have H1 := show Hid _ from hasList_any hm l
  unfold As.len
  by_cases hl : 0 ≤ l ∧ l < a.nl
  · rw [decide_eq_true hl] at H1
    rw [if_pos hl]
    obtain ⟨i, rfl⟩ := Int.eq_ofNat_of_zero_le hl.1
    have hi' : i < a.nl := by omega
    obtain ⟨_, a1, _⟩ := hm.cellsA
    rw [hm.lo (by omega)] at a1
    obtain ⟨_, _, l2, _⟩ := hm.cellsL hi'
    rw [hi.ct i hi'] at l2
    have hi2 : (i : Int) < (a.nl : Int) := by omega
    rw [Int.toNat_natCast]
    clear hm hi hl
    go_enter Try.func30, Try.ntmps30
    go_wp2_with fail
    refine Calls.mono H1.out ?_
    rintro e w1 ⟨rfl, rfl⟩
    go_wp2
    go_ret
    exact ⟨rfl, rfl⟩
  · rw [decide_eq_false hl] at H1
    rw [if_neg hl]
    clear hm hi hl
    go_enter Try.func30, Try.ntmps30
    go_wp2_with fail
    refine Calls.mono H1.out ?_
    rintro e w1 ⟨rfl, rfl⟩
    go_wp2
    go_ret
    exact ⟨rfl, rfl⟩
set_option maxHeartbeats 800000 in
set_option maxRecDepth 100000 in
theorem peek_any (h : IsAr w g o a) (l e : Int) : Calls Try.prog 35 #[.pointer (some ⟨g, 0, none⟩), I l, I e] w fun r w' => r = .returned (.tuple #[I ((a.peek l e).getD 0 : Nat), .bool (a.peek l e).isSome]) ∧ w' = w := by
  obtain ⟨c, hm, hi⟩ := h
  have H1 := show Hid _ from hasList_any hm l
  have H2 := show Hid _ from isEnd_any e w
  by_cases hl : 0 ≤ l ∧ l < a.nl
  · rw [decide_eq_true hl] at H1
    by_cases he : e = 0 ∨ e = 1
    · rw [decide_eq_true he] at H2
      have hp : a.peek l e = (dir e.toNat (a.L l.toNat)).head? := by unfold As.peek; rw [if_pos ⟨hl, he⟩]
      rw [hp]
      obtain ⟨i, rfl⟩ := Int.eq_ofNat_of_zero_le hl.1
      have hi' : i < a.nl := by omega
      obtain ⟨_, a1, _⟩ := hm.cellsA
      rw [hm.lo (by omega)] at a1
      obtain ⟨l0, l1, _⟩ := hm.cellsL hi'
      have k0 := hi.la i hi' 0 (by omega)
      have k1 := hi.la i hi' 1 (by omega)
      rw [k0] at l0
      rw [k1] at l1
      have hi2 : (i : Int) < (a.nl : Int) := by omega
      rw [Int.toNat_natCast]
      clear hm hi hl hp k0 k1
      rcases he with rfl | rfl
      · show Calls Try.prog _ _ w fun r w' => r = .returned (.tuple #[I ((dir 0 (a.L i)).head?.getD 0 : Nat), .bool (dir 0 (a.L i)).head?.isSome]) ∧ w' = w
        have H3 := show Hid _ from found_any (dir 0 (a.L i)).head? w
        unfold hd at l0 l1
        go_enter Try.func35, Try.ntmps35
        go_wp2_with fail
        refine Calls.mono H1.out ?_
        rintro e w1 ⟨rfl, rfl⟩
        go_wp2_with fail
        refine Calls.mono H2.out ?_
        rintro e w1 ⟨rfl, rfl⟩
        go_wp2_with fail
        refine Calls.mono H3.out ?_
        rintro e w1 ⟨rfl, rfl⟩
        go_wp2
        go_ret2
        exact ⟨rfl, rfl⟩
      · show Calls Try.prog _ _ w fun r w' => r = .returned (.tuple #[I ((dir 1 (a.L i)).head?.getD 0 : Nat), .bool (dir 1 (a.L i)).head?.isSome]) ∧ w' = w
        have H3 := show Hid _ from found_any (dir 1 (a.L i)).head? w
        unfold hd at l0 l1
        go_enter Try.func35, Try.ntmps35
        go_wp2_with fail
        refine Calls.mono H1.out ?_
        rintro e w1 ⟨rfl, rfl⟩
        go_wp2_with fail
        refine Calls.mono H2.out ?_
        rintro e w1 ⟨rfl, rfl⟩
        go_wp2_with fail
        refine Calls.mono H3.out ?_
        rintro e w1 ⟨rfl, rfl⟩
        go_wp2
        go_ret2
        exact ⟨rfl, rfl⟩
    · rw [decide_eq_false he] at H2
      have hp : a.peek l e = none := by unfold As.peek; rw [if_neg (fun h => he h.2)]
      rw [hp]
      clear hm hi hl he hp
      go_enter Try.func35, Try.ntmps35
      go_wp2_with fail
      refine Calls.mono H1.out ?_
      rintro e w1 ⟨rfl, rfl⟩
      go_wp2_with fail
      refine Calls.mono H2.out ?_
      rintro e w1 ⟨rfl, rfl⟩
      go_wp2
      go_ret2
      exact ⟨rfl, rfl⟩
  · rw [decide_eq_false hl] at H1
    have hp : a.peek l e = none := by unfold As.peek; rw [if_neg (fun h => hl h.1)]
    rw [hp]
    clear hm hi hl hp H2
    go_enter Try.func35, Try.ntmps35
    go_wp2_with fail
    refine Calls.mono H1.out ?_
    rintro e w1 ⟨rfl, rfl⟩
    go_wp2
    go_ret2
    exact ⟨rfl, rfl⟩
set_option maxHeartbeats 800000 in
set_option maxRecDepth 100000 in
theorem get_any (h : IsAr w g o a) (n : Int) : Calls Try.prog 24 #[.pointer (some ⟨g, 0, none⟩), I n] w fun r w' => r = .returned (.tuple #[I (a.get n).1, I (a.get n).2]) ∧ w' = w := by
  have H1 := show Hid _ from h.refuse n
  obtain ⟨c, hm, hi⟩ := h
  unfold As.get
  rcases a.bad_cases n with hb | ⟨hb, hb2⟩
  · rw [if_pos hb]
    rw [hb] at H1
    obtain ⟨x, i, rfl, hx, hw⟩ := As.bad_zero hb
    obtain ⟨hi', hmm⟩ := As.wh_some hw
    obtain ⟨hxu, _, hv⟩ := hi.lt i hi' x hmm
    obtain ⟨b, hpb⟩ := hm.page hxu
    obtain ⟨_, _, _, s3, _⟩ := hm.cellsS hx hpb
    rw [hv] at s3
    have HA := show Hid _ from at_any hm hx hpb
    rw [Int.toNat_natCast]
    clear hm hi hb hw hmm hv
    go_enter Try.func24, Try.ntmps24
    go_wp2_with fail
    refine Calls.mono H1.out ?_
    rintro e w1 ⟨rfl, rfl⟩
    go_wp2_with fail
    refine Calls.mono HA.out ?_
    rintro e w1 ⟨rfl, rfl⟩
    go_wp2
    go_ret2
    exact ⟨rfl, rfl⟩
  · rw [if_neg hb]
    clear hm hi hb
    generalize a.bad n = z at *
    go_enter Try.func24, Try.ntmps24
    go_wp2_with fail
    refine Calls.mono H1.out ?_
    rintro e w1 ⟨rfl, rfl⟩
    go_wp2
    go_ret2
    exact ⟨rfl, rfl⟩
set_option maxHeartbeats 800000 in
set_option maxRecDepth 100000 in
theorem list_any (h : IsAr w g o a) (n : Int) : Calls Try.prog 45 #[.pointer (some ⟨g, 0, none⟩), I n] w fun r w' => r = .returned (.tuple #[I ((a.list n).getD 0 : Nat), .bool (a.list n).isSome]) ∧ w' = w := by
  have H1 := show Hid _ from h.linked n
  obtain ⟨c, hm, hi⟩ := h
  by_cases hl : 0 ≤ n ∧ (a.wh n.toNat).isSome = true
  · rw [decide_eq_true hl] at H1
    obtain ⟨x, rfl⟩ := Int.eq_ofNat_of_zero_le hl.1
    rw [Int.toNat_natCast] at hl
    obtain ⟨i, hw⟩ := Option.isSome_iff_exists.1 hl.2
    obtain ⟨hi', hmm⟩ := As.wh_some hw
    obtain ⟨hxu, hli, _⟩ := hi.lt i hi' x hmm
    have hx : x < a.size := Nat.lt_of_lt_of_le hxu hm.us
    obtain ⟨b, hpb⟩ := hm.page hxu
    obtain ⟨_, _, s2, _, _⟩ := hm.cellsS hx hpb
    rw [hli] at s2
    have HA := show Hid _ from at_any hm hx hpb
    have hlst : a.list (x : Int) = some i := by unfold As.list; rw [if_pos hl.1, Int.toNat_natCast, hw]
    rw [hlst]
    clear hm hi hl hw hmm hli hlst
    go_enter Try.func45, Try.ntmps45
    go_wp2_with fail
    refine Calls.mono H1.out ?_
    rintro e w1 ⟨rfl, rfl⟩
    go_wp2_with fail
    refine Calls.mono HA.out ?_
    rintro e w1 ⟨rfl, rfl⟩
    go_wp2
    go_ret2
    exact ⟨rfl, rfl⟩
  · rw [decide_eq_false hl] at H1
    have hlst : a.list n = none := by
      unfold As.list
      split
      · rename_i h0
        cases hw : a.wh n.toNat with
        | none => rfl
        | some i => exact absurd ⟨h0, by rw [hw]; rfl⟩ hl
      · rfl
    rw [hlst]
    clear hm hi hl hlst
    go_enter Try.func45, Try.ntmps45
    go_wp2_with fail
    refine Calls.mono H1.out ?_
    rintro e w1 ⟨rfl, rfl⟩
    go_wp2
    go_ret2
    exact ⟨rfl, rfl⟩
set_option maxHeartbeats 800000 in
set_option maxRecDepth 100000 in
theorem next_any (h : IsAr w g o a) (n e : Int) : Calls Try.prog 46 #[.pointer (some ⟨g, 0, none⟩), I n, I e] w fun r w' => r = .returned (.tuple #[I ((a.next n e).getD 0 : Nat), .bool (a.next n e).isSome]) ∧ w' = w := by
  have H1 := show Hid _ from h.linked n
  have H2 := show Hid _ from isEnd_any e w
  obtain ⟨c, hm, hi⟩ := h
  by_cases hl : 0 ≤ n ∧ (a.wh n.toNat).isSome = true
  · rw [decide_eq_true hl] at H1
    by_cases he : e = 0 ∨ e = 1
    · rw [decide_eq_true he] at H2
      obtain ⟨x, rfl⟩ := Int.eq_ofNat_of_zero_le hl.1
      rw [Int.toNat_natCast] at hl
      obtain ⟨i, hw⟩ := Option.isSome_iff_exists.1 hl.2
      obtain ⟨hi', hmm⟩ := As.wh_some hw
      obtain ⟨hxu, hli, _⟩ := hi.lt i hi' x hmm
      have hx : x < a.size := Nat.lt_of_lt_of_le hxu hm.us
      obtain ⟨b, hpb⟩ := hm.page hxu
      obtain ⟨s0, s1, _, _, _⟩ := hm.cellsS hx hpb
      have HA := show Hid _ from at_any hm hx hpb
      obtain ⟨p, q, hpq⟩ := List.append_of_mem hmm
      obtain ⟨b0, b1⟩ := hi.sp i hi' p x q hpq
      have hnd := hi.nd i hi'
      rw [hpq, List.nodup_append] at hnd
      obtain ⟨n0, n1⟩ := nbr_mid (p := p) (q := q) (x := x) (fun hm => hnd.2.2 x hm x (by simp) rfl)
      rw [← hpq] at n0 n1
      simp only [Nat.sub_zero] at b1
      rw [b0] at s0
      rw [b1] at s1
      unfold lst at s0
      unfold hd at s1
      rw [← n0] at s0
      rw [← n1] at s1
      rcases he with rfl | rfl
      · have hn : a.next (x : Int) 0 = nbr (a.L i) x 0 := by unfold As.next; rw [if_pos ⟨hl.1, Or.inl rfl⟩, Int.toNat_natCast, hw]; rfl
        rw [hn]
        have H3 := show Hid _ from found_any (nbr (a.L i) x 0) w
        clear hm hi hl hw hmm hli hpq b0 b1 hnd n0 n1 hn
        go_enter Try.func46, Try.ntmps46
        go_wp2_with fail
        refine Calls.mono H1.out ?_
        rintro e w1 ⟨rfl, rfl⟩
        go_wp2_with fail
        refine Calls.mono H2.out ?_
        rintro e w1 ⟨rfl, rfl⟩
        go_wp2_with fail
        refine Calls.mono HA.out ?_
        rintro e w1 ⟨rfl, rfl⟩
        go_wp2_with fail
        refine Calls.mono H3.out ?_
        rintro e w1 ⟨rfl, rfl⟩
        go_wp2
        go_ret2
        exact ⟨rfl, rfl⟩
      · have hn : a.next (x : Int) 1 = nbr (a.L i) x 1 := by unfold As.next; rw [if_pos ⟨hl.1, Or.inr rfl⟩, Int.toNat_natCast, hw]; rfl
        rw [hn]
        have H3 := show Hid _ from found_any (nbr (a.L i) x 1) w
        clear hm hi hl hw hmm hli hpq b0 b1 hnd n0 n1 hn
        go_enter Try.func46, Try.ntmps46
        go_wp2_with fail
        refine Calls.mono H1.out ?_
        rintro e w1 ⟨rfl, rfl⟩
        go_wp2_with fail
        refine Calls.mono H2.out ?_
        rintro e w1 ⟨rfl, rfl⟩
        go_wp2_with fail
        refine Calls.mono HA.out ?_
        rintro e w1 ⟨rfl, rfl⟩
        go_wp2_with fail
        refine Calls.mono H3.out ?_
        rintro e w1 ⟨rfl, rfl⟩
        go_wp2
        go_ret2
        exact ⟨rfl, rfl⟩
    · rw [decide_eq_false he] at H2
      have hn : a.next n e = none := by unfold As.next; rw [if_neg (fun h => he h.2)]
      rw [hn]
      clear hm hi hl he hn
      go_enter Try.func46, Try.ntmps46
      go_wp2_with fail
      refine Calls.mono H1.out ?_
      rintro e w1 ⟨rfl, rfl⟩
      go_wp2_with fail
      refine Calls.mono H2.out ?_
      rintro e w1 ⟨rfl, rfl⟩
      go_wp2
      go_ret2
      exact ⟨rfl, rfl⟩
  · rw [decide_eq_false hl] at H1
    have hn : a.next n e = none := by
      unfold As.next
      split
      · rename_i h0
        cases hw : a.wh n.toNat with
        | none => rfl
        | some i => exact absurd ⟨h0.1, by rw [hw]; rfl⟩ hl
      · rfl
    rw [hn]
    clear hm hi hl hn H2
    go_enter Try.func46, Try.ntmps46
    go_wp2_with fail
    refine Calls.mono H1.out ?_
    rintro e w1 ⟨rfl, rfl⟩
    go_wp2
    go_ret2
    exact ⟨rfl, rfl⟩
end
end Go.Proofs.Ytoeioppmlnognaa.Ar
