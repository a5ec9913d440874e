import Derived.Test.YtjcbpejplnaakaaGreatMdAcc
namespace Go.Proofs.YtjcbpejplnaakaaGreat.Md
open Go.RowKit Go.Maps Go.Proofs.YtjcbpejplnaakaaGreat.Nm

/-- the least size of a kind -/
def lst (k : Int) : Int := if k = 3 then 2 else if k = 4 then 10 else 1
set_option maxRecDepth 100000 in
theorem isKind_any (w : World) (k : Int) : Calls Tryz.prog 28 #[I k] w fun e w' => e = .returned (.bool (decide (0 ≤ k ∧ k < 6))) ∧ w' = w := by
  by_cases h0 : 0 ≤ k
  · by_cases h1 : k < 6
    · rw [decide_eq_true (p := 0 ≤ k ∧ k < 6) ⟨h0, h1⟩]
      go_enter Tryz.func28, Tryz.ntmps28
      go_wp2
      go_ret
      exact ⟨by simp, rfl⟩
    · rw [decide_eq_false (p := 0 ≤ k ∧ k < 6) (fun h => h1 h.2)]
      go_enter Tryz.func28, Tryz.ntmps28
      go_wp2
      go_ret
      exact ⟨by simp, rfl⟩
  · rw [decide_eq_false (p := 0 ≤ k ∧ k < 6) (fun h => h0 h.1)]
    go_enter Tryz.func28, Tryz.ntmps28
    go_wp2
    go_ret
    exact ⟨by simp, rfl⟩
set_option maxRecDepth 100000 in
theorem leastSize_any (w : World) (k : Int) : Calls Tryz.prog 29 #[I k] w fun e w' => e = .returned (I (lst k)) ∧ w' = w := by
  by_cases h0 : k = 3
  · subst h0
    go_enter Tryz.func29, Tryz.ntmps29
    go_wp2
    go_ret
    exact ⟨rfl, rfl⟩
  · by_cases h1 : k = 4
    · subst h1
      go_enter Tryz.func29, Tryz.ntmps29
      go_wp2
      go_ret
      exact ⟨rfl, rfl⟩
    · have e : lst k = 1 := by unfold lst; rw [if_neg h0, if_neg h1]
      rw [e]
      go_enter Tryz.func29, Tryz.ntmps29
      go_wp2
      go_ret
      exact ⟨rfl, rfl⟩
set_option maxHeartbeats 800000 in
set_option maxRecDepth 100000 in
theorem isSize_any (w : World) (k n : Int) : Calls Tryz.prog 13 #[I k, I n] w fun e w' => e = .returned (.bool (decide ((0 ≤ k ∧ k < 6) ∧ lst k ≤ n ∧ n ≤ 1048576))) ∧ w' = w := by
  have H : Hid (∀ u : World, Calls Tryz.prog 29 #[I k] u fun e w' => e = .returned (I (lst k)) ∧ w' = u) := fun u => leastSize_any u k
  generalize lst k = b at *
  by_cases h0 : 0 ≤ k ∧ k < 6
  · have HK : Hid (∀ u : World, Calls Tryz.prog 28 #[I k] u fun e w' => e = .returned (.bool true) ∧ w' = u) := fun u => by
      have := isKind_any u k
      rw [decide_eq_true h0] at this
      exact this
    by_cases h1 : b ≤ n
    · by_cases h2 : n ≤ 1048576
      · rw [decide_eq_true (p := (0 ≤ k ∧ k < 6) ∧ b ≤ n ∧ n ≤ 1048576) ⟨h0, h1, h2⟩]
        go_enter Tryz.func13, Tryz.ntmps13
        go_wp2_with (first | (go_at_call 28; refine (HK.out _).mono ?_; rintro _ w ⟨rfl, rfl⟩) | (go_at_call 29; refine (H.out _).mono ?_; rintro _ w ⟨rfl, rfl⟩))
        go_ret
        exact ⟨by simp, rfl⟩
      · rw [decide_eq_false (p := (0 ≤ k ∧ k < 6) ∧ b ≤ n ∧ n ≤ 1048576) (fun h => h2 h.2.2)]
        go_enter Tryz.func13, Tryz.ntmps13
        go_wp2_with (first | (go_at_call 28; refine (HK.out _).mono ?_; rintro _ w ⟨rfl, rfl⟩) | (go_at_call 29; refine (H.out _).mono ?_; rintro _ w ⟨rfl, rfl⟩))
        go_ret
        exact ⟨by simp; omega, rfl⟩
    · rw [decide_eq_false (p := (0 ≤ k ∧ k < 6) ∧ b ≤ n ∧ n ≤ 1048576) (fun h => h1 h.2.1)]
      go_enter Tryz.func13, Tryz.ntmps13
      go_wp2_with (first | (go_at_call 28; refine (HK.out _).mono ?_; rintro _ w ⟨rfl, rfl⟩) | (go_at_call 29; refine (H.out _).mono ?_; rintro _ w ⟨rfl, rfl⟩))
      go_ret
      exact ⟨by simp, rfl⟩
  · have HK : Hid (∀ u : World, Calls Tryz.prog 28 #[I k] u fun e w' => e = .returned (.bool false) ∧ w' = u) := fun u => by
      have := isKind_any u k
      rw [decide_eq_false h0] at this
      exact this
    rw [decide_eq_false (p := (0 ≤ k ∧ k < 6) ∧ b ≤ n ∧ n ≤ 1048576) (fun h => h0 h.1)]
    go_enter Tryz.func13, Tryz.ntmps13
    go_wp2_with (first | (go_at_call 28; refine (HK.out _).mono ?_; rintro _ w ⟨rfl, rfl⟩) | (go_at_call 29; refine (H.out _).mono ?_; rintro _ w ⟨rfl, rfl⟩))
    go_ret
    exact ⟨by simp, rfl⟩
set_option maxHeartbeats 800000 in
set_option maxRecDepth 100000 in
theorem newL_any (w : World) (n : Nat) (h1 : 1 ≤ n) (h2 : n ≤ 1048576) : Calls Tryz.prog 5 #[I 1, I n] w fun e w' => ∃ (g : Nat) (F : List Nat), e = .returned (.tuple #[.iface 46 (.pointer (some ⟨g, 0, none⟩)), I 0]) ∧ Below w.heap.size w w' ∧ Ca w' g n F [] ∧ ∀ x ∈ F, w.heap.size ≤ x := by
  have H : Hid (∀ u : World, Calls Tryz.prog 13 #[I 1, I n] u fun e w' => e = .returned (.bool true) ∧ w' = u) := fun u => by
    have := isSize_any u 1 n
    rw [decide_eq_true (show ((0 : Int) ≤ 1 ∧ (1 : Int) < 6) ∧ lst 1 ≤ n ∧ (n : Int) ≤ 1048576 from ⟨by decide, by show (1 : Int) ≤ n; omega, by omega⟩)] at this
    exact this
  go_enter Tryz.func5, Tryz.ntmps5
  go_wp2_with (go_at_call 13; refine (H.out _).mono ?_; rintro _ w ⟨rfl, rfl⟩)
  refine (newLru_any _ _).mono ?_
  rintro _ w1 ⟨g, F, rfl, q1, q2, q3⟩
  have H1 : Hid (Below w.heap.size w w1 ∧ Ca w1 g n F [] ∧ ∀ x ∈ F, w.heap.size ≤ x) := ⟨q1, q2, q3⟩
  clear q1 q2 q3
  go_wp2
  go_ret2
  exact ⟨g, F, rfl, H1.out⟩
/-- keys that can be read -/
def KRd (w : World) (v : Value) (l : List Nat) : Prop := ∃ b c, v = .slice b l.length c ∧ ∀ (j : Nat) (x : Nat), l[j]? = some x → ∃ g, b = some ⟨g, 0, none⟩ ∧ g < w.heap.size ∧ w.cell? ⟨g, j, none⟩ = some (U x)
theorem KRd.below {w w' : World} {v : Value} {l : List Nat} (h : KRd w v l) (hb : Below w.heap.size w w') : KRd w' v l := by
  obtain ⟨b, c, rfl, h2⟩ := h
  refine ⟨b, c, rfl, fun j x hx => ?_⟩
  obtain ⟨g, h3, h4, h5⟩ := h2 j x hx
  exact ⟨g, h3, Nat.lt_of_lt_of_le h4 hb.size, (cell_blk (hb.block g h4) j).trans h5⟩
theorem KRd.own {w : World} {base : Nat} {v : Value} {l : List Nat} (h : w.ownsRow base 33 1 v l.length (l.map U)) : KRd w v l := by
  obtain ⟨b, c, rfl⟩ := own_form h
  refine ⟨b, c, rfl, fun j x hx => ?_⟩
  have hj := (List.getElem?_eq_some_iff.1 hx).1
  obtain ⟨g, cap, cur, e, _, hb, _, _, _, ht⟩ := own_block h (by omega)
  cases e
  refine ⟨g, rfl, blk_lt hb, ?_⟩
  have : cur[j]? = some (U x) := by
    have := congrArg (fun z : List Value => z[j]?) ht
    simp only [List.getElem?_take_of_lt (show j < l.length * 1 by omega), List.getElem?_map, hx] at this
    exact this
  simp [World.cell?, hb, this]
theorem KRd.lit (w : World) (l : List Nat) (T : TypeId) : KRd (w.alloc (.cells (l.map U).toArray T)) (.slice (some ⟨w.heap.size, 0, none⟩) l.length l.length) l := by
  refine ⟨_, _, rfl, fun j x hx => ⟨w.heap.size, rfl, by simp, ?_⟩⟩
  unfold World.cell?
  rw [heap_alloc_new]
  simp [hx]
set_option maxHeartbeats 800000 in
set_option maxRecDepth 100000 in
theorem sameK_eq {w : World} {u v : Value} {l : List Nat} (hu : KRd w u l) (hv : KRd w v l) (hl : l.length ≤ 1000000000) : Calls Tryz.prog 8 #[u, v] w fun e w' => e = .returned (.bool true) ∧ Below w.heap.size w w' := by
  have H : Hid (KRd w u l ∧ KRd w v l ∧ l.length ≤ 1000000000) := ⟨hu, hv, hl⟩
  obtain ⟨b, c, rfl, _⟩ := hu
  obtain ⟨b2, c2, rfl, _⟩ := hv
  clear hl
  have hll : ((l.length : Int) != (l.length : Int)) = false := by simp
  go_enter Tryz.func8, Tryz.ntmps8
  go_wp2_with fail
  go_loopg [5] l.length (fun gq x wr => ∃ j : Nat, j ≤ l.length ∧ gq = l.length - j ∧ x = I j ∧ Below w.heap.size w wr)
  case atStart => exact ⟨0, Nat.zero_le _, rfl, rfl, Below.refl _ _⟩
  case round =>
    obtain ⟨j, hj, hgk, rfl, hb⟩ := hrel
    by_cases hlt : j < l.length
    · have hlt' : (j : Int) < (l.length : Int) := by omega
      have hlm : (l.length : Int) ≤ 1000000000 := by have := H.out.2.2; omega
      have hx : l[j]? = some l[j] := List.getElem?_eq_getElem hlt
      obtain ⟨b', c', e1, h1⟩ := H.out.1.below hb
      obtain ⟨b2', c2', e2, h2⟩ := H.out.2.1.below hb
      cases e1
      cases e2
      obtain ⟨g1, rfl, _, i1⟩ := h1 j _ hx
      obtain ⟨g2, rfl, _, i2⟩ := h2 j _ hx
      have hne : (((l[j] : Nat) : Int) != ((l[j] : Nat) : Int)) = false := by simp
      generalize l[j] = y at *
      have HB : Hid (Below w.heap.size w wr ∧ j < l.length ∧ gk = l.length - j) := ⟨hb, hlt, hgk⟩
      clear h1 h2 hb hlt hgk hx
      go_wp2_with fail
      go_quiet (fail)
      go_wp2_with fail
      go_roundg (l.length - (j + 1))
      case measure => have h1 := HB.out.2.1; have := HB.out.2.2; omega
      case rel => exact ⟨j + 1, HB.out.2.1, rfl, by go_num, HB.out.1.trans ((Go.Proofs.YtjcbpejplnaakaaGreat.Nm.below_drewN wr _).mono HB.out.1.size)⟩
    · obtain rfl : j = l.length := by omega
      have HB : Hid (Below w.heap.size w wr) := hb
      clear hb hlt hgk hj
      go_wp2
      go_ret
      exact ⟨rfl, HB.out⟩
theorem fr_below {w w1 w2 : World} {F : List Nat} (hb : Below w.heap.size w w1) (hF : ∀ x ∈ F, w.heap.size ≤ x) (hf : Fr F w1 w2) : Below w.heap.size w w2 :=
  hb.trans ⟨hf.os, hf.tape, hf.output, hf.size, fun k hk => hf.block k (Nat.lt_of_lt_of_le hk hb.size) fun e => by have := hF k e; omega⟩
theorem new_F {w w1 : World} {F F' : List Nat} (hb : Below w.heap.size w w1) (hF : ∀ x ∈ F, w.heap.size ≤ x) (h : ∀ x ∈ F', x ∈ F ∨ w1.heap.size ≤ x) : ∀ x ∈ F', w.heap.size ≤ x := fun x hx =>
  (h x hx).elim (hF x) (Nat.le_trans hb.size)
theorem nilC (w : World) (a : Addr) : (binOp .eql 24 (.iface 46 (.pointer (some a))) .nilIface).run Tryz.prog w = .ok (.bool false) w := by kernel_rfl
theorem mAcc (g : Nat) (w : World) : (method 247 46 (.pointer (some ⟨g, 0, none⟩)) "Access").run Tryz.prog w = .ok (72, .pointer (some ⟨g, 0, none⟩)) w := by kernel_rfl
theorem mKeys (g : Nat) (w : World) : (method 247 46 (.pointer (some ⟨g, 0, none⟩)) "Keys").run Tryz.prog w = .ok (61, .pointer (some ⟨g, 0, none⟩)) w := by kernel_rfl
set_option maxHeartbeats 800000 in
set_option maxRecDepth 100000 in
theorem head_any (w : World) : Calls Tryz.prog 10 #[] w fun e w' => e = .returned (.bool true) ∧ Below w.heap.size w w' := by
  have hnc := nilC
  have hma := mAcc
  have hmk := mKeys
  go_enter Tryz.func10, Tryz.ntmps10
  go_wp2_with fail
  refine (newL_any w 2 (by omega) (by omega)).mono ?_
  rintro _ w1 ⟨g, F, rfl, q1, q2, q3⟩
  have H1 : Hid (Below w.heap.size w w1 ∧ Ca w1 g 2 F [] ∧ ∀ x ∈ F, w.heap.size ≤ x) := ⟨q1, q2, q3⟩
  clear q1 q2 q3
  go_wp2_with fail
  refine (lru_any (k := 5) H1.out.2.1 (by omega) (by simp) (by omega) (by omega)).mono ?_
  rintro _ w2 ⟨v2, F2, rfl, q1, q2, q3, q4⟩
  have H2 : Hid (Below w.heap.size w w2 ∧ Ca w2 g 2 F2 [5] ∧ ∀ x ∈ F2, w.heap.size ≤ x) := ⟨fr_below H1.out.1 H1.out.2.2 q2, q1, new_F H1.out.1 H1.out.2.2 q3⟩
  clear q1 q2 q3 q4 H1
  go_wp2_with fail
  refine (lru_any (k := 6) H2.out.2.1 (by omega) (by simp) (by omega) (by omega)).mono ?_
  rintro _ w3 ⟨v3, F3, rfl, q1, q2, q3, q4⟩
  have H3 : Hid (Below w.heap.size w w3 ∧ Ca w3 g 2 F3 [6, 5] ∧ ∀ x ∈ F3, w.heap.size ≤ x) := ⟨fr_below H2.out.1 H2.out.2.2 q2, q1, new_F H2.out.1 H2.out.2.2 q3⟩
  clear q1 q2 q3 q4 H2
  go_wp2_with fail
  refine (lru_any (k := 5) H3.out.2.1 (by omega) (by simp) (by omega) (by omega)).mono ?_
  rintro _ w4 ⟨v4, F4, rfl, q1, q2, q3, q4⟩
  obtain ⟨_, rfl⟩ : lruOut 2 [6, 5] 5 = [] ∧ v4 = .slice none 0 0 := by
    rcases q4 with h | ⟨x, b, c, e, _⟩
    · exact h
    · cases e
  have H4 : Hid (Below w.heap.size w w4 ∧ Ca w4 g 2 F4 [5, 6] ∧ ∀ x ∈ F4, w.heap.size ≤ x) := ⟨fr_below H3.out.1 H3.out.2.2 q2, q1, new_F H3.out.1 H3.out.2.2 q3⟩
  clear q1 q2 q3 q4 H3
  go_wp2_with fail
  refine (lru_any (k := 7) H4.out.2.1 (by omega) (by simp) (by omega) (by omega)).mono ?_
  rintro _ w5 ⟨v5, F5, rfl, q1, q2, q3, q4⟩
  obtain ⟨b, c, rfl, hc, hb1, hb2, hb3⟩ : ∃ b c, v5 = .slice (some ⟨b, 0, none⟩) 1 c ∧ w5.cell? ⟨b, 0, none⟩ = some (U 6) ∧ w4.heap.size ≤ b ∧ b < w5.heap.size ∧ b ∉ F5 := by
    rcases q4 with ⟨e, _⟩ | ⟨x, b, c, e, h⟩
    · cases e
    · cases e
      exact ⟨b, c, h.1, h.2.1.cell, h.2.2⟩
  have H5 : Hid (Below w.heap.size w w5 ∧ Ca w5 g 2 F5 [7, 5] ∧ KRd w5 (.slice (some ⟨b, 0, none⟩) 1 c) [6]) := by
    refine ⟨fr_below H4.out.1 H4.out.2.2 q2, q1, some ⟨b, 0, none⟩, c, rfl, fun j x hx => ?_⟩
    cases j with
    | zero =>
      simp only [List.getElem?_cons_zero, Option.some.injEq] at hx
      subst hx
      exact ⟨b, rfl, hb2, hc⟩
    | succ j => simp at hx
  clear q1 q2 q3 q4 H4 hc hb1 hb2 hb3
  go_wp2_with fail
  have h6 : Below w5.heap.size w5 (w5.alloc (.cells #[U 6] 33)) := (Below.refl _ w5).alloc (Nat.le_refl _) _
  refine (sameK_eq (l := [6]) (H5.out.2.2.below h6) (KRd.lit w5 [6] 33) (by simp)).mono ?_
  rintro _ w7 ⟨rfl, h7⟩
  have H7 : Hid (Below w.heap.size w w7 ∧ Ca w7 g 2 F5 [7, 5]) := by
    have h8 : Below w5.heap.size w5 w7 := h6.trans (h7.mono h6.size)
    exact ⟨H5.out.1.trans (h8.mono H5.out.1.size), H5.out.2.1.below h8⟩
  clear h6 h7 H5
  go_wp2_with fail
  refine (H7.out.2.keys (by simp)).mono ?_
  rintro _ w8 ⟨v8, rfl, q1, q2⟩
  have H8 : Hid (Below w.heap.size w w8 ∧ KRd w8 v8 [7, 5]) := ⟨H7.out.1.trans (q2.mono H7.out.1.size), KRd.own q1⟩
  clear q1 q2 H7
  go_wp2_with fail
  have h9 : Below w8.heap.size w8 (w8.alloc (.cells #[U 7, U 5] 33)) := (Below.refl _ w8).alloc (Nat.le_refl _) _
  refine (sameK_eq (l := [7, 5]) (H8.out.2.below h9) (KRd.lit w8 [7, 5] 33) (by simp)).mono ?_
  rintro _ wa ⟨rfl, ha⟩
  have HA : Hid (Below w.heap.size w wa) := by
    have hb : Below w8.heap.size w8 wa := h9.trans (ha.mono h9.size)
    exact H8.out.1.trans (hb.mono H8.out.1.size)
  clear h9 ha H8
  go_wp2
  go_ret
  exact ⟨rfl, HA.out⟩
end Go.Proofs.YtjcbpejplnaakaaGreat.Md
