import Derived.Test.YtclojnklkcfonaaRxNew
namespace Go.Proofs.Ytclojnklkcfonaa.Rx
open Go.RowKit Go.Proofs.Ytclojnklkcfonaa.Ix Go.Proofs.Ytclojnklkcfonaa.Ii

/-- both, in memory made since w -/
def Jn (n0 : Nat) (w W : World) (g : Nat) (q : Ro) (a : Ix Int) : Prop := ∃ o, Mine n0 w W g o a ∧ Rm W q a.n a.most (a.b + 1) a.count a.t ∧ ∀ k ∈ q.foot, n0 ≤ k ∧ k ∉ o.foot g
theorem Jn.be {n0 : Nat} {w W : World} {g : Nat} {q : Ro} {a : Ix Int} (h : Jn n0 w W g q a) : Below n0 w W := by
  obtain ⟨o, h1, _⟩ := h
  exact h1.2.1
theorem Jn.below {n0 : Nat} {w W W' : World} {g : Nat} {q : Ro} {a : Ix Int} (h : Jn n0 w W g q a) (hb : Below W.heap.size W W') : Jn n0 w W' g q a := by
  obtain ⟨o, h1, h2, h3⟩ := h
  exact ⟨o, h1.below hb, h2.below hb, h3⟩
set_option maxHeartbeats 1600000 in
set_option maxRecDepth 100000 in
theorem both_no (m : Int) (hm : m < 0 ∨ 4096 < m) (w : World) : Calls Try.prog 9 #[I m] w fun e w' => e = .returned (.tuple #[.pointer none, .pointer none, .bool true]) ∧ w' = w := by
  by_cases h0 : m ≤ 4194304 ∧ 4096 < m
  · obtain ⟨h1, h2⟩ := h0
    go_enter Try.func9, Try.ntmps9
    go_wp2
    go_ret3
    exact ⟨rfl, rfl⟩
  · have h1 : m < 0 ∨ 4194304 < m := by omega
    have HN := show Hid _ from new_no m h1 w
    have HR := show Hid _ from rnew_no m h1 w
    have hd : (decide (4096 < m) && decide (m ≤ 4194304)) = false := by
      rcases h1 with h | h
      · rw [decide_eq_false (show ¬ 4096 < m by omega)]; rfl
      · rw [decide_eq_false (show ¬ m ≤ 4194304 by omega), Bool.and_false]
    by_cases h3 : 4096 < m
    · have h4 : 4194304 < m := by omega
      clear h1 hm h0 hd
      go_enter Try.func9, Try.ntmps9
      go_wp2_with fail
      refine Calls.mono HN.out ?_
      rintro e w1 ⟨rfl, rfl⟩
      go_wp2_with fail
      refine Calls.mono HR.out ?_
      rintro e w1 ⟨rfl, rfl⟩
      go_wp2
      go_ret3
      exact ⟨rfl, rfl⟩
    · clear h1 hm h0 hd
      go_enter Try.func9, Try.ntmps9
      go_wp2_with fail
      refine Calls.mono HN.out ?_
      rintro e w1 ⟨rfl, rfl⟩
      go_wp2_with fail
      refine Calls.mono HR.out ?_
      rintro e w1 ⟨rfl, rfl⟩
      go_wp2
      go_ret3
      exact ⟨rfl, rfl⟩
set_option maxHeartbeats 1600000 in
set_option maxRecDepth 100000 in
theorem both_ok (m : Nat) (hm : m ≤ 4096) (w : World) : Calls Try.prog 9 #[I m] w fun e w' => ∃ g q, e = .returned (.tuple #[.pointer (some ⟨g, 0, none⟩), .pointer (some ⟨q.r, 0, none⟩), .bool true]) ∧ Jn w.heap.size w w' g q (Ix.new (dbl m) m) := by
  have h1 : ¬ 4096 < (m : Int) := by omega
  have HN := show Hid _ from new_ok m (by omega) w
  have HR := show Hid _ from fun u => rnew_ok m (by omega) u
  go_enter Try.func9, Try.ntmps9
  go_wp2_with fail
  refine Calls.mono HN.out ?_
  rintro e w1 ⟨g, rfl, hB⟩
  have HB : Hid (Born w (Ix.new (dbl m) m) g w1) := hB
  clear hB
  go_wp2_with fail
  refine Calls.mono (HR.out w1) ?_
  rintro e w2 ⟨q, rfl, hR, hb, hf⟩
  have HJ : Hid (Jn w.heap.size w w2 g q (Ix.new (dbl m) m)) := by
    obtain ⟨o, hM⟩ := Born.mine HB.out
    exact ⟨o, hM.below hb, hR, fun k hk => ⟨Nat.le_trans hM.2.1.size (hf k hk), fun h => by have := hM.1.1.foot_lt k h; have := hf k hk; omega⟩⟩
  clear hR hb hf
  go_wp2
  go_ret3
  exact ⟨g, q, rfl, HJ.out⟩
set_option maxHeartbeats 3200000 in
set_option maxRecDepth 100000 in
theorem homes_walk (m : Int) (k : Nat) (w : World) : Calls Try.prog 3 #[I m, U k] w fun e w' => e = .returned (.bool true) ∧ Below w.heap.size w w' := by
  have HK := show Hid _ from known_any w
  go_enter Try.func3, Try.ntmps3
  go_wp2_with fail
  refine Calls.mono HK.out ?_
  rintro e w1 ⟨rfl, hb⟩
  have HB := show Hid _ from hb
  clear hb HK
  by_cases hm : m < 0 ∨ 4096 < m
  · have HN := show Hid _ from both_no m hm w1
    clear hm
    go_wp2_with fail
    refine Calls.mono HN.out ?_
    rintro e w2 ⟨rfl, rfl⟩
    go_wp2
    go_ret
    exact ⟨rfl, HB.out⟩
  · obtain ⟨m, rfl⟩ := Int.eq_ofNat_of_zero_le (show 0 ≤ m by omega)
    have HN := show Hid _ from both_ok m (by omega) w1
    have hd22 := dbl_le (m := m) (by omega)
    clear hm
    go_wp2_with fail
    refine Calls.mono HN.out ?_
    rintro e w2 ⟨g, q, rfl, hJ⟩
    obtain ⟨o, hM, hR, _⟩ := hJ
    obtain ⟨_, _, a2, _⟩ := hR.cellsR
    have e1 : (Ix.new (α := Int) (dbl m) m).n = 2 * 2 ^ dbl m := rfl
    have hMx : Mem w2 g o (dbl m) m 0 (fun _ => none) := hM.1.1
    have hRx : Rm w2 q (2 * 2 ^ dbl m) m (dbl m + 1) 0 (fun _ => none) := hR
    rw [e1] at a2
    have HB2 := show Hid _ from hM.2.1
    have HM := show Hid _ from hMx
    have HR := show Hid _ from hRx
    clear hM hR hMx hRx e1
    generalize dbl m = b at *
    have HS : Hid (∀ j, Calls Try.prog 10 #[.pointer (some ⟨g, 0, none⟩)] (w2.drewN j) fun e w' => e = .returned (I (2 * 2 ^ b : Nat)) ∧ w' = w2.drewN j) := fun j => slots_any (HM.out.drewN j) hd22 rfl
    have HH : Hid (∀ j, Calls Try.prog 11 #[.pointer (some ⟨g, 0, none⟩), U k] (w2.drewN j) fun e w' => e = .returned (I (hm b k : Nat)) ∧ w' = w2.drewN j) := fun j => home_any (HM.out.drewN j) hd22 k
    have HRH : Hid (∀ j, Calls Try.prog 12 #[.pointer (some ⟨q.r, 0, none⟩), U k] (w2.drewN j) fun e w' => e = .returned (I (hm b k : Nat)) ∧ w' = w2.drewN j) := fun j => rhome_any (HR.out.below (bel_drewN w2 j)) hd22 k
    have HL : Hid (∀ j, Calls Try.prog 13 #[.pointer (some ⟨g, 0, none⟩)] (w2.drewN j) fun e w' => e = .returned (I 0) ∧ w' = w2.drewN j) := fun j => len_any (HM.out.drewN j)
    generalize hm b k = hk at *
    generalize 2 * 2 ^ b = N at *
    go_wp2_with fail
    go_quiet (first
      | (go_at_call 10; exact Calls.quiet_of_same (HS.out _))
      | (go_at_call 11; exact Calls.quiet_of_same (HH.out _))
      | (go_at_call 12; exact Calls.quiet_of_same (HRH.out _))
      | (go_at_call 13; exact Calls.quiet_of_same (HL.out _)))
    go_wp2
    go_ret
    exact ⟨rfl, HB.out.trans (HB2.out.mono HB.out.size |>.trans ((bel_drewN w2 nq).mono (Nat.le_trans HB.out.size HB2.out.size)))⟩
end Go.Proofs.Ytclojnklkcfonaa.Rx
