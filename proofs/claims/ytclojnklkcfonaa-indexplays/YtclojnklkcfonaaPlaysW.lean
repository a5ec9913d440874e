import Derived.Test.YtclojnklkcfonaaRxTold2
import Derived.Test.YtclojnklkcfonaaRxPutT
namespace Go.Proofs.Ytclojnklkcfonaa.Rx
open Go.RowKit Go.Proofs.Ytclojnklkcfonaa.Ix Go.Proofs.Ytclojnklkcfonaa.Ii

theorem told_any {n0 : Nat} {w W : World} {g : Nat} {q : Ro} {a : Ix Int} (h : Jn n0 w W g q a) (s : St) : Calls Try.prog 15 #[.pointer (some ⟨g, 0, none⟩), .pointer (some ⟨q.r, 0, none⟩), .agg #[I s.k, I s.n, U s.key]] W fun r W' => r = .returned (.bool true) ∧ Jn n0 w W' g q (act a s) := by
  obtain ⟨k, n, key, lt⟩ := s
  unfold act
  dsimp only
  by_cases h1 : k = 1
  · subst h1
    rw [if_pos rfl]
    exact told_put h n lt
  · rw [if_neg h1]
    by_cases h3 : k = 3
    · subst h3
      rw [if_pos rfl]
      exact told_drop h n key
    · rw [if_neg h3]
      by_cases h2 : k = 2
      · subst h2
        exact told_get h n key
      · by_cases h4 : k = 4
        · subst h4
          exact told_slot h n key
        · by_cases h5 : k = 5
          · subst h5
            exact told_all h n key
          · exact told_rest h n key h1 h2 h3 h4 h5
theorem Jn.twin {n0 : Nat} {w W W' : World} {g g' : Nat} {q : Ro} {a : Ix Int} (h : Jn n0 w W g q a) (hB : Born W a g' W') : Jn n0 w W' g' q a := by
  obtain ⟨o, ⟨h1, h2, h3, h4⟩, h5, h6⟩ := h
  obtain ⟨o', k1, k2, k3⟩ := hB
  refine ⟨o', ⟨k1, h2.trans (k2.mono (Nat.le_trans h4 h2.size)), fun k hk => Nat.le_trans (Nat.le_trans h4 h2.size) (k3 k hk), h4⟩, h5.below k2, fun k hk => ⟨(h6 k hk).1, fun hm => ?_⟩⟩
  have := h5.lt k hk
  have := k3 k hm
  omega
theorem Jn.ix {n0 : Nat} {w W : World} {g : Nat} {q : Ro} {a : Ix Int} (h : Jn n0 w W g q a) : ∃ o, IsIx W g o a ∧ Rm W q a.n a.most (a.b + 1) a.count a.t := by
  obtain ⟨o, h1, h2, _⟩ := h
  exact ⟨o, h1.1, h2⟩
set_option maxHeartbeats 1600000 in
set_option maxRecDepth 100000 in
theorem plays_no (m : Int) (ao : Option Addr) (s : List St) (cap : Nat) (W : World) (h : m < 0 ∨ 4096 < m) :
    Calls Try.prog 4 #[I m, .slice ao s.length cap] W fun e w' => e = .returned (.bool true) ∧ Below W.heap.size W w' := by
  have HN := show Hid _ from fun v => both_no m h v
  clear h
  go_enter Try.func4, Try.ntmps4
  go_wp2_with fail
  refine (known_any W).mono ?_
  rintro e w1 ⟨rfl, hb⟩
  have HB := show Hid _ from hb
  clear hb
  go_wp2_with fail
  refine Calls.mono (HN.out w1) ?_
  rintro e w2 ⟨rfl, rfl⟩
  go_wp2
  go_ret
  exact ⟨rfl, HB.out⟩
set_option maxHeartbeats 25600000 in
set_option maxRecDepth 100000 in
theorem plays_ok (m : Nat) (ao : Option Addr) (s : List St) (cap : Nat) (W : World) (hm : m ≤ 4096) (hs : IsSt W ao s) (hlen : s.length ≤ 11728124029610) :
    Calls Try.prog 4 #[I m, .slice ao s.length cap] W fun e w' => e = .returned (.bool true) ∧ Below W.heap.size W w' := by
  have HS : Hid (IsSt W ao s) := hs
  have HN := show Hid _ from fun v => both_ok m hm v
  have hls : (s.length : Int) ≤ 11728124029610 := by omega
  clear hs hlen hm
  generalize Ix.new (α := El) (dbl m) m = a0 at *
  go_enter Try.func4, Try.ntmps4
  go_wp2_with fail
  refine (known_any W).mono ?_
  rintro r w1 ⟨rfl, hb⟩
  have HB : Hid (Below W.heap.size W w1) := hb
  clear hb
  go_wp2_with fail
  refine (HN.out w1).mono ?_
  rintro r w2 ⟨g0, q, rfl, hJ⟩
  have HJ : Hid (Jn w1.heap.size w1 w2 g0 q a0) := hJ
  obtain ⟨o, ho, hR⟩ := hJ.ix
  obtain ⟨_, _, a2, _⟩ := hR.cellsR
  have HSl : Hid (∀ j, Calls Try.prog 10 #[.pointer (some ⟨g0, 0, none⟩)] (w2.drewN j) fun e w' => e = .returned (I a0.n) ∧ w' = w2.drewN j) := fun j => slots_any (ho.1.drewN j) ho.2.b rfl
  clear hJ HN ho hR
  generalize a0.n = N at *
  go_wp2_with fail
  go_quiet ((go_at_call 10; exact Calls.quiet_of_same (HSl.out _)))
  have HJ2 : Hid (Jn w1.heap.size w1 (w2.drewN nq) g0 q a0) := HJ.out.below (bel_drewN w2 nq)
  generalize w2.drewN nq = w3 at *
  clear HJ HSl a2
  go_wp2_with fail
  go_loopg [5, 8] s.length (fun r vx vi wr => ∃ i g : Nat, i + r = s.length ∧ vx = .pointer (some ⟨g, 0, none⟩) ∧ vi = I i ∧ Jn w1.heap.size w1 wr g q (acts a0 (s.take i)))
  case atStart => exact ⟨0, g0, by omega, rfl, rfl, HJ2.out⟩
  case round =>
    obtain ⟨i, g, hir, rfl, rfl, hj⟩ := hrel
    have HJ : Hid (Jn w1.heap.size w1 wr g q (acts a0 (s.take i)) ∧ i + gk = s.length) := ⟨hj, hir⟩
    have HBe : Hid (Below W.heap.size W wr) := HB.out.trans (hj.be.mono HB.out.size)
    clear hj hir HJ2
    by_cases h1 : i < s.length
    · have h1' : (i : Int) < (s.length : Int) := by omega
      obtain ⟨st, hst⟩ : ∃ st, s[i]? = some st := ⟨_, List.getElem?_eq_getElem h1⟩
      have HA1 : Hid (acts a0 (s.take (i + 1)) = act (acts a0 (s.take i)) st) := acts_more _ hst
      have HSt : Hid (s[i]? = some st) := hst
      obtain ⟨b, off, e0, _, c0, c1, c2⟩ := (HS.out.below HBe.out (Nat.le_refl _)) i st hst
      subst e0
      clear hst
      by_cases h6 : st.k = 6
      · rw [h6] at c0
        clear h6
        obtain ⟨o1, x1, _⟩ := HJ.out.1.ix
        have HT := show Hid _ from twin_any x1
        clear x1
        go_wp2_with fail
        refine Calls.mono HT.out ?_
        rintro r w4 ⟨g2, rfl, hBo⟩
        have hJ3 := HJ.out.1.twin hBo
        have HD := show Hid _ from told_any hJ3 st
        obtain ⟨b4, off4, e4, _, d0, d1, d2⟩ := (HS.out.below (HB.out.trans (hJ3.be.mono HB.out.size)) (Nat.le_refl _)) i st HSt.out
        cases e4
        clear hBo hJ3 HT c0 c1 c2
        go_wp2_with fail
        refine Calls.mono HD.out ?_
        rintro r w5 ⟨rfl, hJ5⟩
        have HJ5 : Hid (Jn w1.heap.size w1 w5 g2 q (acts a0 (s.take (i + 1)))) := by
          show Jn _ _ _ _ _ _
          rw [HA1.out]
          exact hJ5
        clear hJ5 HD d0 d1 d2
        go_wp2_with fail
        go_roundg (s.length - (i + 1))
        case measure => have := HJ.out.2; omega
        case rel => exact ⟨i + 1, g2, by omega, rfl, by go_num, HJ5.out⟩
      · have h6' : (st.k == 6) = false := by simp [h6]
        have HD := show Hid _ from told_any HJ.out.1 st
        clear h6
        go_wp2_with fail
        refine Calls.mono HD.out ?_
        rintro r w5 ⟨rfl, hJ5⟩
        have HJ5 : Hid (Jn w1.heap.size w1 w5 g q (acts a0 (s.take (i + 1)))) := by
          show Jn _ _ _ _ _ _
          rw [HA1.out]
          exact hJ5
        clear hJ5 HD c0 c1 c2
        go_wp2_with fail
        go_roundg (s.length - (i + 1))
        case measure => have := HJ.out.2; omega
        case rel => exact ⟨i + 1, g, by omega, rfl, by go_num, HJ5.out⟩
    · have h1' : decide ((i : Int) < (s.length : Int)) = false := by simp; omega
      obtain ⟨o1, x1, x2⟩ := HJ.out.1.ix
      have HSm := show Hid _ from same_any x1 x2
      clear x1 x2
      generalize acts a0 (s.take i) = aa at *
      go_wp2_with fail
      refine Calls.mono HSm.out ?_
      rintro r w4 ⟨rfl, hbl⟩
      have HJ4 : Hid (Jn w1.heap.size w1 w4 g q aa) := HJ.out.1.below hbl
      clear hbl HSm HJ HBe
      go_wp2_with fail
      go_loopg [9] s.length (fun r vi wr => ∃ i : Nat, i + r = s.length ∧ vi = I i ∧ Jn w1.heap.size w1 wr g q aa)
      case atStart => exact ⟨0, by omega, rfl, HJ4.out⟩
      case round =>
        obtain ⟨i, hir, rfl, hj⟩ := hrel
        have HJ : Hid (Jn w1.heap.size w1 wr g q aa ∧ i + gk = s.length) := ⟨hj, hir⟩
        have HBe : Hid (Below W.heap.size W wr) := HB.out.trans (hj.be.mono HB.out.size)
        clear hj hir HJ4 h1 h1'
        by_cases h1 : i < s.length
        · have h1' : (i : Int) < (s.length : Int) := by omega
          obtain ⟨st, hst⟩ : ∃ st, s[i]? = some st := ⟨_, List.getElem?_eq_getElem h1⟩
          obtain ⟨b, off, e0, _, c0, c1, c2⟩ := (HS.out.below HBe.out (Nat.le_refl _)) i st hst
          subst e0
          have HD := show Hid _ from told_slot HJ.out.1 0 st.key
          clear hst
          go_wp2_with fail
          refine Calls.mono HD.out ?_
          rintro r w5 ⟨rfl, hJ5⟩
          have HJ5 : Hid (Jn w1.heap.size w1 w5 g q aa) := hJ5
          clear hJ5 HD c0 c1 c2
          go_wp2_with fail
          go_roundg (s.length - (i + 1))
          case measure => have := HJ.out.2; omega
          case rel => exact ⟨i + 1, by omega, by go_num, HJ5.out⟩
        · have h1' : decide ((i : Int) < (s.length : Int)) = false := by simp; omega
          go_wp2
          go_ret
          exact ⟨rfl, HBe.out⟩
theorem plays_walk (m : Int) (ao : Option Addr) (s : List St) (cap : Nat) (W : World) (hs : IsSt W ao s) (hlen : s.length ≤ 11728124029610) :
    Calls Try.prog 4 #[I m, .slice ao s.length cap] W fun e w' => e = .returned (.bool true) ∧ Below W.heap.size W w' := by
  by_cases h : m < 0 ∨ 4096 < m
  · exact plays_no m ao s cap W h
  · obtain ⟨m, rfl⟩ := Int.eq_ofNat_of_zero_le (show 0 ≤ m by omega)
    exact plays_ok m ao s cap W (by omega) hs hlen
end Go.Proofs.Ytclojnklkcfonaa.Rx
