import Derived.Test.YtoeioppmlnognaaArWhole
import Derived.Test.YtoeioppmlnognaaArKnown
import Derived.Test.YtoeioppmlnognaaArOpen
namespace Go.Proofs.Ytoeioppmlnognaa.arenaWhole
open Go.RowKit Go.Proofs.Ytoeioppmlnognaa.Ar

set_option maxHeartbeats 6400000 in
set_option maxRecDepth 100000 in
theorem walk_no (n l : Int) (ao : Option Addr) (s : List St) (cap : Nat) (W : World) (h : ¬ (okA n l ∧ n ≤ 2000)) :
    Calls Try.prog 4 #[I n, I l, .slice ao s.length cap] W fun e w' => e = .returned (.bool true) ∧ Below W.heap.size W w' := by
  have HO := show Hid (∀ u : World, Calls Try.prog 14 #[I n, I l] u fun r w' => r = .returned (.pointer none) ∧ w' = u) from fun u => open_no u n l h
  have hc : 2000 < n ∨ decide ((2000 : Int) < n) = false ∧ n < 0 ∨ decide ((2000 : Int) < n) = false ∧ decide (n < 0) = false ∧ l < 0 ∨ decide ((2000 : Int) < n) = false ∧ decide (n < 0) = false ∧ decide (l < 0) = false ∧ 256 < l := by
    by_cases h1 : 2000 < n
    · exact Or.inl h1
    by_cases h2 : n < 0
    · exact Or.inr (Or.inl ⟨by simp; omega, h2⟩)
    by_cases h3 : l < 0
    · exact Or.inr (Or.inr (Or.inl ⟨by simp; omega, by simp; omega, h3⟩))
    by_cases h4 : 256 < l
    · exact Or.inr (Or.inr (Or.inr ⟨by simp; omega, by simp; omega, by simp; omega, h4⟩))
    · exact absurd ⟨⟨⟨by omega, by omega⟩, by omega, by omega⟩, by omega⟩ h
  clear h
  go_enter Try.func4, Try.ntmps4
  go_wp2_with fail
  refine (known_any W).mono ?_
  rintro e w1 ⟨rfl, hb⟩
  have HB := show Hid _ from hb
  clear hb
  go_wp2_with fail
  refine (HO.out w1).mono ?_
  rintro e w2 ⟨rfl, rfl⟩
  rcases hc with h1 | ⟨h1, h2⟩ | ⟨h1, h2, h3⟩ | ⟨h1, h2, h3, h4⟩
  · go_wp2
    go_ret
    exact ⟨rfl, HB.out⟩
  · go_wp2
    go_ret
    exact ⟨rfl, HB.out⟩
  · go_wp2
    go_ret
    exact ⟨rfl, HB.out⟩
  · go_wp2
    go_ret
    exact ⟨rfl, HB.out⟩

set_option maxHeartbeats 6400000 in
set_option maxRecDepth 100000 in
theorem walk_ok (n l : Nat) (ao : Option Addr) (s : List St) (cap : Nat) (W : World) (h : okA n l) (h2 : (n : Int) ≤ 2000) (hs : IsSt W ao s) (hlen : s.length ≤ 4398046510976) :
    Calls Try.prog 4 #[I n, I l, .slice ao s.length cap] W fun e w' => e = .returned (.bool true) ∧ Below W.heap.size W w' := by
  have HS : Hid (IsSt W ao s) := hs
  have HO := show Hid (okA n l ∧ (n : Int) ≤ 2000) from ⟨h, h2⟩
  have hl2 : (s.length : Int) ≤ 4398046510976 := by omega
  clear hs h h2 hlen
  go_enter Try.func4, Try.ntmps4
  go_wp2_with fail
  refine (known_any W).mono ?_
  rintro e w1 ⟨rfl, hb⟩
  have HB := show Hid _ from hb
  clear hb
  go_wp2_with fail
  refine (open_ok w1 n l HO.out.1 HO.out.2).mono ?_
  rintro e w2 ⟨g, rfl, hBo⟩
  obtain ⟨o, hM⟩ := hBo.mine
  rw [Int.toNat_natCast, Int.toNat_natCast] at hM
  have HM : Hid (Mine w1.heap.size w1 w2 g o (As.new n l)) := hM
  clear hM hBo
  go_wp2_with fail
  go_loopg [8] (min s.length 60) (fun r vi wr => ∃ (i : Nat) (o : Lo) (a : As), i + r = min s.length 60 ∧ vi = I i ∧ Mine w1.heap.size w1 wr g o a ∧ a.size = n ∧ a.nl = l)
  case atStart => exact ⟨0, o, _, by omega, rfl, HM.out, rfl, rfl⟩
  case round =>
    obtain ⟨i, o1, a1, hir, rfl, hm1, hz1, hz2⟩ := hrel
    have HM1 : Hid (Mine w1.heap.size w1 wr g o1 a1 ∧ a1.size = n ∧ a1.nl = l ∧ i + gk = min s.length 60) := ⟨hm1, hz1, hz2, hir⟩
    have HWh : Hid (Calls Try.prog 16 #[.pointer (some ⟨g, 0, none⟩), I n, I l] wr fun r w' => r = .returned (.bool true) ∧ Below wr.heap.size wr w') := by
      have := whole_any hm1.1
      rw [hz1, hz2] at this
      exact this
    clear hm1 hz1 hz2 hir HM
    by_cases h1 : i < s.length
    · have h1' : (i : Int) < (s.length : Int) := by omega
      by_cases h2 : i < 60
      · have h2' : (i : Int) < 60 := by omega
        obtain ⟨st, hst⟩ : ∃ st, s[i]? = some st := ⟨_, List.getElem?_eq_getElem h1⟩
        have hW1 : Below W.heap.size W wr := HB.out.trans (HM1.out.1.2.1.mono HB.out.size)
        obtain ⟨b, off, e0, _, c0, c1, c2, c3⟩ := (HS.out.below hW1 (Nat.le_refl _)) i st hst
        have HD := show Hid _ from do_any HM1.out.1.1 st.k st.a st.b st.c
        subst e0
        clear hst hW1 HWh
        go_wp2_with fail
        refine Calls.mono HD.out ?_
        rintro e w3 ⟨rfl, hG⟩
        obtain ⟨hn1, hn2⟩ := a1.act_nl st.k st.a st.b st.c
        obtain ⟨o3, hm3⟩ := Mine.turn HM1.out.1 hG hn1
        have hz1 : (a1.act st.k st.a st.b st.c).size = n := hn2.trans HM1.out.2.1
        have hz2 : (a1.act st.k st.a st.b st.c).nl = l := hn1.trans HM1.out.2.2.1
        have HWh : Hid (Calls Try.prog 16 #[.pointer (some ⟨g, 0, none⟩), I n, I l] w3 fun r w' => r = .returned (.bool true) ∧ Below w3.heap.size w3 w') := by
          have := whole_any hm3.1
          rw [hz1, hz2] at this
          exact this
        have HM3 : Hid (Mine w1.heap.size w1 w3 g o3 (a1.act st.k st.a st.b st.c) ∧ (a1.act st.k st.a st.b st.c).size = n ∧ (a1.act st.k st.a st.b st.c).nl = l ∧ i + gk = min s.length 60) := ⟨hm3, hz1, hz2, HM1.out.2.2.2⟩
        clear hG hn1 hn2 hm3 hz1 hz2 HM1 HD c0 c1 c2 c3
        generalize a1.act st.k st.a st.b st.c = a3 at *
        go_wp2_with fail
        refine Calls.mono HWh.out ?_
        rintro e w4 ⟨rfl, hb4⟩
        have HB4 := show Hid _ from hb4
        clear hb4
        go_wp2_with fail
        go_roundg (min s.length 60 - (i + 1))
        case measure => have := HM3.out.2.2.2; omega
        case rel => exact ⟨i + 1, o3, a3, by omega, by go_num, Mine.below HM3.out.1 HB4.out, HM3.out.2.1, HM3.out.2.2.1⟩
      · have h2' : decide ((i : Int) < 60) = false := by simp; omega
        go_wp2_with fail
        refine Calls.mono HWh.out ?_
        rintro e w4 ⟨rfl, hb4⟩
        have HB4 := show Hid _ from hb4
        clear hb4
        go_wp2
        go_ret
        exact ⟨rfl, HB.out.trans ((Mine.below HM1.out.1 HB4.out).2.1.mono HB.out.size)⟩
    · have h1' : decide ((i : Int) < (s.length : Int)) = false := by simp; omega
      go_wp2_with fail
      refine Calls.mono HWh.out ?_
      rintro e w4 ⟨rfl, hb4⟩
      have HB4 := show Hid _ from hb4
      clear hb4
      go_wp2
      go_ret
      exact ⟨rfl, HB.out.trans ((Mine.below HM1.out.1 HB4.out).2.1.mono HB.out.size)⟩

theorem walk (n l : Int) (ao : Option Addr) (s : List St) (cap : Nat) (W : World) (hs : IsSt W ao s) (hlen : s.length ≤ 4398046510976) :
    Calls Try.prog 4 #[I n, I l, .slice ao s.length cap] W fun e w' => e = .returned (.bool true) ∧ Below W.heap.size W w' := by
  by_cases h : okA n l ∧ n ≤ 2000
  · obtain ⟨n, rfl⟩ := Int.eq_ofNat_of_zero_le h.1.1.1
    obtain ⟨l, rfl⟩ := Int.eq_ofNat_of_zero_le h.1.2.1
    exact walk_ok n l ao s cap W h.1 h.2 hs hlen
  · exact walk_no n l ao s cap W h
end Go.Proofs.Ytoeioppmlnognaa.arenaWhole
