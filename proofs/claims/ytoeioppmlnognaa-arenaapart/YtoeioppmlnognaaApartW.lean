import Derived.Test.YtoeioppmlnognaaArAlike
import Derived.Deep.CutBlock
import Derived.Deep.DeepCutAuto
namespace Go.Proofs.Ytoeioppmlnognaa.arenaApart
open Go.RowKit Go.Proofs.Ytoeioppmlnognaa.Ar

set_option maxHeartbeats 6400000 in
set_option maxRecDepth 100000 in
theorem walk_no (n l : Int) (ao : Option Addr) (s : List St) (cap : Nat) (bo : Option Addr) (t : List St) (capt : Nat) (co : Option Addr) (u : List St) (capu : Nat) (W : World) (h : ¬ (okA n l ∧ n ≤ 2000)) :
    Calls Try.prog 7 #[I n, I l, .slice ao s.length cap, .slice bo t.length capt, .slice co u.length capu] W fun e w' => e = .returned (.bool true) ∧ Below W.heap.size W w' := by
  have HO := show Hid (∀ u : World, Calls Try.prog 14 #[I n, I l] u fun r w' => r = .returned (.pointer none) ∧ w' = u) from fun u => open_no u n l h
  clear h
  go_enter Try.func7, Try.ntmps7
  go_wp2_with fail
  refine (known_any W).mono ?_
  rintro e w1 ⟨rfl, hb⟩
  have HB := show Hid _ from hb
  clear hb
  go_wp2_with fail
  refine (HO.out w1).mono ?_
  rintro e w2 ⟨rfl, rfl⟩
  go_wp2_with fail
  refine (HO.out w2).mono ?_
  rintro e w2 ⟨rfl, rfl⟩
  go_wp2
  go_ret
  exact ⟨rfl, HB.out⟩

set_option maxHeartbeats 25600000 in
set_option maxRecDepth 100000 in
theorem walk_ok (n l : Nat) (ao : Option Addr) (s : List St) (cap : Nat) (bo : Option Addr) (t : List St) (capt : Nat) (co : Option Addr) (u : List St) (capu : Nat) (W : World) (h : okA n l) (h2 : (n : Int) ≤ 2000) (hs : IsSt W ao s) (hlen : s.length ≤ 4398046510976) (ht : IsSt W bo t) (hlent : t.length ≤ 4398046510976) (hu : IsSt W co u) (hlenu : u.length ≤ 4398046510976) :
    Calls Try.prog 7 #[I n, I l, .slice ao s.length cap, .slice bo t.length capt, .slice co u.length capu] W fun e w' => e = .returned (.bool true) ∧ Below W.heap.size W w' := by
  have HS : Hid (IsSt W ao s) := hs
  have HT : Hid (IsSt W bo t) := ht
  have HU : Hid (IsSt W co u) := hu
  have HO := show Hid (okA n l ∧ (n : Int) ≤ 2000) from ⟨h, h2⟩
  have hls : (s.length : Int) ≤ 4398046510976 := by omega
  have hlt : (t.length : Int) ≤ 4398046510976 := by omega
  have hlu : (u.length : Int) ≤ 4398046510976 := by omega
  clear hs h h2 hlen ht hlent hu hlenu
  go_enter Try.func7, Try.ntmps7
  go_wp2_with fail
  refine (known_any W).mono ?_
  rintro r w1 ⟨rfl, hb⟩
  have HB := show Hid _ from hb
  clear hb
  go_wp2_with fail
  refine (open_ok w1 n l HO.out.1 HO.out.2).mono ?_
  rintro r w2 ⟨g0, rfl, hBo⟩
  rw [Int.toNat_natCast, Int.toNat_natCast] at hBo
  have HM2 : Hid (Ms 1 w1.heap.size w1 w2 (G4 g0 0 0 0) (G4 (As.new n l) (As.new 0 0) (As.new 0 0) (As.new 0 0))) := Ms.one' hBo 0 0 0 _ _ _
  clear hBo
  go_wp2_with fail
  refine (open_ok w2 n l HO.out.1 HO.out.2).mono ?_
  rintro r w3 ⟨g1, rfl, hBo⟩
  rw [Int.toNat_natCast, Int.toNat_natCast] at hBo
  have HM : Hid (Ms 2 w1.heap.size w1 w3 (G4 g0 g1 0 0) (G4 (As.new n l) (As.new n l) (As.new 0 0) (As.new 0 0))) := HM2.out.add1 hBo
  clear hBo HM2
  go_upto_block 0 with fail
  go_cut [13] (fun _ wx => Ms 2 w1.heap.size w1 wx (G4 g0 g1 0 0) (G4 (acts (As.new n l) (s.take 3000)) (acts (As.new n l) (t.take 3000)) (As.new 0 0) (As.new 0 0)))
  case first =>
    go_wp2_with fail
    go_loopg [13] 3000 (fun r vi wr => ∃ i : Nat, i + r = 3000 ∧ vi = I i ∧ Ms 2 w1.heap.size w1 wr (G4 g0 g1 0 0) (G4 (acts (As.new n l) (s.take i)) (acts (As.new n l) (t.take i)) (As.new 0 0) (As.new 0 0)))
    case atStart => exact ⟨0, by omega, rfl, HM.out⟩
    case round =>
      obtain ⟨i, hir, rfl, hm1⟩ := hrel
      have HM1 : Hid (Ms 2 w1.heap.size w1 wr (G4 g0 g1 0 0) (G4 (acts (As.new n l) (s.take i)) (acts (As.new n l) (t.take i)) (As.new 0 0) (As.new 0 0)) ∧ i + gk = 3000) := ⟨hm1, hir⟩
      have HBe : Hid (Below W.heap.size W wr) := HB.out.trans (hm1.be.mono HB.out.size)
      clear hm1 hir HM
      by_cases h3 : i < 3000
      · have h3' : (i : Int) < 3000 := by omega
        by_cases h1 : i < s.length
        · have h1' : (i : Int) < (s.length : Int) := by omega
          obtain ⟨st, hst⟩ : ∃ st, s[i]? = some st := ⟨_, List.getElem?_eq_getElem h1⟩
          have HA1 : Hid (acts (As.new n l) (s.take (i + 1)) = (acts (As.new n l) (s.take i)).act st.k st.a st.b st.c) := acts_more _ hst
          obtain ⟨b, off, e0, _, c0, c1, c2, c3⟩ := (HS.out.below HBe.out (Nat.le_refl _)) i st hst
          obtain ⟨o1, har, hstep⟩ := HM1.out.1.step0 (by omega)
          have HD := show Hid _ from do_any har st.k st.a st.b st.c
          have HStep := show Hid _ from hstep
          subst e0
          clear hst har hstep
          by_cases h2 : i < t.length
          · have h2' : (i : Int) < (t.length : Int) := by omega
            obtain ⟨sv, hsv⟩ : ∃ st, t[i]? = some st := ⟨_, List.getElem?_eq_getElem h2⟩
            have HA2 : Hid (acts (As.new n l) (t.take (i + 1)) = (acts (As.new n l) (t.take i)).act sv.k sv.a sv.b sv.c) := acts_more _ hsv
            go_wp2_with fail
            refine Calls.mono HD.out ?_
            rintro r w4 ⟨rfl, hG⟩
            have hm4 := HStep.out _ _ hG (As.act_nl _ _ _ _ _).1
            obtain ⟨o4, har4, hst4⟩ := hm4.step1 (by omega)
            have HD4 := show Hid _ from do_any har4 sv.k sv.a sv.b sv.c
            have HS4 := show Hid _ from hst4
            obtain ⟨b4, off4, e4, _, d0, d1, d2, d3⟩ := (HT.out.below (HB.out.trans (hm4.be.mono HB.out.size)) (Nat.le_refl _)) i sv hsv
            subst e4
            clear hG hm4 har4 hst4 HD HStep c0 c1 c2 c3 hsv
            go_wp2_with fail
            refine Calls.mono HD4.out ?_
            rintro r w5 ⟨rfl, hG⟩
            have HM5 : Hid (Ms 2 w1.heap.size w1 w5 (G4 g0 g1 0 0) (G4 (acts (As.new n l) (s.take (i + 1))) (acts (As.new n l) (t.take (i + 1))) (As.new 0 0) (As.new 0 0))) := by
              rw [HA1.out, HA2.out]
              exact HS4.out _ _ hG (As.act_nl _ _ _ _ _).1
            clear hG HD4 HS4 d0 d1 d2 d3
            go_wp2_with fail
            go_roundg (3000 - (i + 1))
            case measure => have := HM1.out.2; omega
            case rel => exact ⟨i + 1, by omega, by go_num, HM5.out⟩
          · have h2' : decide ((i : Int) < (t.length : Int)) = false := by simp; omega
            go_wp2_with fail
            refine Calls.mono HD.out ?_
            rintro r w4 ⟨rfl, hG⟩
            have HM5 : Hid (Ms 2 w1.heap.size w1 w4 (G4 g0 g1 0 0) (G4 (acts (As.new n l) (s.take (i + 1))) (acts (As.new n l) (t.take (i + 1))) (As.new 0 0) (As.new 0 0))) := by
              rw [HA1.out, acts_past _ (by omega)]
              exact HStep.out _ _ hG (As.act_nl _ _ _ _ _).1
            clear hG HD HStep c0 c1 c2 c3
            go_wp2_with fail
            go_roundg (3000 - (i + 1))
            case measure => have := HM1.out.2; omega
            case rel => exact ⟨i + 1, by omega, by go_num, HM5.out⟩
        · have h1' : decide ((i : Int) < (s.length : Int)) = false := by simp; omega
          by_cases h2 : i < t.length
          · have h2' : (i : Int) < (t.length : Int) := by omega
            obtain ⟨sv, hsv⟩ : ∃ st, t[i]? = some st := ⟨_, List.getElem?_eq_getElem h2⟩
            have HA2 : Hid (acts (As.new n l) (t.take (i + 1)) = (acts (As.new n l) (t.take i)).act sv.k sv.a sv.b sv.c) := acts_more _ hsv
            obtain ⟨o4, har4, hst4⟩ := HM1.out.1.step1 (by omega)
            have HD4 := show Hid _ from do_any har4 sv.k sv.a sv.b sv.c
            have HS4 := show Hid _ from hst4
            obtain ⟨b4, off4, e4, _, d0, d1, d2, d3⟩ := (HT.out.below HBe.out (Nat.le_refl _)) i sv hsv
            subst e4
            clear har4 hst4 hsv
            go_wp2_with fail
            refine Calls.mono HD4.out ?_
            rintro r w5 ⟨rfl, hG⟩
            have HM5 : Hid (Ms 2 w1.heap.size w1 w5 (G4 g0 g1 0 0) (G4 (acts (As.new n l) (s.take (i + 1))) (acts (As.new n l) (t.take (i + 1))) (As.new 0 0) (As.new 0 0))) := by
              rw [HA2.out, acts_past _ (by omega)]
              exact HS4.out _ _ hG (As.act_nl _ _ _ _ _).1
            clear hG HD4 HS4 d0 d1 d2 d3
            go_wp2_with fail
            go_roundg (3000 - (i + 1))
            case measure => have := HM1.out.2; omega
            case rel => exact ⟨i + 1, by omega, by go_num, HM5.out⟩
          · have h2' : decide ((i : Int) < (t.length : Int)) = false := by simp; omega
            go_wp2_with fail
            go_meet
            case rel =>
              rw [← acts_end (As.new n l) (l := s) (i := i) (by omega) (by omega), ← acts_end (As.new n l) (l := t) (i := i) (by omega) (by omega)]
              exact HM1.out.1
      · have h3' : decide ((i : Int) < 3000) = false := by simp; omega
        have HE : Hid (Ms 2 w1.heap.size w1 wr (G4 g0 g1 0 0) (G4 (acts (As.new n l) (s.take 3000)) (acts (As.new n l) (t.take 3000)) (As.new 0 0) (As.new 0 0))) := by
          have := HM1.out.2
          have hie : i = 3000 := by omega
          rw [← acts_end (As.new n l) (l := s) (i := i) (by omega) (by omega), ← acts_end (As.new n l) (l := t) (i := i) (by omega) (by omega)]
          exact HM1.out.1
        by_cases h1 : i < s.length
        · have h1' : (i : Int) < (s.length : Int) := by omega
          go_wp2_with fail
          go_meet
          case rel => exact HE.out
        · have h1' : decide ((i : Int) < (s.length : Int)) = false := by simp; omega
          by_cases h2 : i < t.length
          · have h2' : (i : Int) < (t.length : Int) := by omega
            go_wp2_with fail
            go_meet
            case rel => exact HE.out
          · have h2' : decide ((i : Int) < (t.length : Int)) = false := by simp; omega
            go_wp2_with fail
            go_meet
            case rel => exact HE.out
  case rest =>
    have HMc : Hid (Ms 2 w1.heap.size w1 wc (G4 g0 g1 0 0) (G4 (acts (As.new n l) (s.take 3000)) (acts (As.new n l) (t.take 3000)) (As.new 0 0) (As.new 0 0))) := hcut
    have HAz : Hid ((acts (As.new n l) (s.take 3000)).nl = l ∧ (acts (As.new n l) (s.take 3000)).size = n ∧ (acts (As.new n l) (t.take 3000)).nl = l ∧ (acts (As.new n l) (t.take 3000)).size = n) := ⟨(acts_nl _ _).1, (acts_nl _ _).2, (acts_nl _ _).1, (acts_nl _ _).2⟩
    obtain ⟨a, ha⟩ : ∃ a, a = acts (As.new n l) (s.take 3000) := ⟨_, rfl⟩
    rw [← ha] at HMc HAz
    have HAe : Hid (a = acts (As.new n l) (s.take 3000)) := ha
    generalize acts (As.new n l) (t.take 3000) = b at *
    clear hcut ha HM
    obtain ⟨o1, har, _⟩ := HMc.out.step0 (by omega)
    have HTw := show Hid _ from twin_any har
    clear har
    go_wp2_with fail
    refine Calls.mono HTw.out ?_
    rintro r w4 ⟨g2, rfl, hB4⟩
    have HM4 : Hid (Ms 3 w1.heap.size w1 w4 (G4 g0 g1 g2 0) (G4 a b a (As.new 0 0))) := HMc.out.add2 hB4
    clear hB4 HTw HMc
    go_wp2_with fail
    refine (open_ok w4 n l HO.out.1 HO.out.2).mono ?_
    rintro r w5 ⟨g3, rfl, hBo⟩
    rw [Int.toNat_natCast, Int.toNat_natCast] at hBo
    have HM5 : Hid (Ms 4 w1.heap.size w1 w5 (G4 g0 g1 g2 g3) (G4 a b a (As.new n l))) := HM4.out.add3 hBo
    clear hBo HM4
    go_upto_block 2 with fail
    go_cut [16] (fun _ wx => Ms 4 w1.heap.size w1 wx (G4 g0 g1 g2 g3) (G4 a b a a))
    case first =>
      go_wp2_with fail
      go_loopg [16] (min s.length 3000) (fun r vi wr => ∃ i : Nat, i + r = min s.length 3000 ∧ vi = I i ∧ Ms 4 w1.heap.size w1 wr (G4 g0 g1 g2 g3) (G4 a b a (acts (As.new n l) (s.take i))))
      case atStart => exact ⟨0, by omega, rfl, HM5.out⟩
      case round =>
        obtain ⟨i, hir, rfl, hm1⟩ := hrel
        have HM1 : Hid (Ms 4 w1.heap.size w1 wr (G4 g0 g1 g2 g3) (G4 a b a (acts (As.new n l) (s.take i))) ∧ i + gk = min s.length 3000) := ⟨hm1, hir⟩
        have HBe : Hid (Below W.heap.size W wr) := HB.out.trans (hm1.be.mono HB.out.size)
        clear hm1 hir HM5
        by_cases h1 : i < s.length
        · have h1' : (i : Int) < (s.length : Int) := by omega
          by_cases h3 : i < 3000
          · have h3' : (i : Int) < 3000 := by omega
            obtain ⟨st, hst⟩ : ∃ st, s[i]? = some st := ⟨_, List.getElem?_eq_getElem h1⟩
            have HA1 : Hid (acts (As.new n l) (s.take (i + 1)) = (acts (As.new n l) (s.take i)).act st.k st.a st.b st.c) := acts_more _ hst
            obtain ⟨bb, off, e0, _, c0, c1, c2, c3⟩ := (HS.out.below HBe.out (Nat.le_refl _)) i st hst
            obtain ⟨o1, har, hstep⟩ := HM1.out.1.step3
            have HD := show Hid _ from do_any har st.k st.a st.b st.c
            have HStep := show Hid _ from hstep
            subst e0
            clear hst har hstep
            go_wp2_with fail
            refine Calls.mono HD.out ?_
            rintro r w6 ⟨rfl, hG⟩
            have HM6 : Hid (Ms 4 w1.heap.size w1 w6 (G4 g0 g1 g2 g3) (G4 a b a (acts (As.new n l) (s.take (i + 1))))) := by
              rw [HA1.out]
              exact HStep.out _ _ hG (As.act_nl _ _ _ _ _).1
            clear hG HD HStep c0 c1 c2 c3
            go_wp2_with fail
            go_roundg (min s.length 3000 - (i + 1))
            case measure => have := HM1.out.2; omega
            case rel => exact ⟨i + 1, by omega, by go_num, HM6.out⟩
          · have h3' : decide ((i : Int) < 3000) = false := by simp; omega
            go_wp2_with fail
            go_meet
            case rel =>
              have := HM1.out.2
              have h5 := HM1.out.1
              rw [acts_end (As.new n l) (l := s) (i := i) (by omega) (by omega), ← HAe.out] at h5
              exact h5
        · have h1' : decide ((i : Int) < (s.length : Int)) = false := by simp; omega
          go_wp2_with fail
          go_meet
          case rel =>
            have := HM1.out.2
            have h5 := HM1.out.1
            rw [acts_end (As.new n l) (l := s) (i := i) (by omega) (by omega), ← HAe.out] at h5
            exact h5
    case rest =>
      have HM6 : Hid (Ms 4 w1.heap.size w1 wc (G4 g0 g1 g2 g3) (G4 a b a a)) := hcut
      clear hcut HM5 HAe
      go_upto_block 4 with fail
      go_cut [17] (fun _ wx => ∃ a' b', Ms 4 w1.heap.size w1 wx (G4 g0 g1 g2 g3) (G4 a' b' a a) ∧ a'.nl = l ∧ a'.size = n ∧ b'.nl = l ∧ b'.size = n)
      case first =>
        go_wp2_with fail
        go_loopg [17] (min u.length 3000) (fun r vi wr => ∃ (i : Nat) (a' b' : As), i + r = min u.length 3000 ∧ vi = I i ∧ Ms 4 w1.heap.size w1 wr (G4 g0 g1 g2 g3) (G4 a' b' a a) ∧ a'.nl = l ∧ a'.size = n ∧ b'.nl = l ∧ b'.size = n)
        case atStart => exact ⟨0, a, b, by omega, rfl, HM6.out, HAz.out.1, HAz.out.2.1, HAz.out.2.2.1, HAz.out.2.2.2⟩
        case round =>
          obtain ⟨i, a', b', hir, rfl, hm1, z1, z2, z3, z4⟩ := hrel
          have HM1 : Hid (Ms 4 w1.heap.size w1 wr (G4 g0 g1 g2 g3) (G4 a' b' a a) ∧ i + gk = min u.length 3000 ∧ a'.nl = l ∧ a'.size = n ∧ b'.nl = l ∧ b'.size = n) := ⟨hm1, hir, z1, z2, z3, z4⟩
          have HBe : Hid (Below W.heap.size W wr) := HB.out.trans (hm1.be.mono HB.out.size)
          clear hm1 hir HM6 z1 z2 z3 z4
          by_cases h1 : i < u.length
          · have h1' : (i : Int) < (u.length : Int) := by omega
            by_cases h3 : i < 3000
            · have h3' : (i : Int) < 3000 := by omega
              obtain ⟨st, hst⟩ : ∃ st, u[i]? = some st := ⟨_, List.getElem?_eq_getElem h1⟩
              obtain ⟨bb, off, e0, _, c0, c1, c2, c3⟩ := (HU.out.below HBe.out (Nat.le_refl _)) i st hst
              obtain ⟨o1, har, hstep⟩ := HM1.out.1.step0 (by omega)
              have HD := show Hid _ from do_any har st.k st.a st.b st.c
              have HStep := show Hid _ from hstep
              subst e0
              clear har hstep
              go_wp2_with fail
              refine Calls.mono HD.out ?_
              rintro r w6 ⟨rfl, hG⟩
              have hm6 := HStep.out _ _ hG (As.act_nl _ _ _ _ _).1
              obtain ⟨o7, har7, hst7⟩ := hm6.step1 (by omega)
              have HD7 := show Hid _ from do_any har7 st.k st.a st.b st.c
              have HS7 := show Hid _ from hst7
              obtain ⟨b7, off7, e7, _, d0, d1, d2, d3⟩ := (HU.out.below (HB.out.trans (hm6.be.mono HB.out.size)) (Nat.le_refl _)) i st hst
              cases e7
              clear hG hm6 har7 hst7 HD HStep c0 c1 c2 c3 hst
              go_wp2_with fail
              refine Calls.mono HD7.out ?_
              rintro r w7 ⟨rfl, hG⟩
              have HM7 : Hid (Ms 4 w1.heap.size w1 w7 (G4 g0 g1 g2 g3) (G4 (a'.act st.k st.a st.b st.c) (b'.act st.k st.a st.b st.c) a a)) := HS7.out _ _ hG (As.act_nl _ _ _ _ _).1
              clear hG HD7 HS7 d0 d1 d2 d3
              go_wp2_with fail
              go_roundg (min u.length 3000 - (i + 1))
              case measure => have := HM1.out.2.1; omega
              case rel => exact ⟨i + 1, _, _, by omega, by go_num, HM7.out, (As.act_nl _ _ _ _ _).1.trans HM1.out.2.2.1, (As.act_nl _ _ _ _ _).2.trans HM1.out.2.2.2.1, (As.act_nl _ _ _ _ _).1.trans HM1.out.2.2.2.2.1, (As.act_nl _ _ _ _ _).2.trans HM1.out.2.2.2.2.2⟩
            · have h3' : decide ((i : Int) < 3000) = false := by simp; omega
              go_wp2_with fail
              go_meet
              case rel => exact ⟨a', b', HM1.out.1, HM1.out.2.2⟩
          · have h1' : decide ((i : Int) < (u.length : Int)) = false := by simp; omega
            go_wp2_with fail
            go_meet
            case rel => exact ⟨a', b', HM1.out.1, HM1.out.2.2⟩
      case rest =>
        obtain ⟨a', b', hm7, z1, z2, z3, z4⟩ := hcut
        have HM7 : Hid (Ms 4 w1.heap.size w1 wc (G4 g0 g1 g2 g3) (G4 a' b' a a)) := hm7
        have HZ7 : Hid (a'.nl = l ∧ a'.size = n ∧ b'.nl = l ∧ b'.size = n) := ⟨z1, z2, z3, z4⟩
        clear hm7 z1 z2 z3 z4 HM6
        go_upto_block 6 with fail
        go_cut [18] (fun _ wx => ∃ c', Ms 4 w1.heap.size w1 wx (G4 g0 g1 g2 g3) (G4 a' b' c' c') ∧ c'.nl = l ∧ c'.size = n)
        case first =>
          go_wp2_with fail
          go_loopg [18] (min t.length 3000) (fun r vi wr => ∃ (i : Nat) (c' : As), i + r = min t.length 3000 ∧ vi = I i ∧ Ms 4 w1.heap.size w1 wr (G4 g0 g1 g2 g3) (G4 a' b' c' c') ∧ c'.nl = l ∧ c'.size = n)
          case atStart => exact ⟨0, a, by omega, rfl, HM7.out, HAz.out.1, HAz.out.2.1⟩
          case round =>
            obtain ⟨i, c', hir, rfl, hm1, z1, z2⟩ := hrel
            have HM1 : Hid (Ms 4 w1.heap.size w1 wr (G4 g0 g1 g2 g3) (G4 a' b' c' c') ∧ i + gk = min t.length 3000 ∧ c'.nl = l ∧ c'.size = n) := ⟨hm1, hir, z1, z2⟩
            have HBe : Hid (Below W.heap.size W wr) := HB.out.trans (hm1.be.mono HB.out.size)
            clear hm1 hir HM7 z1 z2
            by_cases h1 : i < t.length
            · have h1' : (i : Int) < (t.length : Int) := by omega
              by_cases h3 : i < 3000
              · have h3' : (i : Int) < 3000 := by omega
                obtain ⟨st, hst⟩ : ∃ st, t[i]? = some st := ⟨_, List.getElem?_eq_getElem h1⟩
                obtain ⟨bb, off, e0, _, c0, c1, c2, c3⟩ := (HT.out.below HBe.out (Nat.le_refl _)) i st hst
                obtain ⟨o1, har, hstep⟩ := HM1.out.1.step2 (by omega)
                have HD := show Hid _ from do_any har st.k st.a st.b st.c
                have HStep := show Hid _ from hstep
                subst e0
                clear har hstep
                go_wp2_with fail
                refine Calls.mono HD.out ?_
                rintro r w6 ⟨rfl, hG⟩
                have hm6 := HStep.out _ _ hG (As.act_nl _ _ _ _ _).1
                obtain ⟨o7, har7, hst7⟩ := hm6.step3
                have HD7 := show Hid _ from do_any har7 st.k st.a st.b st.c
                have HS7 := show Hid _ from hst7
                obtain ⟨b7, off7, e7, _, d0, d1, d2, d3⟩ := (HT.out.below (HB.out.trans (hm6.be.mono HB.out.size)) (Nat.le_refl _)) i st hst
                cases e7
                clear hG hm6 har7 hst7 HD HStep c0 c1 c2 c3 hst
                go_wp2_with fail
                refine Calls.mono HD7.out ?_
                rintro r w7 ⟨rfl, hG⟩
                have HM7 : Hid (Ms 4 w1.heap.size w1 w7 (G4 g0 g1 g2 g3) (G4 a' b' (c'.act st.k st.a st.b st.c) (c'.act st.k st.a st.b st.c))) := HS7.out _ _ hG (As.act_nl _ _ _ _ _).1
                clear hG HD7 HS7 d0 d1 d2 d3
                go_wp2_with fail
                go_roundg (min t.length 3000 - (i + 1))
                case measure => have := HM1.out.2.1; omega
                case rel => exact ⟨i + 1, _, by omega, by go_num, HM7.out, (As.act_nl _ _ _ _ _).1.trans HM1.out.2.2.1, (As.act_nl _ _ _ _ _).2.trans HM1.out.2.2.2⟩
              · have h3' : decide ((i : Int) < 3000) = false := by simp; omega
                go_wp2_with fail
                go_meet
                case rel => exact ⟨c', HM1.out.1, HM1.out.2.2⟩
            · have h1' : decide ((i : Int) < (t.length : Int)) = false := by simp; omega
              go_wp2_with fail
              go_meet
              case rel => exact ⟨c', HM1.out.1, HM1.out.2.2⟩
        case rest =>
          obtain ⟨c', hm8, z1, z2⟩ := hcut
          have HM8 : Hid (Ms 4 w1.heap.size w1 wc (G4 g0 g1 g2 g3) (G4 a' b' c' c')) := hm8
          have HAl := show Hid _ from alike_any hm8 z2 z1 (by have := HO.out.2; omega) (by have := HO.out.1.2.2; omega)
          clear hm8 z1 z2 HM7 HAz
          go_wp2_with fail
          refine Calls.mono HAl.out ?_
          rintro r w8 ⟨rfl, c9, hm9, z1, z2⟩
          have HW0 : Hid (∀ x, Below w8.heap.size w8 x → Calls Try.prog 16 #[.pointer (some ⟨g0, 0, none⟩), I n, I l] x fun r w' => r = .returned (.bool true) ∧ Below x.heap.size x w') := fun x hx => by
            obtain ⟨o, har⟩ := (hm9.below hx).ar (i := 0) (by omega)
            have := whole_any har
            rw [show (G4 a' b' c9 c9 0).size = n from HZ7.out.2.1, show (G4 a' b' c9 c9 0).nl = l from HZ7.out.1] at this
            exact this
          have HW1 : Hid (∀ x, Below w8.heap.size w8 x → Calls Try.prog 16 #[.pointer (some ⟨g1, 0, none⟩), I n, I l] x fun r w' => r = .returned (.bool true) ∧ Below x.heap.size x w') := fun x hx => by
            obtain ⟨o, har⟩ := (hm9.below hx).ar (i := 1) (by omega)
            have := whole_any har
            rw [show (G4 a' b' c9 c9 1).size = n from HZ7.out.2.2.2, show (G4 a' b' c9 c9 1).nl = l from HZ7.out.2.2.1] at this
            exact this
          have HW2 : Hid (∀ x, Below w8.heap.size w8 x → Calls Try.prog 16 #[.pointer (some ⟨g2, 0, none⟩), I n, I l] x fun r w' => r = .returned (.bool true) ∧ Below x.heap.size x w') := fun x hx => by
            obtain ⟨o, har⟩ := (hm9.below hx).ar (i := 2) (by omega)
            have := whole_any har
            rw [show (G4 a' b' c9 c9 2).size = n from z1, show (G4 a' b' c9 c9 2).nl = l from z2] at this
            exact this
          have HBe : Hid (Below W.heap.size W w8) := HB.out.trans (hm9.be.mono HB.out.size)
          clear hm9 z1 z2 HM8 HAl
          go_wp2_with fail
          refine Calls.mono (HW0.out w8 (Below.refl _ _)) ?_
          rintro r w9 ⟨rfl, hb9⟩
          have HB9 : Hid (Below w8.heap.size w8 w9) := hb9
          clear hb9 HW0
          go_wp2_with fail
          refine Calls.mono (HW1.out w9 HB9.out) ?_
          rintro r w10 ⟨rfl, hb10⟩
          have HB10 : Hid (Below w8.heap.size w8 w10) := HB9.out.trans (hb10.mono HB9.out.size)
          clear hb10 HW1 HB9
          go_wp2_with fail
          refine Calls.mono (HW2.out w10 HB10.out) ?_
          rintro r w11 ⟨rfl, hb11⟩
          have HB11 : Hid (Below w8.heap.size w8 w11) := HB10.out.trans (hb11.mono HB10.out.size)
          clear hb11 HW2 HB10
          go_wp2
          go_ret
          exact ⟨rfl, HBe.out.trans (HB11.out.mono HBe.out.size)⟩

theorem walk (n l : Int) (ao : Option Addr) (s : List St) (cap : Nat) (bo : Option Addr) (t : List St) (capt : Nat) (co : Option Addr) (u : List St) (capu : Nat) (W : World) (hs : IsSt W ao s) (hlen : s.length ≤ 4398046510976) (ht : IsSt W bo t) (hlent : t.length ≤ 4398046510976) (hu : IsSt W co u) (hlenu : u.length ≤ 4398046510976) :
    Calls Try.prog 7 #[I n, I l, .slice ao s.length cap, .slice bo t.length capt, .slice co u.length capu] W fun e w' => e = .returned (.bool true) ∧ Below W.heap.size W w' := by
  by_cases h : okA n l ∧ n ≤ 2000
  · obtain ⟨n, rfl⟩ := Int.eq_ofNat_of_zero_le h.1.1.1
    obtain ⟨l, rfl⟩ := Int.eq_ofNat_of_zero_le h.1.2.1
    exact walk_ok n l ao s cap bo t capt co u capu W h.1 h.2 hs hlen ht hlent hu hlenu
  · exact walk_no n l ao s cap bo t capt co u capu W h
end Go.Proofs.Ytoeioppmlnognaa.arenaApart
