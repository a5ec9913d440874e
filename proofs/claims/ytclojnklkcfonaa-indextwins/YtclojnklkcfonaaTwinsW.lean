import Derived.Test.YtclojnklkcfonaaIxMany
import Derived.Test.YtclojnklkcfonaaIxLike
namespace Go.Proofs.Ytclojnklkcfonaa.Ii
open Go.RowKit Go.Proofs.Ytclojnklkcfonaa.Ix

set_option maxHeartbeats 1600000 in
set_option maxRecDepth 100000 in
theorem twins_no (m : Int) (ao : Option Addr) (s : List St) (cap : Nat) (bo : Option Addr) (t : List St) (capt : Nat) (co : Option Addr) (u : List St) (capu : Nat) (W : World) (h : m < 0 ∨ 4096 < m) :
    Calls Try.prog 6 #[I m, .slice ao s.length cap, .slice bo t.length capt, .slice co u.length capu] W fun e w' => e = .returned (.bool true) ∧ Below W.heap.size W w' := by
  by_cases h0 : m < 0
  · go_enter Try.func6, Try.ntmps6
    go_wp2_with fail
    refine (known_any W).mono ?_
    rintro e w1 ⟨rfl, hb⟩
    have HB := show Hid _ from hb
    clear hb
    go_wp2
    go_ret
    exact ⟨rfl, HB.out⟩
  · have h1 : 4096 < m := by omega
    have h2 : decide (m < 0) = false := decide_eq_false h0
    go_enter Try.func6, Try.ntmps6
    go_wp2_with fail
    refine (known_any W).mono ?_
    rintro e w1 ⟨rfl, hb⟩
    have HB := show Hid _ from hb
    clear hb
    go_wp2
    go_ret
    exact ⟨rfl, HB.out⟩
set_option maxHeartbeats 25600000 in
set_option maxRecDepth 100000 in
theorem twins_ok (m : Nat) (ao : Option Addr) (s : List St) (cap : Nat) (bo : Option Addr) (t : List St) (capt : Nat) (co : Option Addr) (u : List St) (capu : Nat) (W : World) (hm : m ≤ 4096) (hs : IsSt W ao s) (hlen : s.length ≤ 11728124029610) (ht : IsSt W bo t) (hlent : t.length ≤ 11728124029610) (hu : IsSt W co u) (hlenu : u.length ≤ 11728124029610) :
    Calls Try.prog 6 #[I m, .slice ao s.length cap, .slice bo t.length capt, .slice co u.length capu] W fun e w' => e = .returned (.bool true) ∧ Below W.heap.size W w' := by
  have HS : Hid (IsSt W ao s) := hs
  have HT : Hid (IsSt W bo t) := ht
  have HU : Hid (IsSt W co u) := hu
  have hm0 : ¬ (m : Int) < 0 := by omega
  have hm1 : (m : Int) ≤ 4096 := by omega
  have HNew := show Hid _ from fun v => new_ok m (by omega) v
  have hls : (s.length : Int) ≤ 11728124029610 := by omega
  have hlt : (t.length : Int) ≤ 11728124029610 := by omega
  have hlu : (u.length : Int) ≤ 11728124029610 := by omega
  clear hs hlen ht hlent hu hlenu hm
  generalize Ix.new (α := El) (dbl m) m = a0 at *
  go_enter Try.func6, Try.ntmps6
  go_wp2_with fail
  refine (known_any W).mono ?_
  rintro r w1 ⟨rfl, hb⟩
  have HB : Hid (Below W.heap.size W w1) := hb
  clear hb
  go_wp2_with fail
  refine (HNew.out w1).mono ?_
  rintro r w2 ⟨g0, rfl, hBo⟩
  have HM : Hid (Ms 1 w1.heap.size w1 w2 (fun _ => g0) (fun _ => a0)) := Ms.one hBo
  clear hBo HNew
  go_wp2_with fail
  go_loopg [11] s.length (fun r vi wr => ∃ i : Nat, i + r = s.length ∧ vi = I i ∧ Ms 1 w1.heap.size w1 wr (fun _ => g0) (fun _ => acts a0 (s.take i)))
  case atStart => exact ⟨0, by omega, rfl, HM.out⟩
  case round =>
    obtain ⟨i, hir, rfl, hm1⟩ := hrel
    have HM1 : Hid (Ms 1 w1.heap.size w1 wr (fun _ => g0) (fun _ => acts a0 (s.take i)) ∧ i + gk = s.length) := ⟨hm1, hir⟩
    have HBe : Hid (Below W.heap.size W wr) := HB.out.trans (hm1.be.mono HB.out.size)
    clear hm1 hir HM
    by_cases h1 : i < s.length
    · have h1' : (i : Int) < (s.length : Int) := by omega
      obtain ⟨st, hst⟩ : ∃ st, s[i]? = some st := ⟨_, List.getElem?_eq_getElem h1⟩
      have HA1 : Hid (acts a0 (s.take (i + 1)) = act (acts a0 (s.take i)) st) := acts_more _ hst
      obtain ⟨b, off, e0, _, c0, c1, c2⟩ := (HS.out.below HBe.out (Nat.le_refl _)) i st hst
      obtain ⟨o1, har, hstep⟩ := HM1.out.1.step (i := 0) (by omega)
      have HD := show Hid _ from do_any har st
      have HStep := show Hid _ from hstep
      subst e0
      clear hst har hstep
      go_wp2_with fail
      refine Calls.mono HD.out ?_
      rintro r w4 ⟨rfl, hG⟩
      have HM5 : Hid (Ms 1 w1.heap.size w1 w4 (fun _ => g0) (fun _ => acts a0 (s.take (i + 1)))) := (HStep.out _ _ hG).congr (fun _ _ => rfl) (fun j hj => by
        obtain rfl : j = 0 := by omega
        rw [upf_self]; exact HA1.out)
      clear hG HD HStep c0 c1 c2
      go_wp2_with fail
      go_roundg (s.length - (i + 1))
      case measure => have := HM1.out.2; omega
      case rel => exact ⟨i + 1, by omega, by go_num, HM5.out⟩
    · have h1' : decide ((i : Int) < (s.length : Int)) = false := by simp; omega
      obtain rfl : i = s.length := by have := HM1.out.2; omega
      have e1 : acts a0 (s.take s.length) = acts a0 s := by rw [List.take_length]
      rw [e1] at HM1
      generalize acts a0 s = aa at *
      obtain ⟨o1, x1⟩ := HM1.out.1.ix (i := 0) (by omega)
      have HT1 := show Hid _ from twin_any x1
      clear x1 e1 h1
      go_wp2_with fail
      refine Calls.mono HT1.out ?_
      rintro r w3 ⟨g1, rfl, hBo⟩
      have HM2 : Hid (Ms 2 w1.heap.size w1 w3 (G5 g0 g1 0 0 0) (G5 aa aa aa aa aa)) := (HM1.out.1.add hBo).congr (fun j hj => by
        match j, hj with
        | 0, _ => rfl
        | 1, _ => rfl) (fun j hj => by
        match j, hj with
        | 0, _ => rfl
        | 1, _ => rfl)
      clear hBo HT1
      obtain ⟨o1, x1⟩ := HM2.out.ix (i := 0) (by omega)
      have HT1 := show Hid _ from twin_any x1
      clear x1
      go_wp2_with fail
      refine Calls.mono HT1.out ?_
      rintro r w4 ⟨g2, rfl, hBo⟩
      have HM3 : Hid (Ms 3 w1.heap.size w1 w4 (G5 g0 g1 g2 0 0) (G5 aa aa aa aa aa)) := (HM2.out.add hBo).congr (fun j hj => by
        match j, hj with
        | 0, _ => rfl
        | 1, _ => rfl
        | 2, _ => rfl) (fun j hj => by
        match j, hj with
        | 0, _ => rfl
        | 1, _ => rfl
        | 2, _ => rfl)
      clear hBo HT1
      obtain ⟨o1, x1⟩ := HM3.out.ix (i := 0) (by omega)
      have HT1 := show Hid _ from twin_any x1
      clear x1
      go_wp2_with fail
      refine Calls.mono HT1.out ?_
      rintro r w5 ⟨g3, rfl, hBo⟩
      have HM4 : Hid (Ms 4 w1.heap.size w1 w5 (G5 g0 g1 g2 g3 0) (G5 aa aa aa aa aa)) := (HM3.out.add hBo).congr (fun j hj => by
        match j, hj with
        | 0, _ => rfl
        | 1, _ => rfl
        | 2, _ => rfl
        | 3, _ => rfl) (fun j hj => by
        match j, hj with
        | 0, _ => rfl
        | 1, _ => rfl
        | 2, _ => rfl
        | 3, _ => rfl)
      clear hBo HT1
      obtain ⟨o1, x1⟩ := HM4.out.ix (i := 0) (by omega)
      have HT1 := show Hid _ from twin_any x1
      clear x1
      go_wp2_with fail
      refine Calls.mono HT1.out ?_
      rintro r w6 ⟨g4, rfl, hBo⟩
      have HM5 : Hid (Ms 5 w1.heap.size w1 w6 (G5 g0 g1 g2 g3 g4) (G5 aa aa aa aa aa)) := (HM4.out.add hBo).congr (fun j hj => by
        match j, hj with
        | 0, _ => rfl
        | 1, _ => rfl
        | 2, _ => rfl
        | 3, _ => rfl
        | 4, _ => rfl) (fun j hj => by
        match j, hj with
        | 0, _ => rfl
        | 1, _ => rfl
        | 2, _ => rfl
        | 3, _ => rfl
        | 4, _ => rfl)
      clear hBo HT1 HM4 HM3 HM2
      go_wp2_with fail
      go_loopg [16] (max t.length u.length) (fun r vi wr => ∃ i : Nat, i + r = max t.length u.length ∧ vi = I i ∧ Ms 5 w1.heap.size w1 wr (G5 g0 g1 g2 g3 g4) (G5 aa (acts aa (t.take i)) (acts aa (u.take i)) aa aa))
      case atStart => exact ⟨0, by omega, rfl, HM5.out⟩
      case round =>
        obtain ⟨i, hir, rfl, hm1⟩ := hrel
        have HM1 : Hid (Ms 5 w1.heap.size w1 wr (G5 g0 g1 g2 g3 g4) (G5 aa (acts aa (t.take i)) (acts aa (u.take i)) aa aa) ∧ i + gk = max t.length u.length) := ⟨hm1, hir⟩
        have HBe : Hid (Below W.heap.size W wr) := HB.out.trans (hm1.be.mono HB.out.size)
        clear hm1 hir HM5
        by_cases h1 : i < t.length
        · have h1' : (i : Int) < (t.length : Int) := by omega
          obtain ⟨st, hst⟩ : ∃ st, t[i]? = some st := ⟨_, List.getElem?_eq_getElem h1⟩
          have HA1 : Hid (acts aa (t.take (i + 1)) = act (acts aa (t.take i)) st) := acts_more _ hst
          obtain ⟨b, off, e0, _, c0, c1, c2⟩ := (HT.out.below HBe.out (Nat.le_refl _)) i st hst
          obtain ⟨o1, har, hstep⟩ := HM1.out.1.step (i := 1) (by omega)
          have HD := show Hid _ from do_any har st
          have HStep := show Hid _ from hstep
          subst e0
          clear hst har hstep
          by_cases h2 : i < u.length
          · have h2' : (i : Int) < (u.length : Int) := by omega
            obtain ⟨sv, hsv⟩ : ∃ st, u[i]? = some st := ⟨_, List.getElem?_eq_getElem h2⟩
            have HA2 : Hid (acts aa (u.take (i + 1)) = act (acts aa (u.take i)) sv) := acts_more _ hsv
            go_wp2_with fail
            refine Calls.mono HD.out ?_
            rintro r w7 ⟨rfl, hG⟩
            have hm4 := HStep.out _ _ hG
            obtain ⟨o4, har4, hst4⟩ := hm4.step (i := 2) (by omega)
            have HD4 := show Hid _ from do_any har4 sv
            have HS4 := show Hid _ from hst4
            obtain ⟨b4, off4, e4, _, d0, d1, d2⟩ := (HU.out.below (HB.out.trans (hm4.be.mono HB.out.size)) (Nat.le_refl _)) i sv hsv
            subst e4
            clear hG hm4 har4 hst4 HD HStep c0 c1 c2 hsv
            go_wp2_with fail
            refine Calls.mono HD4.out ?_
            rintro r w8 ⟨rfl, hG⟩
            have HM6 : Hid (Ms 5 w1.heap.size w1 w8 (G5 g0 g1 g2 g3 g4) (G5 aa (acts aa (t.take (i + 1))) (acts aa (u.take (i + 1))) aa aa)) := (HS4.out _ _ hG).congr (fun _ _ => rfl) (fun j hj => by
              match j, hj with
              | 0, _ => rfl
              | 1, _ => exact HA1.out
              | 2, _ => exact HA2.out
              | 3, _ => rfl
              | 4, _ => rfl)
            clear hG HD4 HS4 d0 d1 d2
            go_wp2_with fail
            go_roundg (max t.length u.length - (i + 1))
            case measure => have := HM1.out.2; omega
            case rel => exact ⟨i + 1, by omega, by go_num, HM6.out⟩
          · have h2' : decide ((i : Int) < (u.length : Int)) = false := by simp; omega
            go_wp2_with fail
            refine Calls.mono HD.out ?_
            rintro r w7 ⟨rfl, hG⟩
            have HM6 : Hid (Ms 5 w1.heap.size w1 w7 (G5 g0 g1 g2 g3 g4) (G5 aa (acts aa (t.take (i + 1))) (acts aa (u.take (i + 1))) aa aa)) := (HStep.out _ _ hG).congr (fun _ _ => rfl) (fun j hj => by
              match j, hj with
              | 0, _ => rfl
              | 1, _ => exact HA1.out
              | 2, _ => exact acts_past _ (by omega)
              | 3, _ => rfl
              | 4, _ => rfl)
            clear hG HD HStep c0 c1 c2
            go_wp2_with fail
            go_roundg (max t.length u.length - (i + 1))
            case measure => have := HM1.out.2; omega
            case rel => exact ⟨i + 1, by omega, by go_num, HM6.out⟩
        · have h1' : decide ((i : Int) < (t.length : Int)) = false := by simp; omega
          by_cases h2 : i < u.length
          · have h2' : (i : Int) < (u.length : Int) := by omega
            obtain ⟨sv, hsv⟩ : ∃ st, u[i]? = some st := ⟨_, List.getElem?_eq_getElem h2⟩
            have HA2 : Hid (acts aa (u.take (i + 1)) = act (acts aa (u.take i)) sv) := acts_more _ hsv
            obtain ⟨o4, har4, hst4⟩ := HM1.out.1.step (i := 2) (by omega)
            have HD4 := show Hid _ from do_any har4 sv
            have HS4 := show Hid _ from hst4
            obtain ⟨b4, off4, e4, _, d0, d1, d2⟩ := (HU.out.below HBe.out (Nat.le_refl _)) i sv hsv
            subst e4
            clear har4 hst4 hsv
            go_wp2_with fail
            refine Calls.mono HD4.out ?_
            rintro r w8 ⟨rfl, hG⟩
            have HM6 : Hid (Ms 5 w1.heap.size w1 w8 (G5 g0 g1 g2 g3 g4) (G5 aa (acts aa (t.take (i + 1))) (acts aa (u.take (i + 1))) aa aa)) := (HS4.out _ _ hG).congr (fun _ _ => rfl) (fun j hj => by
              match j, hj with
              | 0, _ => rfl
              | 1, _ => exact acts_past _ (by omega)
              | 2, _ => exact HA2.out
              | 3, _ => rfl
              | 4, _ => rfl)
            clear hG HD4 HS4 d0 d1 d2
            go_wp2_with fail
            go_roundg (max t.length u.length - (i + 1))
            case measure => have := HM1.out.2; omega
            case rel => exact ⟨i + 1, by omega, by go_num, HM6.out⟩
          · have h2' : decide ((i : Int) < (u.length : Int)) = false := by simp; omega
            have HM7 : Hid (Ms 5 w1.heap.size w1 wr (G5 g0 g1 g2 g3 g4) (G5 aa (acts aa t) (acts aa u) aa aa)) := by
              have := HM1.out.1
              rw [acts_all _ (by omega), acts_all _ (by omega)] at this
              exact this
            obtain ⟨o1, x1⟩ := HM7.out.ix (i := 0) (by omega)
            obtain ⟨o2, x2⟩ := HM7.out.ix (i := 4) (by omega)
            have HLk : Hid (Calls Try.prog 25 #[.pointer (some ⟨g0, 0, none⟩), .pointer (some ⟨g4, 0, none⟩)] wr fun r w' => r = .returned (.bool true) ∧ Below wr.heap.size wr w') := like_any x1 x2
            clear x1 x2 HM1
            go_wp2_with fail
            refine Calls.mono HLk.out ?_
            rintro r w7 ⟨rfl, hbl⟩
            have HM8 : Hid (Ms 5 w1.heap.size w1 w7 (G5 g0 g1 g2 g3 g4) (G5 aa (acts aa t) (acts aa u) aa aa)) := HM7.out.below hbl
            clear hbl HLk HM7
            go_wp2_with fail
            go_loopg [17] t.length (fun r vi wr => ∃ i : Nat, i + r = t.length ∧ vi = I i ∧ Ms 5 w1.heap.size w1 wr (G5 g0 g1 g2 g3 g4) (G5 (acts aa (t.take i)) (acts aa t) (acts aa u) aa aa))
            case atStart => exact ⟨0, by omega, rfl, HM8.out⟩
            case round =>
              obtain ⟨i, hir, rfl, hm1⟩ := hrel
              have HM1 : Hid (Ms 5 w1.heap.size w1 wr (G5 g0 g1 g2 g3 g4) (G5 (acts aa (t.take i)) (acts aa t) (acts aa u) aa aa) ∧ i + gk = t.length) := ⟨hm1, hir⟩
              have HBe : Hid (Below W.heap.size W wr) := HB.out.trans (hm1.be.mono HB.out.size)
              clear hm1 hir HM8
              by_cases h1 : i < t.length
              · have h1' : (i : Int) < (t.length : Int) := by omega
                obtain ⟨st, hst⟩ : ∃ st, t[i]? = some st := ⟨_, List.getElem?_eq_getElem h1⟩
                have HA1 : Hid (acts aa (t.take (i + 1)) = act (acts aa (t.take i)) st) := acts_more _ hst
                obtain ⟨b, off, e0, _, c0, c1, c2⟩ := (HT.out.below HBe.out (Nat.le_refl _)) i st hst
                obtain ⟨o1, har, hstep⟩ := HM1.out.1.step (i := 0) (by omega)
                have HD := show Hid _ from do_any har st
                have HStep := show Hid _ from hstep
                subst e0
                clear hst har hstep
                go_wp2_with fail
                refine Calls.mono HD.out ?_
                rintro r w8 ⟨rfl, hG⟩
                have HM6 : Hid (Ms 5 w1.heap.size w1 w8 (G5 g0 g1 g2 g3 g4) (G5 (acts aa (t.take (i + 1))) (acts aa t) (acts aa u) aa aa)) := (HStep.out _ _ hG).congr (fun _ _ => rfl) (fun j hj => by
                  match j, hj with
                  | 0, _ => exact HA1.out
                  | 1, _ => rfl
                  | 2, _ => rfl
                  | 3, _ => rfl
                  | 4, _ => rfl)
                clear hG HD HStep c0 c1 c2
                go_wp2_with fail
                go_roundg (t.length - (i + 1))
                case measure => have := HM1.out.2; omega
                case rel => exact ⟨i + 1, by omega, by go_num, HM6.out⟩
              · have h1' : decide ((i : Int) < (t.length : Int)) = false := by simp; omega
                have HM9 : Hid (Ms 5 w1.heap.size w1 wr (G5 g0 g1 g2 g3 g4) (G5 (acts aa t) (acts aa t) (acts aa u) aa aa)) := by
                  have := HM1.out.1
                  rw [acts_all _ (by omega)] at this
                  exact this
                clear HM1
                go_wp2_with fail
                go_loopg [18] u.length (fun r vi wr => ∃ i : Nat, i + r = u.length ∧ vi = I i ∧ Ms 5 w1.heap.size w1 wr (G5 g0 g1 g2 g3 g4) (G5 (acts aa t) (acts aa t) (acts aa u) (acts aa (u.take i)) aa))
                case atStart => exact ⟨0, by omega, rfl, HM9.out⟩
                case round =>
                  obtain ⟨i, hir, rfl, hm1⟩ := hrel
                  have HM1 : Hid (Ms 5 w1.heap.size w1 wr (G5 g0 g1 g2 g3 g4) (G5 (acts aa t) (acts aa t) (acts aa u) (acts aa (u.take i)) aa) ∧ i + gk = u.length) := ⟨hm1, hir⟩
                  have HBe : Hid (Below W.heap.size W wr) := HB.out.trans (hm1.be.mono HB.out.size)
                  clear hm1 hir HM9
                  by_cases h1 : i < u.length
                  · have h1' : (i : Int) < (u.length : Int) := by omega
                    obtain ⟨st, hst⟩ : ∃ st, u[i]? = some st := ⟨_, List.getElem?_eq_getElem h1⟩
                    have HA1 : Hid (acts aa (u.take (i + 1)) = act (acts aa (u.take i)) st) := acts_more _ hst
                    obtain ⟨b, off, e0, _, c0, c1, c2⟩ := (HU.out.below HBe.out (Nat.le_refl _)) i st hst
                    obtain ⟨o1, har, hstep⟩ := HM1.out.1.step (i := 3) (by omega)
                    have HD := show Hid _ from do_any har st
                    have HStep := show Hid _ from hstep
                    subst e0
                    clear hst har hstep
                    go_wp2_with fail
                    refine Calls.mono HD.out ?_
                    rintro r w8 ⟨rfl, hG⟩
                    have HM6 : Hid (Ms 5 w1.heap.size w1 w8 (G5 g0 g1 g2 g3 g4) (G5 (acts aa t) (acts aa t) (acts aa u) (acts aa (u.take (i + 1))) aa)) := (HStep.out _ _ hG).congr (fun _ _ => rfl) (fun j hj => by
                      match j, hj with
                      | 0, _ => rfl
                      | 1, _ => rfl
                      | 2, _ => rfl
                      | 3, _ => exact HA1.out
                      | 4, _ => rfl)
                    clear hG HD HStep c0 c1 c2
                    go_wp2_with fail
                    go_roundg (u.length - (i + 1))
                    case measure => have := HM1.out.2; omega
                    case rel => exact ⟨i + 1, by omega, by go_num, HM6.out⟩
                  · have h1' : decide ((i : Int) < (u.length : Int)) = false := by simp; omega
                    have HM10 : Hid (Ms 5 w1.heap.size w1 wr (G5 g0 g1 g2 g3 g4) (G5 (acts aa t) (acts aa t) (acts aa u) (acts aa u) aa)) := by
                      have := HM1.out.1
                      rw [acts_all (l := u) _ (by omega)] at this
                      exact this
                    obtain ⟨o1, x1⟩ := HM10.out.ix (i := 0) (by omega)
                    obtain ⟨o2, x2⟩ := HM10.out.ix (i := 1) (by omega)
                    have HLk : Hid (Calls Try.prog 25 #[.pointer (some ⟨g0, 0, none⟩), .pointer (some ⟨g1, 0, none⟩)] wr fun r w' => r = .returned (.bool true) ∧ Below wr.heap.size wr w') := like_any x1 x2
                    clear x1 x2 HM1
                    go_wp2_with fail
                    refine Calls.mono HLk.out ?_
                    rintro r w8 ⟨rfl, hbl⟩
                    have HM11 : Hid (Ms 5 w1.heap.size w1 w8 (G5 g0 g1 g2 g3 g4) (G5 (acts aa t) (acts aa t) (acts aa u) (acts aa u) aa)) := HM10.out.below hbl
                    clear hbl HLk HM10
                    obtain ⟨o3, x3⟩ := HM11.out.ix (i := 3) (by omega)
                    obtain ⟨o4, x4⟩ := HM11.out.ix (i := 2) (by omega)
                    have HLk : Hid (Calls Try.prog 25 #[.pointer (some ⟨g3, 0, none⟩), .pointer (some ⟨g2, 0, none⟩)] w8 fun r w' => r = .returned (.bool true) ∧ Below w8.heap.size w8 w') := like_any x3 x4
                    clear x3 x4
                    go_wp2_with fail
                    refine Calls.mono HLk.out ?_
                    rintro r w9 ⟨rfl, hbl⟩
                    have HBf : Hid (Below W.heap.size W w9) := HB.out.trans ((HM11.out.below hbl).be.mono HB.out.size)
                    clear hbl HLk HM11
                    go_wp2
                    go_ret
                    exact ⟨rfl, HBf.out⟩
theorem twins_walk (m : Int) (ao : Option Addr) (s : List St) (cap : Nat) (bo : Option Addr) (t : List St) (capt : Nat) (co : Option Addr) (u : List St) (capu : Nat) (W : World) (hs : IsSt W ao s) (hlen : s.length ≤ 11728124029610) (ht : IsSt W bo t) (hlent : t.length ≤ 11728124029610) (hu : IsSt W co u) (hlenu : u.length ≤ 11728124029610) :
    Calls Try.prog 6 #[I m, .slice ao s.length cap, .slice bo t.length capt, .slice co u.length capu] W fun e w' => e = .returned (.bool true) ∧ Below W.heap.size W w' := by
  by_cases h : m < 0 ∨ 4096 < m
  · exact twins_no m ao s cap bo t capt co u capu W h
  · obtain ⟨m, rfl⟩ := Int.eq_ofNat_of_zero_le (show 0 ≤ m by omega)
    exact twins_ok m ao s cap bo t capt co u capu W (by omega) hs hlen ht hlent hu hlenu
end Go.Proofs.Ytclojnklkcfonaa.Ii
