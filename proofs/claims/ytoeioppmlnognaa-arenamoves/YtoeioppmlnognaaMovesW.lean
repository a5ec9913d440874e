import Derived.Test.YtoeioppmlnognaaArMovesP
import Derived.Test.YtoeioppmlnognaaArWhole
import Derived.Test.YtoeioppmlnognaaArOpen
import Derived.Deep.CutBlock
import Derived.Deep.DeepCutAuto
namespace Go.Proofs.Ytoeioppmlnognaa.arenaMoves
open Go.RowKit Go.Proofs.Ytoeioppmlnognaa.Ar

set_option maxHeartbeats 6400000 in
set_option maxRecDepth 100000 in
theorem walk_no (n l : Int) (ao : Option Addr) (s : List St) (cap : Nat) (node list e : Int) (W : World) (h : ¬ (okA n l ∧ n ≤ 2000)) :
    Calls Try.prog 5 #[I n, I l, .slice ao s.length cap, I node, I list, I e] W fun e w' => e = .returned (.bool true) ∧ Below W.heap.size W w' := by
  have HO := show Hid (∀ u : World, Calls Try.prog 14 #[I n, I l] u fun r w' => r = .returned (.pointer none) ∧ w' = u) from fun u => open_no u n l h
  clear h
  go_enter Try.func5, Try.ntmps5
  go_wp2_with fail
  refine (known_any W).mono ?_
  rintro e w1 ⟨rfl, hb⟩
  have HB := show Hid _ from hb
  clear hb
  go_wp2_with fail
  refine (HO.out w1).mono ?_
  rintro e w2 ⟨rfl, rfl⟩
  go_wp2
  go_ret
  exact ⟨rfl, HB.out⟩

set_option maxHeartbeats 12800000 in
set_option maxRecDepth 100000 in
theorem walk_ok (n l : Nat) (ao : Option Addr) (s : List St) (cap : Nat) (node list e : Int) (W : World) (h : okA n l) (h2 : (n : Int) ≤ 2000) (hs : IsSt W ao s) (hlen : s.length ≤ 4398046510976) :
    Calls Try.prog 5 #[I n, I l, .slice ao s.length cap, I node, I list, I e] W fun e w' => e = .returned (.bool true) ∧ Below W.heap.size W w' := by
  have HS : Hid (IsSt W ao s) := hs
  have HO := show Hid (okA n l ∧ (n : Int) ≤ 2000) from ⟨h, h2⟩
  have hl2 : (s.length : Int) ≤ 4398046510976 := by omega
  have hn2 : (n : Int) ≤ 2000 := h2
  have hll : (l : Int) ≤ 256 := h.2.2
  clear hs h h2 hlen
  go_enter Try.func5, Try.ntmps5
  go_wp2_with fail
  refine (known_any W).mono ?_
  rintro r w1 ⟨rfl, hb⟩
  have HB := show Hid _ from hb
  clear hb
  go_wp2_with fail
  refine (open_ok w1 n l HO.out.1 HO.out.2).mono ?_
  rintro r w2 ⟨g, rfl, hBo⟩
  rw [Int.toNat_natCast, Int.toNat_natCast] at hBo
  have HM : Hid (Ms 1 w1.heap.size w1 w2 (G4 g 0 0 0) (G4 (As.new n l) (As.new 0 0) (As.new 0 0) (As.new 0 0))) := Ms.one' hBo 0 0 0 _ _ _
  clear hBo HO
  go_upto_block 0 with fail
  go_cut [14] (fun _ wx => ∃ a : As, Ms 1 w1.heap.size w1 wx (G4 g 0 0 0) (G4 a (As.new 0 0) (As.new 0 0) (As.new 0 0)) ∧ a.size = n ∧ a.nl = l)
  case first =>
    go_wp2_with fail
    go_loopg [14] (min s.length 3000) (fun r vi wr => ∃ (i : Nat) (a : As), i + r = min s.length 3000 ∧ vi = I i ∧ Ms 1 w1.heap.size w1 wr (G4 g 0 0 0) (G4 a (As.new 0 0) (As.new 0 0) (As.new 0 0)) ∧ a.size = n ∧ a.nl = l)
    case atStart => exact ⟨0, _, by omega, rfl, HM.out, rfl, rfl⟩
    case round =>
      obtain ⟨i, a1, hir, rfl, hm1, hz1, hz2⟩ := hrel
      have HM1 : Hid (Ms 1 w1.heap.size w1 wr (G4 g 0 0 0) (G4 a1 (As.new 0 0) (As.new 0 0) (As.new 0 0)) ∧ a1.size = n ∧ a1.nl = l ∧ i + gk = min s.length 3000) := ⟨hm1, hz1, hz2, hir⟩
      clear hm1 hz1 hz2 hir HM
      by_cases h1 : i < s.length
      · have h1' : (i : Int) < (s.length : Int) := by omega
        by_cases h2 : i < 3000
        · have h2' : (i : Int) < 3000 := by omega
          obtain ⟨st, hst⟩ : ∃ st, s[i]? = some st := ⟨_, List.getElem?_eq_getElem h1⟩
          have hW1 : Below W.heap.size W wr := HB.out.trans (HM1.out.1.be.mono HB.out.size)
          obtain ⟨b, off, e0, _, c0, c1, c2, c3⟩ := (HS.out.below hW1 (Nat.le_refl _)) i st hst
          obtain ⟨o1, har, hstep⟩ := HM1.out.1.step0 (by omega)
          have HD := show Hid _ from do_any har st.k st.a st.b st.c
          have HStep := show Hid _ from hstep
          subst e0
          clear hst hW1 har hstep
          go_wp2_with fail
          refine Calls.mono HD.out ?_
          rintro r w3 ⟨rfl, hG⟩
          obtain ⟨hn1, hn2⟩ := a1.act_nl st.k st.a st.b st.c
          have HM3 : Hid (Ms 1 w1.heap.size w1 w3 (G4 g 0 0 0) (G4 (a1.act st.k st.a st.b st.c) (As.new 0 0) (As.new 0 0) (As.new 0 0)) ∧ (a1.act st.k st.a st.b st.c).size = n ∧ (a1.act st.k st.a st.b st.c).nl = l ∧ i + gk = min s.length 3000) := ⟨HStep.out _ _ hG hn1, hn2.trans HM1.out.2.1, hn1.trans HM1.out.2.2.1, HM1.out.2.2.2⟩
          clear hG hn1 hn2 HM1 HD c0 c1 c2 c3 HStep
          generalize a1.act st.k st.a st.b st.c = a3 at *
          go_wp2_with fail
          go_roundg (min s.length 3000 - (i + 1))
          case measure => have := HM3.out.2.2.2; omega
          case rel => exact ⟨i + 1, a3, by omega, by go_num, HM3.out.1, HM3.out.2.1, HM3.out.2.2.1⟩
        · have h2' : decide ((i : Int) < 3000) = false := by simp; omega
          go_wp2_with fail
          go_meet
          case rel => exact ⟨a1, HM1.out.1, HM1.out.2.1, HM1.out.2.2.1⟩
      · have h1' : decide ((i : Int) < (s.length : Int)) = false := by simp; omega
        go_wp2_with fail
        go_meet
        case rel => exact ⟨a1, HM1.out.1, HM1.out.2.1, HM1.out.2.2.1⟩
  case rest =>
    obtain ⟨a, hm, hz1, hz2⟩ := hcut
    have HZ : Hid (a.size = n ∧ a.nl = l) := ⟨hz1, hz2⟩
    obtain ⟨o1, har, _⟩ := hm.step0 (by omega)
    have HMa : Hid (Ms 1 w1.heap.size w1 wc (G4 g 0 0 0) (G4 a (As.new 0 0) (As.new 0 0) (As.new 0 0))) := hm
    have HT := show Hid _ from twin_any har
    clear hm hz1 hz2 har HM
    go_wp2_with fail
    refine Calls.mono HT.out ?_
    rintro r w3 ⟨g2, rfl, hB3⟩
    have hm3 := HMa.out.add1 hB3
    obtain ⟨o3, har3, _⟩ := hm3.step0 (by omega)
    have HM3 : Hid (Ms 2 w1.heap.size w1 w3 (G4 g g2 0 0) (G4 a a (As.new 0 0) (As.new 0 0))) := hm3
    have HT3 := show Hid _ from twin_any har3
    clear hm3 har3 HT HMa hB3
    go_wp2_with fail
    refine Calls.mono HT3.out ?_
    rintro r w4 ⟨g3, rfl, hB4⟩
    have hm4 := HM3.out.add2 hB4
    have HM4 : Hid (Ms 3 w1.heap.size w1 w4 (G4 g g2 g3 0) (G4 a a a (As.new 0 0))) := hm4
    obtain ⟨o4, har4, hst4⟩ := hm4.step0 (by omega)
    have HMv := show Hid _ from move_any har4 node list e
    have HSt4 := show Hid _ from hst4
    have HIv : Hid (∃ c, Inv c a []) := by obtain ⟨c, _, hi⟩ := har4; exact ⟨c, hi⟩
    clear hm4 har4 hst4 HT3 HM3 hB4
    go_wp2_with fail
    refine Calls.mono HMv.out ?_
    rintro r w5 ⟨rfl, hG5⟩
    have hm5 := HSt4.out _ _ hG5 (a.move_nl node list e).1
    have HM5 : Hid (Ms 3 w1.heap.size w1 w5 (G4 g g2 g3 0) (G4 (a.move node list e).2 a a (As.new 0 0))) := hm5
    have HZ5 : Hid ((a.move node list e).2.size = n ∧ (a.move node list e).2.nl = l) := ⟨(a.move_nl node list e).2.trans HZ.out.1, (a.move_nl node list e).1.trans HZ.out.2⟩
    clear hG5 HSt4 HMv HM4 hm5
    by_cases hmv : (a.move node list e).1 = 0
    · obtain ⟨p1, p2, p3, p4⟩ := moves_same hmv
      have HP : Hid ((a.unl node).2.1 = 0 ∧ ((a.unl node).2.2.push list e (a.unl node).1).1 = node ∧ ((a.unl node).2.2.push list e (a.unl node).1).2.1 = 0 ∧ ((a.unl node).2.2.push list e (a.unl node).1).2.2 = (a.move node list e).2) := ⟨p1, p2, p3, p4⟩
      have HWo : Hid (∀ m, wo ((a.move node list e).2.L m) node = wo (a.L m) node) := moves_wo hmv
      have HGe : Hid (∀ k, (a.move node list e).2.get k = a.get k) := by obtain ⟨c, hc⟩ := HIv.out; exact moves_get hc hmv
      obtain ⟨o6, har6, hst6⟩ := HM5.out.step1 (by omega)
      have HU := show Hid _ from unl_any har6 node
      have HSt6 := show Hid _ from hst6
      rw [hmv]
      clear p1 p2 p3 p4 har6 hst6 hmv
      go_wp2_with fail
      refine Calls.mono HU.out ?_
      rintro r w6 ⟨rfl, hG6⟩
      have hm6 := HSt6.out _ _ hG6 (a.unl_nl node).1
      obtain ⟨o7, har7, hst7⟩ := hm6.step1 (by omega)
      have HPu := show Hid _ from push_any har7 list e (a.unl node).1
      have HSt7 := show Hid _ from hst7
      rw [HP.out.1]
      clear hG6 HSt6 HU hm6 har7 hst7 HM5
      go_wp2_with fail
      refine Calls.mono HPu.out ?_
      rintro r w7 ⟨rfl, hG7⟩
      have hm7 := HSt7.out _ _ hG7 (As.push_nl _ _ _ _).1
      rw [HP.out.2.2.2] at hm7
      rw [HP.out.2.1, HP.out.2.2.1]
      have HM7 : Hid (Ms 3 w1.heap.size w1 w7 (G4 g g2 g3 0) (G4 (a.move node list e).2 (a.move node list e).2 a (As.new 0 0))) := hm7
      clear hG7 hm7 HSt7 HPu HP
      generalize (a.move node list e).2 = a1 at *
      clear HIv
      go_wp2_with fail
      go_loopg [22] l (fun r vi wr => ∃ i : Nat, i + r = l ∧ vi = I i ∧ Ms 3 w1.heap.size w1 wr (G4 g g2 g3 0) (G4 a1 a1 a (As.new 0 0)))
      case atStart => exact ⟨0, by omega, rfl, HM7.out⟩
      case round =>
        obtain ⟨i, hir, rfl, hmr⟩ := hrel
        have HMr : Hid (Ms 3 w1.heap.size w1 wr (G4 g g2 g3 0) (G4 a1 a1 a (As.new 0 0)) ∧ i + gk = l) := ⟨hmr, hir⟩
        clear HM7 hmr hir
        by_cases hi : i < l
        · have hi1 : (i : Int) < (l : Int) := by omega
          have hs1 : a1.seq i 0 = a1.L i := (a1.seq01 (by rw [HZ5.out.2]; exact hi)).1
          have hs0 : a.seq i 0 = a.L i := (a.seq01 (by rw [HZ.out.2]; exact hi)).1
          have HN0 : Hid (∀ u, Below wr.heap.size wr u → Calls Try.prog 21 #[.pointer (some ⟨g, 0, none⟩), I i, I 0] u fun r w' => ∃ v, r = .returned v ∧ Rw w' v (a1.L i) ∧ Below u.heap.size u w') := fun u hu => by
            obtain ⟨o, har⟩ := (HMr.out.1.below hu).ar (i := 0) (by omega)
            have := nodes_any har i 0
            rw [show (G4 a1 a1 a (As.new 0 0) 0) = a1 from rfl, hs1] at this
            refine Calls.mono this ?_
            rintro r w' ⟨v, rfl, ho, hb⟩
            exact ⟨v, rfl, Rw.of ho rfl, hb⟩
          have HN1 : Hid (∀ u, Below wr.heap.size wr u → Calls Try.prog 21 #[.pointer (some ⟨g2, 0, none⟩), I i, I 0] u fun r w' => ∃ v, r = .returned v ∧ Rw w' v (a1.L i) ∧ Below u.heap.size u w') := fun u hu => by
            obtain ⟨o, har⟩ := (HMr.out.1.below hu).ar (i := 1) (by omega)
            have := nodes_any har i 0
            rw [show (G4 a1 a1 a (As.new 0 0) 1) = a1 from rfl, hs1] at this
            refine Calls.mono this ?_
            rintro r w' ⟨v, rfl, ho, hb⟩
            exact ⟨v, rfl, Rw.of ho rfl, hb⟩
          have HN2 : Hid (∀ u, Below wr.heap.size wr u → Calls Try.prog 21 #[.pointer (some ⟨g3, 0, none⟩), I i, I 0] u fun r w' => ∃ v, r = .returned v ∧ Rw w' v (a.L i) ∧ Below u.heap.size u w') := fun u hu => by
            obtain ⟨o, har⟩ := (HMr.out.1.below hu).ar (i := 2) (by omega)
            have := nodes_any har i 0
            rw [show (G4 a1 a1 a (As.new 0 0) 2) = a from rfl, hs0] at this
            refine Calls.mono this ?_
            rintro r w' ⟨v, rfl, ho, hb⟩
            exact ⟨v, rfl, Rw.of ho rfl, hb⟩
          have HLe : Hid ((a1.L i).length ≤ 4194304 ∧ (a.L i).length ≤ 4194304) := by
            obtain ⟨o, har⟩ := HMr.out.1.ar (i := 0) (by omega)
            obtain ⟨o', har'⟩ := HMr.out.1.ar (i := 2) (by omega)
            have q1 := har.seq_len i 0
            have q2 := har'.seq_len i 0
            rw [show (G4 a1 a1 a (As.new 0 0) 0) = a1 from rfl, hs1] at q1
            rw [show (G4 a1 a1 a (As.new 0 0) 2) = a from rfl, hs0] at q2
            exact ⟨q1, q2⟩
          clear hs1 hs0
          go_wp2_with fail
          refine Calls.mono (HN0.out wr (Below.refl _ _)) ?_
          rintro r wA ⟨vA, rfl, hrA, hbA⟩
          have HA : Hid (Rw wA vA (a1.L i) ∧ Below wr.heap.size wr wA) := ⟨hrA, hbA⟩
          clear hrA hbA HN0
          go_wp2_with fail
          refine Calls.mono (HN1.out wA HA.out.2) ?_
          rintro r wB ⟨vB, rfl, hrB, hbB⟩
          have HBb : Hid (Rw wB vA (a1.L i) ∧ Rw wB vB (a1.L i) ∧ Below wr.heap.size wr wB) := ⟨HA.out.1.below hbB, hrB, HA.out.2.trans (hbB.mono HA.out.2.size)⟩
          clear hrB hbB HN1 HA
          go_wp2_with fail
          refine Calls.mono (same_any wB vA vB (a1.L i) HBb.out.1 HBb.out.2.1 HLe.out.1) ?_
          rintro r wC ⟨rfl, hbC⟩
          have HC : Hid (Rw wC vA (a1.L i) ∧ Below wr.heap.size wr wC) := ⟨HBb.out.1.below hbC, HBb.out.2.2.trans (hbC.mono HBb.out.2.2.size)⟩
          clear hbC HBb
          go_wp2_with fail
          refine Calls.mono (without_any wC vA (a1.L i) node HC.out.1 HLe.out.1) ?_
          rintro r wD ⟨vD, rfl, hoD, hbD⟩
          rw [HWo.out] at hoD
          have HD : Hid (Rw wD vD (wo (a.L i) node) ∧ Below wr.heap.size wr wD) := ⟨Rw.of hoD rfl, HC.out.2.trans (hbD.mono HC.out.2.size)⟩
          clear hoD hbD HC
          go_wp2_with fail
          refine Calls.mono (HN2.out wD HD.out.2) ?_
          rintro r wE ⟨vE, rfl, hrE, hbE⟩
          have HE : Hid (Rw wE vD (wo (a.L i) node) ∧ Rw wE vE (a.L i) ∧ Below wr.heap.size wr wE) := ⟨HD.out.1.below hbE, hrE, HD.out.2.trans (hbE.mono HD.out.2.size)⟩
          clear hrE hbE HN2 HD
          go_wp2_with fail
          refine Calls.mono (without_any wE vE (a.L i) node HE.out.2.1 HLe.out.2) ?_
          rintro r wF ⟨vF, rfl, hoF, hbF⟩
          have HF : Hid (Rw wF vD (wo (a.L i) node) ∧ Rw wF vF (wo (a.L i) node) ∧ Below wr.heap.size wr wF) := ⟨HE.out.1.below hbF, Rw.of hoF rfl, HE.out.2.2.trans (hbF.mono HE.out.2.2.size)⟩
          clear hoF hbF HE
          go_wp2_with fail
          refine Calls.mono (same_any wF vD vF (wo (a.L i) node) HF.out.1 HF.out.2.1 (Nat.le_trans (wo_len _ _) HLe.out.2)) ?_
          rintro r wG ⟨rfl, hbG⟩
          have HMG : Hid (Ms 3 w1.heap.size w1 wG (G4 g g2 g3 0) (G4 a1 a1 a (As.new 0 0))) := HMr.out.1.below (HF.out.2.2.trans (hbG.mono HF.out.2.2.size))
          clear hbG HF
          go_wp2_with fail
          go_roundg (l - (i + 1))
          case measure => have := HMr.out.2; omega
          case rel => exact ⟨i + 1, by omega, by go_num, HMG.out⟩
        · have hie : i = l := by have := HMr.out.2; omega
          subst hie
          clear hi
          go_wp2_with fail
          go_loopg [24] n (fun r vk wr' => ∃ k : Nat, k + r = n ∧ vk = I k ∧ wr' = wr)
          case atStart => exact ⟨0, by omega, rfl, rfl⟩
          case round =>
            obtain ⟨k, hkr, rfl, rfl⟩ := hrel
            by_cases hk : k < n
            · have hk1 : (k : Int) < (n : Int) := by omega
              obtain ⟨o0, har0⟩ := HMr.out.1.ar (i := 0) (by omega)
              obtain ⟨o1, har1⟩ := HMr.out.1.ar (i := 1) (by omega)
              obtain ⟨o2, har2⟩ := HMr.out.1.ar (i := 2) (by omega)
              have HG0 : Hid (Calls Try.prog 24 #[.pointer (some ⟨g, 0, none⟩), I k] wr fun r w' => r = .returned (.tuple #[I (a1.get k).1, I (a1.get k).2]) ∧ w' = wr) := get_any har0 k
              have HG1 : Hid (Calls Try.prog 24 #[.pointer (some ⟨g2, 0, none⟩), I k] wr fun r w' => r = .returned (.tuple #[I (a1.get k).1, I (a1.get k).2]) ∧ w' = wr) := get_any har1 k
              have HG2 : Hid (Calls Try.prog 24 #[.pointer (some ⟨g3, 0, none⟩), I k] wr fun r w' => r = .returned (.tuple #[I (a1.get k).1, I (a1.get k).2]) ∧ w' = wr) := by
                rw [HGe.out]
                exact get_any har2 k
              clear har0 har1 har2
              generalize (a1.get k).1 = gv at *
              generalize (a1.get k).2 = ge at *
              go_wp2_with fail
              refine Calls.mono HG0.out ?_
              rintro r w8 ⟨rfl, rfl⟩
              go_wp2_with fail
              refine Calls.mono HG1.out ?_
              rintro r w8 ⟨rfl, rfl⟩
              go_wp2_with fail
              refine Calls.mono HG2.out ?_
              rintro r w8 ⟨rfl, rfl⟩
              go_wp2_with fail
              go_roundg (n - (k + 1))
              case measure => omega
              case rel => exact ⟨k + 1, by omega, by go_num, rfl⟩
            · have hke : k = n := by omega
              subst hke
              obtain ⟨o8, har8, hst8⟩ := HMr.out.1.step0 (by omega)
              have HP8 := show Hid _ from push_any har8 list e 5
              have HS8 := show Hid _ from hst8
              clear har8 hst8
              go_wp2_with fail
              refine Calls.mono HP8.out ?_
              rintro r w8 ⟨rfl, hG8⟩
              have hm8 := HS8.out _ _ hG8 (As.push_nl _ _ _ _).1
              obtain ⟨o9, har9, hst9⟩ := hm8.step1 (by omega)
              have HP9 := show Hid _ from push_any har9 list e 5
              have HS9 := show Hid _ from hst9
              clear har9 hst9 hm8 hG8 HS8 HP8
              go_wp2_with fail
              refine Calls.mono HP9.out ?_
              rintro r w9 ⟨rfl, hG9⟩
              have HM9 := show Hid _ from (HS9.out _ _ hG9 (As.push_nl _ _ _ _).1).be
              clear hG9 HS9 HP9
              generalize (a1.push list e 5).1 = z1 at *
              generalize (a1.push list e 5).2.1 = z2 at *
              go_wp2
              go_ret
              exact ⟨rfl, HB.out.trans (HM9.out.mono HB.out.size)⟩
    · obtain ⟨o6, har6, _⟩ := HM5.out.step0 (by omega)
      have HWh : Hid (Calls Try.prog 16 #[.pointer (some ⟨g, 0, none⟩), I n, I l] w5 fun r w' => r = .returned (.bool true) ∧ Below w5.heap.size w5 w') := by
        have := whole_any har6
        rw [HZ5.out.1, HZ5.out.2] at this
        exact this
      have hq : ((a.move node list e).1 != 0) = true := by simp [hmv]
      clear har6
      generalize (a.move node list e).1 = z at *
      go_wp2_with fail
      refine Calls.mono HWh.out ?_
      rintro r w6 ⟨rfl, hb6⟩
      have HB6 := show Hid _ from hb6
      clear hb6
      go_wp2
      go_ret
      exact ⟨rfl, HB.out.trans ((HM5.out.below HB6.out).be.mono HB.out.size)⟩

theorem walk (n l : Int) (ao : Option Addr) (s : List St) (cap : Nat) (node list e : Int) (W : World) (hs : IsSt W ao s) (hlen : s.length ≤ 4398046510976) :
    Calls Try.prog 5 #[I n, I l, .slice ao s.length cap, I node, I list, I e] W fun e w' => e = .returned (.bool true) ∧ Below W.heap.size W w' := by
  by_cases h : okA n l ∧ n ≤ 2000
  · obtain ⟨n, rfl⟩ := Int.eq_ofNat_of_zero_le h.1.1.1
    obtain ⟨l, rfl⟩ := Int.eq_ofNat_of_zero_le h.1.2.1
    exact walk_ok n l ao s cap node list e W h.1 h.2 hs hlen
  · exact walk_no n l ao s cap node list e W h
end Go.Proofs.Ytoeioppmlnognaa.arenaMoves
