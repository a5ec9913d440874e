import Derived.Test.YteoglkndmmmelaaJB
import Derived.Deep.DeepCutAuto
import Derived.BigQuiet
import Derived.Test.YteoglkndmmmelaaMdWtn
import Derived.Test.YteoglkndmmmelaaMdOpn
import Derived.ChangeSlices
import Derived.ChangeSame
namespace Go.Proofs.Yteoglkndmmmelaa.Md
open Go.RowKit Go.Maps Go.Proofs.Yteoglkndmmmelaa.Nm

/-- a cache at work since W -/
structure Lv (W w : World) (P : World → Nat → List Nat → List Nat → Prop) (g : Nat) (F ks : List Nat) : Prop where
  bel : Below W.heap.size W w
  p : P w g F ks
  new : ∀ x ∈ F, W.heap.size ≤ x
set_option maxHeartbeats 25600000 in
set_option maxRecDepth 100000 in
theorem soundWalk (a b : Int) (ka : Option Addr) (l : List Nat) (cap : Nat) (W : World) (hk : KIn W ka l) (h64 : ∀ x ∈ l, x < 18446744073709551616) (hl : l.length ≤ maxLen) :
    Calls Try.prog 3 #[I a, I b, .slice ka l.length cap] W fun e w' => e = .returned (.bool true) ∧ Below W.heap.size W w' := by
  have HK : Hid (KIn W ka l ∧ (∀ x ∈ l, x < 18446744073709551616) ∧ l.length ≤ maxLen) := ⟨hk, h64, hl⟩
  clear hk h64 hl
  go_enter Try.func3, Try.ntmps3
  go_wp2_with fail
  refine (fits_any W a b).mono ?_
  rintro _ w ⟨kd, n, rfl, rfl, hk6, hn1, hn2⟩
  have HZ : Hid (kd < 6 ∧ lN kd ≤ n ∧ n ≤ 1048576) := ⟨hk6, hn1, hn2⟩
  have hn3 : (n : Int) ≤ 1048576 := by omega
  clear hk6 hn1 hn2
  go_wp2_with fail
  refine (new_all w kd n HZ.out.1 HZ.out.2.1 HZ.out.2.2).mono ?_
  rintro _ w1 ⟨T, fa, fk, P, g, rfl, ⟨F, q1, q2, q3⟩, KD, IF⟩
  have HD : Hid (Kd T fa fk (decide (kd = 4)) n P) := KD
  have hnc := IF.nil
  have hma := IF.acc
  have hmk := IF.keys
  have hna := IF.ahead
  have hea := IF.ea
  have hek := IF.ek
  have H1 : Hid (Lv w w1 P g F []) := ⟨q2, q1, q3⟩
  clear KD IF q1 q2 q3
  go_wp2_with fail
  refine (HD.out.keys H1.out.p).mono ?_
  rintro _ w2 ⟨v, rfl, o2, b2⟩
  obtain ⟨bo2, bc2, rfl⟩ := own_form o2
  obtain ⟨F2, p2, s2⟩ := HD.out.below H1.out.p b2
  have H2 : Hid (Lv w w2 P g F2 []) := ⟨H1.out.bel.trans (b2.mono H1.out.bel.size), p2, fun x hx => H1.out.new x (s2 x hx)⟩
  clear o2 b2 p2 s2 H1
  go_wp2_with fail
  go_loopg [9] (min l.length 300) (fun gq x wr => ∃ (i : Nat) (F ks : List Nat), i ≤ min l.length 300 ∧ gq = min l.length 300 - i ∧ x = I i ∧ Lv w wr P g F ks)
  case atStart => exact ⟨0, F2, [], Nat.zero_le _, rfl, rfl, H2.out⟩
  case round =>
    clear H2
    obtain ⟨i, F, ks, hi, hgk, rfl, hT⟩ := hrel
    by_cases hlt : i < min l.length 300
    · have hlt1 : (i : Int) < (l.length : Int) := by omega
      have hlt2 : (i : Int) < 300 := by omega
      have hx : l[i]? = some l[i] := List.getElem?_eq_getElem (by omega)
      have hk64 := HK.out.2.1 l[i] (List.getElem_mem _)
      generalize l[i] = k at *
      have HT : Hid (Lv w wr P g F ks ∧ k < 18446744073709551616 ∧ i < min l.length 300 ∧ gk = min l.length 300 - i ∧ l[i]? = some k) := ⟨hT, hk64, hlt, hgk, hx⟩
      clear hT hk64 hi hgk hlt hx
      go_wp2_with fail
      refine (HD.out.keys HT.out.1.p).mono ?_
      rintro _ w3 ⟨v3, rfl, o3, b3⟩
      obtain ⟨bo3, bc3, rfl⟩ := own_form o3
      obtain ⟨b', off, e', _, i0⟩ := HK.out.1.below (HT.out.1.bel.trans (b3.mono HT.out.1.bel.size)) i _ HT.out.2.2.2.2
      subst e'
      have H3 : Hid (∃ F3, Lv w w3.drew P g F3 ks ∧ w3.ownsRow wr.heap.size 33 1 (.slice bo3 ks.length bc3) ks.length (ks.map U) ∧ (∀ x ∈ F3, x < wr.heap.size)) := by
        have hbd : Below wr.heap.size wr w3.drew := b3.trans ((Below.refl _ w3).drew.mono b3.size)
        obtain ⟨F3, p3, s3⟩ := HD.out.below HT.out.1.p hbd
        exact ⟨F3, ⟨HT.out.1.bel.trans (hbd.mono HT.out.1.bel.size), p3, fun x hx => HT.out.1.new x (s3 x hx)⟩, o3, fun x hx => HD.out.lt HT.out.1.p x (s3 x hx)⟩
      clear o3 b3
      obtain ⟨F3, h3⟩ := H3.out
      have H4 : Hid (Lv w w3.drew P g F3 ks ∧ w3.ownsRow wr.heap.size 33 1 (.slice bo3 ks.length bc3) ks.length (ks.map U) ∧ (∀ x ∈ F3, x < wr.heap.size)) := h3
      clear h3 H3
      go_upto_region 9 with fail
      go_cut [11, 12] (fun s11 s12 wx => ∃ F4 now out, s11 = .bool (decide (k ∈ ks)) ∧ Lv w wx P g F4 now ∧ KRd wx (.slice bo3 ks.length bc3) ks ∧ KRc wx s12 out ∧ Snd (decide (kd = 4)) n k ks now out)
      case first =>
        go_region_with (refine (HD.out.acc H4.out.1.p HT.out.2.1).mono ?_; rintro _ w4 ⟨v4, F4, now, out, rfl, q4⟩)
        all_goals (
          go_wp2_with fail
          go_meet
          obtain ⟨c1, c2, c3, c4, c5⟩ := q4
          have hod : (w3.drew).ownsRow wr.heap.size 33 1 (.slice bo3 ks.length bc3) ks.length (ks.map U) := own_below H4.out.2.1 (Below.refl _ w3).drew
          exact ⟨F4, now, out, rfl, ⟨fr_below H4.out.1.bel H4.out.1.new c2, c1, new_F H4.out.1.bel H4.out.1.new c3⟩, KRd.own (own_fr hod c2 H4.out.2.2), c4, c5⟩)
      case rest =>
        obtain ⟨F4, now, out, rfl, hLv, hWas, hGone, hSnd⟩ := hcut
        obtain ⟨bg, cg, e12⟩ := hGone.1.form
        subst e12
        obtain ⟨b', off', e', _, i1⟩ := HK.out.1.below hLv.bel i _ HT.out.2.2.2.2
        cases e'
        have H5 : Hid (Lv w wc P g F4 now ∧ KRd wc (.slice bo3 ks.length bc3) ks ∧ KRc wc (.slice bg out.length cg) out) := ⟨hLv, hWas, hGone⟩
        have HS : Hid (Snd (decide (kd = 4)) n k ks now out ∧ (∀ x, ct x ks ≤ 1) ∧ (∀ x, ct x now ≤ 1) ∧ ks.length ≤ n) := ⟨hSnd, HD.out.nd HT.out.1.p, HD.out.nd hLv.p, HD.out.le HT.out.1.p⟩
        clear hLv hWas hGone hSnd H4 i0
        go_wp2_with fail
        refine (HD.out.keys H5.out.1.p).mono ?_
        rintro _ w6 ⟨v6, rfl, o6, b6⟩
        obtain ⟨bo6, bc6, rfl⟩ := own_form o6
        obtain ⟨b', off', e', _, i2⟩ := HK.out.1.below (H5.out.1.bel.trans (b6.mono H5.out.1.bel.size)) i _ HT.out.2.2.2.2
        cases e'
        have H6 : Hid ((∃ F6, Lv w w6 P g F6 now) ∧ KRd w6 (.slice bo3 ks.length bc3) ks ∧ KRd w6 (.slice bg out.length cg) out ∧ KRd w6 (.slice bo6 now.length bc6) now ∧ out.length ≤ cg + 1 ∧ now.length ≤ bc6 + 1) := by
          obtain ⟨F6, p6, s6⟩ := HD.out.below H5.out.1.p b6
          exact ⟨⟨F6, H5.out.1.bel.trans (b6.mono H5.out.1.bel.size), p6, fun x hx => H5.out.1.new x (s6 x hx)⟩, H5.out.2.1.below b6, H5.out.2.2.1.below b6, KRd.own o6, H5.out.2.2.2 _ _ _ rfl, (KRc.own o6).2 _ _ _ rfl⟩
        clear o6 b6 i1 H5
        have HL : Hid (ks.length ≤ 1000000000 ∧ now.length ≤ 1000000000 ∧ out.length ≤ 1000000000) := by
          have h1 := HS.out.1.len
          have h2 := HS.out.1.le
          have h3 := HS.out.2.2.2
          have h4 := HZ.out.2.2
          have h5 : (if k ∈ ks then 0 else 1) ≤ 1 := by split <;> omega
          exact ⟨by omega, by omega, by omega⟩
        have HHA : Hid (∀ (u : World) (y : Nat) (z : Bool), Below w6.heap.size w6 u → decide (y ∈ ks) = z → Calls Try.prog 6 #[.slice bo3 ks.length bc3, U y] u fun e w' => e = .returned (.bool z) ∧ w' = u) := fun u y z hu e => by rw [← e]; exact hasK_any (H6.out.2.1.below hu) HL.out.1
        have HHN : Hid (∀ (u : World) (y : Nat) (z : Bool), Below w6.heap.size w6 u → decide (y ∈ now) = z → Calls Try.prog 6 #[.slice bo6 now.length bc6, U y] u fun e w' => e = .returned (.bool z) ∧ w' = u) := fun u y z hu e => by rw [← e]; exact hasK_any (H6.out.2.2.2.1.below hu) HL.out.2.1
        have HIN : Hid (decide (k ∈ now) = true) := decide_eq_true HS.out.1.isin
        have HND : Hid (decide (n < now.length) = false) := decide_eq_false (by have := HS.out.1.le; omega)
        have hns : (now.length : Int) ≤ (n : Int) := by have := HS.out.1.le; omega
        have hks : (ks.length : Int) ≤ (n : Int) := by have := HS.out.2.2.2; omega
        have hol : (out.length : Int) ≤ (ks.length : Int) + 1 := by
          have h1 := HS.out.1.len
          have h5 : (if k ∈ ks then 0 else 1) ≤ 1 := by split <;> omega
          omega
        have hlo : (out.length : Int) ≤ 1000000000 := by have := HL.out; omega
        have hln : (now.length : Int) ≤ 1000000000 := by have := HL.out; omega
        cases hh : decide (k ∈ ks)
        · have HH := show Hid (decide (k ∈ ks) = false) from hh
          have HIF : Hid ((if k ∈ ks then 0 else 1) = 1) := if_neg (of_decide_eq_false hh)
          have hle1 : ((now.length : Int) != (ks.length : Int) - (out.length : Int) + 1) = false := by
            have h1 := HS.out.1.len
            rw [HIF.out] at h1
            rw [bne_eq_false_iff_eq]
            omega
          clear hh
          go_upto_region 11 with fail
          go_cut [97] (fun s wx => s = .bool false ∧ w6 = wx)
          case first =>
            go_wp2_with fail
            refine (HHA.out _ k _ (Below.refl _ _) HH.out).mono ?_
            rintro _ w6 ⟨rfl, rfl⟩
            go_wp2_with fail
            refine (HHN.out _ k _ (Below.refl _ _) HIN.out).mono ?_
            rintro _ w6 ⟨rfl, rfl⟩
            go_wp2_with fail
            go_meet
            exact ⟨by first | rfl | (rw [HND.out]), rfl⟩
          case rest =>
            obtain ⟨rfl, rfl⟩ := hcut
            go_upto_region 13 with fail
            go_cut [110] (fun s wx => s = .bool false ∧ w6 = wx)
            case first =>
              by_cases h4 : kd = 4
              · have hk4 : ((kd : Int) != 4) = false := by rw [bne_eq_false_iff_eq]; omega
                clear h4
                go_wp2_with fail
                go_meet
                exact ⟨rfl, rfl⟩
              · have hk4 : ((kd : Int) != 4) = true := by rw [bne_iff_ne]; omega
                by_cases hls : (ks.length : Int) < (n : Int)
                · have hg0 : ((out.length : Int) != 0) = false := by rw [HS.out.1.full (decide_eq_false h4) (by omega)]; rfl
                  clear h4
                  go_wp2_with fail
                  go_meet
                  exact ⟨rfl, rfl⟩
                · clear h4
                  go_wp2_with fail
                  go_meet
                  exact ⟨rfl, rfl⟩
            case rest =>
              obtain ⟨rfl, rfl⟩ := hcut
              go_wp2_with fail
              refine (came_any (x := k) H6.out.2.1 H6.out.2.2.2.1 H6.out.2.2.1 HL.out.1 HL.out.2.1 HL.out.2.2 (HS.out.1.came1 HS.out.2.1) HS.out.1.came2 HS.out.1.came3).mono ?_
              rintro _ w6 ⟨rfl, rfl⟩
              go_wp2_with fail
              clear hle1 i2 hns hks
              go_loopg [15] out.length (fun gq x wr => ∃ j : Nat, j ≤ out.length ∧ gq = out.length - j ∧ x = I j ∧ Below w6.heap.size w6 wr)
              case atStart => exact ⟨0, Nat.zero_le _, rfl, rfl, Below.refl _ _⟩
              case round =>
                obtain ⟨j, hj, hgk, rfl, hb⟩ := hrel
                by_cases hlt : j < out.length
                · have hlt' : (j : Int) < (out.length : Int) := by omega
                  have hjc : (j : Int) ≤ (cg : Int) := by have := H6.out.2.2.2.2.1; omega
                  obtain ⟨g1, rfl, j1⟩ := (H6.out.2.2.1.below hb).at_ hlt
                  have hm := HS.out.1.gone HS.out.2.1 (List.getElem_mem hlt)
                  have hnt := take_no hlt hm.2.2
                  have HB : Hid (Below w6.heap.size w6 wr ∧ j < out.length ∧ gk = out.length - j) := ⟨hb, hlt, hgk⟩
                  generalize out[j] = y at *
                  have HY : Hid (decide (y ∈ ks) = true ∧ decide (y ∈ out.take j) = false ∧ decide (y ∈ now) = false) := ⟨decide_eq_true hm.1, decide_eq_false hnt, decide_eq_false hm.2.1⟩
                  have HU : Hid (∀ d, Below w6.heap.size w6 (wr.drewN d)) := fun d => hb.trans ((Go.Proofs.Yteoglkndmmmelaa.Nm.below_drewN wr d).mono hb.size)
                  have HHG : Hid (∀ u : World, Below w6.heap.size w6 u → Calls Try.prog 6 #[.slice (some ⟨g1, 0, none⟩) j cg, U y] u fun e w' => e = .returned (.bool false) ∧ w' = u) := fun u hu => by rw [← HY.out.2.1]; exact hasK_any ((H6.out.2.2.1.below hu).tk (by have := HB.out.2.1; omega)) (by rw [List.length_take]; have := HL.out.2.2; omega)
                  clear hm hnt hb hlt hj hgk
                  go_upto_region 23 with fail
                  go_quiet ((first | (go_at_call_of 6 (Value.slice bo3 ks.length bc3); exact Calls.quiet_of_same (HHA.out _ y true (HU.out _) HY.out.1)) | (go_at_call_of 6 (Value.slice (some ⟨g1, 0, none⟩) j cg); exact Calls.quiet_of_same (HHG.out _ (HU.out _))) | (go_at_call_of 6 (Value.slice bo6 now.length bc6); exact Calls.quiet_of_same (HHN.out _ y false (HU.out _) HY.out.2.2))))
                  go_wp2_with fail
                  go_roundg (out.length - (j + 1))
                  case measure => have h1 := HB.out.2.1; have := HB.out.2.2; omega
                  case rel => exact ⟨j + 1, HB.out.2.1, rfl, by go_num, HU.out _⟩
                · have HB : Hid (Below w6.heap.size w6 wr) := hb
                  have hnlt : ¬ ((j : Int) < (out.length : Int)) := by omega
                  clear hb hlt hgk hj
                  go_wp2_with fail
                  clear hnlt
                  go_loopg [16] now.length (fun gq x wr => ∃ j : Nat, j ≤ now.length ∧ gq = now.length - j ∧ x = I j ∧ Below w6.heap.size w6 wr)
                  case atStart => exact ⟨0, Nat.zero_le _, rfl, rfl, HB.out⟩
                  case round =>
                    clear HB
                    obtain ⟨j, hj, hgk, rfl, hb⟩ := hrel
                    by_cases hlt : j < now.length
                    · have hlt' : (j : Int) < (now.length : Int) := by omega
                      have hjc : (j : Int) ≤ (bc6 : Int) := by have := H6.out.2.2.2.2.2; omega
                      obtain ⟨g1, rfl, j1⟩ := (H6.out.2.2.2.1.below hb).at_ hlt
                      have hnt := take_no hlt (HS.out.2.2.1 _)
                      have HB : Hid (Below w6.heap.size w6 wr ∧ j < now.length ∧ gk = now.length - j) := ⟨hb, hlt, hgk⟩
                      generalize now[j] = y at *
                      have HY : Hid (decide (y ∈ now.take j) = false) := decide_eq_false hnt
                      have HU : Hid (∀ d, Below w6.heap.size w6 (wr.drewN d)) := fun d => hb.trans ((Go.Proofs.Yteoglkndmmmelaa.Nm.below_drewN wr d).mono hb.size)
                      have HHG : Hid (∀ u : World, Below w6.heap.size w6 u → Calls Try.prog 6 #[.slice (some ⟨g1, 0, none⟩) j bc6, U y] u fun e w' => e = .returned (.bool false) ∧ w' = u) := fun u hu => by rw [← HY.out]; exact hasK_any ((H6.out.2.2.2.1.below hu).tk (by have := HB.out.2.1; omega)) (by rw [List.length_take]; have := HL.out.2.1; omega)
                      clear hnt hb hlt hj hgk
                      go_upto_region 28 with fail
                      go_quiet ((go_at_call 6; exact Calls.quiet_of_same (HHG.out _ (HU.out _))))
                      go_wp2_with fail
                      go_roundg (now.length - (j + 1))
                      case measure => have h1 := HB.out.2.1; have := HB.out.2.2; omega
                      case rel => exact ⟨j + 1, HB.out.2.1, rfl, by go_num, HU.out _⟩
                    · have HB : Hid (Below w6.heap.size w6 wr) := hb
                      have hnlt : ¬ ((j : Int) < (now.length : Int)) := by omega
                      clear hb hlt hgk hj
                      go_wp2_with fail
                      go_roundg (min l.length 300 - (i + 1))
                      case measure => have h1 := HT.out.2.2.1; have := HT.out.2.2.2.1; omega
                      case rel =>
                        obtain ⟨⟨F6, h6⟩, _⟩ := H6.out
                        obtain ⟨F7, p7, s7⟩ := HD.out.below h6.p HB.out
                        exact ⟨i + 1, F7, now, HT.out.2.2.1, rfl, by go_num, h6.bel.trans (HB.out.mono h6.bel.size), p7, fun x hx => h6.new x (s7 x hx)⟩
        · have HH := show Hid (decide (k ∈ ks) = true) from hh
          have HIF : Hid ((if k ∈ ks then 0 else 1) = 0) := if_pos (of_decide_eq_true hh)
          have hgl : ((out.length : Int) != 0) = false := by rw [HS.out.1.hit (of_decide_eq_true hh)]; rfl
          have hle1 : ((now.length : Int) != (ks.length : Int) - (out.length : Int) + 0) = false := by
            have h1 := HS.out.1.len
            rw [HIF.out] at h1
            rw [bne_eq_false_iff_eq]
            omega
          have hle2 : ((now.length : Int) != (ks.length : Int) - (out.length : Int)) = false := by
            have h1 := HS.out.1.len
            rw [HIF.out] at h1
            rw [bne_eq_false_iff_eq]
            omega
          clear hh
          go_upto_region 11 with fail
          go_cut [97] (fun s wx => s = .bool false ∧ w6 = wx)
          case first =>
            go_wp2_with fail
            refine (HHA.out _ k _ (Below.refl _ _) HH.out).mono ?_
            rintro _ w6 ⟨rfl, rfl⟩
            go_wp2_with fail
            refine (HHN.out _ k _ (Below.refl _ _) HIN.out).mono ?_
            rintro _ w6 ⟨rfl, rfl⟩
            go_wp2_with fail
            go_meet
            exact ⟨by first | rfl | (rw [HND.out]), rfl⟩
          case rest =>
            obtain ⟨rfl, rfl⟩ := hcut
            go_upto_region 13 with fail
            go_cut [110] (fun s wx => s = .bool false ∧ w6 = wx)
            case first =>
              by_cases h4 : kd = 4
              · have hk4 : ((kd : Int) != 4) = false := by rw [bne_eq_false_iff_eq]; omega
                clear h4
                go_wp2_with fail
                go_meet
                exact ⟨rfl, rfl⟩
              · have hk4 : ((kd : Int) != 4) = true := by rw [bne_iff_ne]; omega
                by_cases hls : (ks.length : Int) < (n : Int)
                · have hg0 : ((out.length : Int) != 0) = false := by rw [HS.out.1.full (decide_eq_false h4) (by omega)]; rfl
                  clear h4
                  go_wp2_with fail
                  go_meet
                  exact ⟨rfl, rfl⟩
                · clear h4
                  go_wp2_with fail
                  go_meet
                  exact ⟨rfl, rfl⟩
            case rest =>
              obtain ⟨rfl, rfl⟩ := hcut
              go_wp2_with fail
              refine (came_any (x := k) H6.out.2.1 H6.out.2.2.2.1 H6.out.2.2.1 HL.out.1 HL.out.2.1 HL.out.2.2 (HS.out.1.came1 HS.out.2.1) HS.out.1.came2 HS.out.1.came3).mono ?_
              rintro _ w6 ⟨rfl, rfl⟩
              go_wp2_with fail
              clear hle1 i2 hns hks
              go_loopg [15] out.length (fun gq x wr => ∃ j : Nat, j ≤ out.length ∧ gq = out.length - j ∧ x = I j ∧ Below w6.heap.size w6 wr)
              case atStart => exact ⟨0, Nat.zero_le _, rfl, rfl, Below.refl _ _⟩
              case round =>
                obtain ⟨j, hj, hgk, rfl, hb⟩ := hrel
                by_cases hlt : j < out.length
                · have hlt' : (j : Int) < (out.length : Int) := by omega
                  have hjc : (j : Int) ≤ (cg : Int) := by have := H6.out.2.2.2.2.1; omega
                  obtain ⟨g1, rfl, j1⟩ := (H6.out.2.2.1.below hb).at_ hlt
                  have hm := HS.out.1.gone HS.out.2.1 (List.getElem_mem hlt)
                  have hnt := take_no hlt hm.2.2
                  have HB : Hid (Below w6.heap.size w6 wr ∧ j < out.length ∧ gk = out.length - j) := ⟨hb, hlt, hgk⟩
                  generalize out[j] = y at *
                  have HY : Hid (decide (y ∈ ks) = true ∧ decide (y ∈ out.take j) = false ∧ decide (y ∈ now) = false) := ⟨decide_eq_true hm.1, decide_eq_false hnt, decide_eq_false hm.2.1⟩
                  have HU : Hid (∀ d, Below w6.heap.size w6 (wr.drewN d)) := fun d => hb.trans ((Go.Proofs.Yteoglkndmmmelaa.Nm.below_drewN wr d).mono hb.size)
                  have HHG : Hid (∀ u : World, Below w6.heap.size w6 u → Calls Try.prog 6 #[.slice (some ⟨g1, 0, none⟩) j cg, U y] u fun e w' => e = .returned (.bool false) ∧ w' = u) := fun u hu => by rw [← HY.out.2.1]; exact hasK_any ((H6.out.2.2.1.below hu).tk (by have := HB.out.2.1; omega)) (by rw [List.length_take]; have := HL.out.2.2; omega)
                  clear hm hnt hb hlt hj hgk
                  go_upto_region 23 with fail
                  go_quiet ((first | (go_at_call_of 6 (Value.slice bo3 ks.length bc3); exact Calls.quiet_of_same (HHA.out _ y true (HU.out _) HY.out.1)) | (go_at_call_of 6 (Value.slice (some ⟨g1, 0, none⟩) j cg); exact Calls.quiet_of_same (HHG.out _ (HU.out _))) | (go_at_call_of 6 (Value.slice bo6 now.length bc6); exact Calls.quiet_of_same (HHN.out _ y false (HU.out _) HY.out.2.2))))
                  go_wp2_with fail
                  go_roundg (out.length - (j + 1))
                  case measure => have h1 := HB.out.2.1; have := HB.out.2.2; omega
                  case rel => exact ⟨j + 1, HB.out.2.1, rfl, by go_num, HU.out _⟩
                · have HB : Hid (Below w6.heap.size w6 wr) := hb
                  have hnlt : ¬ ((j : Int) < (out.length : Int)) := by omega
                  clear hb hlt hgk hj
                  go_wp2_with fail
                  clear hnlt
                  go_loopg [16] now.length (fun gq x wr => ∃ j : Nat, j ≤ now.length ∧ gq = now.length - j ∧ x = I j ∧ Below w6.heap.size w6 wr)
                  case atStart => exact ⟨0, Nat.zero_le _, rfl, rfl, HB.out⟩
                  case round =>
                    clear HB
                    obtain ⟨j, hj, hgk, rfl, hb⟩ := hrel
                    by_cases hlt : j < now.length
                    · have hlt' : (j : Int) < (now.length : Int) := by omega
                      have hjc : (j : Int) ≤ (bc6 : Int) := by have := H6.out.2.2.2.2.2; omega
                      obtain ⟨g1, rfl, j1⟩ := (H6.out.2.2.2.1.below hb).at_ hlt
                      have hnt := take_no hlt (HS.out.2.2.1 _)
                      have HB : Hid (Below w6.heap.size w6 wr ∧ j < now.length ∧ gk = now.length - j) := ⟨hb, hlt, hgk⟩
                      generalize now[j] = y at *
                      have HY : Hid (decide (y ∈ now.take j) = false) := decide_eq_false hnt
                      have HU : Hid (∀ d, Below w6.heap.size w6 (wr.drewN d)) := fun d => hb.trans ((Go.Proofs.Yteoglkndmmmelaa.Nm.below_drewN wr d).mono hb.size)
                      have HHG : Hid (∀ u : World, Below w6.heap.size w6 u → Calls Try.prog 6 #[.slice (some ⟨g1, 0, none⟩) j bc6, U y] u fun e w' => e = .returned (.bool false) ∧ w' = u) := fun u hu => by rw [← HY.out]; exact hasK_any ((H6.out.2.2.2.1.below hu).tk (by have := HB.out.2.1; omega)) (by rw [List.length_take]; have := HL.out.2.1; omega)
                      clear hnt hb hlt hj hgk
                      go_upto_region 28 with fail
                      go_quiet ((go_at_call 6; exact Calls.quiet_of_same (HHG.out _ (HU.out _))))
                      go_wp2_with fail
                      go_roundg (now.length - (j + 1))
                      case measure => have h1 := HB.out.2.1; have := HB.out.2.2; omega
                      case rel => exact ⟨j + 1, HB.out.2.1, rfl, by go_num, HU.out _⟩
                    · have HB : Hid (Below w6.heap.size w6 wr) := hb
                      have hnlt : ¬ ((j : Int) < (now.length : Int)) := by omega
                      clear hb hlt hgk hj
                      go_wp2_with fail
                      go_roundg (min l.length 300 - (i + 1))
                      case measure => have h1 := HT.out.2.2.1; have := HT.out.2.2.2.1; omega
                      case rel =>
                        obtain ⟨⟨F6, h6⟩, _⟩ := H6.out
                        obtain ⟨F7, p7, s7⟩ := HD.out.below h6.p HB.out
                        exact ⟨i + 1, F7, now, HT.out.2.2.1, rfl, by go_num, h6.bel.trans (HB.out.mono h6.bel.size), p7, fun x hx => h6.new x (s7 x hx)⟩
    · have HB : Hid (Below w.heap.size w wr) := hT.bel
      have hex : ¬ ((i : Int) < (l.length : Int)) ∨ ¬ ((i : Int) < 300) := by omega
      clear hT hlt hgk hi
      by_cases h1 : (i : Int) < (l.length : Int)
      · have h2 : ¬ ((i : Int) < 300) := hex.elim (fun h => absurd h1 h) id
        clear hex
        go_wp2_with fail
        refine (head_any _).mono ?_
        rintro _ w9 ⟨rfl, b9⟩
        have H9 : Hid (Below w.heap.size w w9) := HB.out.trans (b9.mono HB.out.size)
        clear b9
        go_wp2
        go_ret
        exact ⟨rfl, H9.out⟩
      · clear hex
        go_wp2_with fail
        refine (head_any _).mono ?_
        rintro _ w9 ⟨rfl, b9⟩
        have H9 : Hid (Below w.heap.size w w9) := HB.out.trans (b9.mono HB.out.size)
        clear b9
        go_wp2
        go_ret
        exact ⟨rfl, H9.out⟩
end Go.Proofs.Yteoglkndmmmelaa.Md

namespace Go.Proofs.Yteoglkndmmmelaa.Md
open Go.ChangeShapes Go.WideShapes Go.ChangeAt Go.RowKit

theorem u64_nat {z : Int} (h : (Lit.int .u64 z).wf = true) : (z.toNat : Int) = z ∧ z.toNat < 18446744073709551616 := by
  simp [Lit.wf, IntKind.min, IntKind.max, IntKind.bits, IntKind.signed] at h
  omega
/-- keys that are handed in -/
theorem open_keys {H : Type} {enc : TypeId × Value → H} {W : World} {a : Option Addr} {len cap : Nat} {d : DataW H} {p : List MemPlace} (h : DataW.Trod enc Try.prog W 0 (fun _ => true) true 22 (.slice a len cap) d p) :
    ∃ l : List Nat, len = l.length ∧ KIn W a l ∧ (∀ x ∈ l, x < 18446744073709551616) ∧ l.length ≤ maxLen := by
  obtain ⟨fuel, hf⟩ := h
  rcases open_ints Try.underlying22 Try.underlying33 (by kernel_rfl) hf with ⟨hcs, hx⟩ | ⟨x, l, c, zs, hcs, _, hl, hm, hz, hx, hcell, hwz⟩
  · simp [Value.cells] at hcs
    obtain ⟨rfl, rfl, rfl⟩ := hcs
    exact ⟨[], rfl, (fun k x hx => by simp at hx), (fun n hn => by cases hn), Nat.zero_le _⟩
  · simp [Value.cells] at hcs
    obtain ⟨rfl, rfl, rfl⟩ := hcs
    simp at hz
    refine ⟨(zs.take len).map Int.toNat, by simp; omega, fun i v hv => ?_, fun n hn => ?_, by simp; omega⟩
    · rw [List.getElem?_map, Option.map_eq_some_iff] at hv
      obtain ⟨y, hy, rfl⟩ := hv
      have hi : i < (zs.take len).length := (List.getElem?_eq_some_iff.1 hy).1
      have hi2 : i < len ∧ i < zs.length := by simp at hi; omega
      obtain ⟨b, off, spot⟩ := x
      have h0 := hcell 0 (by omega)
      have hspot : spot = none := by simpa [Addr.add] using World.cell?_spot h0
      subst hspot
      have hc := hcell i (by omega)
      rw [Lib.addr_add] at hc
      refine ⟨b, off, rfl, World.block_lt_of_cell? W _ hc, hc.trans ?_⟩
      have hy2 : zs[i]? = some y := by
        rw [List.getElem?_take_of_lt hi2.1] at hy
        exact hy
      rw [List.getD_eq_getElem?_getD, hy2]
      show some (Value.int .u64 y) = some (U y.toNat)
      unfold U
      rw [(u64_nat (hwz y (List.mem_of_getElem? hy2))).1]
    · obtain ⟨y, hy, rfl⟩ := List.mem_map.1 hn
      exact (u64_nat (hwz y (List.mem_of_mem_take hy))).2
end Go.Proofs.Yteoglkndmmmelaa.Md

namespace Go.Proofs.Yteoglkndmmmelaa.modelSound
open Go.ChangeShapes Go.WideShapes Go.ChangeAt Go.RowKit
open Go.Proofs.Yteoglkndmmmelaa.Md

set_option maxRecDepth 100000 in
theorem liftedF (os : Os) (started : os.Started) (H : Type) (enc : TypeId × Value → H) :
    ReturnsInHanded {} Try.checked os 3 .any (Rows.modelSoundSpec.pre6 enc Try.prog Try.f3 Rows.modelSoundRow.domain false) (Rows.modelSoundSpec.post enc Try.prog Try.f3 false true false false) := by
  refine returnsInHanded_of_change (C := Try.checked) own started (by kernel_rfl) Try.func3
    (ChangeSpec.witness6 (enc := enc) (C := Try.checked) false ⟨#[], #[.int .i64 0, .int .i64 0, .slice none 0 0], []⟩ 8 (by kernel_rfl) (by kernel_rfl) (by kernel_rfl) (by kernel_rfl)) ?_
  intro W base args ds gs before hval hW hcnd _
  have hW' := hW
  obtain ⟨p, q, hA0, hV, rfl, hfz, hnd⟩ := hW
  have hA : DataW.TrodAll enc Try.prog W 0 (fun _ => true) true Try.f3.params.toList args.toList ds p := hA0
  rw [Try.params3] at hA hval
  obtain ⟨v0, vs0, d0, ds0, p0, q0, hargs, rfl, rfl, h0, r0⟩ := trodAll_cons hA
  obtain ⟨v1, vs1, d1, ds1, p1, q1, rfl, rfl, rfl, h1, r1⟩ := trodAll_cons r0
  obtain ⟨v2, vs2, d2, ds2, p2, q2, rfl, rfl, rfl, h2, r2⟩ := trodAll_cons r1
  obtain ⟨rfl, rfl, rfl⟩ := trodAll_nil r2
  obtain rfl : args = #[v0, v1, v2] := by cases args; simp_all
  obtain ⟨rfl, rfl⟩ := trodVars_none hV
  obtain ⟨a0, rfl, rfl, rfl, w0⟩ := open_int Try.underlying3 (hval 0 3 v0 rfl rfl) h0
  obtain ⟨a1, rfl, rfl, rfl, w1⟩ := open_int Try.underlying3 (hval 1 3 v1 rfl rfl) h1
  obtain ⟨a2, len2, cap2, rfl⟩ := okWide_slice Try.underlying22 (hval 2 22 v2 rfl rfl)
  have lt2 : ∀ x ∈ p2, x.block < W.heap.size := by obtain ⟨m, hm⟩ := h2; exact DataW.trod_lt m _ _ _ hm
  obtain ⟨s2, rfl, ib2, kb2, lb2⟩ := open_keys h2
  refine (soundWalk a0 a1 a2 s2 cap2 W ib2 kb2 lb2).mono fun e W2 ⟨he, bel⟩ => ?_
  subst he
  exact ⟨_, rfl, _, _, _, [], _, [], hW', trodAll_mk1 (shut_bool Try.underlying4 _), (trodAll_cons_mk (shut_int Try.underlying3 w0) (trodAll_cons_mk (shut_int Try.underlying3 w1) (trodAll_cons_mk (Below.trod laidOut (by kernel_rfl) (of_decide_eq_true (by kernel_rfl)) h2 bel lt2) trodAll_mk0))), rfl, bel.frame _, fun h => by cases h⟩

theorem provedF : Rows.ModelSoundSaid :=
  OpenClaim.holds_of_wide 3 Try.f3 rfl rfl rfl rfl rfl rfl rfl ⟨rfl, rfl, rfl, rfl, rfl⟩ rfl rfl rfl rfl rfl (by kernel_rfl) Try.func3 (by kernel_rfl)
    (of_decide_eq_true (by kernel_rfl)) (by unfold Func.isWrapper; first | (rw [if_pos (by decide +kernel)]; kernel_rfl) | (rw [if_neg (by decide +kernel)]; exact ⟨rfl, rfl⟩))
    (fun os started H enc _ => liftedF os started H enc)
end Go.Proofs.Yteoglkndmmmelaa.modelSound
