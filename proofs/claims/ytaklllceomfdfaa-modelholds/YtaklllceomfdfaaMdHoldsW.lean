import Derived.Test.YtaklllceomfdfaaMdWtn
import Derived.Deep.DeepCutAuto
namespace Go.Proofs.Ytaklllceomfdfaa.Md
open Go.RowKit Go.Maps Go.Proofs.Ytaklllceomfdfaa.Nm

/-- two caches at work: apart, and made since W -/
structure Two (W w : World) (z ga gb : Nat) (F G ks ms : List Nat) : Prop where
  bel : Below W.heap.size W w
  ca : Ca w ga z F ks
  cb : Ca w gb (z + 1) G ms
  ap : ∀ x ∈ F, x ∉ G
  fa : ∀ x ∈ F, W.heap.size ≤ x
  fb : ∀ x ∈ G, W.heap.size ≤ x
section
variable {W w w' w1 : World} {z ga gb : Nat} {F G F' ks ms ks' : List Nat}
theorem mem_next (z : Nat) (ks : List Nat) (k : Nat) : k ∈ lruNext z ks k := by
  unfold lruNext
  split
  · simp
  · split <;> simp
theorem Two.below (h : Two W w z ga gb F G ks ms) (hb : Below w.heap.size w w') : Two W w' z ga gb F G ks ms :=
  ⟨h.bel.trans (hb.mono h.bel.size), h.ca.below hb, h.cb.below hb, h.ap, h.fa, h.fb⟩
theorem Two.stepA (h : Two W w z ga gb F G ks ms) (hc : Ca w' ga z F' ks') (hf : Fr F w w') (hF : ∀ x ∈ F', x ∈ F ∨ w.heap.size ≤ x) : Two W w' z ga gb F' G ks' ms :=
  ⟨fr_below h.bel h.fa hf, hc, h.cb.keep hf fun x hx hF => h.ap x hF hx, fun x hx hG => (hF x hx).elim (fun e => h.ap x e hG) (fun e => by have := h.cb.lt x hG; omega), new_F h.bel h.fa hF, h.fb⟩
theorem Two.stepB (h : Two W w z ga gb F G ks ms) (hc : Ca w' gb (z + 1) F' ks') (hf : Fr G w w') (hF : ∀ x ∈ F', x ∈ G ∨ w.heap.size ≤ x) : Two W w' z ga gb F F' ks ks' :=
  ⟨fr_below h.bel h.fb hf, h.ca.keep hf h.ap, hc, fun x hx hG => (hF x hG).elim (fun e => h.ap x hx e) (fun e => by have := h.ca.lt x hx; omega), h.fa, new_F h.bel h.fb hF⟩
end
set_option maxHeartbeats 3200000 in
set_option maxRecDepth 100000 in
theorem holdsWalk (n : Int) (a : Option Addr) (l : List Nat) (cap : Nat) (W : World) (hk : KIn W a l) (h64 : ∀ x ∈ l, x < 18446744073709551616) (hl : l.length ≤ maxLen) :
    Calls Try.prog 4 #[I n, .slice a l.length cap] W fun e w' => e = .returned (.bool true) ∧ Below W.heap.size W w' := by
  have HK : Hid (KIn W a l ∧ (∀ x ∈ l, x < 18446744073709551616) ∧ l.length ≤ maxLen) := ⟨hk, h64, hl⟩
  clear hk h64 hl
  have hnc := nilC
  have hma := mAcc
  have hmk := mKeys
  have hna := nAcc
  go_enter Try.func4, Try.ntmps4
  go_wp2_with fail
  refine (wtn_any n 1048575 (by omega) (by omega) W).mono ?_
  rintro _ w ⟨rfl, rfl⟩
  have hs := wtn_lt n (show 0 < 1048575 by omega)
  obtain ⟨s, hss⟩ : ∃ s, s = wtn n 1048575 := ⟨_, rfl⟩
  rw [← hss] at hs ⊢
  clear hss
  have hs' : (s : Int) < 1048575 := by omega
  have hs0 : (0 : Int) ≤ (s : Int) := by omega
  go_wp2_with fail
  rw [show (1 + (s : Int)) = ((1 + s : Nat) : Int) by omega]
  have hz1 : 1 ≤ 1 + s := by omega
  have hz2 : 1 + s ≤ 1048575 := by omega
  generalize 1 + s = z at *
  clear hs hs' hs0
  have hz1' : (1 : Int) ≤ (z : Int) := by omega
  have hz2' : (z : Int) ≤ 1048575 := by omega
  have HZ : Hid (1 ≤ z ∧ z ≤ 1048575) := ⟨hz1, hz2⟩
  clear hz1 hz2
  refine (newL_any w z HZ.out.1 (by have := HZ.out.2; omega)).mono ?_
  rintro _ w1 ⟨ga, F, rfl, q1, q2, q3⟩
  have H1 : Hid (Below w.heap.size w w1 ∧ Ca w1 ga z F [] ∧ ∀ x ∈ F, w.heap.size ≤ x) := ⟨q1, q2, q3⟩
  clear q1 q2 q3
  go_wp2_with fail
  rw [show ((z : Int) + 1) = ((z + 1 : Nat) : Int) by omega]
  refine (newL_any w1 (z + 1) (by omega) (by have := HZ.out.2; omega)).mono ?_
  rintro _ w2 ⟨gb, G, rfl, q1, q2, q3⟩
  have H2 : Hid (Two w w2 z ga gb F G [] []) := by
    obtain ⟨b1, b2, b3⟩ := H1.out
    exact ⟨b1.trans (q1.mono b1.size), b2.below q1, q2, fun x hx hg => by have := q3 x hg; have := b2.lt x hx; omega, b3, fun x hx => Nat.le_trans b1.size (q3 x hx)⟩
  clear q1 q2 q3 H1
  go_wp2_with fail
  go_loopg [9] (min l.length 600) (fun gq x wr => ∃ (i : Nat) (F G ks ms : List Nat), i ≤ min l.length 600 ∧ gq = min l.length 600 - i ∧ x = I i ∧ Two w wr z ga gb F G ks ms ∧ Inc z ks ms)
  case atStart => exact ⟨0, F, G, [], [], Nat.zero_le _, rfl, rfl, H2.out, Or.inl ⟨rfl, by simp⟩⟩
  case round =>
    clear H2
    obtain ⟨i, F, G, ks, ms, hi, hgk, rfl, hT, hInc⟩ := hrel
    by_cases hlt : i < min l.length 600
    · have hlt1 : (i : Int) < (l.length : Int) := by omega
      have hlt2 : (i : Int) < 600 := by omega
      have hx : l[i]? = some l[i] := List.getElem?_eq_getElem (by omega)
      have hk64 := HK.out.2.1 l[i] (List.getElem_mem _)
      obtain ⟨b, off, rfl, _, i0⟩ := HK.out.1.below hT.bel i _ hx
      generalize l[i] = k at *
      have HT : Hid (Two w wr z ga gb F G ks ms ∧ k < 18446744073709551616 ∧ i < min l.length 600 ∧ gk = min l.length 600 - i ∧ l[i]? = some k) := ⟨hT, hk64, hlt, hgk, hx⟩
      have HI : Hid (Inc z ks ms) := hInc
      obtain ⟨r0, hT0⟩ := hInc.pre
      have HL : Hid (ks.length ≤ z ∧ ms.length ≤ z + 1) := ⟨hT0.2.2.1, hT0.2.2.2⟩
      have HZ9 : Hid (z ≤ 1000000000 ∧ 0 < z ∧ z + 1 ≤ 1000000000) := by have := HZ.out; refine ⟨?_, ?_, ?_⟩ <;> omega
      clear hT hk64 hi hgk hlt hx hInc hT0
      go_upto_region 9 with fail
      go_cut [10, 11] (fun s10 _s11 wx => ∃ F4, s10 = .bool (decide (k ∈ ks)) ∧ Two w wx z ga gb F4 G (lruNext z ks k) ms)
      case first =>
        go_region_with (go_at_call 49; refine (lru_any (k := k) (HT.out.1.ca.below (Below.refl _ wr).drew) HT.out.2.1 HL.out.1 HZ9.out.1 HZ9.out.2.1).mono ?_; rintro _ w4 ⟨v4, F4, rfl, q4⟩)
        all_goals (go_wp2_with fail; go_meet; exact ⟨F4, rfl, (HT.out.1.below (Below.refl _ wr).drew).stepA q4.1 q4.2.1 q4.2.2.1⟩)
      case rest =>
        obtain ⟨F4, rfl, hT4⟩ := hcut
        obtain ⟨b', off', e', _, i1⟩ := HK.out.1.below hT4.bel i _ HT.out.2.2.2.2
        cases e'
        have HT4 : Hid (Two w wc z ga gb F4 G (lruNext z ks k) ms) := hT4
        clear hT4 i0
        go_upto_region 10 with fail
        go_cut [12, 13] (fun s12 _s13 wx => ∃ G5, s12 = .bool (decide (k ∈ ms)) ∧ Two w wx z ga gb F4 G5 (lruNext z ks k) (lruNext (z + 1) ms k))
        case first =>
          go_region_with (go_at_call 49; refine (lru_any (k := k) (HT4.out.cb.below (Below.refl _ wc).drew) HT.out.2.1 HL.out.2 HZ9.out.2.2 (Nat.succ_pos z)).mono ?_; rintro _ w5 ⟨v5, G5, rfl, q5⟩)
          all_goals (go_wp2_with fail; go_meet; exact ⟨G5, rfl, (HT4.out.below (Below.refl _ wc).drew).stepB q5.1 q5.2.1 q5.2.2.1⟩)
        case rest =>
          obtain ⟨G5, rfl, hT5⟩ := hcut
          have hInc := HI.out.next (k := k) HZ9.out.2.1 HT.out.1.cb.rw.nodup
          have hmem : k ∈ lruNext (z + 1) ms k := mem_next _ _ _
          have hpos : 0 < (lruNext (z + 1) ms k).length := List.length_pos_of_mem hmem
          generalize lruNext z ks k = ks' at *
          generalize lruNext (z + 1) ms k = ms' at *
          obtain ⟨r, e1, e2, e3, e4⟩ := hInc.pre
          have HR : Hid (Inc z ks' ms' ∧ (∃ r, ms' = ks' ++ r) ∧ ks'.length ≤ 1000000000 ∧ ms'.length ≤ 1000000000 ∧ 0 < ms'.length) := ⟨hInc, ⟨r, e1⟩, by have := HZ9.out; omega, by have := HZ9.out; omega, hpos⟩
          have l1 : (ks'.length : Int) ≤ (ms'.length : Int) := by rw [e1]; simp; omega
          have l2 : (ms'.length : Int) ≤ (ks'.length : Int) + 1 := by rw [e1]; simp; omega
          have l3 : (ms'.length : Int) ≤ 1000000000 := by have := HR.out.2.2.2.1; omega
          have l4 : (0 : Int) ≤ (ks'.length : Int) := by omega
          clear e1 e2 e3 e4 hmem hpos hInc HT4 i1
          have HT5 : Hid (Two w wc z ga gb F4 G5 ks' ms') := hT5
          clear hT5
          have hcase : (decide (k ∈ ks) = true ∧ decide (k ∈ ms) = true) ∨ decide (k ∈ ks) = false := by
            by_cases hm : k ∈ ks
            · exact Or.inl ⟨decide_eq_true hm, decide_eq_true (HI.out.sub hm)⟩
            · exact Or.inr (decide_eq_false hm)
          generalize decide (k ∈ ks) = pp at *
          generalize decide (k ∈ ms) = qq at *
          rcases hcase with ⟨rfl, rfl⟩ | rfl
          all_goals (
            go_wp2_with fail
            refine (HT5.out.ca.keys HR.out.2.2.1).mono ?_
            rintro _ w6 ⟨v6, rfl, o6, b6⟩
            obtain ⟨bo6, bc6, rfl⟩ := own_form o6
            have H6 : Hid (Two w w6 z ga gb F4 G5 ks' ms' ∧ KRd w6 (.slice bo6 ks'.length bc6) ks') := ⟨HT5.out.below b6, KRd.own o6⟩
            clear o6 b6 HT5
            go_wp2_with fail
            refine (H6.out.1.cb.keys HR.out.2.2.2.1).mono ?_
            rintro _ w7 ⟨v7, rfl, o7, b7⟩
            obtain ⟨g7, cap7, cur7, rfl, _, _, hc7, hc8, _⟩ := own_block o7 HR.out.2.2.2.2
            have H7 : Hid (Two w w7 z ga gb F4 G5 ks' ms' ∧ KRd w7 (.slice bo6 ks'.length bc6) ks' ∧ KRd w7 (.slice (some ⟨g7, 0, none⟩) ms'.length cap7) ms') := ⟨H6.out.1.below b7, H6.out.2.below b7, KRd.own o7⟩
            have l5 : (ks'.length : Int) ≤ (cap7 : Int) := by omega
            clear o7 b7 H6 hc7 hc8
            go_wp2_with fail
            obtain ⟨r, er⟩ := HR.out.2.1
            have ht : KRd w7 (.slice (some ⟨g7, 0, none⟩) ks'.length cap7) ks' := by
              have := H7.out.2.2
              rw [er] at this
              exact this.take
            refine (sameK_eq H7.out.2.1 ht HR.out.2.2.1).mono ?_
            rintro _ w8 ⟨rfl, b8⟩
            have H8 : Hid (Two w w8 z ga gb F4 G5 ks' ms') := H7.out.1.below b8
            clear b8 ht er H7
            go_wp2_with fail
            go_roundg (min l.length 600 - (i + 1))
            case measure => have h1 := HT.out.2.2.1; have := HT.out.2.2.2.1; omega
            case rel => exact ⟨i + 1, _, _, _, _, HT.out.2.2.1, rfl, by go_num, H8.out, HR.out.1⟩)
    · have HB : Hid (Below w.heap.size w wr) := hT.bel
      have hex : ¬ ((i : Int) < (l.length : Int)) ∨ ¬ ((i : Int) < 600) := by omega
      clear hT hInc hlt hgk hi
      by_cases h1 : (i : Int) < (l.length : Int)
      · have h2 : ¬ ((i : Int) < 600) := hex.elim (fun h => absurd h1 h) id
        clear hex
        go_wp2_with fail
        refine (head_any _).mono ?_
        rintro _ w9 ⟨rfl, b9⟩
        have H9 : Hid (Below w.heap.size w w9) := HB.out.trans (b9.mono HB.out.size)
        clear b9
        go_wp2
        go_ret
        exact ⟨rfl, H9.out⟩
      · clear hex
        go_wp2_with fail
        refine (head_any _).mono ?_
        rintro _ w9 ⟨rfl, b9⟩
        have H9 : Hid (Below w.heap.size w w9) := HB.out.trans (b9.mono HB.out.size)
        clear b9
        go_wp2
        go_ret
        exact ⟨rfl, H9.out⟩
end Go.Proofs.Ytaklllceomfdfaa.Md
