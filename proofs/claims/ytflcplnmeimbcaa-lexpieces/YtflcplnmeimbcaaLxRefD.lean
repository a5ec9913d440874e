import Derived.Test.YtflcplnmeimbcaaLxRefB
import Derived.Test.YtflcplnmeimbcaaLxRefC
namespace Go.Proofs.Ytflcplnmeimbcaa.Lx
open Go.RowKit Go.Proofs.Ytflcplnmeimbcaa.Sp

theorem am_signs (t : List Nat) (ht : 0 < t.length) : am signText t = decide (t ∈ signs) := by
  unfold am
  rw [inner_signs, Bool.eq_iff_iff]
  simp only [Bool.and_eq_true, decide_eq_true_eq]
  constructor
  · exact fun h => h.2
  · intro h
    refine ⟨⟨ht, ?_⟩, h⟩
    have : signs.all (fun t => t.all (· != 32)) = true := by decide +kernel
    exact List.all_eq_true.1 this t h
theorem two_bytes {s : ByteArray} {a : Nat} (h : a + 1 < s.size) : tx (s.extract a (a + 2)) = [nb s a, nb s (a + 1)] := by
  rw [tx_extract, tx_drop (by omega), tx_drop h, show a + 2 - a = 2 by omega]
  rfl
theorem one_byte {s : ByteArray} {a : Nat} (h : a < s.size) : tx (s.extract a (a + 1)) = [nb s a] := by
  rw [tx_extract, tx_drop h, show a + 1 - a = 1 by omega]
  rfl
theorem am_two {s : ByteArray} {a : Nat} (h : a + 1 < s.size) : am signText (tx (s.extract a (a + 2))) = s2 (nb s a) (nb s (a + 1)) := by
  rw [two_bytes h, am_signs _ (by simp), Bool.eq_iff_iff, decide_eq_true_eq, signs_two]
  rfl
theorem am_one {s : ByteArray} {a : Nat} (h : a < s.size) : am signText (tx (s.extract a (a + 1))) = s1 (nb s a) := by
  rw [one_byte h, am_signs _ (by simp), Bool.eq_iff_iff, decide_eq_true_eq, signs_one]
  rfl

section
variable (ao : Option Addr) (s : ByteArray) (cap a : Nat) (w : World) (h : IsBytes w ao s) (hc : s.size ≤ cap) (ha : a < s.size) (hs : s.size ≤ 2097152)
include h hc ha hs

set_option maxHeartbeats 3200000 in
theorem refWord (kd : Nat) (hl : isL (nb s a) = true) (hk : (kd = 5 ∧ kp (tx (s.extract a (ru isW s a))) = true) ∨ (kd = 2 ∧ kp (tx (s.extract a (ru isW s a))) = false)) :
    Calls Try.prog 24 #[.slice ao s.size cap, .int .i64 a] w fun e w' => e = .returned (.tuple #[.int .i64 kd, .int .i64 (ru isW s a : Nat)]) ∧ w' = w := by
  obtain ⟨e1, e2⟩ := ru_gt (p := isW) ha (isL_W _ hl)
  obtain ⟨A, C, hsl, hA, hC, hz⟩ := cut_any Try.underlying22 ao s cap a (ru isW s a) hc (by omega) e2
  have HB : Hid (IsBytes w ao s) := h
  have hcv : (convert 22 9 (.slice A (ru isW s a - a) C)).run Try.prog w = .ok (.string (s.extract a (ru isW s a))) w := by
    rw [← hz]
    exact conv_any Try.underlying22 A _ C w (hA w HB.out)
  have HK : Hid (kp (tx (s.extract a (ru isW s a))) = true → ru isW s a - a ≤ 20) := fun h1 => by
    have := (shaped_of_kept (t := tx (s.extract a (ru isW s a))) h1).2
    rw [tx_len, hz] at this
    exact this
  have HC : Hid ((kd = 5 ∧ kp (tx (s.extract a (ru isW s a))) = true) ∨ (kd = 2 ∧ kp (tx (s.extract a (ru isW s a))) = false)) := hk
  have HQ : Hid (∀ w, Calls Try.prog 17 #[.string (s.extract a (ru isW s a))] w fun e w' => e = .returned (.bool (kp (tx (s.extract a (ru isW s a))))) ∧ w' = w) := fun w => refIs_any _ w (by rw [hz]; omega)
  obtain ⟨q, Hq⟩ : ∃ q, Hid (q = ru isW s a) := ⟨_, rfl⟩
  rw [← Hq.out] at hsl hcv HK HC HQ e1 e2 hz hC ⊢
  clear h hA hk
  obtain ⟨g, o, rfl, hg, hcl⟩ := HB.out a ha
  go_enter Try.func24, Try.ntmps24
  go_wp2_with (go_at_call 33; refine (letter_any _ _).mono ?_; rintro e w' ⟨rfl, rfl⟩)
  go_loop [6] (fun i => ∃ k : Nat, a ≤ k ∧ k ≤ s.size ∧ i = .int .i64 k ∧ ru isW s k = q) (fun i => s.size - (intOf i).toNat)
  case atStart => exact ⟨a, Nat.le_refl _, by omega, rfl, Hq.out.symm⟩
  case round =>
    obtain ⟨k, hk0, hk, rfl, hr⟩ := hrel
    have HR : Hid (ru isW s k = q) := hr
    clear hr hcl
    have done : k = q → k ≤ s.size := fun _ => hk
    clear done
    by_cases hlt : k < s.size
    · obtain ⟨g', o', e, _, hck⟩ := HB.out k hlt
      simp at e
      obtain ⟨rfl, rfl⟩ := e
      by_cases hL : isL (nb s k) = true
      · have HN : Hid (ru isW s (k + 1) = q) := by rw [← HR.out, ru_in hlt (isL_W _ hL)]; exact rfl
        generalize nb s k = c at *
        clear hsl hcv
        go_wp2_with (first | (go_at_call 33; refine (letter_any _ _).mono ?_; rintro e w' ⟨rfl, rfl⟩) | (go_at_call 34; refine (digit_any _ _).mono ?_; rintro e w' ⟨rfl, rfl⟩))
        go_round
        case rel => exact ⟨k + 1, by omega, by omega, by go_num, HN.out⟩
        case measure => simp [intOf]; omega
      · have hL : isL (nb s k) = false := by simpa using hL
        by_cases hD : isD (nb s k) = true
        · have HN : Hid (ru isW s (k + 1) = q) := by rw [← HR.out, ru_in hlt (by simp [isW, hD])]; exact rfl
          generalize nb s k = c at *
          clear hsl hcv
          go_wp2_with (first | (go_at_call 33; refine (letter_any _ _).mono ?_; rintro e w' ⟨rfl, rfl⟩) | (go_at_call 34; refine (digit_any _ _).mono ?_; rintro e w' ⟨rfl, rfl⟩))
          go_round
          case rel => exact ⟨k + 1, by omega, by omega, by go_num, HN.out⟩
          case measure => simp [intOf]; omega
        · have hD : isD (nb s k) = false := by simpa using hD
          obtain rfl : k = q := by rw [← HR.out, ru_out hlt (by simp [isW, hL, hD])]
          generalize nb s k = c at *
          generalize s.extract a k = u at *
          generalize kp (tx u) = y at *
          rcases HC.out with ⟨rfl, rfl⟩ | ⟨rfl, rfl⟩
          · have h20 : (k : Int) - (a : Int) ≤ 20 := by have := HK.out rfl; omega
            go_wp2_with (first | (go_at_call 33; refine (letter_any _ _).mono ?_; rintro e w' ⟨rfl, rfl⟩) | (go_at_call 34; refine (digit_any _ _).mono ?_; rintro e w' ⟨rfl, rfl⟩) | (go_at_call 17; refine (HQ.out _).mono ?_; rintro e w' ⟨rfl, rfl⟩))
            go_ret2
            exact ⟨rfl, rfl⟩
          · by_cases h20 : (k : Int) - (a : Int) ≤ 20
            · go_wp2_with (first | (go_at_call 33; refine (letter_any _ _).mono ?_; rintro e w' ⟨rfl, rfl⟩) | (go_at_call 34; refine (digit_any _ _).mono ?_; rintro e w' ⟨rfl, rfl⟩) | (go_at_call 17; refine (HQ.out _).mono ?_; rintro e w' ⟨rfl, rfl⟩))
              go_ret2
              exact ⟨rfl, rfl⟩
            · have hd20 : decide ((k : Int) - (a : Int) ≤ 20) = false := by simpa using h20
              go_wp2_with (first | (go_at_call 33; refine (letter_any _ _).mono ?_; rintro e w' ⟨rfl, rfl⟩) | (go_at_call 34; refine (digit_any _ _).mono ?_; rintro e w' ⟨rfl, rfl⟩) | (go_at_call 17; refine (HQ.out _).mono ?_; rintro e w' ⟨rfl, rfl⟩))
              go_ret2
              exact ⟨rfl, rfl⟩
    · have hkq : k = q := by rw [← HR.out, ru_end (by omega)]
      subst hkq
      have hd : decide ((k : Int) < (s.size : Int)) = false := by simp; omega
      generalize s.extract a k = u at *
      generalize kp (tx u) = y at *
      rcases HC.out with ⟨rfl, rfl⟩ | ⟨rfl, rfl⟩
      · have h20 : (k : Int) - (a : Int) ≤ 20 := by have := HK.out rfl; omega
        go_wp2_with (go_at_call 17; refine (HQ.out _).mono ?_; rintro e w' ⟨rfl, rfl⟩)
        go_ret2
        exact ⟨rfl, rfl⟩
      · by_cases h20 : (k : Int) - (a : Int) ≤ 20
        · go_wp2_with (go_at_call 17; refine (HQ.out _).mono ?_; rintro e w' ⟨rfl, rfl⟩)
          go_ret2
          exact ⟨rfl, rfl⟩
        · have hd20 : decide ((k : Int) - (a : Int) ≤ 20) = false := by simpa using h20
          go_wp2_with (go_at_call 17; refine (HQ.out _).mono ?_; rintro e w' ⟨rfl, rfl⟩)
          go_ret2
          exact ⟨rfl, rfl⟩

omit hc in
set_option maxHeartbeats 1600000 in
theorem refNum (hl : isL (nb s a) = false) (hdg : isD (nb s a) = true) :
    Calls Try.prog 24 #[.slice ao s.size cap, .int .i64 a] w fun e w' => e = .returned (.tuple #[.int .i64 3, .int .i64 (ru isD s a : Nat)]) ∧ w' = w := by
  have HB : Hid (IsBytes w ao s) := h
  obtain ⟨q, Hq⟩ : ∃ q, Hid (q = ru isD s a) := ⟨_, rfl⟩
  rw [← Hq.out]
  clear h
  obtain ⟨g, o, rfl, hg, hcl⟩ := HB.out a ha
  go_enter Try.func24, Try.ntmps24
  go_wp2_with (first | (go_at_call 33; refine (letter_any _ _).mono ?_; rintro e w' ⟨rfl, rfl⟩) | (go_at_call 34; refine (digit_any _ _).mono ?_; rintro e w' ⟨rfl, rfl⟩))
  go_loop [6] (fun i => ∃ k : Nat, a ≤ k ∧ k ≤ s.size ∧ i = .int .i64 k ∧ ru isD s k = q) (fun i => s.size - (intOf i).toNat)
  case atStart => exact ⟨a, Nat.le_refl _, by omega, rfl, Hq.out.symm⟩
  case round =>
    obtain ⟨k, hk0, hk, rfl, hr⟩ := hrel
    have HR : Hid (ru isD s k = q) := hr
    clear hr hcl
    by_cases hlt : k < s.size
    · obtain ⟨g', o', e, _, hck⟩ := HB.out k hlt
      simp at e
      obtain ⟨rfl, rfl⟩ := e
      by_cases hD : isD (nb s k) = true
      · have HN : Hid (ru isD s (k + 1) = q) := by rw [← HR.out, ru_in hlt hD]; exact rfl
        generalize nb s k = c at *
        go_wp2_with (go_at_call 34; refine (digit_any _ _).mono ?_; rintro e w' ⟨rfl, rfl⟩)
        go_round
        case rel => exact ⟨k + 1, by omega, by omega, by go_num, HN.out⟩
        case measure => simp [intOf]; omega
      · have hD : isD (nb s k) = false := by simpa using hD
        obtain rfl : k = q := by rw [← HR.out, ru_out hlt hD]
        generalize nb s k = c at *
        go_wp2_with (go_at_call 34; refine (digit_any _ _).mono ?_; rintro e w' ⟨rfl, rfl⟩)
        go_ret2
        exact ⟨rfl, rfl⟩
    · have hkq : k = q := by rw [← HR.out, ru_end (by omega)]
      subst hkq
      have hd : decide ((k : Int) < (s.size : Int)) = false := by simp; omega
      go_wp2
      go_ret2
      exact ⟨rfl, rfl⟩

set_option maxHeartbeats 3200000 in
set_option maxRecDepth 100000 in
theorem refSign (hl : isL (nb s a) = false) (hdg : isD (nb s a) = false) :
    Calls Try.prog 24 #[.slice ao s.size cap, .int .i64 a] w fun e w' =>
      e = .returned (.tuple (if a + 1 < s.size ∧ s2 (nb s a) (nb s (a + 1)) = true then #[.int .i64 4, .int .i64 (a + 2 : Nat)] else if s1 (nb s a) = true then #[.int .i64 4, .int .i64 (a + 1 : Nat)] else #[.int .i64 (-1), .int .i64 a])) ∧ w' = w := by
  have HB : Hid (IsBytes w ao s) := h
  obtain ⟨A1, C1, hsl1, hA1, hC1, hz1⟩ := cut_any Try.underlying22 ao s cap a (a + 1) hc (by omega) (by omega)
  have hcv1 : (convert 22 9 (.slice A1 (a + 1 - a) C1)).run Try.prog w = .ok (.string (s.extract a (a + 1))) w := by
    rw [← hz1]
    exact conv_any Try.underlying22 A1 _ C1 w (hA1 w HB.out)
  rw [show a + 1 - a = 1 by omega] at hsl1 hcv1
  rw [show ((a + 1 : Nat) : Int) = (a : Int) + 1 by omega] at hsl1
  have HQ1 : Hid (∀ K : ByteArray, (tx K = signText ∧ K.size ≤ 4096) → ∀ w, Calls Try.prog 26 #[.string K, .string (s.extract a (a + 1))] w fun e w' => e = .returned (.bool (s1 (nb s a))) ∧ w' = w) := fun K hK w => by
    have := among_at K (s.extract a (a + 1)) signText w hK (by rw [hz1]; omega)
    rw [am_one ha] at this
    exact this
  have go : ∀ k : Nat, ((k : Int) = (a : Int) + 2) → (k : Int) = (a : Int) + 2 := fun _ h => h
  clear go
  obtain ⟨u1, hu1⟩ : ∃ u1, u1 = s.extract a (a + 1) := ⟨_, rfl⟩
  rw [← hu1] at hcv1 HQ1
  clear hu1 hz1 hA1
  by_cases h2 : a + 1 < s.size
  · obtain ⟨A2, C2, hsl2, hA2, hC2, hz2⟩ := cut_any Try.underlying22 ao s cap a (a + 2) hc (by omega) (by omega)
    have hcv2 : (convert 22 9 (.slice A2 (a + 2 - a) C2)).run Try.prog w = .ok (.string (s.extract a (a + 2))) w := by
      rw [← hz2]
      exact conv_any Try.underlying22 A2 _ C2 w (hA2 w HB.out)
    rw [show a + 2 - a = 2 by omega] at hsl2 hcv2
    rw [show ((a + 2 : Nat) : Int) = (a : Int) + 2 by omega] at hsl2
    have HQ2 : Hid (∀ K : ByteArray, (tx K = signText ∧ K.size ≤ 4096) → ∀ w, Calls Try.prog 26 #[.string K, .string (s.extract a (a + 2))] w fun e w' => e = .returned (.bool (s2 (nb s a) (nb s (a + 1)))) ∧ w' = w) := fun K hK w => by
      have := among_at K (s.extract a (a + 2)) signText w hK (by rw [hz2]; omega)
      rw [am_two h2] at this
      exact this
    obtain ⟨u2, hu2⟩ : ∃ u2, u2 = s.extract a (a + 2) := ⟨_, rfl⟩
    rw [← hu2] at hcv2 HQ2
    clear hu2 hz2 hA2 h
    have hle : (a : Int) + 2 ≤ (s.size : Int) := by omega
    obtain ⟨g, o, rfl, hg, hcl⟩ := HB.out a ha
    by_cases h3 : s2 (nb s a) (nb s (a + 1)) = true
    · rw [if_pos ⟨h2, h3⟩]
      generalize s2 (nb s a) (nb s (a + 1)) = y at *
      subst h3
      generalize s1 (nb s a) = x at *
      generalize nb s a = c at *
      go_enter Try.func24, Try.ntmps24
      go_wp2_with (first | (go_at_call 33; refine (letter_any _ _).mono ?_; rintro e w' ⟨rfl, rfl⟩) | (go_at_call 34; refine (digit_any _ _).mono ?_; rintro e w' ⟨rfl, rfl⟩))
      refine (HQ2.out _ (by decide +kernel) _).mono ?_
      rintro e w' ⟨rfl, rfl⟩
      go_wp2
      go_ret2
      exact ⟨rfl, rfl⟩
    · rw [if_neg (fun h4 => h3 h4.2)]
      have h3 : s2 (nb s a) (nb s (a + 1)) = false := by simpa using h3
      generalize s2 (nb s a) (nb s (a + 1)) = y at *
      subst h3
      generalize s1 (nb s a) = x at *
      generalize nb s a = c at *
      go_enter Try.func24, Try.ntmps24
      go_wp2_with (first | (go_at_call 33; refine (letter_any _ _).mono ?_; rintro e w' ⟨rfl, rfl⟩) | (go_at_call 34; refine (digit_any _ _).mono ?_; rintro e w' ⟨rfl, rfl⟩))
      refine (HQ2.out _ (by decide +kernel) _).mono ?_
      rintro e w' ⟨rfl, rfl⟩
      go_wp2_with fail
      refine (HQ1.out _ (by decide +kernel) _).mono ?_
      rintro e w' ⟨rfl, rfl⟩
      cases x with
      | true =>
        go_wp2
        go_ret2
        exact ⟨rfl, rfl⟩
      | false =>
        go_wp2
        go_ret2
        exact ⟨rfl, rfl⟩
  · rw [if_neg (fun h4 => h2 h4.1)]
    have hd : decide ((a : Int) + 2 ≤ (s.size : Int)) = false := by simp; omega
    obtain ⟨g, o, rfl, hg, hcl⟩ := HB.out a ha
    clear h
    generalize s1 (nb s a) = x at *
    generalize nb s a = c at *
    go_enter Try.func24, Try.ntmps24
    go_wp2_with (first | (go_at_call 33; refine (letter_any _ _).mono ?_; rintro e w' ⟨rfl, rfl⟩) | (go_at_call 34; refine (digit_any _ _).mono ?_; rintro e w' ⟨rfl, rfl⟩))
    refine (HQ1.out _ (by decide +kernel) _).mono ?_
    rintro e w' ⟨rfl, rfl⟩
    cases x with
    | true =>
      go_wp2
      go_ret2
      exact ⟨rfl, rfl⟩
    | false =>
      go_wp2
      go_ret2
      exact ⟨rfl, rfl⟩
end
end Go.Proofs.Ytflcplnmeimbcaa.Lx
