import Derived.Shelf.Abstract
import Derived.Test.YtenhjebiokegkaaLxIs
import Derived.Test.YtenhjebiokegkaaLxWhile
import Derived.Test.YtenhjebiokegkaaLxConv
namespace Go.Proofs.Ytenhjebiokegkaa.Lx
open Go.RowKit Go.Proofs.Ytenhjebiokegkaa.Sp Go.Shelf

theorem enters_inWord (args : Array Value) (w : World) : (callFunc 70 args).run Try.prog w = .ok (.enter 70 args) w := enters_of Try.func70 (by kernel_rfl) rfl args w
section
variable (ao : Option Addr) (s : ByteArray) (cap a : Nat) (w : World) (h : IsBytes w ao s) (ha : a ≤ s.size) (hs : s.size ≤ 2097152)
include h ha hs
theorem whileWord : Calls Try.prog 69 #[.slice ao s.size cap, .func (.func 70) #[] #[], .int .i64 a] w fun e w' => e = .returned (.int .i64 (ru isW s a : Nat)) ∧ w' = w :=
  while_any _ _ inWord_any enters_inWord ao s cap a w h ha hs
end
theorem drop_len (s : ByteArray) (i : Nat) : ((tx s).drop i).length = s.size - i := by rw [List.length_drop, tx_len]
theorem shaped_iff {s : ByteArray} (h : 0 < s.size) : shaped (tx s) = (isL (nb s 0) && decide (ru isW s 1 = s.size)) := by
  have e : tx s = nb s 0 :: (tx s).drop 1 := by have := tx_drop h; simpa using this
  rw [e]
  simp only [shaped]
  congr 1
  rw [Bool.eq_iff_iff, decide_eq_true_eq]
  have hl : ((tx s).drop 1).length = s.size - 1 := drop_len s 1
  constructor
  · intro h1
    unfold ru
    rw [takeWhile_all (List.all_eq_true.1 h1), hl]
    omega
  · intro h1
    unfold ru at h1
    refine List.all_eq_true.2 fun c hc => ?_
    have h2 : ((tx s).drop 1).takeWhile isW = (tx s).drop 1 := by
      have h3 := takeWhile_take (p := isW) ((tx s).drop 1)
      rw [← h3, List.take_of_length_le (by omega)]
    rw [← h2] at hc
    exact takeWhile_mem _ hc
theorem isName_of (s : ByteArray) : isName (tx s) = (decide (0 < s.size) && decide (s.size ≤ 64) && !kp (tx s) && isL (nb s 0) && decide (ru isW s 1 = s.size)) := by
  by_cases h : 0 < s.size
  · unfold isName
    rw [shaped_iff h, tx_len]
    show _ = (_ && _ && !kept.contains (tx s) && _ && _)
    rw [Bool.eq_iff_iff]
    simp [h]
    constructor
    · rintro ⟨⟨a, b, c⟩, d⟩; exact ⟨⟨⟨a, d⟩, b⟩, c⟩
    · rintro ⟨⟨⟨a, d⟩, b⟩, c⟩; exact ⟨⟨a, b, c⟩, d⟩
  · have e : tx s = [] := by
      apply List.eq_nil_of_length_eq_zero
      rw [tx_len]; omega
    rw [e]
    simp [isName, shaped, h]

set_option maxHeartbeats 1600000 in
set_option maxRecDepth 100000 in
theorem isName_any (s : ByteArray) (w : World) : Calls Try.prog 66 #[.string s] w fun e w' => e = .returned (.bool (isName (tx s))) ∧ Below w.heap.size w w' := by
  have HF : Hid (isName (tx s) = (decide (0 < s.size) && decide (s.size ≤ 64) && !kp (tx s) && isL (nb s 0) && decide (ru isW s 1 = s.size))) := isName_of s
  generalize isName (tx s) = z at *
  have HL : Hid (s.toList.length = s.size) := by rw [Lib.toList_data]; simp [Hid]
  by_cases h0 : s.size = 0
  · have e0 : s.toList = [] := List.eq_nil_of_length_eq_zero (by rw [HL.out, h0])
    have HZ : Hid (z = false) := by show _ = _; rw [HF.out, h0]; rfl
    go_enter Try.func66, Try.ntmps66
    go_wp2
    go_ret
    exact ⟨ret_b HZ.out.symm, Below.refl _ _⟩
  · have e0 : s.toList.isEmpty = false := by
      cases h1 : s.toList with
      | nil => have := HL.out; rw [h1] at this; simp at this; omega
      | cons => rfl
    have e1 : (s.toList == []) = false := by
      cases h1 : s.toList with
      | nil => rw [h1] at e0; cases e0
      | cons => rfl
    by_cases h64 : 64 < s.size
    · have HZ : Hid (z = false) := by
        show _ = _
        rw [HF.out]
        have : decide (s.size ≤ 64) = false := by simp; omega
        rw [this]; simp
      go_enter Try.func66, Try.ntmps66
      go_wp2
      go_ret
      exact ⟨ret_b HZ.out.symm, Below.refl _ _⟩
    · have hd : decide ((64 : Int) < (s.size : Int)) = false := by simp; omega
      have HD : Hid (decide (0 < s.size) = true ∧ decide (s.size ≤ 64) = true) := ⟨by simp; omega, by simp; omega⟩
      by_cases hkp : kp (tx s) = true
      · have HZ : Hid (z = false) := by show _ = _; rw [HF.out, hkp]; simp
        go_enter Try.func66, Try.ntmps66
        go_wp2_with (go_at_call 67; refine (is_any s _).mono ?_; rintro e w' ⟨rfl, rfl⟩)
        go_ret
        exact ⟨ret_b HZ.out.symm, Below.refl _ _⟩
      · have hkp : kp (tx s) = false := by simpa using hkp
        have hix := at_any s 0 0 rfl (by omega)
        by_cases hl : isL (nb s 0) = true
        · have HZ : Hid (z = decide ((ru isW s 1 : Int) = (s.size : Int))) := by
            show _ = _
            rw [HF.out, HD.out.1, HD.out.2, hkp, hl, Bool.eq_iff_iff]
            simp
            omega
          obtain ⟨cap, w1, hcv, hB1, hbel, hcap⟩ := bytes_any Try.underlying99 s w
          have HB1 : Hid (IsBytes w1 (some ⟨w.heap.size, 0, none⟩) s) := hB1
          have HE : Hid (Below w.heap.size w w1) := hbel
          clear hB1 hbel
          go_enter Try.func66, Try.ntmps66
          go_wp2_with (first | (go_at_call 67; refine (is_any s _).mono ?_; rintro e w' ⟨rfl, rfl⟩) | (go_at_call 68; refine (beginsWord_any _ _).mono ?_; rintro e w' ⟨rfl, rfl⟩) | (go_at_call 69; refine (whileWord _ s cap 1 _ HB1.out (by omega) (by omega)).mono ?_; rintro e w' ⟨rfl, rfl⟩))
          go_ret
          exact ⟨ret_b (by rw [HZ.out]; rfl), HE.out⟩
        · have hl : isL (nb s 0) = false := by simpa using hl
          have HZ : Hid (z = false) := by show _ = _; rw [HF.out, hl]; simp
          go_enter Try.func66, Try.ntmps66
          go_wp2_with (first | (go_at_call 67; refine (is_any s _).mono ?_; rintro e w' ⟨rfl, rfl⟩) | (go_at_call 68; refine (beginsWord_any _ _).mono ?_; rintro e w' ⟨rfl, rfl⟩))
          go_ret
          exact ⟨ret_b HZ.out.symm, Below.refl _ _⟩
end Go.Proofs.Ytenhjebiokegkaa.Lx
