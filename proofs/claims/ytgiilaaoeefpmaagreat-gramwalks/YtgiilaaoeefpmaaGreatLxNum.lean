import Derived.Test.YtgiilaaoeefpmaaGreatLxSkip
namespace Go.Proofs.YtgiilaaoeefpmaaGreat.Lx
open Go.RowKit Go.Proofs.YtgiilaaoeefpmaaGreat.Sp

theorem val_step (u : ByteArray) (k : Nat) (hk : k < u.size) : val 0 ((tx u).take (k + 1)) = capd (10 * val 0 ((tx u).take k) + (nb u k - 48)) := by
  have e : (tx u).take (k + 1) = (tx u).take k ++ [nb u k] := by
    rw [List.take_succ_eq_append_getElem (by rw [tx_len]; exact hk)]
    simp [nb, List.getD, List.getElem?_eq_getElem (show k < (tx u).length by rw [tx_len]; exact hk)]
  rw [e, val_append, val_cons, val_nil]
theorem val_whole (u : ByteArray) : val 0 ((tx u).take u.size) = val 0 (tx u) := by rw [List.take_of_length_le (by rw [tx_len]; exact Nat.le_refl _)]
theorem val_past {u : ByteArray} {k : Nat} (h : 1073741824 < val 0 ((tx u).take k)) : 1073741824 < val 0 (tx u) := by
  rw [← List.take_append_drop k (tx u), val_append]
  exact val_over _ h _
theorem capd_over {x : Nat} (h : 1073741824 < x) : 1073741824 < capd x := by unfold capd; rw [if_pos h]; omega
theorem capd_in {x : Nat} (h : x ≤ 1073741824) : capd x = x := by unfold capd; rw [if_neg (by omega)]
theorem digit_in {s : ByteArray} {a i : Nat} (hi : i < ru isD s a - a) : 48 ≤ nb (s.extract a (ru isD s a)) i ∧ nb (s.extract a (ru isD s a)) i ≤ 57 := by
  have h1 : nb (s.extract a (ru isD s a)) i ∈ tx (s.extract a (ru isD s a)) := by
    have : i < (tx (s.extract a (ru isD s a))).length := by
      rw [tx_extract, run_eq]
      have : ru isD s a - a = (((tx s).drop a).takeWhile isD).length := by unfold ru; omega
      omega
    simp [nb, List.getD, List.getElem?_eq_getElem this]
  rw [tx_extract, run_eq] at h1
  have h2 := takeWhile_mem _ h1
  simpa [isD] using h2

set_option maxHeartbeats 1600000 in
set_option maxRecDepth 100000 in
theorem number_any (ao : Option Addr) (s : ByteArray) (cap a : Nat) (w : World) (h : IsBytes w ao s) (hc : s.size ≤ cap) (ha : a < s.size) (hs : s.size ≤ 2097152) (hl : isD (nb s a) = true) :
    Calls Tryz.prog 110 #[.slice ao s.size cap, .int .i64 a] w fun e w' =>
      ((1073741824 < val 0 (tx (s.extract a (ru isD s a))) ∧ e = .returned (.tuple #[.agg #[.int .i64 0, .int .i64 0, .int .i64 0, .int .i64 0], .int .i64 12])) ∨ (val 0 (tx (s.extract a (ru isD s a))) ≤ 1073741824 ∧ e = .returned (.tuple #[.agg #[.int .i64 3, .int .i64 a, .int .i64 (ru isD s a : Nat), .int .i64 (val 0 (tx (s.extract a (ru isD s a))) : Nat)], .int .i64 0]))) ∧ Below w.heap.size w w' := by
  obtain ⟨e1, e2⟩ := ru_gt (p := isD) ha hl
  obtain ⟨A, C, hsl, hA, hC, hz⟩ := cut_any Tryz.underlying76 ao s cap a (ru isD s a) hc (by omega) e2
  have HW : Hid (∀ w', IsBytes w' ao s → Calls Tryz.prog 114 #[.slice ao s.size cap, .func (.func 109) #[] #[], .int .i64 a] w' fun e w'' => e = .returned (.int .i64 (ru isD s a : Nat)) ∧ w'' = w') := fun w' hb => whileDigit ao s cap a w' hb (by omega) hs
  have HD : Hid (∀ i, i < ru isD s a - a → 48 ≤ nb (s.extract a (ru isD s a)) i ∧ nb (s.extract a (ru isD s a)) i ≤ 57) := fun i hi => digit_in hi
  generalize ru isD s a = q at *
  generalize s.extract a q = u at *
  have HB : Hid (IsBytes w ao s) := h
  have HL : Hid (Below w.heap.size w (w.alloc (.cells #[.int .i64 0, .int .i64 0, .int .i64 0, .int .i64 0] 94))) := (Below.refl _ w).alloc (Nat.le_refl _) _
  have HA : Hid (IsBytes (w.alloc (.cells #[.int .i64 0, .int .i64 0, .int .i64 0, .int .i64 0] 94)) A u) := hA _ (HB.out.below HL.out)
  clear hA h
  have HU : Hid (u.size = q - a) := hz
  clear hz
  obtain ⟨m, hm⟩ : ∃ m, m = q - a := ⟨_, rfl⟩
  have hmi : (m : Int) = (q : Int) - (a : Int) := by omega
  rw [← hm] at hsl hC HD HU
  clear hm
  go_enter Tryz.func110, Tryz.ntmps110
  go_wp2_with fail
  refine (HW.out _ (HB.out.below HL.out)).mono ?_
  rintro e w' ⟨rfl, rfl⟩
  go_wp2
  clear hsl
  go_loop [7, 18] (fun n i => ∃ k : Nat, k ≤ m ∧ i = .int .i64 k ∧ n = .int .i64 (val 0 ((tx u).take k) : Nat) ∧ val 0 ((tx u).take k) ≤ 1073741824) (fun _ i => m - (intOf i).toNat)
  case atStart => exact ⟨0, Nat.zero_le _, rfl, rfl, by simp [val_nil]⟩
  case round =>
    obtain ⟨k, hk, rfl, rfl, hv⟩ := hrel
    by_cases hlt : k < m
    · have hus := HU.out
      have hd := HD.out k hlt
      have HS : Hid (val 0 ((tx u).take (k + 1)) = capd (10 * val 0 ((tx u).take k) + (nb u k - 48))) := val_step u k (by omega)
      obtain ⟨g, o, rfl, hg, hcl⟩ := HA.out k (by omega)
      by_cases hb : 10 * val 0 ((tx u).take k) + (nb u k - 48) ≤ 1073741824
      · have HX : Hid (val 0 ((tx u).take (k + 1)) = 10 * val 0 ((tx u).take k) + (nb u k - 48)) := by show _ = _; rw [HS.out, capd_in hb]
        generalize val 0 ((tx u).take k) = n at *
        generalize nb u k = c at *
        clear hus hg HS
        go_wp2
        go_round
        case rel => exact ⟨k + 1, by omega, by go_num, by rw [HX.out]; go_num, by rw [HX.out]; omega⟩
        case measure => simp [intOf]; omega
      · have HX : Hid (1073741824 < val 0 (tx u)) := val_past (k := k + 1) (by rw [HS.out]; exact capd_over (by omega))
        generalize val 0 ((tx u).take k) = n at *
        generalize nb u k = c at *
        clear hus hg HS
        go_wp2
        refine bodyPost_ret (v := .tuple #[.agg #[.int .i64 0, .int .i64 0, .int .i64 0, .int .i64 0], .int .i64 12]) (by simp [results, Tryz.results110, go_sem]) rfl ⟨Or.inl ⟨HX.out, rfl⟩, (Below.refl _ w).alloc (Nat.le_refl _) _⟩
    · obtain rfl : k = m := by omega
      have HX : Hid (val 0 ((tx u).take k) = val 0 (tx u)) := by show _ = _; rw [← val_whole u, HU.out]
      have hv2 : Hid (val 0 (tx u) ≤ 1073741824) := by show _ ≤ _; rw [← HX.out]; exact hv
      rw [HX.out]
      clear hv
      go_wp2
      refine bodyPost_ret (v := .tuple #[.agg #[.int .i64 3, .int .i64 a, .int .i64 q, .int .i64 (val 0 (tx u) : Nat)], .int .i64 0]) (by simp [results, Tryz.results110, go_sem]) rfl ⟨Or.inr ⟨hv2.out, rfl⟩, (Below.refl _ w).alloc (Nat.le_refl _) _⟩
end Go.Proofs.YtgiilaaoeefpmaaGreat.Lx
