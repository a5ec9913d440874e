import Derived.Test.YtflcplnmeimbcaaLxRefA
namespace Go.Proofs.Ytflcplnmeimbcaa.Lx
open Go.RowKit Go.Proofs.Ytflcplnmeimbcaa.Sp

set_option maxHeartbeats 1600000 in
theorem blank_any (ao : Option Addr) (s : ByteArray) (cap a : Nat) (w : World) (h : IsBytes w ao s) (ha : a ≤ s.size) (hs : s.size ≤ 2097152) :
    Calls Try.prog 23 #[.slice ao s.size cap, .int .i64 a] w fun e w' => e = .returned (.int .i64 (bl s a : Nat)) ∧ w' = w := by
  have HB : Hid (IsBytes w ao s) := h
  clear h
  go_enter Try.func23, Try.ntmps23
  go_wp2
  go_loop [1] (fun i => ∃ k : Nat, k ≤ s.size ∧ i = .int .i64 k ∧ bl s k = bl s a) (fun i => s.size - (intOf i).toNat)
  case atStart => exact ⟨a, ha, rfl, rfl⟩
  case round =>
    obtain ⟨k, hk, rfl, hr⟩ := hrel
    have HR : Hid (bl s k = bl s a) := hr
    clear hr
    by_cases hlt : k < s.size
    · have HB2 := HB
      obtain ⟨g, o, rfl, hg, hc⟩ := HB.out k hlt
      by_cases h35 : nb s k = 35
      · have HN : Hid (rl s k = bl s a) := by rw [← HR.out, bl_hash hlt h35]; exact rfl
        have q0 : ((nb s k : Int) == 9) = false ∧ ((nb s k : Int) == 10) = false ∧ ((nb s k : Int) == 13) = false ∧ ((nb s k : Int) == 32) = false ∧ ((nb s k : Int) == 35) = true := by simp [h35]
        obtain ⟨q1, q2, q3, q4, q5⟩ := q0
        have HX : Hid (nb s k = 35) := h35
        clear h35
        go_wp2
        go_loop [1] (fun i => ∃ m : Nat, k ≤ m ∧ m ≤ s.size ∧ i = .int .i64 m ∧ rl s m = bl s a) (fun i => s.size - (intOf i).toNat)
        case atStart => exact ⟨k, Nat.le_refl _, hk, rfl, HN.out⟩
        case round =>
          obtain ⟨m, hm1, hm2, rfl, hr⟩ := hrel
          have HR2 : Hid (rl s m = bl s a) := hr
          clear hr q1 q2 q3 q4 q5 hc
          by_cases hlt2 : m < s.size
          · obtain ⟨g', o', e, _, hc⟩ := HB2.out m hlt2
            simp at e
            obtain ⟨rfl, rfl⟩ := e
            by_cases h10 : nb s m = 10
            · have q1 : ((nb s m : Int) != 10) = false := by simp [h10]
              have HM : Hid (bl s m = bl s a) := by rw [← HR2.out, rl_nl hlt2 h10]; exact rfl
              have hkm : k < m := by
                rcases Nat.lt_or_ge k m with h1 | h1
                · exact h1
                · obtain rfl : k = m := by omega
                  rw [HX.out] at h10; cases h10
              clear h10
              generalize nb s m = c at *
              go_wp2
              go_round
              case rel => exact ⟨m, by omega, rfl, HM.out⟩
              case measure => simp [intOf]; omega
            · have q1 : ((nb s m : Int) != 10) = true := by simp; omega
              have HM : Hid (rl s (m + 1) = bl s a) := by rw [← HR2.out, rl_other hlt2 h10]; exact rfl
              clear h10
              generalize nb s m = c at *
              go_wp2
              go_round
              case rel => exact ⟨m + 1, by omega, by omega, by go_num, HM.out⟩
              case measure => simp [intOf]; omega
          · obtain rfl : m = s.size := by omega
            have HM : Hid (bl s s.size = bl s a) := by rw [← HR2.out, rl_end (Nat.le_refl _), bl_end (Nat.le_refl _)]; exact rfl
            have hd : decide ((s.size : Int) < (s.size : Int)) = false := by simp
            go_wp2
            go_round
            case rel => exact ⟨s.size, by omega, rfl, HM.out⟩
            case measure => simp [intOf]; omega
      · have q5 : ((nb s k : Int) == 35) = false := by simp; omega
        by_cases hB : isB (nb s k) = true
        · have HN : Hid (bl s (k + 1) = bl s a) := by rw [← HR.out, bl_blank hlt hB]; exact rfl
          have hB2 : nb s k = 9 ∨ nb s k = 10 ∨ nb s k = 13 ∨ nb s k = 32 := by
            simp [isB] at hB; omega
          clear h35 hB
          generalize nb s k = c at *
          rcases hB2 with rfl | rfl | rfl | rfl
          all_goals go_wp2
          all_goals go_round
          case rel => exact ⟨k + 1, by omega, by go_num, HN.out⟩
          case measure => simp [intOf]; omega
          case rel => exact ⟨k + 1, by omega, by go_num, HN.out⟩
          case measure => simp [intOf]; omega
          case rel => exact ⟨k + 1, by omega, by go_num, HN.out⟩
          case measure => simp [intOf]; omega
          case rel => exact ⟨k + 1, by omega, by go_num, HN.out⟩
          case measure => simp [intOf]; omega
        · have hS : isS (nb s k) = false := by
            have hB : isB (nb s k) = false := by simpa using hB
            simp [isS, hB, h35]
          have HN : Hid (k = bl s a) := by rw [← HR.out, bl_stop hlt hS]; exact rfl
          have q0 : ((nb s k : Int) == 9) = false ∧ ((nb s k : Int) == 10) = false ∧ ((nb s k : Int) == 13) = false ∧ ((nb s k : Int) == 32) = false := by
            simp [isB] at hB
            simp
            omega
          obtain ⟨q1, q2, q3, q4⟩ := q0
          clear h35 hS hB
          generalize nb s k = c at *
          go_wp2
          go_ret
          exact ⟨ret_i (by rw [← HN.out]), rfl⟩
    · have HN : Hid (k = bl s a) := by
        show _ = _
        rw [← HR.out, bl_end (by omega)]
        omega
      have hd : decide ((k : Int) < (s.size : Int)) = false := by simp; omega
      go_wp2
      go_ret
      exact ⟨ret_i (by rw [← HN.out]), rfl⟩

theorem val_stepR (u : ByteArray) (k : Nat) (hk : k < u.size) : val 0 ((tx u).take (k + 1)) = capd (10 * val 0 ((tx u).take k) + (nb u k - 48)) := by
  have e : (tx u).take (k + 1) = (tx u).take k ++ [nb u k] := by
    rw [List.take_succ_eq_append_getElem (by rw [tx_len]; exact hk)]
    simp [nb, List.getD, List.getElem?_eq_getElem (show k < (tx u).length by rw [tx_len]; exact hk)]
  rw [e, val_append, val_cons, val_nil]
theorem capd_le (x : Nat) : capd x ≤ 1073741825 := by unfold capd; split <;> omega
theorem val_le (n : Nat) (l : List Nat) (h : n ≤ 1073741825) : val n l ≤ 1073741825 := by
  induction l generalizing n with
  | nil => rw [val_nil]; exact h
  | cons d r ih => rw [val_cons]; exact ih _ (capd_le _)

set_option maxHeartbeats 1600000 in
theorem value_any (ao : Option Addr) (u : ByteArray) (cap : Nat) (w : World) (h : IsBytes w ao u) (hu : u.size ≤ 2097152) (hd : ∀ i, i < u.size → 48 ≤ nb u i ∧ nb u i ≤ 57) :
    Calls Try.prog 25 #[.slice ao u.size cap] w fun e w' => e = .returned (.int .i64 (val 0 (tx u) : Nat)) ∧ w' = w := by
  have HB : Hid (IsBytes w ao u) := h
  have HD : Hid (∀ i, i < u.size → 48 ≤ nb u i ∧ nb u i ≤ 57) := hd
  have HW : Hid (val 0 ((tx u).take u.size) = val 0 (tx u)) := by show _ = _; rw [List.take_of_length_le (by rw [tx_len]; exact Nat.le_refl _)]
  clear h hd
  go_enter Try.func25, Try.ntmps25
  go_wp2
  go_loop [3, 4] (fun n i => ∃ k : Nat, k ≤ u.size ∧ i = .int .i64 k ∧ n = .int .i64 (val 0 ((tx u).take k) : Nat)) (fun _ i => u.size - (intOf i).toNat)
  case atStart => exact ⟨0, Nat.zero_le _, rfl, rfl⟩
  case round =>
    obtain ⟨k, hk, rfl, rfl⟩ := hrel
    by_cases hlt : k < u.size
    · have hd := HD.out k hlt
      have hv : val 0 ((tx u).take k) ≤ 1073741825 := val_le _ _ (by omega)
      have HS : Hid (val 0 ((tx u).take (k + 1)) = capd (10 * val 0 ((tx u).take k) + (nb u k - 48))) := val_stepR u k hlt
      obtain ⟨g, o, rfl, hg, hcl⟩ := HB.out k hlt
      by_cases hb : 10 * val 0 ((tx u).take k) + (nb u k - 48) ≤ 1073741824
      · have HX : Hid (val 0 ((tx u).take (k + 1)) = 10 * val 0 ((tx u).take k) + (nb u k - 48)) := by
          show _ = _
          rw [HS.out]; unfold capd; rw [if_neg (by omega)]
        generalize val 0 ((tx u).take k) = n at *
        generalize nb u k = c at *
        clear hg HS
        go_wp2
        go_round
        case rel => exact ⟨k + 1, by omega, by go_num, by rw [HX.out]; go_num⟩
        case measure => simp [intOf]; omega
      · have HX : Hid (val 0 ((tx u).take (k + 1)) = 1073741825) := by
          show _ = _
          rw [HS.out]; unfold capd; rw [if_pos (by omega)]
        generalize val 0 ((tx u).take k) = n at *
        generalize nb u k = c at *
        clear hg HS
        go_wp2
        go_round
        case rel => exact ⟨k + 1, by omega, by go_num, by rw [HX.out]; go_num⟩
        case measure => simp [intOf]; omega
    · obtain rfl : k = u.size := by omega
      rw [HW.out]
      go_wp2
      go_ret
      exact ⟨rfl, rfl⟩
end Go.Proofs.Ytflcplnmeimbcaa.Lx
