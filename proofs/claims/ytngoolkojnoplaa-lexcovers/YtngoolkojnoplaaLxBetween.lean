import Derived.Test.YtngoolkojnoplaaLxBase
namespace Go.Proofs.Ytngoolkojnoplaa.Lx
open Go.RowKit Go.Proofs.Ytngoolkojnoplaa.Sp

theorem btw_nl {f : Bool} {r : List Nat} (h : btw f (10 :: r) = true) : btw false r = true := by
  cases f <;> simpa [btw, isB] using h
theorem btw_hash {f : Bool} {r : List Nat} (h : btw f (35 :: r) = true) : btw true r = true := by
  cases f <;> simpa [btw, isB] using h
theorem btw_in {c : Nat} {r : List Nat} (h10 : c ≠ 10) (h : btw true (c :: r) = true) : btw true r = true := by
  have : (c != 10) = true := by simpa using h10
  simpa only [btw, this] using h
theorem btw_out {c : Nat} {r : List Nat} (h10 : c ≠ 10) (h35 : c ≠ 35) (h : btw false (c :: r) = true) : (c = 9 ∨ c = 13 ∨ c = 32) ∧ btw false r = true := by
  simp only [btw] at h
  by_cases hb : isB c = true
  · rw [if_pos hb] at h
    refine ⟨?_, h⟩
    simp [isB] at hb
    omega
  · rw [if_neg hb] at h
    have : (c == 35) = false := by simpa using h35
    simp [this] at h

set_option maxHeartbeats 1600000 in
theorem between_any (ao : Option Addr) (u : ByteArray) (cap : Nat) (w : World) (h : IsBytes w ao u) (hu : u.size ≤ 140737488351232) (hb : btw false (tx u) = true) :
    Calls Try.prog 6 #[.slice ao u.size cap] w fun e w' => e = .returned (.bool true) ∧ w' = w := by
  have HB : Hid (IsBytes w ao u) := h
  have HW : Hid (btw false (tx u) = true) := hb
  clear h hb
  go_enter Try.func6, Try.ntmps6
  go_wp2
  go_loop [3, 4] (fun r i => ∃ (k : Nat) (f : Bool), k ≤ u.size ∧ i = .int .i64 k ∧ r = .bool f ∧ btw f ((tx u).drop k) = true) (fun _ i => u.size - (intOf i).toNat)
  case atStart => exact ⟨0, false, Nat.zero_le _, rfl, rfl, HW.out⟩
  case round =>
    obtain ⟨k, f, hk, rfl, rfl, hr⟩ := hrel
    have HR : Hid (btw f ((tx u).drop k) = true) := hr
    clear hr
    by_cases hlt : k < u.size
    · obtain ⟨g, o, rfl, hg, hcl⟩ := HB.out k hlt
      have HD : Hid (btw f (nb u k :: (tx u).drop (k + 1)) = true) := by
        have := HR.out
        rw [tx_drop hlt] at this
        exact this
      by_cases h10 : nb u k = 10
      · have q1 : ((nb u k : Int) == 10) = true := by simp [h10]
        have HN : Hid (btw false ((tx u).drop (k + 1)) = true) := btw_nl (f := f) (by have := HD.out; rw [h10] at this; exact this)
        clear h10
        generalize nb u k = c at *
        go_wp2
        go_round
        case rel => exact ⟨k + 1, false, by omega, by go_num, rfl, HN.out⟩
        case measure => simp [intOf]; omega
      · have q1 : ((nb u k : Int) == 10) = false := by simp; omega
        by_cases h35 : nb u k = 35
        · have q2 : ((nb u k : Int) == 35) = true := by simp [h35]
          have HN : Hid (btw true ((tx u).drop (k + 1)) = true) := btw_hash (f := f) (by have := HD.out; rw [h35] at this; exact this)
          clear h10 h35
          generalize nb u k = c at *
          go_wp2
          go_round
          case rel => exact ⟨k + 1, true, by omega, by go_num, rfl, HN.out⟩
          case measure => simp [intOf]; omega
        · have q2 : ((nb u k : Int) == 35) = false := by simp; omega
          cases f with
          | true =>
            have HN : Hid (btw true ((tx u).drop (k + 1)) = true) := btw_in h10 HD.out
            clear h10 h35
            generalize nb u k = c at *
            go_wp2
            go_round
            case rel => exact ⟨k + 1, true, by omega, by go_num, rfl, HN.out⟩
            case measure => simp [intOf]; omega
          | false =>
            obtain ⟨h3, hN⟩ := btw_out h10 h35 HD.out
            have HN : Hid (btw false ((tx u).drop (k + 1)) = true) := hN
            clear h10 h35 hN
            generalize nb u k = c at *
            rcases h3 with rfl | rfl | rfl
            all_goals go_wp2
            all_goals go_round
            case rel => exact ⟨k + 1, false, by omega, by go_num, rfl, HN.out⟩
            case measure => simp [intOf]; omega
            case rel => exact ⟨k + 1, false, by omega, by go_num, rfl, HN.out⟩
            case measure => simp [intOf]; omega
            case rel => exact ⟨k + 1, false, by omega, by go_num, rfl, HN.out⟩
            case measure => simp [intOf]; omega
    · have hd : decide ((k : Int) < (u.size : Int)) = false := by simp; omega
      go_wp2
      go_ret
      exact ⟨rfl, rfl⟩
end Go.Proofs.Ytngoolkojnoplaa.Lx
