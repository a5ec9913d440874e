import Derived.Test.YtgiilaaoeefpmaaGreatPureLexD
import Derived.Test.YtgiilaaoeefpmaaGreatLxWhile
import Derived.Shelf.Abstract
namespace Go.Proofs.YtgiilaaoeefpmaaGreat.Lx
open Go.RowKit Go.Proofs.YtgiilaaoeefpmaaGreat.Sp

theorem enters_inRemark (args : Array Value) (w : World) : (callFunc 115 args).run Tryz.prog w = .ok (.enter 115 args) w := enters_of Tryz.func115 (by kernel_rfl) rfl args w
theorem enters_inWord (args : Array Value) (w : World) : (callFunc 130 args).run Tryz.prog w = .ok (.enter 130 args) w := enters_of Tryz.func130 (by kernel_rfl) rfl args w
theorem enters_isDigit (args : Array Value) (w : World) : (callFunc 109 args).run Tryz.prog w = .ok (.enter 109 args) w := enters_of Tryz.func109 (by kernel_rfl) rfl args w

section
variable (ao : Option Addr) (s : ByteArray) (cap a : Nat) (w : World) (h : IsBytes w ao s) (ha : a ≤ s.size) (hs : s.size ≤ 2097152)
include h ha hs
theorem whileRemark : Calls Tryz.prog 114 #[.slice ao s.size cap, .func (.func 115) #[] #[], .int .i64 a] w fun e w' => e = .returned (.int .i64 (ru (· != 10) s a : Nat)) ∧ w' = w :=
  while_any _ _ inRemark_any enters_inRemark ao s cap a w h ha hs
theorem whileWord : Calls Tryz.prog 114 #[.slice ao s.size cap, .func (.func 130) #[] #[], .int .i64 a] w fun e w' => e = .returned (.int .i64 (ru isW s a : Nat)) ∧ w' = w :=
  while_any _ _ inWord_any enters_inWord ao s cap a w h ha hs
theorem whileDigit : Calls Tryz.prog 114 #[.slice ao s.size cap, .func (.func 109) #[] #[], .int .i64 a] w fun e w' => e = .returned (.int .i64 (ru isD s a : Nat)) ∧ w' = w :=
  while_any _ _ isDigit_any enters_isDigit ao s cap a w h ha hs
end

set_option maxHeartbeats 800000 in
theorem skip_any (ao : Option Addr) (s : ByteArray) (cap a : Nat) (w : World) (h : IsBytes w ao s) (ha : a ≤ s.size) (hs : s.size ≤ 2097152) :
    Calls Tryz.prog 70 #[.slice ao s.size cap, .int .i64 a] w fun e w' => e = .returned (.int .i64 (bl s a : Nat)) ∧ w' = w := by
  have HB : Hid (IsBytes w ao s) := h
  clear h
  go_enter Tryz.func70, Tryz.ntmps70
  go_wp2
  go_loop [1] (fun i => ∃ k : Nat, k ≤ s.size ∧ i = .int .i64 k ∧ bl s k = bl s a) (fun i => s.size - (intOf i).toNat)
  case atStart => exact ⟨a, ha, rfl, rfl⟩
  case round =>
    obtain ⟨k, hk, rfl, hr⟩ := hrel
    have HR : Hid (bl s k = bl s a) := hr
    clear hr
    by_cases hlt : k < s.size
    · have HB2 := HB
      obtain ⟨g, o, rfl, hg, hc⟩ := HB.out k hlt
      by_cases h35 : nb s k = 35
      · obtain ⟨e1, e2⟩ := bl_remark hlt h35
        have e3 := (ru_le (p := (· != 10)) (s := s) (i := k) hk).2
        have HN : Hid (bl s (ru (· != 10) s k) = bl s a) := by rw [← HR.out, e1]; exact rfl
        have hq : ((nb s k : Int) == 35) = true := by simp [h35]
        have hS : isS (nb s k) = true := by rw [h35]; rfl
        clear e1 h35
        generalize nb s k = c at *
        go_wp2_with fail
        refine (beginsBlank_any c _).mono ?_
        rintro e w' ⟨rfl, rfl⟩
        go_wp2_with fail
        refine (whileRemark _ s cap k _ HB2.out hk hs).mono ?_
        rintro e w' ⟨rfl, rfl⟩
        generalize ru (· != 10) s k = q at *
        go_wp2
        go_round
        case rel => exact ⟨q, e3, rfl, HN.out⟩
        case measure => simp [intOf]; omega
      · have hq : ((nb s k : Int) == 35) = false := by simp; omega
        by_cases hS : isS (nb s k) = true
        · have hB : isB (nb s k) = true := by
            simp [isS] at hS
            rcases hS with h1 | h1
            · exact h1
            · exact absurd h1 h35
          have HN : Hid (bl s (k + 1) = bl s a) := by rw [← HR.out, bl_blank hlt hB]; exact rfl
          clear h35 hB
          generalize nb s k = c at *
          go_wp2_with fail
          refine (beginsBlank_any c _).mono ?_
          rintro e w' ⟨rfl, rfl⟩
          go_wp2
          go_round
          case rel => exact ⟨k + 1, by omega, by go_num, HN.out⟩
          case measure => simp [intOf]; omega
        · have hS : isS (nb s k) = false := by simpa using hS
          have HN : Hid (k = bl s a) := by rw [← HR.out, bl_stop hlt hS]; exact rfl
          clear h35 hq
          generalize nb s k = c at *
          go_wp2_with fail
          refine (beginsBlank_any c _).mono ?_
          rintro e w' ⟨rfl, rfl⟩
          go_wp2
          go_ret
          exact ⟨ret_i (by rw [← HN.out]), rfl⟩
    · have HN : Hid (k = bl s a) := by
        show _ = _
        rw [← HR.out, bl_end (by omega)]
        omega
      have hd : decide ((k : Int) < (s.size : Int)) = false := by simp; omega
      go_wp2
      go_ret
      exact ⟨ret_i (by rw [← HN.out]), rfl⟩
end Go.Proofs.YtgiilaaoeefpmaaGreat.Lx
