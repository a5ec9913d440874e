import Derived.Test.YtenhjebiokegkaaLxBytes
namespace Go.Proofs.Ytenhjebiokegkaa.Lx
open Go.RowKit Go.Proofs.Ytenhjebiokegkaa.Sp

set_option maxHeartbeats 800000 in
theorem while_any (f : Nat) (p : Nat → Bool) (hk : ∀ (c : Nat) (w : World), Calls Try.prog f #[.int .u8 c] w fun e w' => e = .returned (.bool (p c)) ∧ w' = w) (he : ∀ (args : Array Value) (w : World), (callFunc f args).run Try.prog w = .ok (.enter f args) w) (ao : Option Addr) (s : ByteArray) (cap a : Nat) (w : World) (h : IsBytes w ao s) (ha : a ≤ s.size) (hs : s.size ≤ 2097152) :
    Calls Try.prog 69 #[.slice ao s.size cap, .func (.func f) #[] #[], .int .i64 a] w fun e w' => e = .returned (.int .i64 (ru p s a : Nat)) ∧ w' = w := by
  have HB : Hid (IsBytes w ao s) := h
  have HK : Hid (∀ (c : Nat) (w : World), Calls Try.prog f #[.int .u8 c] w fun e w' => e = .returned (.bool (p c)) ∧ w' = w) := hk
  clear h hk
  go_enter Try.func69, Try.ntmps69
  go_wp2
  go_loop [2] (fun i => ∃ k : Nat, k ≤ s.size ∧ i = .int .i64 k ∧ ru p s k = ru p s a) (fun i => s.size - (intOf i).toNat)
  case atStart => exact ⟨a, ha, rfl, rfl⟩
  case round =>
    obtain ⟨k, hk, rfl, hr⟩ := hrel
    have HR : Hid (ru p s k = ru p s a) := hr
    clear hr
    by_cases hlt : k < s.size
    · obtain ⟨g, o, rfl, hg, hc⟩ := HB.out k hlt
      by_cases hp : p (nb s k) = true
      · have HN : Hid (ru p s (k + 1) = ru p s a) := by rw [← HR.out, ru_in hlt hp]; exact rfl
        generalize nb s k = c at *
        go_wp2_with fail
        refine (HK.out _ _).mono ?_
        rintro e w' ⟨rfl, rfl⟩
        go_wp2
        go_round
        case rel => exact ⟨k + 1, by omega, by go_num, HN.out⟩
        case measure => simp [intOf]; omega
      · have hp : p (nb s k) = false := by simpa using hp
        have HN : Hid (k = ru p s a) := by rw [← HR.out, ru_out hlt hp]; exact rfl
        generalize nb s k = c at *
        go_wp2_with fail
        refine (HK.out _ _).mono ?_
        rintro e w' ⟨rfl, rfl⟩
        go_wp2
        go_ret
        exact ⟨ret_i (by rw [← HN.out]), rfl⟩
    · have HN : Hid (k = ru p s a) := by rw [← HR.out, ru_end (by omega)]; exact rfl
      have hd : decide ((k : Int) < (s.size : Int)) = false := by simp; omega
      go_wp2
      go_ret
      exact ⟨ret_i (by rw [← HN.out]), rfl⟩
end Go.Proofs.Ytenhjebiokegkaa.Lx
