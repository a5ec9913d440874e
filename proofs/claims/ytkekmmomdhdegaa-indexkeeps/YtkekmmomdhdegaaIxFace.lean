import Derived.Test.YtkekmmomdhdegaaIxLay
namespace Go.Proofs.Ytkekmmomdhdegaa.Ii
open Go.RowKit Go.Proofs.Ytkekmmomdhdegaa.Ix

section
variable {w : World} {g : Nat} {o : Lo} {b most count n : Nat} {t : Tb El}

set_option maxHeartbeats 800000 in
theorem slots_any (h : Mem w g o b most count t) (hb : b ≤ 22) (hn : n = 2 * 2 ^ b) : Calls Try.prog 10 #[.pointer (some ⟨g, 0, none⟩)] w fun e w' => e = .returned (I n) ∧ w' = w := by
  obtain ⟨_, _, _, a3, _⟩ := h.cellsX
  have q := slots_eq hb hn
  clear h hn
  go_enter Try.func10, Try.ntmps10
  go_wp2
  go_ret
  exact ⟨congrArg (fun z => Ending.returned (I z)) q, rfl⟩
set_option maxHeartbeats 800000 in
theorem len_any (h : Mem w g o b most count t) : Calls Try.prog 13 #[.pointer (some ⟨g, 0, none⟩)] w fun e w' => e = .returned (I count) ∧ w' = w := by
  obtain ⟨_, _, a2, _⟩ := h.cellsX
  clear h
  go_enter Try.func13, Try.ntmps13
  go_wp2
  go_ret
  exact ⟨rfl, rfl⟩
set_option maxHeartbeats 800000 in
theorem home_any (h : Mem w g o b most count t) (hb : b ≤ 22) (k : Nat) : Calls Try.prog 11 #[.pointer (some ⟨g, 0, none⟩), U k] w fun e w' => e = .returned (I (hm b k : Nat)) ∧ w' = w := by
  obtain ⟨_, _, _, a3, _⟩ := h.cellsX
  have q := home_eq (k := k) hb
  clear h
  go_enter Try.func11, Try.ntmps11
  go_wp2
  go_ret
  exact ⟨congrArg (fun z => Ending.returned (I z)) q, rfl⟩
set_option maxHeartbeats 800000 in
theorem after_any (h : Mem w g o b most count t) (hb : b ≤ 22) (hn : n = 2 * 2 ^ b) {p : Nat} (hp : p < n) : Calls Try.prog 69 #[.pointer (some ⟨g, 0, none⟩), I p] w fun e w' => e = .returned (I (nx n p : Nat)) ∧ w' = w := by
  have H1 := show Hid _ from slots_any h hb hn
  have h2 := Nat.pow_le_pow_right (n := 2) (by omega) hb
  have hn2 : n ≤ 8388608 := by omega
  have q := mask_eq ((p : Int) + 1) hb hn
  rw [nx_mod hp] at q
  have hnx := nx_lt (n := n) (p := p) (by omega)
  clear h hn h2
  go_enter Try.func69, Try.ntmps69
  go_wp2_with fail
  refine Calls.mono H1.out ?_
  rintro e w1 ⟨rfl, rfl⟩
  go_wp2
  go_ret
  exact ⟨rfl, rfl⟩
set_option maxHeartbeats 800000 in
theorem steps_any (h : Mem w g o b most count t) (hb : b ≤ 22) (hn : n = 2 * 2 ^ b) {p q : Nat} (hp : p < n) (hq : q < n) : Calls Try.prog 70 #[.pointer (some ⟨g, 0, none⟩), I p, I q] w fun e w' => e = .returned (I (D n p q : Nat)) ∧ w' = w := by
  have H1 := show Hid _ from slots_any h hb hn
  have h2 := Nat.pow_le_pow_right (n := 2) (by omega) hb
  have hn2 : n ≤ 8388608 := by omega
  have q := mask_eq ((q : Int) - (p : Int)) hb hn
  rw [D_mod hp hq] at q
  have hnx := D_lt hp hq
  clear h hn h2
  go_enter Try.func70, Try.ntmps70
  go_wp2_with fail
  refine Calls.mono H1.out ?_
  rintro e w1 ⟨rfl, rfl⟩
  go_wp2
  go_ret
  exact ⟨rfl, rfl⟩
end
end Go.Proofs.Ytkekmmomdhdegaa.Ii
