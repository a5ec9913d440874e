import Derived.Test.YtnededkmjmbioaaDoorVfFuel
namespace Go.Proofs.YtnededkmjmbioaaDoor.Vf
open Go.RowKit Go.Proofs.YtnededkmjmbioaaDoor.Nm
set_option maxHeartbeats 1600000 in
/-- the reference's Sum -/
theorem rsum_any (a b : Int) (ha : 0 ≤ a) (ha2 : a ≤ 4611686018427387904) (hb : 0 ≤ b) (hb2 : b ≤ 4611686018427387904) (w : World) :
    Calls Tryd.prog 20 #[.int .i64 a, .int .i64 b] w fun e w' => e = .returned (.int .i64 (sm a b)) ∧ w' = w := by
  unfold sm
  by_cases h : 4611686018427387904 - b < a
  · rw [if_pos h]
    go_enter Tryd.func20, Tryd.ntmps20
    go_wp2_with fail
    go_ret
    exact ⟨rfl, rfl⟩
  · rw [if_neg h]
    have h2 : a + b ≤ 4611686018427387904 := by omega
    go_enter Tryd.func20, Tryd.ntmps20
    go_wp2_with fail
    go_ret
    exact ⟨rfl, rfl⟩
set_option maxHeartbeats 1600000 in
/-- the reference's Times -/
theorem rtimes_any (a b : Int) (ha : 0 ≤ a) (ha2 : a ≤ 4611686018427387904) (hb : 0 ≤ b) (_hb2 : b ≤ 4611686018427387904) (w : World) :
    Calls Tryd.prog 21 #[.int .i64 a, .int .i64 b] w fun e w' => e = .returned (.int .i64 (tm a b)) ∧ w' = w := by
  have hm := tm_le ha hb
  unfold tm at *
  by_cases h0 : 0 < a
  · have h00 : ¬ a = 0 := by omega
    by_cases h : 4611686018427387904 / a < b
    · rw [if_pos ⟨h0, h⟩]
      clear hm
      go_enter Tryd.func21, Tryd.ntmps21
      go_wp2_with fail
      go_ret
      exact ⟨rfl, rfl⟩
    · rw [if_neg (fun e => h e.2)] at hm ⊢
      obtain ⟨m1, m2⟩ := hm
      generalize hq : a * b = ab at *
      go_enter Tryd.func21, Tryd.ntmps21
      go_wp2_with fail
      go_ret
      exact ⟨rfl, rfl⟩
  · obtain rfl : a = 0 := by omega
    rw [if_neg (fun e => h0 e.1)]
    clear hm
    go_enter Tryd.func21, Tryd.ntmps21
    go_wp2_with fail
    go_ret
    exact ⟨by simp, rfl⟩
end Go.Proofs.YtnededkmjmbioaaDoor.Vf
