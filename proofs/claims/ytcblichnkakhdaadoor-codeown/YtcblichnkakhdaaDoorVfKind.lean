import Derived.Test.YtcblichnkakhdaaDoorVfPure
namespace Go.Proofs.YtcblichnkakhdaaDoor.Vf
open Go.RowKit

theorem nat42 {op : Nat} (h : op < 42) : op = 0 ∨ op = 1 ∨ op = 2 ∨ op = 3 ∨ op = 4 ∨ op = 5 ∨ op = 6 ∨ op = 7 ∨ op = 8 ∨ op = 9 ∨ op = 10 ∨ op = 11 ∨ op = 12 ∨ op = 13 ∨ op = 14 ∨ op = 15 ∨ op = 16 ∨ op = 17 ∨ op = 18 ∨ op = 19 ∨ op = 20 ∨ op = 21 ∨ op = 22 ∨ op = 23 ∨ op = 24 ∨ op = 25 ∨ op = 26 ∨ op = 27 ∨ op = 28 ∨ op = 29 ∨ op = 30 ∨ op = 31 ∨ op = 32 ∨ op = 33 ∨ op = 34 ∨ op = 35 ∨ op = 36 ∨ op = 37 ∨ op = 38 ∨ op = 39 ∨ op = 40 ∨ op = 41 := by omega
set_option maxHeartbeats 25600000 in
set_option maxRecDepth 100000 in
/-- kindsOf -/
theorem ckinds (op : Nat) (h : op < 42) (w : World) : Calls Tryd.prog 63 #[.int .i64 (op : Int)] w fun e w' => e = .returned (.agg #[.int .i64 (kd4 op).1, .int .i64 (kd4 op).2.1, .int .i64 (kd4 op).2.2.1, .int .i64 (kd4 op).2.2.2]) ∧ Below w.heap.size w w' := by
  rcases nat42 h with rfl | rfl | rfl | rfl | rfl | rfl | rfl | rfl | rfl | rfl | rfl | rfl | rfl | rfl | rfl | rfl | rfl | rfl | rfl | rfl | rfl | rfl | rfl | rfl | rfl | rfl | rfl | rfl | rfl | rfl | rfl | rfl | rfl | rfl | rfl | rfl | rfl | rfl | rfl | rfl | rfl | rfl
  all_goals
    go_enter Tryd.func63, Tryd.ntmps63
    go_wp2_with fail
    refine bodyPost_ret ?_ rfl ⟨rfl, (Below.refl _ w).alloc (Nat.le_refl _) _⟩
    simp [results, Tryd.results63, go_sem, kd4, kdL]
end Go.Proofs.YtcblichnkakhdaaDoor.Vf
