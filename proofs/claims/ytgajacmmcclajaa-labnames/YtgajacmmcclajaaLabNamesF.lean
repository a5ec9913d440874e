import Derived.Test.YtgajacmmcclajaaRows
import Derived.Test.YtgajacmmcclajaaChecked
import Derived.ProofKit
import Derived.OpenShut
import Derived.ShutString
import Derived.ChangeOld
import Derived.Below
namespace Go.Proofs.Ytgajacmmcclajaa.labNames
open Go.ChangeShapes Go.WideShapes Go.ChangeAt Go.RowKit

theorem own : ownKnob Try.prog.godebug = none := by kernel_rfl
set_option maxHeartbeats 1600000 in
set_option maxRecDepth 100000 in
theorem er_0 (w : World) : Calls Try.prog 5 #[.int .i64 0] w fun x w' => x = .returned (.string ⟨#[111, 107]⟩) ∧ w' = w := by
  go_enter Try.func5, Try.ntmps5
  go_wp2
  go_ret
  exact ⟨rfl, rfl⟩
set_option maxHeartbeats 1600000 in
set_option maxRecDepth 100000 in
theorem wo_1 (w : World) : Calls Try.prog 6 #[.int .i64 1] w fun x w' => x = .returned (.string ⟨#[97, 114, 103]⟩) ∧ w' = w := by
  go_enter Try.func6, Try.ntmps6
  go_wp2
  go_ret
  exact ⟨rfl, rfl⟩
set_option maxHeartbeats 1600000 in
set_option maxRecDepth 100000 in
theorem er_1 (w : World) : Calls Try.prog 5 #[.int .i64 1] w fun x w' => x = .returned (.string ⟨#[97, 114, 103]⟩) ∧ w' = w := by
  go_enter Try.func5, Try.ntmps5
  go_wp2_with fail
  refine Calls.mono (wo_1 _) ?_
  rintro x w' ⟨rfl, rfl⟩
  go_wp2
  go_ret
  exact ⟨rfl, rfl⟩
set_option maxHeartbeats 1600000 in
set_option maxRecDepth 100000 in
theorem wo_2 (w : World) : Calls Try.prog 6 #[.int .i64 2] w fun x w' => x = .returned (.string ⟨#[108, 111, 110, 103]⟩) ∧ w' = w := by
  go_enter Try.func6, Try.ntmps6
  go_wp2
  go_ret
  exact ⟨rfl, rfl⟩
set_option maxHeartbeats 1600000 in
set_option maxRecDepth 100000 in
theorem er_2 (w : World) : Calls Try.prog 5 #[.int .i64 2] w fun x w' => x = .returned (.string ⟨#[108, 111, 110, 103]⟩) ∧ w' = w := by
  go_enter Try.func5, Try.ntmps5
  go_wp2_with fail
  refine Calls.mono (wo_2 _) ?_
  rintro x w' ⟨rfl, rfl⟩
  go_wp2
  go_ret
  exact ⟨rfl, rfl⟩
set_option maxHeartbeats 1600000 in
set_option maxRecDepth 100000 in
theorem wo_3 (w : World) : Calls Try.prog 6 #[.int .i64 3] w fun x w' => x = .returned (.string ⟨#[109, 97, 110, 121]⟩) ∧ w' = w := by
  go_enter Try.func6, Try.ntmps6
  go_wp2
  go_ret
  exact ⟨rfl, rfl⟩
set_option maxHeartbeats 1600000 in
set_option maxRecDepth 100000 in
theorem er_3 (w : World) : Calls Try.prog 5 #[.int .i64 3] w fun x w' => x = .returned (.string ⟨#[109, 97, 110, 121]⟩) ∧ w' = w := by
  go_enter Try.func5, Try.ntmps5
  go_wp2_with fail
  refine Calls.mono (wo_3 _) ?_
  rintro x w' ⟨rfl, rfl⟩
  go_wp2
  go_ret
  exact ⟨rfl, rfl⟩
set_option maxHeartbeats 1600000 in
set_option maxRecDepth 100000 in
theorem wo_4 (w : World) : Calls Try.prog 6 #[.int .i64 4] w fun x w' => x = .returned (.string ⟨#[119, 111, 114, 100]⟩) ∧ w' = w := by
  go_enter Try.func6, Try.ntmps6
  go_wp2
  go_ret
  exact ⟨rfl, rfl⟩
set_option maxHeartbeats 1600000 in
set_option maxRecDepth 100000 in
theorem er_4 (w : World) : Calls Try.prog 5 #[.int .i64 4] w fun x w' => x = .returned (.string ⟨#[119, 111, 114, 100]⟩) ∧ w' = w := by
  go_enter Try.func5, Try.ntmps5
  go_wp2_with fail
  refine Calls.mono (wo_4 _) ?_
  rintro x w' ⟨rfl, rfl⟩
  go_wp2
  go_ret
  exact ⟨rfl, rfl⟩
set_option maxHeartbeats 1600000 in
set_option maxRecDepth 100000 in
theorem wo_11 (w : World) : Calls Try.prog 6 #[.int .i64 11] w fun x w' => x = .returned (.string ⟨#[98, 121, 116, 101]⟩) ∧ w' = w := by
  go_enter Try.func6, Try.ntmps6
  go_wp2
  go_ret
  exact ⟨rfl, rfl⟩
set_option maxHeartbeats 1600000 in
set_option maxRecDepth 100000 in
theorem er_11 (w : World) : Calls Try.prog 5 #[.int .i64 11] w fun x w' => x = .returned (.string ⟨#[98, 121, 116, 101]⟩) ∧ w' = w := by
  go_enter Try.func5, Try.ntmps5
  go_wp2_with fail
  refine Calls.mono (wo_11 _) ?_
  rintro x w' ⟨rfl, rfl⟩
  go_wp2
  go_ret
  exact ⟨rfl, rfl⟩
set_option maxHeartbeats 1600000 in
set_option maxRecDepth 100000 in
theorem wo_21 (w : World) : Calls Try.prog 6 #[.int .i64 21] w fun x w' => x = .returned (.string ⟨#[116, 111, 107, 101, 110]⟩) ∧ w' = w := by
  go_enter Try.func6, Try.ntmps6
  go_wp2
  go_ret
  exact ⟨rfl, rfl⟩
set_option maxHeartbeats 1600000 in
set_option maxRecDepth 100000 in
theorem er_21 (w : World) : Calls Try.prog 5 #[.int .i64 21] w fun x w' => x = .returned (.string ⟨#[116, 111, 107, 101, 110]⟩) ∧ w' = w := by
  go_enter Try.func5, Try.ntmps5
  go_wp2_with fail
  refine Calls.mono (wo_21 _) ?_
  rintro x w' ⟨rfl, rfl⟩
  go_wp2
  go_ret
  exact ⟨rfl, rfl⟩
set_option maxHeartbeats 1600000 in
set_option maxRecDepth 100000 in
theorem wo_22 (w : World) : Calls Try.prog 6 #[.int .i64 22] w fun x w' => x = .returned (.string ⟨#[110, 101, 115, 116]⟩) ∧ w' = w := by
  go_enter Try.func6, Try.ntmps6
  go_wp2
  go_ret
  exact ⟨rfl, rfl⟩
set_option maxHeartbeats 1600000 in
set_option maxRecDepth 100000 in
theorem er_22 (w : World) : Calls Try.prog 5 #[.int .i64 22] w fun x w' => x = .returned (.string ⟨#[110, 101, 115, 116]⟩) ∧ w' = w := by
  go_enter Try.func5, Try.ntmps5
  go_wp2_with fail
  refine Calls.mono (wo_22 _) ?_
  rintro x w' ⟨rfl, rfl⟩
  go_wp2
  go_ret
  exact ⟨rfl, rfl⟩
set_option maxHeartbeats 1600000 in
set_option maxRecDepth 100000 in
theorem wo_31 (w : World) : Calls Try.prog 6 #[.int .i64 31] w fun x w' => x = .returned (.string ⟨#[116, 119, 105, 99, 101]⟩) ∧ w' = w := by
  go_enter Try.func6, Try.ntmps6
  go_wp2
  go_ret
  exact ⟨rfl, rfl⟩
set_option maxHeartbeats 1600000 in
set_option maxRecDepth 100000 in
theorem er_31 (w : World) : Calls Try.prog 5 #[.int .i64 31] w fun x w' => x = .returned (.string ⟨#[116, 119, 105, 99, 101]⟩) ∧ w' = w := by
  go_enter Try.func5, Try.ntmps5
  go_wp2_with fail
  refine Calls.mono (wo_31 _) ?_
  rintro x w' ⟨rfl, rfl⟩
  go_wp2
  go_ret
  exact ⟨rfl, rfl⟩
set_option maxHeartbeats 1600000 in
set_option maxRecDepth 100000 in
theorem wo_32 (w : World) : Calls Try.prog 6 #[.int .i64 32] w fun x w' => x = .returned (.string ⟨#[117, 110, 107, 110, 111, 119, 110]⟩) ∧ w' = w := by
  go_enter Try.func6, Try.ntmps6
  go_wp2
  go_ret
  exact ⟨rfl, rfl⟩
set_option maxHeartbeats 1600000 in
set_option maxRecDepth 100000 in
theorem er_32 (w : World) : Calls Try.prog 5 #[.int .i64 32] w fun x w' => x = .returned (.string ⟨#[117, 110, 107, 110, 111, 119, 110]⟩) ∧ w' = w := by
  go_enter Try.func5, Try.ntmps5
  go_wp2_with fail
  refine Calls.mono (wo_32 _) ?_
  rintro x w' ⟨rfl, rfl⟩
  go_wp2
  go_ret
  exact ⟨rfl, rfl⟩
set_option maxHeartbeats 1600000 in
set_option maxRecDepth 100000 in
theorem wo_33 (w : World) : Calls Try.prog 6 #[.int .i64 33] w fun x w' => x = .returned (.string ⟨#[111, 116, 104, 101, 114]⟩) ∧ w' = w := by
  go_enter Try.func6, Try.ntmps6
  go_wp2
  go_ret
  exact ⟨rfl, rfl⟩
set_option maxHeartbeats 1600000 in
set_option maxRecDepth 100000 in
theorem er_33 (w : World) : Calls Try.prog 5 #[.int .i64 33] w fun x w' => x = .returned (.string ⟨#[111, 116, 104, 101, 114]⟩) ∧ w' = w := by
  go_enter Try.func5, Try.ntmps5
  go_wp2_with fail
  refine Calls.mono (wo_33 _) ?_
  rintro x w' ⟨rfl, rfl⟩
  go_wp2
  go_ret
  exact ⟨rfl, rfl⟩
set_option maxHeartbeats 1600000 in
set_option maxRecDepth 100000 in
theorem wo_34 (w : World) : Calls Try.prog 6 #[.int .i64 34] w fun x w' => x = .returned (.string ⟨#[108, 97, 114, 103, 101]⟩) ∧ w' = w := by
  go_enter Try.func6, Try.ntmps6
  go_wp2
  go_ret
  exact ⟨rfl, rfl⟩
set_option maxHeartbeats 1600000 in
set_option maxRecDepth 100000 in
theorem er_34 (w : World) : Calls Try.prog 5 #[.int .i64 34] w fun x w' => x = .returned (.string ⟨#[108, 97, 114, 103, 101]⟩) ∧ w' = w := by
  go_enter Try.func5, Try.ntmps5
  go_wp2_with fail
  refine Calls.mono (wo_34 _) ?_
  rintro x w' ⟨rfl, rfl⟩
  go_wp2
  go_ret
  exact ⟨rfl, rfl⟩
set_option maxHeartbeats 1600000 in
set_option maxRecDepth 100000 in
theorem wo_41 (w : World) : Calls Try.prog 7 #[.int .i64 41] w fun x w' => x = .returned (.string ⟨#[116, 121, 112, 101]⟩) ∧ w' = w := by
  go_enter Try.func7, Try.ntmps7
  go_wp2
  go_ret
  exact ⟨rfl, rfl⟩
set_option maxHeartbeats 1600000 in
set_option maxRecDepth 100000 in
theorem er_41 (w : World) : Calls Try.prog 5 #[.int .i64 41] w fun x w' => x = .returned (.string ⟨#[116, 121, 112, 101]⟩) ∧ w' = w := by
  go_enter Try.func5, Try.ntmps5
  go_wp2_with fail
  refine Calls.mono (wo_41 _) ?_
  rintro x w' ⟨rfl, rfl⟩
  go_wp2
  go_ret
  exact ⟨rfl, rfl⟩
set_option maxHeartbeats 1600000 in
set_option maxRecDepth 100000 in
theorem wo_42 (w : World) : Calls Try.prog 7 #[.int .i64 42] w fun x w' => x = .returned (.string ⟨#[99, 111, 110, 115, 116]⟩) ∧ w' = w := by
  go_enter Try.func7, Try.ntmps7
  go_wp2
  go_ret
  exact ⟨rfl, rfl⟩
set_option maxHeartbeats 1600000 in
set_option maxRecDepth 100000 in
theorem er_42 (w : World) : Calls Try.prog 5 #[.int .i64 42] w fun x w' => x = .returned (.string ⟨#[99, 111, 110, 115, 116]⟩) ∧ w' = w := by
  go_enter Try.func5, Try.ntmps5
  go_wp2_with fail
  refine Calls.mono (wo_42 _) ?_
  rintro x w' ⟨rfl, rfl⟩
  go_wp2
  go_ret
  exact ⟨rfl, rfl⟩
set_option maxHeartbeats 1600000 in
set_option maxRecDepth 100000 in
theorem wo_43 (w : World) : Calls Try.prog 7 #[.int .i64 43] w fun x w' => x = .returned (.string ⟨#[114, 97, 110, 103, 101]⟩) ∧ w' = w := by
  go_enter Try.func7, Try.ntmps7
  go_wp2
  go_ret
  exact ⟨rfl, rfl⟩
set_option maxHeartbeats 1600000 in
set_option maxRecDepth 100000 in
theorem er_43 (w : World) : Calls Try.prog 5 #[.int .i64 43] w fun x w' => x = .returned (.string ⟨#[114, 97, 110, 103, 101]⟩) ∧ w' = w := by
  go_enter Try.func5, Try.ntmps5
  go_wp2_with fail
  refine Calls.mono (wo_43 _) ?_
  rintro x w' ⟨rfl, rfl⟩
  go_wp2
  go_ret
  exact ⟨rfl, rfl⟩
set_option maxHeartbeats 1600000 in
set_option maxRecDepth 100000 in
theorem wo_44 (w : World) : Calls Try.prog 7 #[.int .i64 44] w fun x w' => x = .returned (.string ⟨#[114, 101, 113, 117, 105, 114, 101]⟩) ∧ w' = w := by
  go_enter Try.func7, Try.ntmps7
  go_wp2
  go_ret
  exact ⟨rfl, rfl⟩
set_option maxHeartbeats 1600000 in
set_option maxRecDepth 100000 in
theorem er_44 (w : World) : Calls Try.prog 5 #[.int .i64 44] w fun x w' => x = .returned (.string ⟨#[114, 101, 113, 117, 105, 114, 101]⟩) ∧ w' = w := by
  go_enter Try.func5, Try.ntmps5
  go_wp2_with fail
  refine Calls.mono (wo_44 _) ?_
  rintro x w' ⟨rfl, rfl⟩
  go_wp2
  go_ret
  exact ⟨rfl, rfl⟩
set_option maxHeartbeats 1600000 in
set_option maxRecDepth 100000 in
theorem wo_45 (w : World) : Calls Try.prog 7 #[.int .i64 45] w fun x w' => x = .returned (.string ⟨#[99, 97, 112, 115]⟩) ∧ w' = w := by
  go_enter Try.func7, Try.ntmps7
  go_wp2
  go_ret
  exact ⟨rfl, rfl⟩
set_option maxHeartbeats 1600000 in
set_option maxRecDepth 100000 in
theorem er_45 (w : World) : Calls Try.prog 5 #[.int .i64 45] w fun x w' => x = .returned (.string ⟨#[99, 97, 112, 115]⟩) ∧ w' = w := by
  go_enter Try.func5, Try.ntmps5
  go_wp2_with fail
  refine Calls.mono (wo_45 _) ?_
  rintro x w' ⟨rfl, rfl⟩
  go_wp2
  go_ret
  exact ⟨rfl, rfl⟩
set_option maxHeartbeats 1600000 in
set_option maxRecDepth 100000 in
theorem wo_46 (w : World) : Calls Try.prog 7 #[.int .i64 46] w fun x w' => x = .returned (.string ⟨#[107, 105, 110, 100]⟩) ∧ w' = w := by
  go_enter Try.func7, Try.ntmps7
  go_wp2
  go_ret
  exact ⟨rfl, rfl⟩
set_option maxHeartbeats 1600000 in
set_option maxRecDepth 100000 in
theorem er_46 (w : World) : Calls Try.prog 5 #[.int .i64 46] w fun x w' => x = .returned (.string ⟨#[107, 105, 110, 100]⟩) ∧ w' = w := by
  go_enter Try.func5, Try.ntmps5
  go_wp2_with fail
  refine Calls.mono (wo_46 _) ?_
  rintro x w' ⟨rfl, rfl⟩
  go_wp2
  go_ret
  exact ⟨rfl, rfl⟩
set_option maxHeartbeats 1600000 in
set_option maxRecDepth 100000 in
theorem wo_51 (w : World) : Calls Try.prog 7 #[.int .i64 51] w fun x w' => x = .returned (.string ⟨#[102, 117, 108, 108]⟩) ∧ w' = w := by
  go_enter Try.func7, Try.ntmps7
  go_wp2
  go_ret
  exact ⟨rfl, rfl⟩
set_option maxHeartbeats 1600000 in
set_option maxRecDepth 100000 in
theorem er_51 (w : World) : Calls Try.prog 5 #[.int .i64 51] w fun x w' => x = .returned (.string ⟨#[102, 117, 108, 108]⟩) ∧ w' = w := by
  go_enter Try.func5, Try.ntmps5
  go_wp2_with fail
  refine Calls.mono (wo_51 _) ?_
  rintro x w' ⟨rfl, rfl⟩
  go_wp2
  go_ret
  exact ⟨rfl, rfl⟩
set_option maxHeartbeats 1600000 in
set_option maxRecDepth 100000 in
theorem wo_52 (w : World) : Calls Try.prog 7 #[.int .i64 52] w fun x w' => x = .returned (.string ⟨#[101, 109, 112, 116, 121]⟩) ∧ w' = w := by
  go_enter Try.func7, Try.ntmps7
  go_wp2
  go_ret
  exact ⟨rfl, rfl⟩
set_option maxHeartbeats 1600000 in
set_option maxRecDepth 100000 in
theorem er_52 (w : World) : Calls Try.prog 5 #[.int .i64 52] w fun x w' => x = .returned (.string ⟨#[101, 109, 112, 116, 121]⟩) ∧ w' = w := by
  go_enter Try.func5, Try.ntmps5
  go_wp2_with fail
  refine Calls.mono (wo_52 _) ?_
  rintro x w' ⟨rfl, rfl⟩
  go_wp2
  go_ret
  exact ⟨rfl, rfl⟩
set_option maxHeartbeats 1600000 in
set_option maxRecDepth 100000 in
theorem wo_53 (w : World) : Calls Try.prog 7 #[.int .i64 53] w fun x w' => x = .returned (.string ⟨#[119, 104, 101, 114, 101]⟩) ∧ w' = w := by
  go_enter Try.func7, Try.ntmps7
  go_wp2
  go_ret
  exact ⟨rfl, rfl⟩
set_option maxHeartbeats 1600000 in
set_option maxRecDepth 100000 in
theorem er_53 (w : World) : Calls Try.prog 5 #[.int .i64 53] w fun x w' => x = .returned (.string ⟨#[119, 104, 101, 114, 101]⟩) ∧ w' = w := by
  go_enter Try.func5, Try.ntmps5
  go_wp2_with fail
  refine Calls.mono (wo_53 _) ?_
  rintro x w' ⟨rfl, rfl⟩
  go_wp2
  go_ret
  exact ⟨rfl, rfl⟩
set_option maxHeartbeats 1600000 in
set_option maxRecDepth 100000 in
theorem wo_54 (w : World) : Calls Try.prog 7 #[.int .i64 54] w fun x w' => x = .returned (.string ⟨#[108, 111, 111, 112]⟩) ∧ w' = w := by
  go_enter Try.func7, Try.ntmps7
  go_wp2
  go_ret
  exact ⟨rfl, rfl⟩
set_option maxHeartbeats 1600000 in
set_option maxRecDepth 100000 in
theorem er_54 (w : World) : Calls Try.prog 5 #[.int .i64 54] w fun x w' => x = .returned (.string ⟨#[108, 111, 111, 112]⟩) ∧ w' = w := by
  go_enter Try.func5, Try.ntmps5
  go_wp2_with fail
  refine Calls.mono (wo_54 _) ?_
  rintro x w' ⟨rfl, rfl⟩
  go_wp2
  go_ret
  exact ⟨rfl, rfl⟩
set_option maxHeartbeats 1600000 in
set_option maxRecDepth 100000 in
theorem wo_61 (w : World) : Calls Try.prog 7 #[.int .i64 61] w fun x w' => x = .returned (.string ⟨#[99, 111, 115, 116]⟩) ∧ w' = w := by
  go_enter Try.func7, Try.ntmps7
  go_wp2
  go_ret
  exact ⟨rfl, rfl⟩
set_option maxHeartbeats 1600000 in
set_option maxRecDepth 100000 in
theorem er_61 (w : World) : Calls Try.prog 5 #[.int .i64 61] w fun x w' => x = .returned (.string ⟨#[99, 111, 115, 116]⟩) ∧ w' = w := by
  go_enter Try.func5, Try.ntmps5
  go_wp2_with fail
  refine Calls.mono (wo_61 _) ?_
  rintro x w' ⟨rfl, rfl⟩
  go_wp2
  go_ret
  exact ⟨rfl, rfl⟩
set_option maxHeartbeats 1600000 in
set_option maxRecDepth 100000 in
theorem wo_999 (w : World) : Calls Try.prog 8 #[.int .i64 999] w fun x w' => x = .returned (.string ⟨#[101, 114, 114, 111, 114]⟩) ∧ w' = w := by
  go_enter Try.func8, Try.ntmps8
  go_wp2
  go_ret
  exact ⟨rfl, rfl⟩
set_option maxHeartbeats 1600000 in
set_option maxRecDepth 100000 in
theorem er_999 (w : World) : Calls Try.prog 5 #[.int .i64 999] w fun x w' => x = .returned (.string ⟨#[101, 114, 114, 111, 114]⟩) ∧ w' = w := by
  go_enter Try.func5, Try.ntmps5
  go_wp2_with fail
  refine Calls.mono (wo_999 _) ?_
  rintro x w' ⟨rfl, rfl⟩
  go_wp2
  go_ret
  exact ⟨rfl, rfl⟩
set_option maxHeartbeats 6400000 in
set_option maxRecDepth 100000 in
theorem errors_any (w : World) : Calls Try.prog 4 #[] w fun e w' => e = .returned (.bool true) ∧ w' = w := by
  go_enter Try.func4, Try.ntmps4
  go_wp2_with fail
  refine Calls.mono (er_0 _) ?_
  rintro e w' ⟨rfl, rfl⟩
  go_wp2_with fail
  refine Calls.mono (er_1 _) ?_
  rintro e w' ⟨rfl, rfl⟩
  go_wp2_with fail
  refine Calls.mono (er_2 _) ?_
  rintro e w' ⟨rfl, rfl⟩
  go_wp2_with fail
  refine Calls.mono (er_3 _) ?_
  rintro e w' ⟨rfl, rfl⟩
  go_wp2_with fail
  refine Calls.mono (er_4 _) ?_
  rintro e w' ⟨rfl, rfl⟩
  go_wp2_with fail
  refine Calls.mono (er_11 _) ?_
  rintro e w' ⟨rfl, rfl⟩
  go_wp2_with fail
  refine Calls.mono (er_21 _) ?_
  rintro e w' ⟨rfl, rfl⟩
  go_wp2_with fail
  refine Calls.mono (er_22 _) ?_
  rintro e w' ⟨rfl, rfl⟩
  go_wp2_with fail
  refine Calls.mono (er_31 _) ?_
  rintro e w' ⟨rfl, rfl⟩
  go_wp2_with fail
  refine Calls.mono (er_32 _) ?_
  rintro e w' ⟨rfl, rfl⟩
  go_wp2_with fail
  refine Calls.mono (er_33 _) ?_
  rintro e w' ⟨rfl, rfl⟩
  go_wp2_with fail
  refine Calls.mono (er_34 _) ?_
  rintro e w' ⟨rfl, rfl⟩
  go_wp2_with fail
  refine Calls.mono (er_41 _) ?_
  rintro e w' ⟨rfl, rfl⟩
  go_wp2_with fail
  refine Calls.mono (er_42 _) ?_
  rintro e w' ⟨rfl, rfl⟩
  go_wp2_with fail
  refine Calls.mono (er_43 _) ?_
  rintro e w' ⟨rfl, rfl⟩
  go_wp2_with fail
  refine Calls.mono (er_44 _) ?_
  rintro e w' ⟨rfl, rfl⟩
  go_wp2_with fail
  refine Calls.mono (er_45 _) ?_
  rintro e w' ⟨rfl, rfl⟩
  go_wp2_with fail
  refine Calls.mono (er_46 _) ?_
  rintro e w' ⟨rfl, rfl⟩
  go_wp2_with fail
  refine Calls.mono (er_51 _) ?_
  rintro e w' ⟨rfl, rfl⟩
  go_wp2_with fail
  refine Calls.mono (er_52 _) ?_
  rintro e w' ⟨rfl, rfl⟩
  go_wp2_with fail
  refine Calls.mono (er_53 _) ?_
  rintro e w' ⟨rfl, rfl⟩
  go_wp2_with fail
  refine Calls.mono (er_54 _) ?_
  rintro e w' ⟨rfl, rfl⟩
  go_wp2_with fail
  refine Calls.mono (er_61 _) ?_
  rintro e w' ⟨rfl, rfl⟩
  go_wp2_with fail
  refine Calls.mono (er_999 _) ?_
  rintro e w' ⟨rfl, rfl⟩
  go_wp2
  go_ret
  exact ⟨rfl, rfl⟩
set_option maxHeartbeats 1600000 in
set_option maxRecDepth 100000 in
theorem walk (w : World) : Calls Try.prog 3 #[] w fun e w' => e = .returned (.bool true) ∧ Below w.heap.size w w' := by
  go_enter Try.func3, Try.ntmps3
  go_wp2_with fail
  refine Calls.mono (errors_any _) ?_
  rintro e w1 ⟨rfl, rfl⟩
  go_wp2
  go_ret
  exact ⟨rfl, Below.refl _ _⟩

set_option maxRecDepth 100000 in
theorem lifted (os : Os) (started : os.Started) (H : Type) (enc : TypeId × Value → H) :
    ReturnsInHanded {} Try.checked os 3 .any (Rows.labNamesSpec.pre6 enc Try.prog Try.f3 Rows.labNamesRow.domain false) (Rows.labNamesSpec.post enc Try.prog Try.f3 false true false false) := by
  refine returnsInHanded_of_change (C := Try.checked) own started (by kernel_rfl) Try.func3
    (ChangeSpec.witness6 (enc := enc) (C := Try.checked) false ⟨#[], #[], []⟩ 8 (by kernel_rfl) (by kernel_rfl) (by kernel_rfl) (by kernel_rfl)) ?_
  intro W base args ds gs before hval0 hW hcnd _
  have hW' := hW
  obtain ⟨p, q, hA0, hV, rfl, hfz, hnd⟩ := hW
  have hA : DataW.TrodAll enc Try.prog W 0 (fun _ => true) true Try.f3.params.toList args.toList ds p := hA0
  rw [Try.params3] at hA
  obtain ⟨rfl, rfl, rfl⟩ := trodAll_none hA
  obtain ⟨rfl, rfl⟩ := trodVars_none hV
  clear hA0 hval0
  refine (walk W).mono fun e W' ⟨he, bel⟩ => ?_
  subst he
  exact ⟨_, rfl, _, _, _, [], _, [], hW', trodAll_mk1 (shut_bool Try.underlying4 _), trodAll_mk0, rfl, bel.frame _, fun h => by cases h⟩

theorem proved : Rows.LabNamesSaid :=
  OpenClaim.holds_of_wide 3 Try.f3 rfl rfl rfl rfl rfl rfl rfl ⟨rfl, rfl, rfl, rfl, rfl⟩ rfl rfl rfl rfl rfl (by kernel_rfl) Try.func3 (by kernel_rfl)
    (of_decide_eq_true (by kernel_rfl)) (by unfold Func.isWrapper; first | (rw [if_pos (by decide +kernel)]; kernel_rfl) | (rw [if_neg (by decide +kernel)]; exact ⟨rfl, rfl⟩))
    (fun os started H enc _ => lifted os started H enc)
end Go.Proofs.Ytgajacmmcclajaa.labNames
