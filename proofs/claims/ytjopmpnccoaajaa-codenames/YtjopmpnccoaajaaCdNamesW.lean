import Derived.Test.YtjopmpnccoaajaaCdTab
namespace Go.Proofs.Ytjopmpnccoaajaa.Cd
open Go.RowKit
set_option maxHeartbeats 1600000 in
set_option maxRecDepth 100000 in
theorem namesWalk (w : World) : Calls Try.prog 3 #[] w fun e w' => e = .returned (.bool true) ∧ Below w.heap.size w w' := by
  go_enter Try.func3, Try.ntmps3
  go_wp2_with fail
  refine Calls.mono (ctab _) ?_
  rintro e w1 ⟨⟨g, rfl⟩, hb⟩
  have HB := show Hid _ from hb
  clear hb
  go_wp2
  go_ret
  exact ⟨rfl, HB.out⟩
end Go.Proofs.Ytjopmpnccoaajaa.Cd
