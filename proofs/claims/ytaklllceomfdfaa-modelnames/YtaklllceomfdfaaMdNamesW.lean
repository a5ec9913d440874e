import Derived.Test.YtaklllceomfdfaaMdHead
namespace Go.Proofs.Ytaklllceomfdfaa.Md
open Go.RowKit Go.Maps Go.Proofs.Ytaklllceomfdfaa.Nm

set_option maxRecDepth 100000 in
theorem namesWalk (w : World) : Calls Try.prog 3 #[] w fun e w' => e = .returned (.bool true) ∧ Below w.heap.size w w' := by
  go_enter Try.func3, Try.ntmps3
  go_wp2_with fail
  refine (head_any _).mono ?_
  rintro _ w1 ⟨rfl, h1⟩
  have H1 : Hid (Below w.heap.size w w1) := h1
  clear h1
  go_wp2
  go_ret
  exact ⟨rfl, H1.out⟩
end Go.Proofs.Ytaklllceomfdfaa.Md
