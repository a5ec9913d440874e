import Derived.Test.YtnededkmjmbioaaDoorVfHead
namespace Go.Proofs.YtnededkmjmbioaaDoor.Vf
open Go.RowKit Go.Proofs.YtnededkmjmbioaaDoor.Nm
set_option maxHeartbeats 1600000 in
set_option maxRecDepth 100000 in
theorem namesWalk (w : World) (hE : Ef w) : Calls Tryd.prog 3 #[] w fun e w' => e = .returned (.bool true) ∧ Below w.heap.size w w' := by
  have HH : Hid (Calls Tryd.prog 8 #[] w fun e w' => e = .returned (.bool true) ∧ Below w.heap.size w w') := head_any w hE
  clear hE
  go_enter Tryd.func3, Tryd.ntmps3
  go_wp2_with fail
  refine Calls.mono HH.out ?_
  rintro e w2 ⟨rfl, hb⟩
  have HB : Hid (Below w.heap.size w w2) := hb
  clear hb
  go_wp2_with fail
  go_ret
  exact ⟨rfl, HB.out⟩
end Go.Proofs.YtnededkmjmbioaaDoor.Vf
