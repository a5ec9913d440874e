import Derived.Test.YtkdepeadledpnaaLxSkip
namespace Go.Proofs.Ytkdepeadledpnaa.Lx
open Go.RowKit Go.Proofs.Ytkdepeadledpnaa.Sp

theorem kinds_any (w : World) : Calls Try.prog 25 #[] w fun e w' => e = .returned (.slice (some ⟨w.heap.size, 0, none⟩) 3 3) ∧ w' = w.alloc (.cells #[.func (.func 57) #[] #[], .func (.func 58) #[] #[], .func (.func 59) #[] #[], .func (.func 60) #[] #[], .func (.func 61) #[] #[], .func (.func 62) #[] #[]] 57) := by
  go_enter Try.func25, Try.ntmps25
  go_wp2
  go_ret
  exact ⟨rfl, rfl⟩
end Go.Proofs.Ytkdepeadledpnaa.Lx
