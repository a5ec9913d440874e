import Derived.Test.YtngoolkojnoplaaLxSkip
namespace Go.Proofs.Ytngoolkojnoplaa.Lx
open Go.RowKit Go.Proofs.Ytngoolkojnoplaa.Sp

theorem kinds_any (w : World) : Calls Try.prog 14 #[] w fun e w' => e = .returned (.slice (some ⟨w.heap.size, 0, none⟩) 3 3) ∧ w' = w.alloc (.cells #[.func (.func 11) #[] #[], .func (.func 17) #[] #[], .func (.func 16) #[] #[], .func (.func 18) #[] #[], .func (.func 19) #[] #[], .func (.func 20) #[] #[]] 44) := by
  go_enter Try.func14, Try.ntmps14
  go_wp2
  go_ret
  exact ⟨rfl, rfl⟩
end Go.Proofs.Ytngoolkojnoplaa.Lx
