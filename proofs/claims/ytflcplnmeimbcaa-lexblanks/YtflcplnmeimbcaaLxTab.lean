import Derived.Test.YtflcplnmeimbcaaLxSkip
namespace Go.Proofs.Ytflcplnmeimbcaa.Lx
open Go.RowKit Go.Proofs.Ytflcplnmeimbcaa.Sp

theorem kinds_any (w : World) : Calls Try.prog 31 #[] w fun e w' => e = .returned (.slice (some ⟨w.heap.size, 0, none⟩) 3 3) ∧ w' = w.alloc (.cells #[.func (.func 27) #[] #[], .func (.func 36) #[] #[], .func (.func 35) #[] #[], .func (.func 37) #[] #[], .func (.func 38) #[] #[], .func (.func 39) #[] #[]] 59) := by
  go_enter Try.func31, Try.ntmps31
  go_wp2
  go_ret
  exact ⟨rfl, rfl⟩
end Go.Proofs.Ytflcplnmeimbcaa.Lx
