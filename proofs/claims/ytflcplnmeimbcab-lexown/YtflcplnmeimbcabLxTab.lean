import Derived.Test.YtflcplnmeimbcabLxSkip
namespace Go.Proofs.Ytflcplnmeimbcab.Lx
open Go.RowKit Go.Proofs.Ytflcplnmeimbcab.Sp

theorem kinds_any (w : World) : Calls Try.prog 16 #[] w fun e w' => e = .returned (.slice (some ⟨w.heap.size, 0, none⟩) 3 3) ∧ w' = w.alloc (.cells #[.func (.func 13) #[] #[], .func (.func 19) #[] #[], .func (.func 18) #[] #[], .func (.func 20) #[] #[], .func (.func 21) #[] #[], .func (.func 22) #[] #[]] 48) := by
  go_enter Try.func16, Try.ntmps16
  go_wp2
  go_ret
  exact ⟨rfl, rfl⟩
end Go.Proofs.Ytflcplnmeimbcab.Lx
