import Derived.Test.YtoeioppmlnognaaArLink
import Derived.LoopN
namespace Go.Proofs.Ytoeioppmlnognaa.Ar
open Go.RowKit

theorem idx0 (a b : Int) (w : World) : (Instr.index 90 (.agg #[I a, I b]) (.int .i64 0)).run Try.prog w = .ok (I a) w := by kernel_rfl
theorem idx1 (a b : Int) (w : World) : (Instr.index 90 (.agg #[I a, I b]) (.int .i64 1)).run Try.prog w = .ok (I b) w := by kernel_rfl
end Go.Proofs.Ytoeioppmlnognaa.Ar
