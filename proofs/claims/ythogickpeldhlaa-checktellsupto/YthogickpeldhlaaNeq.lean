/- Two faults that are one are not apart. -/
import Derived.Test.YthogickpeldhlaaRows
import Derived.WalkKit
import Derived.Laws.StructEq
namespace Go.Proofs.Ythogickpeldhlaa

theorem neqFault (x y : Int) (w : World) : (binOp .neq 30 (.agg #[.int .i64 x, .int .i64 y]) (.agg #[.int .i64 x, .int .i64 y])).run Try.prog w = .ok (.bool false) w := by
  go_simp

end Go.Proofs.Ythogickpeldhlaa
