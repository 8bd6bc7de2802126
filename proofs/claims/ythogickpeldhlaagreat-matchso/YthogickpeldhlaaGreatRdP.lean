/- The walks of syntax.read at rules, and of what calls it: a fault that is thrown is caught at the edge. -/
import Derived.Test.YthogickpeldhlaaGreatRdR
import Derived.Defers
import Derived.Recover
namespace Go.Proofs.YthogickpeldhlaaGreat
open Go.RowKit Go.Sort

theorem assertThrown (v : Value) (w : World) : (Instr.typeAssert (.iface 113 v) 20 113 false).run Tryz.prog w = .ok v w := by
  kernel_rfl
theorem fieldThrown (x y : Int) (w : World) : (Instr.field 113 (.agg #[.int .i64 x, .int .i64 y]) 0).run Tryz.prog w = .ok (.agg #[.int .i64 x, .int .i64 y]) w := by
  kernel_rfl

/-- What a call answers beside a fault; where; that. -/
def toldRule (s : Bs) : List RuleD × Int × Nat :=
  if 3000 < s.length then ([], 4, 0) else match rulesGo 16 [] s with
    | .ok out _ => (out, 0, 0)
    | .bad n r => ([], n, s.length - r.length)

end Go.Proofs.YthogickpeldhlaaGreat
