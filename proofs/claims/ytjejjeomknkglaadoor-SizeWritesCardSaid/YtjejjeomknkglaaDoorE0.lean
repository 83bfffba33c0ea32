/- Sizes that are compared. -/
import Derived.Test.YtjejjeomknkglaaDoorA1
namespace Go.Proofs.YtjejjeomknkglaaDoor
set_option linter.unusedVariables false
set_option linter.unusedSimpArgs false
open Go.RowKit

theorem eqD (a b c x y z : Int) (w : World) : (binOp .eql 23 (.agg #[.int .i64 a, .int .i64 b, .int .i64 c]) (.agg #[.int .i64 x, .int .i64 y, .int .i64 z])).run Tryd.prog w = .ok (.bool (decide (a = x) && (decide (b = y) && decide (c = z)))) w := by
  by_cases h1 : a = x <;> by_cases h2 : b = y <;> by_cases h3 : c = z <;> simp [go_sem, h1, h2, h3]
theorem neD (a b c x y z : Int) (w : World) : (binOp .neq 23 (.agg #[.int .i64 a, .int .i64 b, .int .i64 c]) (.agg #[.int .i64 x, .int .i64 y, .int .i64 z])).run Tryd.prog w = .ok (.bool (!(decide (a = x) && (decide (b = y) && decide (c = z))))) w := by
  by_cases h1 : a = x <;> by_cases h2 : b = y <;> by_cases h3 : c = z <;> simp [go_sem, h1, h2, h3]
theorem eqSp (a b x y : Int) (w : World) : (binOp .eql 66 (.agg #[.int .i64 a, .int .i64 b]) (.agg #[.int .i64 x, .int .i64 y])).run Tryd.prog w = .ok (.bool (decide (a = x) && decide (b = y))) w := by
  by_cases h1 : a = x <;> by_cases h2 : b = y <;> simp [go_sem, h1, h2]
theorem neSp (a b x y : Int) (w : World) : (binOp .neq 66 (.agg #[.int .i64 a, .int .i64 b]) (.agg #[.int .i64 x, .int .i64 y])).run Tryd.prog w = .ok (.bool (!(decide (a = x) && decide (b = y)))) w := by
  by_cases h1 : a = x <;> by_cases h2 : b = y <;> simp [go_sem, h1, h2]
end Go.Proofs.YtjejjeomknkglaaDoor
