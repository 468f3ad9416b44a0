/- Contracts of package box: a corner by its number. -/
import Derived.Test.YtoofbbmddddlcaaBox
namespace Go.Proofs.Ytoofbbmddddlcaa
open Go.RowKit

theorem corner0 (a b c d : Int) (w : World) : (Instr.index 48 (.agg #[.int .i64 a, .int .i64 b, .int .i64 c, .int .i64 b, .int .i64 a, .int .i64 d, .int .i64 c, .int .i64 d]) (.int .i64 0)).run Try.prog w = .ok (ptV a b) w := by
  simp [Instr.index, asIntOf, run_underlying Try.underlying48, go_sem]
theorem corner1 (a b c d : Int) (w : World) : (Instr.index 48 (.agg #[.int .i64 a, .int .i64 b, .int .i64 c, .int .i64 b, .int .i64 a, .int .i64 d, .int .i64 c, .int .i64 d]) (.int .i64 1)).run Try.prog w = .ok (ptV c b) w := by
  simp [Instr.index, asIntOf, run_underlying Try.underlying48, go_sem]
theorem corner2 (a b c d : Int) (w : World) : (Instr.index 48 (.agg #[.int .i64 a, .int .i64 b, .int .i64 c, .int .i64 b, .int .i64 a, .int .i64 d, .int .i64 c, .int .i64 d]) (.int .i64 2)).run Try.prog w = .ok (ptV a d) w := by
  simp [Instr.index, asIntOf, run_underlying Try.underlying48, go_sem]
theorem corner3 (a b c d : Int) (w : World) : (Instr.index 48 (.agg #[.int .i64 a, .int .i64 b, .int .i64 c, .int .i64 b, .int .i64 a, .int .i64 d, .int .i64 c, .int .i64 d]) (.int .i64 3)).run Try.prog w = .ok (ptV c d) w := by
  simp [Instr.index, asIntOf, run_underlying Try.underlying48, go_sem]
end Go.Proofs.Ytoofbbmddddlcaa
