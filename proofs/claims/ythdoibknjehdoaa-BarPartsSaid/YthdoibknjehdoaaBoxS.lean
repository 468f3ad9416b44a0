/- Contracts of package box: the farthest point, quarters. -/
import Derived.Test.YthdoibknjehdoaaBoxD
import Derived.Laws.Rows
namespace Go.Proofs.Ythdoibknjehdoaa
open Go.RowKit
open Go.Sort (grow)


/-- The value of four boxes. -/
abbrev fourV (a b c d x y : Int) : Value := .agg #[.int .i64 a, .int .i64 b, .int .i64 x, .int .i64 y, .int .i64 x, .int .i64 b, .int .i64 c, .int .i64 y, .int .i64 a, .int .i64 y, .int .i64 x, .int .i64 d, .int .i64 x, .int .i64 y, .int .i64 c, .int .i64 d]
abbrev zerosV : Value := .agg #[.int .i64 0, .int .i64 0, .int .i64 0, .int .i64 0, .int .i64 0, .int .i64 0, .int .i64 0, .int .i64 0, .int .i64 0, .int .i64 0, .int .i64 0, .int .i64 0, .int .i64 0, .int .i64 0, .int .i64 0, .int .i64 0]

/-- The value of what Split returns. -/
def splV (a b c d : Int) : Value := .tuple #[if splB a b c d then fourV a b c d (a + (c - a) / 2) (b + (d - b) / 2) else zerosV, .bool (splB a b c d)]
theorem splV_no {a b c d : Int} (h : splB a b c d = false) : splV a b c d = .tuple #[zerosV, .bool false] := by unfold splV; rw [h]; rfl
theorem splV_yes {a b c d : Int} (h : splB a b c d = true) : splV a b c d = .tuple #[fourV a b c d (a + (c - a) / 2) (b + (d - b) / 2), .bool true] := by unfold splV; rw [h]; rfl
end Go.Proofs.Ythdoibknjehdoaa
