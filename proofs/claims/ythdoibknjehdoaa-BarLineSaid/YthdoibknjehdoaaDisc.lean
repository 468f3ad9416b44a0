/- Contracts of package disc: what Class and Has return for every box that may be, every point up to Far and every radius up to 2 to the 30. -/
import Derived.Test.YthdoibknjehdoaaBoxS
import Derived.Test.YthdoibknjehdoaaDiscMath
namespace Go.Proofs.Ythdoibknjehdoaa
open Go.RowKit

theorem near_is {a b c d x y n : Int} (hn : nearS a b c d x y = n) (a0 : -536870912 ≤ a) (ac : a ≤ c) (c1 : c ≤ 536870912) (b0 : -536870912 ≤ b) (bd : b ≤ d) (d1 : d ≤ 536870912) (x0 : -536870912 ≤ x) (x1 : x ≤ 536870912) (y0 : -536870912 ≤ y) (y1 : y ≤ 536870912) (w : World) :
    Calls Try.prog 38 #[boxV a b c d, ptV x y] w fun e w' => e = .returned (.int .i64 n) ∧ Below w.heap.size w w' := hn ▸ near_any a b c d x y a0 ac c1 b0 bd d1 x0 x1 y0 y1 w

end Go.Proofs.Ythdoibknjehdoaa
