/- Package disc's contracts, told by the value. -/
import Derived.Test.YtfknddjclkjhoaaDisc
namespace Go.Proofs.Ytfknddjclkjhoaa
open Go.RowKit

theorem discClass_is {a b c d x y r k : Int} (hk : discK r (nearS a b c d x y) (mostS a b c d x y) = k) (a0 : -536870912 ≤ a) (ac : a ≤ c) (c1 : c ≤ 536870912) (b0 : -536870912 ≤ b) (bd : b ≤ d) (d1 : d ≤ 536870912) (x0 : -536870912 ≤ x) (x1 : x ≤ 536870912) (y0 : -536870912 ≤ y) (y1 : y ≤ 536870912) (hr : r ≤ 1073741824) (w : World) :
    Calls Try.prog 21 #[boxV a b c d, ptV x y, .int .i64 r] w fun e w' => e = .returned (.int .i64 k) ∧ Below w.heap.size w w' := hk ▸ class_any a b c d x y r a0 ac c1 b0 bd d1 x0 x1 y0 y1 hr w
theorem discHad_is {x y u v r : Int} {h : Bool} (hh : discB r (sqI u v x y) = h) (x0 : -536870912 ≤ x) (x1 : x ≤ 536870912) (y0 : -536870912 ≤ y) (y1 : y ≤ 536870912) (u0 : -536870912 ≤ u) (u1 : u ≤ 536870912) (v0 : -536870912 ≤ v) (v1 : v ≤ 536870912) (hr : r ≤ 1073741824) (w : World) :
    Calls Try.prog 22 #[ptV x y, ptV u v, .int .i64 r] w fun e w' => e = .returned (.bool h) ∧ Below w.heap.size w w' := hh ▸ discHas_any x y u v r x0 x1 y0 y1 u0 u1 v0 v1 hr w
end Go.Proofs.Ytfknddjclkjhoaa
