/- Contracts of the document's answer for layer 7: what LineHas and Line return for every point up to Far, every box that may be, all ends up to Far and every radius up to 2 to the 30. -/
import Derived.Test.YtoofbbmddddlcaaRefWide
import Derived.Test.YtoofbbmddddlcaaRefMost
import Derived.Test.YtoofbbmddddlcaaLine
import Derived.Test.YtoofbbmddddlcaaTally
namespace Go.Proofs.Ytoofbbmddddlcaa
open Go.RowKit

theorem refSq_is {a h l : Int} (hh : mulHi (absI a) (absI a) = h) (hl : mulLo (absI a) (absI a) = l) (h0 : -9223372036854775808 ≤ a) (h1 : a ≤ 9223372036854775807) (w : World) :
    Calls Try.prog 58 #[.int .i64 a] w fun e w' => e = .returned (wide h l) ∧ Below w.heap.size w w' := hh ▸ hl ▸ refSq_any a h0 h1 w
theorem refMul_is {a b h l : Int} (hh : mulHi a b = h) (hl : mulLo a b = l) (h0 : 0 ≤ a) (h1 : a ≤ 18446744073709551615) (h2 : 0 ≤ b) (h3 : b ≤ 18446744073709551615) (w : World) :
    Calls Try.prog 59 #[.int .u64 a, .int .u64 b] w fun e w' => e = .returned (wide h l) ∧ Below w.heap.size w w' := hh ▸ hl ▸ refMul_any a b h0 h1 h2 h3 w
theorem refCmp_is {a b c d q : Int} (hq : cmpWide a b c d = q) (hb : 0 ≤ b) (hb' : b ≤ 18446744073709551615) (hd : 0 ≤ d) (hd' : d ≤ 18446744073709551615) (w : World) :
    Calls Try.prog 57 #[wide a b, wide c d] w fun e w' => e = .returned (.int .i64 q) ∧ Below w.heap.size w w' := hq ▸ refCmp_any a b c d hb hb' hd hd' w
theorem refDist_is {x y u v k : Int} (h : sqI x y u v = k) (x0 : -536870912 ≤ x) (x1 : x ≤ 536870912) (y0 : -536870912 ≤ y) (y1 : y ≤ 536870912) (u0 : -536870912 ≤ u) (u1 : u ≤ 536870912) (v0 : -536870912 ≤ v) (v1 : v ≤ 536870912) (w : World) :
    Calls Try.prog 38 #[ptV x y, ptV u v] w fun e w' => e = .returned (.int .i64 k) ∧ Below w.heap.size w w' := h ▸ dist_any x y u v x0 x1 y0 y1 u0 u1 v0 v1 w

end Go.Proofs.Ytoofbbmddddlcaa
