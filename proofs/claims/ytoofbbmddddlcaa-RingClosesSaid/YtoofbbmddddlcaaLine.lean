/- Contracts of package line: what Has and Class return for every point up to Far, every box that may be, all ends up to Far and every radius up to 2 to the 30. -/
import Derived.Test.YtoofbbmddddlcaaWide
import Derived.Test.YtoofbbmddddlcaaBoxM
import Derived.Test.YtoofbbmddddlcaaRefBoxM
import Derived.Test.YtoofbbmddddlcaaDisc
import Derived.Test.YtoofbbmddddlcaaLineMath
import Derived.Deep.Cut
namespace Go.Proofs.Ytoofbbmddddlcaa
open Go.RowKit

/-- Three points in blocks side by side. -/
structure P3At (n : Nat) (x y u v s t : Int) (w : World) : Prop where
  a : PtAt w n x y
  b : PtAt w (n + 1) u v
  c : PtAt w (n + 1 + 1) s t
theorem P3At.later {n : Nat} {x y u v s t : Int} {w w1 : World} (h : P3At n x y u v s t w) (k : Below w.heap.size w w1) : P3At n x y u v s t w1 := ⟨h.a.later k, h.b.later k, h.c.later k⟩
theorem p3_new (w : World) (x y u v s t : Int) (n : TypeId) : P3At w.heap.size x y u v s t (((w.alloc (.cells #[.int .i64 x, .int .i64 y] n)).alloc (.cells #[.int .i64 u, .int .i64 v] n)).alloc (.cells #[.int .i64 s, .int .i64 t] n)) := by
  refine ⟨((ptAt_new w x y n).alloc _).alloc _, ?_, ?_⟩
  · have h := (ptAt_new (w.alloc (.cells #[.int .i64 x, .int .i64 y] n)) u v n).alloc (.cells #[.int .i64 s, .int .i64 t] n)
    rw [show (w.alloc (.cells #[.int .i64 x, .int .i64 y] n)).heap.size = w.heap.size + 1 by simp] at h
    exact h
  · have h := ptAt_new ((w.alloc (.cells #[.int .i64 x, .int .i64 y] n)).alloc (.cells #[.int .i64 u, .int .i64 v] n)) s t n
    rw [show ((w.alloc (.cells #[.int .i64 x, .int .i64 y] n)).alloc (.cells #[.int .i64 u, .int .i64 v] n)).heap.size = w.heap.size + 1 + 1 by simp] at h
    exact h
theorem bel_p3 (w : World) (x y u v s t : Int) (n : TypeId) : Below w.heap.size w (((w.alloc (.cells #[.int .i64 x, .int .i64 y] n)).alloc (.cells #[.int .i64 u, .int .i64 v] n)).alloc (.cells #[.int .i64 s, .int .i64 t] n)) := bel_alloc (bel_alloc (bel_alloc (bel_refl w) _) _) _

theorem sq_is {a h l : Int} (hh : mulHi (absI a) (absI a) = h) (hl : mulLo (absI a) (absI a) = l) (h0 : -9223372036854775808 ≤ a) (h1 : a ≤ 9223372036854775807) (w : World) :
    Calls Try.prog 55 #[.int .i64 a] w fun e w' => e = .returned (wide h l) ∧ Below w.heap.size w w' := hh ▸ hl ▸ sq_any a h0 h1 w
theorem mul_is {a b h l : Int} (hh : mulHi a b = h) (hl : mulLo a b = l) (h0 : 0 ≤ a) (h1 : a ≤ 18446744073709551615) (h2 : 0 ≤ b) (h3 : b ≤ 18446744073709551615) (w : World) :
    Calls Try.prog 56 #[.int .u64 a, .int .u64 b] w fun e w' => e = .returned (wide h l) ∧ Below w.heap.size w w' := hh ▸ hl ▸ mul_any a b h0 h1 h2 h3 w
theorem cmp_is {a b c d q : Int} (hq : cmpWide a b c d = q) (hb : 0 ≤ b) (hb' : b ≤ 18446744073709551615) (hd : 0 ≤ d) (hd' : d ≤ 18446744073709551615) (w : World) :
    Calls Try.prog 54 #[wide a b, wide c d] w fun e w' => e = .returned (.int .i64 q) ∧ Below w.heap.size w w' := hq ▸ cmp_any a b c d hb hb' hd hd' w




end Go.Proofs.Ytoofbbmddddlcaa
