/- Contracts of package box: distances, cross products, quarters. -/
import Derived.Test.YtcpnfafhekgabaaBox
import Derived.Test.YtcpnfafhekgabaaRow
import Derived.BigQuiet
import Derived.Lib.QuietBelow
namespace Go.Proofs.Ytcpnfafhekgabaa
open Go.RowKit
open Go.Sort (grow)

/-- A contract that leaves the world alone, as one that makes memory. -/
theorem as_below {f : FuncId} {args : Array Value} {v : Value} {w : World} (h : Calls Try.prog f args w fun e w' => e = .returned v ∧ w = w') : Calls Try.prog f args w fun e w' => e = .returned v ∧ Below w.heap.size w w' :=
  h.mono fun _ _ hh => ⟨hh.1, hh.2 ▸ bel_refl _⟩
/-- What a call leaves of a box and of a point that lie in blocks of the caller's own. -/
structure BoxAt (w : World) (b : Nat) (x0 y0 x1 y1 : Int) : Prop where
  c0 : w.cell? ⟨b, 0, none⟩ = some (.int .i64 x0)
  c1 : w.cell? ⟨b, 1, none⟩ = some (.int .i64 y0)
  c2 : w.cell? ⟨b, 2, none⟩ = some (.int .i64 x1)
  c3 : w.cell? ⟨b, 3, none⟩ = some (.int .i64 y1)
  lt : b < w.heap.size
structure PtAt (w : World) (b : Nat) (x y : Int) : Prop where
  c0 : w.cell? ⟨b, 0, none⟩ = some (.int .i64 x)
  c1 : w.cell? ⟨b, 1, none⟩ = some (.int .i64 y)
  lt : b < w.heap.size
theorem boxAt_new (w : World) (a b c d : Int) (n : TypeId) : BoxAt (w.alloc (.cells #[.int .i64 a, .int .i64 b, .int .i64 c, .int .i64 d] n)) w.heap.size a b c d :=
  ⟨by simp, by simp, by simp, by simp, by simp⟩
theorem ptAt_new (w : World) (x y : Int) (n : TypeId) : PtAt (w.alloc (.cells #[.int .i64 x, .int .i64 y] n)) w.heap.size x y :=
  ⟨by simp, by simp, by simp⟩
theorem BoxAt.later {w w1 : World} {b : Nat} {x0 y0 x1 y1 : Int} (h : BoxAt w b x0 y0 x1 y1) (k : Below w.heap.size w w1) : BoxAt w1 b x0 y0 x1 y1 :=
  ⟨(k.cell (p := ⟨b, 0, none⟩) h.lt).trans h.c0, (k.cell (p := ⟨b, 1, none⟩) h.lt).trans h.c1, (k.cell (p := ⟨b, 2, none⟩) h.lt).trans h.c2, (k.cell (p := ⟨b, 3, none⟩) h.lt).trans h.c3, Nat.lt_of_lt_of_le h.lt k.size⟩
theorem PtAt.later {w w1 : World} {b : Nat} {x y : Int} (h : PtAt w b x y) (k : Below w.heap.size w w1) : PtAt w1 b x y :=
  ⟨(k.cell (p := ⟨b, 0, none⟩) h.lt).trans h.c0, (k.cell (p := ⟨b, 1, none⟩) h.lt).trans h.c1, Nat.lt_of_lt_of_le h.lt k.size⟩
theorem BoxAt.alloc {w : World} {b : Nat} {x0 y0 x1 y1 : Int} (h : BoxAt w b x0 y0 x1 y1) (o : Obj) : BoxAt (w.alloc o) b x0 y0 x1 y1 := h.later (bel_alloc (bel_refl w) o)
theorem PtAt.alloc {w : World} {b : Nat} {x y : Int} (h : PtAt w b x y) (o : Obj) : PtAt (w.alloc o) b x y := h.later (bel_alloc (bel_refl w) o)

set_option maxHeartbeats 1000000 in
theorem cross_any (x y u v s t : Int) (x0 : -536870912 ≤ x) (x1 : x ≤ 536870912) (y0 : -536870912 ≤ y) (y1 : y ≤ 536870912) (u0 : -536870912 ≤ u) (u1 : u ≤ 536870912) (v0 : -536870912 ≤ v) (v1 : v ≤ 536870912) (s0 : -536870912 ≤ s) (s1 : s ≤ 536870912) (t0 : -536870912 ≤ t) (t1 : t ≤ 536870912) (w : World) :
    Calls Try.prog 32 #[ptV x y, ptV u v, ptV s t] w fun e w' => e = .returned (.int .i64 (crI x y u v s t)) ∧ Below w.heap.size w w' := by
  have m1 := mul_bd (X := u - x) (Y := t - y) (by omega) (by omega) (by omega) (by omega)
  have m2 := mul_bd (X := v - y) (Y := s - x) (by omega) (by omega) (by omega) (by omega)
  have H := Lib.hid (show crI x y u v s t = (u - x) * (t - y) - (v - y) * (s - x) from rfl)
  go_enter Try.func32, Try.ntmps32
  go_wp2
  go_ret
  exact ⟨by rw [H.out]; rfl, bel_alloc (bel_alloc (bel_alloc (bel_refl w) _) _) _⟩

end Go.Proofs.Ytcpnfafhekgabaa
