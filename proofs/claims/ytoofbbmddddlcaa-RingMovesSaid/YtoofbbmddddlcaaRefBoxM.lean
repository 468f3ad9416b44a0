/- Contract of the document's Meets of layer 4. -/
import Derived.Test.YtoofbbmddddlcaaRefBox
import Derived.Lib.QuietBelow
import Derived.BigQuiet
namespace Go.Proofs.Ytoofbbmddddlcaa
open Go.RowKit
open Go.Sort (grow)

theorem refCross_is {x y u v s t k : Int} (h : crI x y u v s t = k) (x0 : -536870912 ≤ x) (x1 : x ≤ 536870912) (y0 : -536870912 ≤ y) (y1 : y ≤ 536870912) (u0 : -536870912 ≤ u) (u1 : u ≤ 536870912) (v0 : -536870912 ≤ v) (v1 : v ≤ 536870912) (s0 : -536870912 ≤ s) (s1 : s ≤ 536870912) (t0 : -536870912 ≤ t) (t1 : t ≤ 536870912) (w : World) :
    Calls Try.prog 40 #[ptV x y, ptV u v, ptV s t] w fun e w' => e = .returned (.int .i64 k) ∧ Below w.heap.size w w' := h ▸ refCross_any x y u v s t x0 x1 y0 y1 u0 u1 v0 v1 s0 s1 t0 t1 w
/-- The corners, in a block of the caller's own. -/
structure EightAt (w : World) (g : Nat) (a b c d : Int) : Prop where
  c0 : w.cell? ⟨g, 0, none⟩ = some (.int .i64 a)
  c1 : w.cell? ⟨g, 1, none⟩ = some (.int .i64 b)
  c2 : w.cell? ⟨g, 2, none⟩ = some (.int .i64 c)
  c3 : w.cell? ⟨g, 3, none⟩ = some (.int .i64 b)
  c4 : w.cell? ⟨g, 4, none⟩ = some (.int .i64 a)
  c5 : w.cell? ⟨g, 5, none⟩ = some (.int .i64 d)
  c6 : w.cell? ⟨g, 6, none⟩ = some (.int .i64 c)
  c7 : w.cell? ⟨g, 7, none⟩ = some (.int .i64 d)
  lt : g < w.heap.size
theorem eightAt_new (w : World) (a b c d : Int) (n : TypeId) : EightAt (w.alloc (.cells #[.int .i64 a, .int .i64 b, .int .i64 c, .int .i64 b, .int .i64 a, .int .i64 d, .int .i64 c, .int .i64 d] n)) w.heap.size a b c d :=
  ⟨by simp, by simp, by simp, by simp, by simp, by simp, by simp, by simp, by simp⟩
theorem EightAt.later {w w1 : World} {g : Nat} {a b c d : Int} (h : EightAt w g a b c d) (k : Below w.heap.size w w1) : EightAt w1 g a b c d :=
  ⟨(k.cell (p := ⟨g, 0, none⟩) h.lt).trans h.c0, (k.cell (p := ⟨g, 1, none⟩) h.lt).trans h.c1, (k.cell (p := ⟨g, 2, none⟩) h.lt).trans h.c2, (k.cell (p := ⟨g, 3, none⟩) h.lt).trans h.c3, (k.cell (p := ⟨g, 4, none⟩) h.lt).trans h.c4, (k.cell (p := ⟨g, 5, none⟩) h.lt).trans h.c5, (k.cell (p := ⟨g, 6, none⟩) h.lt).trans h.c6, (k.cell (p := ⟨g, 7, none⟩) h.lt).trans h.c7, Nat.lt_of_lt_of_le h.lt k.size⟩
/-- The head of a round. -/
def RefAt (w : World) (g : Nat) (a b c d : Int) (f : Nat → Int) (x y u v : Int) (sl sr si : Value) (wr : World) : Prop := EightAt wr g a b c d ∧ SideAt w (w.heap.size + 1) (w.heap.size + 1 + 1) f x y u v sl sr si wr

end Go.Proofs.Ytoofbbmddddlcaa
