/- A box and two points in blocks side by side, and how many of a box's corners a loop has counted. No program in it. -/
import Derived.Test.YtoofbbmddddlcaaLineMath
import Derived.Test.YtoofbbmddddlcaaHeldBox
namespace Go.Proofs.Ytoofbbmddddlcaa
open Go.RowKit

/-- A box and two points in blocks side by side. -/
structure BxPP (n : Nat) (a b c d x y u v : Int) (w : World) : Prop where
  b : BoxAt w n a b c d
  c : PtAt w (n + 1) x y
  p : PtAt w (n + 1 + 1) u v
theorem BxPP.later {n : Nat} {w w1 : World} {a b c d x y u v : Int} (h : BxPP n a b c d x y u v w) (k : Below w.heap.size w w1) : BxPP n a b c d x y u v w1 := ⟨h.b.later k, h.c.later k, h.p.later k⟩
theorem BxPP.alloc {n : Nat} {w : World} {a b c d x y u v : Int} (h : BxPP n a b c d x y u v w) (o : Obj) : BxPP n a b c d x y u v (w.alloc o) := h.later (bel_alloc (bel_refl w) o)
theorem bxpp_new (w : World) (a b c d x y u v : Int) (tb tp : TypeId) : BxPP w.heap.size a b c d x y u v (((w.alloc (.cells #[.int .i64 a, .int .i64 b, .int .i64 c, .int .i64 d] tb)).alloc (.cells #[.int .i64 x, .int .i64 y] tp)).alloc (.cells #[.int .i64 u, .int .i64 v] tp)) := by
  refine ⟨((boxAt_new w a b c d tb).alloc _).alloc _, ?_, ?_⟩
  · have h := (ptAt_new (w.alloc (.cells #[.int .i64 a, .int .i64 b, .int .i64 c, .int .i64 d] tb)) x y tp).alloc (.cells #[.int .i64 u, .int .i64 v] tp)
    rw [show (w.alloc (.cells #[.int .i64 a, .int .i64 b, .int .i64 c, .int .i64 d] tb)).heap.size = w.heap.size + 1 by simp] at h
    exact h
  · have h := ptAt_new ((w.alloc (.cells #[.int .i64 a, .int .i64 b, .int .i64 c, .int .i64 d] tb)).alloc (.cells #[.int .i64 x, .int .i64 y] tp)) u v tp
    rw [show ((w.alloc (.cells #[.int .i64 a, .int .i64 b, .int .i64 c, .int .i64 d] tb)).alloc (.cells #[.int .i64 x, .int .i64 y] tp)).heap.size = w.heap.size + 1 + 1 by simp] at h
    exact h
/-- How many have been counted. -/
structure Tally (h0 h1 h2 h3 : Bool) (j : Nat) (n : Int) : Prop where
  eq : n = found h0 h1 h2 h3 j
/-- The head of a round. -/
def TallyAt (N : Nat) (w : World) (a b c d x y u v : Int) (h0 h1 h2 h3 : Bool) (sn si : Value) (wr : World) : Prop :=
  ∃ n : Int, sn = .int .i64 n ∧ ((si = .int .i64 0 ∧ Tally h0 h1 h2 h3 0 n) ∨ (si = .int .i64 1 ∧ Tally h0 h1 h2 h3 1 n) ∨ (si = .int .i64 2 ∧ Tally h0 h1 h2 h3 2 n) ∨ (si = .int .i64 3 ∧ Tally h0 h1 h2 h3 3 n) ∨ (si = .int .i64 4 ∧ Tally h0 h1 h2 h3 4 n)) ∧
    BxPP N a b c d x y u v wr ∧ Below w.heap.size w wr
theorem tally0 {h1 h2 h3 h0 : Bool} {n m : Int} (h : Tally h0 h1 h2 h3 0 n) (k : m = if h0 then n + 1 else n) : Tally h0 h1 h2 h3 1 m := by
  obtain ⟨rfl⟩ := h; refine ⟨?_⟩; rw [k]; unfold found; cases h0 <;> simp
theorem tally1 {h0 h1 h2 h3 : Bool} {n m : Int} (h : Tally h0 h1 h2 h3 1 n) (k : m = if h1 then n + 1 else n) : Tally h0 h1 h2 h3 2 m := by
  obtain ⟨rfl⟩ := h; refine ⟨?_⟩; rw [k]; unfold found; cases h1 <;> simp
theorem tally2 {h0 h1 h2 h3 : Bool} {n m : Int} (h : Tally h0 h1 h2 h3 2 n) (k : m = if h2 then n + 1 else n) : Tally h0 h1 h2 h3 3 m := by
  obtain ⟨rfl⟩ := h; refine ⟨?_⟩; rw [k]; unfold found; cases h2 <;> simp
theorem tally3 {h0 h1 h2 h3 : Bool} {n m : Int} (h : Tally h0 h1 h2 h3 3 n) (k : m = if h3 then n + 1 else n) : Tally h0 h1 h2 h3 4 m := by
  obtain ⟨rfl⟩ := h; refine ⟨?_⟩; rw [k]; unfold found; cases h3 <;> simp
theorem lineK_at {a b c d a1 a2 c1 c2 r n : Int} {h0 h1 h2 h3 hm g1 g2 : Bool} {m1 m2 : Int} (hr : ¬ r < 1) (e0 : lineB a1 a2 c1 c2 r a b = h0) (e1 : lineB a1 a2 c1 c2 r c b = h1) (e2 : lineB a1 a2 c1 c2 r a d = h2) (e3 : lineB a1 a2 c1 c2 r c d = h3)
    (em : meetB a b c d a1 a2 c1 c2 = hm) (f1 : nearS a b c d a1 a2 = m1) (f2 : nearS a b c d c1 c2 = m2) (k1 : nearB r m1 = g1) (k2 : nearB r m2 = g2) (hn : n = found h0 h1 h2 h3 4) :
    lineK a b c d a1 a2 c1 c2 r = if n = 4 then 2 else if 0 < n then 1 else if hm then 1 else if g1 then 1 else if g2 then 1 else 0 := by
  rw [lineK_of hr e0 e1 e2 e3 em f1 f2 rfl hn, ← k1, ← k2]
  unfold nearB
  simp only [decide_eq_true_eq]
end Go.Proofs.Ytoofbbmddddlcaa
