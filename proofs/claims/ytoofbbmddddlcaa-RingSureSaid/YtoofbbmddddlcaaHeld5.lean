/- A box and two points in blocks of the caller's own, behind calls and behind stores into all of them. -/
import Derived.Test.YtoofbbmddddlcaaHeldBox
namespace Go.Proofs.Ytoofbbmddddlcaa
open Go.RowKit

/-- A box and two points, in three blocks side by side that may be written. -/
structure BPP (n : Nat) (a b c d x y u v : Int) (w : World) : Prop where
  b : BoxIn w n a b c d
  c : PtIn w (n + 1) x y
  p : PtIn w (n + 1 + 1) u v
theorem BPP.later {n : Nat} {w w1 : World} {a b c d x y u v : Int} (h : BPP n a b c d x y u v w) (k : Below w.heap.size w w1) : BPP n a b c d x y u v w1 := ⟨h.b.later k, h.c.later k, h.p.later k⟩
/-- A box and a point stored over those before. -/
abbrev setBP (w : World) (n : Nat) (a b c d x y : Int) : World :=
  (((((w.setCell ⟨n, 0, none⟩ (.int .i64 a)).setCell ⟨n, 1, none⟩ (.int .i64 b)).setCell ⟨n, 2, none⟩ (.int .i64 c)).setCell ⟨n, 3, none⟩ (.int .i64 d)).setCell ⟨n + 1, 0, none⟩ (.int .i64 x)).setCell ⟨n + 1, 1, none⟩ (.int .i64 y)
abbrev setBPP (w : World) (n : Nat) (a b c d x y u v : Int) : World :=
  ((setBP w n a b c d x y).setCell ⟨n + 1 + 1, 0, none⟩ (.int .i64 u)).setCell ⟨n + 1 + 1, 1, none⟩ (.int .i64 v)
theorem BPP.stored {n : Nat} {w : World} {a b c d x y u v : Int} (h : BPP n a b c d x y u v w) (a' b' c' d' x' y' u' v' : Int) : BPP n a' b' c' d' x' y' u' v' (setBPP w n a' b' c' d' x' y' u' v') :=
  ⟨((((h.b.stored a' b' c' d').far (c := n + 1) (by omega) 0 (.int .i64 x')).far (c := n + 1) (by omega) 1 (.int .i64 y')).far (c := n + 1 + 1) (by omega) 0 (.int .i64 u')).far (c := n + 1 + 1) (by omega) 1 (.int .i64 v'),
    ((((((h.c.far (c := n) (by omega) 0 (.int .i64 a')).far (c := n) (by omega) 1 (.int .i64 b')).far (c := n) (by omega) 2 (.int .i64 c')).far (c := n) (by omega) 3 (.int .i64 d')).stored x' y').far (c := n + 1 + 1) (by omega) 0 (.int .i64 u')).far (c := n + 1 + 1) (by omega) 1 (.int .i64 v'),
    ((((((h.p.far (c := n) (by omega) 0 (.int .i64 a')).far (c := n) (by omega) 1 (.int .i64 b')).far (c := n) (by omega) 2 (.int .i64 c')).far (c := n) (by omega) 3 (.int .i64 d')).far (c := n + 1) (by omega) 0 (.int .i64 x')).far (c := n + 1) (by omega) 1 (.int .i64 y')).stored u' v'⟩
theorem bel_bp {W w : World} {n : Nat} (h : Below W.heap.size W w) (hn : W.heap.size ≤ n) (a b c d x y : Int) : Below W.heap.size W (setBP w n a b c d x y) :=
  bel_set (bel_set (bel_set (bel_set (bel_set (bel_set h hn 0 (.int .i64 a)) hn 1 (.int .i64 b)) hn 2 (.int .i64 c)) hn 3 (.int .i64 d)) (b := n + 1) (by omega) 0 (.int .i64 x)) (b := n + 1) (by omega) 1 (.int .i64 y)
theorem bel_bpp {W w : World} {n : Nat} (h : Below W.heap.size W w) (hn : W.heap.size ≤ n) (a b c d x y u v : Int) : Below W.heap.size W (setBPP w n a b c d x y u v) :=
  bel_set (bel_set (bel_bp h hn a b c d x y) (b := n + 1 + 1) (by omega) 0 (.int .i64 u)) (b := n + 1 + 1) (by omega) 1 (.int .i64 v)
/-- The three blocks just laid. -/
abbrev newBPP (w : World) (a b c d x y u v : Int) (tb tp : TypeId) : World :=
  ((w.alloc (.cells #[.int .i64 a, .int .i64 b, .int .i64 c, .int .i64 d] tb)).alloc (.cells #[.int .i64 x, .int .i64 y] tp)).alloc (.cells #[.int .i64 u, .int .i64 v] tp)
theorem bpp_new (w : World) (a b c d x y u v : Int) (tb tp : TypeId) : BPP w.heap.size a b c d x y u v (newBPP w a b c d x y u v tb tp) := by
  refine ⟨((boxIn_new w a b c d tb).alloc _).alloc _, ?_, ?_⟩
  · have h := (ptIn_new (w.alloc (.cells #[.int .i64 a, .int .i64 b, .int .i64 c, .int .i64 d] tb)) x y tp).alloc (.cells #[.int .i64 u, .int .i64 v] tp)
    rw [show (w.alloc (.cells #[.int .i64 a, .int .i64 b, .int .i64 c, .int .i64 d] tb)).heap.size = w.heap.size + 1 by simp] at h
    exact h
  · have h := ptIn_new ((w.alloc (.cells #[.int .i64 a, .int .i64 b, .int .i64 c, .int .i64 d] tb)).alloc (.cells #[.int .i64 x, .int .i64 y] tp)) u v tp
    rw [show ((w.alloc (.cells #[.int .i64 a, .int .i64 b, .int .i64 c, .int .i64 d] tb)).alloc (.cells #[.int .i64 x, .int .i64 y] tp)).heap.size = w.heap.size + 1 + 1 by simp] at h
    exact h
theorem bel_newBPP (w : World) (a b c d x y u v : Int) (tb tp : TypeId) : Below w.heap.size w (newBPP w a b c d x y u v tb tp) := bel_alloc (bel_alloc (bel_alloc (bel_refl w) _) _) _
/-- The same of a box and a point alone. -/
structure BP (n : Nat) (a b c d x y : Int) (w : World) : Prop where
  b : BoxIn w n a b c d
  c : PtIn w (n + 1) x y
theorem BP.later {n : Nat} {w w1 : World} {a b c d x y : Int} (h : BP n a b c d x y w) (k : Below w.heap.size w w1) : BP n a b c d x y w1 := ⟨h.b.later k, h.c.later k⟩
theorem BP.stored {n : Nat} {w : World} {a b c d x y : Int} (h : BP n a b c d x y w) (a' b' c' d' x' y' : Int) : BP n a' b' c' d' x' y' (setBP w n a' b' c' d' x' y') :=
  ⟨((h.b.stored a' b' c' d').far (c := n + 1) (by omega) 0 (.int .i64 x')).far (c := n + 1) (by omega) 1 (.int .i64 y'),
    (((((h.c.far (c := n) (by omega) 0 (.int .i64 a')).far (c := n) (by omega) 1 (.int .i64 b')).far (c := n) (by omega) 2 (.int .i64 c')).far (c := n) (by omega) 3 (.int .i64 d')).stored x' y')⟩
abbrev newBP (w : World) (a b c d x y : Int) (tb tp : TypeId) : World :=
  (w.alloc (.cells #[.int .i64 a, .int .i64 b, .int .i64 c, .int .i64 d] tb)).alloc (.cells #[.int .i64 x, .int .i64 y] tp)
theorem bp_new (w : World) (a b c d x y : Int) (tb tp : TypeId) : BP w.heap.size a b c d x y (newBP w a b c d x y tb tp) := by
  refine ⟨(boxIn_new w a b c d tb).alloc _, ?_⟩
  have h := ptIn_new (w.alloc (.cells #[.int .i64 a, .int .i64 b, .int .i64 c, .int .i64 d] tb)) x y tp
  rw [show (w.alloc (.cells #[.int .i64 a, .int .i64 b, .int .i64 c, .int .i64 d] tb)).heap.size = w.heap.size + 1 by simp] at h
  exact h
theorem bel_newBP (w : World) (a b c d x y : Int) (tb tp : TypeId) : Below w.heap.size w (newBP w a b c d x y tb tp) := bel_alloc (bel_alloc (bel_refl w) _) _
end Go.Proofs.Ytoofbbmddddlcaa
