/- Boxes and points in blocks of the caller's own, side by side (made by tools/gen_held.py). No program in it. -/
import Derived.Test.YtoofbbmddddlcaaHeldBox
namespace Go.Proofs.Ytoofbbmddddlcaa
open Go.RowKit

structure PP (N : Nat) (a b c d : Int) (w : World) : Prop where
  f0 : PtIn w (N) a b
  f1 : PtIn w (N + 1) c d
theorem PP.later {N : Nat} {w w1 : World} {a b c d : Int} (h : PP N a b c d w) (k : Below w.heap.size w w1) : PP N a b c d w1 := ⟨h.f0.later k, h.f1.later k⟩
abbrev setPP (w : World) (N : Nat) (a b c d : Int) : World :=
  ((((w.setCell ⟨N, 0, none⟩ (.int .i64 a)).setCell ⟨N, 1, none⟩ (.int .i64 b)).setCell ⟨N + 1, 0, none⟩ (.int .i64 c)).setCell ⟨N + 1, 1, none⟩ (.int .i64 d))
theorem PP.stored {N : Nat} {w : World} {a b c d : Int} (h : PP N a b c d w) (a' b' c' d' : Int) : PP N a' b' c' d' (setPP w N a' b' c' d') :=
  ⟨(((h.f0.stored a' b').far (c := N + 1) (by omega) 0 (.int .i64 c')).far (c := N + 1) (by omega) 1 (.int .i64 d')),
    (((h.f1.far (c := N) (by omega) 0 (.int .i64 a')).far (c := N) (by omega) 1 (.int .i64 b')).stored c' d')⟩
theorem bel_pp {W w : World} {N : Nat} (h : Below W.heap.size W w) (hn : W.heap.size ≤ N) (a b c d : Int) : Below W.heap.size W (setPP w N a b c d) :=
  (bel_set (bel_set (bel_set (bel_set h (b := N) (by omega) 0 (.int .i64 a)) (b := N) (by omega) 1 (.int .i64 b)) (b := N + 1) (by omega) 0 (.int .i64 c)) (b := N + 1) (by omega) 1 (.int .i64 d))
abbrev newPP (w : World) (a b c d : Int) (tp : TypeId) : World :=
  ((w.alloc (.cells #[.int .i64 a, .int .i64 b] tp)).alloc (.cells #[.int .i64 c, .int .i64 d] tp))
theorem pp_new (w : World) (a b c d : Int) (tp : TypeId) : PP w.heap.size a b c d (newPP w a b c d tp) := by
  refine ⟨?_, ?_⟩
  · exact (ptIn_new w a b tp).alloc (.cells #[.int .i64 c, .int .i64 d] tp)
  · have h := ptIn_new (w.alloc (.cells #[.int .i64 a, .int .i64 b] tp)) c d tp
    rw [show (w.alloc (.cells #[.int .i64 a, .int .i64 b] tp)).heap.size = w.heap.size + 1 by simp] at h
    exact h
theorem bel_newPP (w : World) (a b c d : Int) (tp : TypeId) : Below w.heap.size w (newPP w a b c d tp) := (bel_alloc (bel_alloc (bel_refl w) _) _)
structure BPPPP (N : Nat) (a b c d e f g i j l m o : Int) (w : World) : Prop where
  f0 : BoxIn w (N) a b c d
  f1 : PtIn w (N + 1) e f
  f2 : PtIn w (N + 1 + 1) g i
  f3 : PtIn w (N + 1 + 1 + 1) j l
  f4 : PtIn w (N + 1 + 1 + 1 + 1) m o
theorem BPPPP.later {N : Nat} {w w1 : World} {a b c d e f g i j l m o : Int} (h : BPPPP N a b c d e f g i j l m o w) (k : Below w.heap.size w w1) : BPPPP N a b c d e f g i j l m o w1 := ⟨h.f0.later k, h.f1.later k, h.f2.later k, h.f3.later k, h.f4.later k⟩
abbrev setBPPPP (w : World) (N : Nat) (a b c d e f g i j l m o : Int) : World :=
  ((((((((((((w.setCell ⟨N, 0, none⟩ (.int .i64 a)).setCell ⟨N, 1, none⟩ (.int .i64 b)).setCell ⟨N, 2, none⟩ (.int .i64 c)).setCell ⟨N, 3, none⟩ (.int .i64 d)).setCell ⟨N + 1, 0, none⟩ (.int .i64 e)).setCell ⟨N + 1, 1, none⟩ (.int .i64 f)).setCell ⟨N + 1 + 1, 0, none⟩ (.int .i64 g)).setCell ⟨N + 1 + 1, 1, none⟩ (.int .i64 i)).setCell ⟨N + 1 + 1 + 1, 0, none⟩ (.int .i64 j)).setCell ⟨N + 1 + 1 + 1, 1, none⟩ (.int .i64 l)).setCell ⟨N + 1 + 1 + 1 + 1, 0, none⟩ (.int .i64 m)).setCell ⟨N + 1 + 1 + 1 + 1, 1, none⟩ (.int .i64 o))
theorem BPPPP.stored {N : Nat} {w : World} {a b c d e f g i j l m o : Int} (h : BPPPP N a b c d e f g i j l m o w) (a' b' c' d' e' f' g' i' j' l' m' o' : Int) : BPPPP N a' b' c' d' e' f' g' i' j' l' m' o' (setBPPPP w N a' b' c' d' e' f' g' i' j' l' m' o') :=
  ⟨(((((((((h.f0.stored a' b' c' d').far (c := N + 1) (by omega) 0 (.int .i64 e')).far (c := N + 1) (by omega) 1 (.int .i64 f')).far (c := N + 1 + 1) (by omega) 0 (.int .i64 g')).far (c := N + 1 + 1) (by omega) 1 (.int .i64 i')).far (c := N + 1 + 1 + 1) (by omega) 0 (.int .i64 j')).far (c := N + 1 + 1 + 1) (by omega) 1 (.int .i64 l')).far (c := N + 1 + 1 + 1 + 1) (by omega) 0 (.int .i64 m')).far (c := N + 1 + 1 + 1 + 1) (by omega) 1 (.int .i64 o')),
    (((((((((((h.f1.far (c := N) (by omega) 0 (.int .i64 a')).far (c := N) (by omega) 1 (.int .i64 b')).far (c := N) (by omega) 2 (.int .i64 c')).far (c := N) (by omega) 3 (.int .i64 d')).stored e' f').far (c := N + 1 + 1) (by omega) 0 (.int .i64 g')).far (c := N + 1 + 1) (by omega) 1 (.int .i64 i')).far (c := N + 1 + 1 + 1) (by omega) 0 (.int .i64 j')).far (c := N + 1 + 1 + 1) (by omega) 1 (.int .i64 l')).far (c := N + 1 + 1 + 1 + 1) (by omega) 0 (.int .i64 m')).far (c := N + 1 + 1 + 1 + 1) (by omega) 1 (.int .i64 o')),
    (((((((((((h.f2.far (c := N) (by omega) 0 (.int .i64 a')).far (c := N) (by omega) 1 (.int .i64 b')).far (c := N) (by omega) 2 (.int .i64 c')).far (c := N) (by omega) 3 (.int .i64 d')).far (c := N + 1) (by omega) 0 (.int .i64 e')).far (c := N + 1) (by omega) 1 (.int .i64 f')).stored g' i').far (c := N + 1 + 1 + 1) (by omega) 0 (.int .i64 j')).far (c := N + 1 + 1 + 1) (by omega) 1 (.int .i64 l')).far (c := N + 1 + 1 + 1 + 1) (by omega) 0 (.int .i64 m')).far (c := N + 1 + 1 + 1 + 1) (by omega) 1 (.int .i64 o')),
    (((((((((((h.f3.far (c := N) (by omega) 0 (.int .i64 a')).far (c := N) (by omega) 1 (.int .i64 b')).far (c := N) (by omega) 2 (.int .i64 c')).far (c := N) (by omega) 3 (.int .i64 d')).far (c := N + 1) (by omega) 0 (.int .i64 e')).far (c := N + 1) (by omega) 1 (.int .i64 f')).far (c := N + 1 + 1) (by omega) 0 (.int .i64 g')).far (c := N + 1 + 1) (by omega) 1 (.int .i64 i')).stored j' l').far (c := N + 1 + 1 + 1 + 1) (by omega) 0 (.int .i64 m')).far (c := N + 1 + 1 + 1 + 1) (by omega) 1 (.int .i64 o')),
    (((((((((((h.f4.far (c := N) (by omega) 0 (.int .i64 a')).far (c := N) (by omega) 1 (.int .i64 b')).far (c := N) (by omega) 2 (.int .i64 c')).far (c := N) (by omega) 3 (.int .i64 d')).far (c := N + 1) (by omega) 0 (.int .i64 e')).far (c := N + 1) (by omega) 1 (.int .i64 f')).far (c := N + 1 + 1) (by omega) 0 (.int .i64 g')).far (c := N + 1 + 1) (by omega) 1 (.int .i64 i')).far (c := N + 1 + 1 + 1) (by omega) 0 (.int .i64 j')).far (c := N + 1 + 1 + 1) (by omega) 1 (.int .i64 l')).stored m' o')⟩
theorem bel_bpppp {W w : World} {N : Nat} (h : Below W.heap.size W w) (hn : W.heap.size ≤ N) (a b c d e f g i j l m o : Int) : Below W.heap.size W (setBPPPP w N a b c d e f g i j l m o) :=
  (bel_set (bel_set (bel_set (bel_set (bel_set (bel_set (bel_set (bel_set (bel_set (bel_set (bel_set (bel_set h (b := N) (by omega) 0 (.int .i64 a)) (b := N) (by omega) 1 (.int .i64 b)) (b := N) (by omega) 2 (.int .i64 c)) (b := N) (by omega) 3 (.int .i64 d)) (b := N + 1) (by omega) 0 (.int .i64 e)) (b := N + 1) (by omega) 1 (.int .i64 f)) (b := N + 1 + 1) (by omega) 0 (.int .i64 g)) (b := N + 1 + 1) (by omega) 1 (.int .i64 i)) (b := N + 1 + 1 + 1) (by omega) 0 (.int .i64 j)) (b := N + 1 + 1 + 1) (by omega) 1 (.int .i64 l)) (b := N + 1 + 1 + 1 + 1) (by omega) 0 (.int .i64 m)) (b := N + 1 + 1 + 1 + 1) (by omega) 1 (.int .i64 o))
abbrev newBPPPP (w : World) (a b c d e f g i j l m o : Int) (tb tp : TypeId) : World :=
  (((((w.alloc (.cells #[.int .i64 a, .int .i64 b, .int .i64 c, .int .i64 d] tb)).alloc (.cells #[.int .i64 e, .int .i64 f] tp)).alloc (.cells #[.int .i64 g, .int .i64 i] tp)).alloc (.cells #[.int .i64 j, .int .i64 l] tp)).alloc (.cells #[.int .i64 m, .int .i64 o] tp))
theorem bpppp_new (w : World) (a b c d e f g i j l m o : Int) (tb tp : TypeId) : BPPPP w.heap.size a b c d e f g i j l m o (newBPPPP w a b c d e f g i j l m o tb tp) := by
  refine ⟨?_, ?_, ?_, ?_, ?_⟩
  · exact ((((boxIn_new w a b c d tb).alloc (.cells #[.int .i64 e, .int .i64 f] tp)).alloc (.cells #[.int .i64 g, .int .i64 i] tp)).alloc (.cells #[.int .i64 j, .int .i64 l] tp)).alloc (.cells #[.int .i64 m, .int .i64 o] tp)
  · have h := (((ptIn_new (w.alloc (.cells #[.int .i64 a, .int .i64 b, .int .i64 c, .int .i64 d] tb)) e f tp).alloc (.cells #[.int .i64 g, .int .i64 i] tp)).alloc (.cells #[.int .i64 j, .int .i64 l] tp)).alloc (.cells #[.int .i64 m, .int .i64 o] tp)
    rw [show (w.alloc (.cells #[.int .i64 a, .int .i64 b, .int .i64 c, .int .i64 d] tb)).heap.size = w.heap.size + 1 by simp] at h
    exact h
  · have h := ((ptIn_new ((w.alloc (.cells #[.int .i64 a, .int .i64 b, .int .i64 c, .int .i64 d] tb)).alloc (.cells #[.int .i64 e, .int .i64 f] tp)) g i tp).alloc (.cells #[.int .i64 j, .int .i64 l] tp)).alloc (.cells #[.int .i64 m, .int .i64 o] tp)
    rw [show ((w.alloc (.cells #[.int .i64 a, .int .i64 b, .int .i64 c, .int .i64 d] tb)).alloc (.cells #[.int .i64 e, .int .i64 f] tp)).heap.size = w.heap.size + 1 + 1 by simp] at h
    exact h
  · have h := (ptIn_new (((w.alloc (.cells #[.int .i64 a, .int .i64 b, .int .i64 c, .int .i64 d] tb)).alloc (.cells #[.int .i64 e, .int .i64 f] tp)).alloc (.cells #[.int .i64 g, .int .i64 i] tp)) j l tp).alloc (.cells #[.int .i64 m, .int .i64 o] tp)
    rw [show (((w.alloc (.cells #[.int .i64 a, .int .i64 b, .int .i64 c, .int .i64 d] tb)).alloc (.cells #[.int .i64 e, .int .i64 f] tp)).alloc (.cells #[.int .i64 g, .int .i64 i] tp)).heap.size = w.heap.size + 1 + 1 + 1 by simp] at h
    exact h
  · have h := ptIn_new ((((w.alloc (.cells #[.int .i64 a, .int .i64 b, .int .i64 c, .int .i64 d] tb)).alloc (.cells #[.int .i64 e, .int .i64 f] tp)).alloc (.cells #[.int .i64 g, .int .i64 i] tp)).alloc (.cells #[.int .i64 j, .int .i64 l] tp)) m o tp
    rw [show ((((w.alloc (.cells #[.int .i64 a, .int .i64 b, .int .i64 c, .int .i64 d] tb)).alloc (.cells #[.int .i64 e, .int .i64 f] tp)).alloc (.cells #[.int .i64 g, .int .i64 i] tp)).alloc (.cells #[.int .i64 j, .int .i64 l] tp)).heap.size = w.heap.size + 1 + 1 + 1 + 1 by simp] at h
    exact h
theorem bel_newBPPPP (w : World) (a b c d e f g i j l m o : Int) (tb tp : TypeId) : Below w.heap.size w (newBPPPP w a b c d e f g i j l m o tb tp) := (bel_alloc (bel_alloc (bel_alloc (bel_alloc (bel_alloc (bel_refl w) _) _) _) _) _)
end Go.Proofs.Ytoofbbmddddlcaa
