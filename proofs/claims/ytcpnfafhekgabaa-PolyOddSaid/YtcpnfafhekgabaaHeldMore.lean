/- Boxes and points in blocks of the caller's own, side by side (made by tools/gen_held.py). No program in it. -/
import Derived.Test.YtcpnfafhekgabaaHeldBox
namespace Go.Proofs.Ytcpnfafhekgabaa
open Go.RowKit

structure P4 (N : Nat) (a b c d e f g i : Int) (w : World) : Prop where
  f0 : PtIn w (N) a b
  f1 : PtIn w (N + 1) c d
  f2 : PtIn w (N + 1 + 1) e f
  f3 : PtIn w (N + 1 + 1 + 1) g i
theorem P4.later {N : Nat} {w w1 : World} {a b c d e f g i : Int} (h : P4 N a b c d e f g i w) (k : Below w.heap.size w w1) : P4 N a b c d e f g i w1 := ⟨h.f0.later k, h.f1.later k, h.f2.later k, h.f3.later k⟩
abbrev setP4 (w : World) (N : Nat) (a b c d e f g i : Int) : World :=
  ((((((((w.setCell ⟨N, 0, none⟩ (.int .i64 a)).setCell ⟨N, 1, none⟩ (.int .i64 b)).setCell ⟨N + 1, 0, none⟩ (.int .i64 c)).setCell ⟨N + 1, 1, none⟩ (.int .i64 d)).setCell ⟨N + 1 + 1, 0, none⟩ (.int .i64 e)).setCell ⟨N + 1 + 1, 1, none⟩ (.int .i64 f)).setCell ⟨N + 1 + 1 + 1, 0, none⟩ (.int .i64 g)).setCell ⟨N + 1 + 1 + 1, 1, none⟩ (.int .i64 i))
theorem P4.stored {N : Nat} {w : World} {a b c d e f g i : Int} (h : P4 N a b c d e f g i w) (a' b' c' d' e' f' g' i' : Int) : P4 N a' b' c' d' e' f' g' i' (setP4 w N a' b' c' d' e' f' g' i') :=
  ⟨(((((((h.f0.stored a' b').far (c := N + 1) (by omega) 0 (.int .i64 c')).far (c := N + 1) (by omega) 1 (.int .i64 d')).far (c := N + 1 + 1) (by omega) 0 (.int .i64 e')).far (c := N + 1 + 1) (by omega) 1 (.int .i64 f')).far (c := N + 1 + 1 + 1) (by omega) 0 (.int .i64 g')).far (c := N + 1 + 1 + 1) (by omega) 1 (.int .i64 i')),
    (((((((h.f1.far (c := N) (by omega) 0 (.int .i64 a')).far (c := N) (by omega) 1 (.int .i64 b')).stored c' d').far (c := N + 1 + 1) (by omega) 0 (.int .i64 e')).far (c := N + 1 + 1) (by omega) 1 (.int .i64 f')).far (c := N + 1 + 1 + 1) (by omega) 0 (.int .i64 g')).far (c := N + 1 + 1 + 1) (by omega) 1 (.int .i64 i')),
    (((((((h.f2.far (c := N) (by omega) 0 (.int .i64 a')).far (c := N) (by omega) 1 (.int .i64 b')).far (c := N + 1) (by omega) 0 (.int .i64 c')).far (c := N + 1) (by omega) 1 (.int .i64 d')).stored e' f').far (c := N + 1 + 1 + 1) (by omega) 0 (.int .i64 g')).far (c := N + 1 + 1 + 1) (by omega) 1 (.int .i64 i')),
    (((((((h.f3.far (c := N) (by omega) 0 (.int .i64 a')).far (c := N) (by omega) 1 (.int .i64 b')).far (c := N + 1) (by omega) 0 (.int .i64 c')).far (c := N + 1) (by omega) 1 (.int .i64 d')).far (c := N + 1 + 1) (by omega) 0 (.int .i64 e')).far (c := N + 1 + 1) (by omega) 1 (.int .i64 f')).stored g' i')⟩
theorem bel_p4 {W w : World} {N : Nat} (h : Below W.heap.size W w) (hn : W.heap.size ≤ N) (a b c d e f g i : Int) : Below W.heap.size W (setP4 w N a b c d e f g i) :=
  (bel_set (bel_set (bel_set (bel_set (bel_set (bel_set (bel_set (bel_set h (b := N) (by omega) 0 (.int .i64 a)) (b := N) (by omega) 1 (.int .i64 b)) (b := N + 1) (by omega) 0 (.int .i64 c)) (b := N + 1) (by omega) 1 (.int .i64 d)) (b := N + 1 + 1) (by omega) 0 (.int .i64 e)) (b := N + 1 + 1) (by omega) 1 (.int .i64 f)) (b := N + 1 + 1 + 1) (by omega) 0 (.int .i64 g)) (b := N + 1 + 1 + 1) (by omega) 1 (.int .i64 i))
abbrev newP4 (w : World) (a b c d e f g i : Int) (tp : TypeId) : World :=
  ((((w.alloc (.cells #[.int .i64 a, .int .i64 b] tp)).alloc (.cells #[.int .i64 c, .int .i64 d] tp)).alloc (.cells #[.int .i64 e, .int .i64 f] tp)).alloc (.cells #[.int .i64 g, .int .i64 i] tp))
theorem p4_new (w : World) (a b c d e f g i : Int) (tp : TypeId) : P4 w.heap.size a b c d e f g i (newP4 w a b c d e f g i tp) := by
  refine ⟨?_, ?_, ?_, ?_⟩
  · exact (((ptIn_new w a b tp).alloc (.cells #[.int .i64 c, .int .i64 d] tp)).alloc (.cells #[.int .i64 e, .int .i64 f] tp)).alloc (.cells #[.int .i64 g, .int .i64 i] tp)
  · have h := ((ptIn_new (w.alloc (.cells #[.int .i64 a, .int .i64 b] tp)) c d tp).alloc (.cells #[.int .i64 e, .int .i64 f] tp)).alloc (.cells #[.int .i64 g, .int .i64 i] tp)
    rw [show (w.alloc (.cells #[.int .i64 a, .int .i64 b] tp)).heap.size = w.heap.size + 1 by simp] at h
    exact h
  · have h := (ptIn_new ((w.alloc (.cells #[.int .i64 a, .int .i64 b] tp)).alloc (.cells #[.int .i64 c, .int .i64 d] tp)) e f tp).alloc (.cells #[.int .i64 g, .int .i64 i] tp)
    rw [show ((w.alloc (.cells #[.int .i64 a, .int .i64 b] tp)).alloc (.cells #[.int .i64 c, .int .i64 d] tp)).heap.size = w.heap.size + 1 + 1 by simp] at h
    exact h
  · have h := ptIn_new (((w.alloc (.cells #[.int .i64 a, .int .i64 b] tp)).alloc (.cells #[.int .i64 c, .int .i64 d] tp)).alloc (.cells #[.int .i64 e, .int .i64 f] tp)) g i tp
    rw [show (((w.alloc (.cells #[.int .i64 a, .int .i64 b] tp)).alloc (.cells #[.int .i64 c, .int .i64 d] tp)).alloc (.cells #[.int .i64 e, .int .i64 f] tp)).heap.size = w.heap.size + 1 + 1 + 1 by simp] at h
    exact h
theorem bel_newP4 (w : World) (a b c d e f g i : Int) (tp : TypeId) : Below w.heap.size w (newP4 w a b c d e f g i tp) := (bel_alloc (bel_alloc (bel_alloc (bel_alloc (bel_refl w) _) _) _) _)
structure BBP (N : Nat) (a b c d e f g i j l : Int) (w : World) : Prop where
  f0 : BoxIn w (N) a b c d
  f1 : BoxIn w (N + 1) e f g i
  f2 : PtIn w (N + 1 + 1) j l
theorem BBP.later {N : Nat} {w w1 : World} {a b c d e f g i j l : Int} (h : BBP N a b c d e f g i j l w) (k : Below w.heap.size w w1) : BBP N a b c d e f g i j l w1 := ⟨h.f0.later k, h.f1.later k, h.f2.later k⟩
abbrev setBBP (w : World) (N : Nat) (a b c d e f g i j l : Int) : World :=
  ((((((((((w.setCell ⟨N, 0, none⟩ (.int .i64 a)).setCell ⟨N, 1, none⟩ (.int .i64 b)).setCell ⟨N, 2, none⟩ (.int .i64 c)).setCell ⟨N, 3, none⟩ (.int .i64 d)).setCell ⟨N + 1, 0, none⟩ (.int .i64 e)).setCell ⟨N + 1, 1, none⟩ (.int .i64 f)).setCell ⟨N + 1, 2, none⟩ (.int .i64 g)).setCell ⟨N + 1, 3, none⟩ (.int .i64 i)).setCell ⟨N + 1 + 1, 0, none⟩ (.int .i64 j)).setCell ⟨N + 1 + 1, 1, none⟩ (.int .i64 l))
theorem BBP.stored {N : Nat} {w : World} {a b c d e f g i j l : Int} (h : BBP N a b c d e f g i j l w) (a' b' c' d' e' f' g' i' j' l' : Int) : BBP N a' b' c' d' e' f' g' i' j' l' (setBBP w N a' b' c' d' e' f' g' i' j' l') :=
  ⟨(((((((h.f0.stored a' b' c' d').far (c := N + 1) (by omega) 0 (.int .i64 e')).far (c := N + 1) (by omega) 1 (.int .i64 f')).far (c := N + 1) (by omega) 2 (.int .i64 g')).far (c := N + 1) (by omega) 3 (.int .i64 i')).far (c := N + 1 + 1) (by omega) 0 (.int .i64 j')).far (c := N + 1 + 1) (by omega) 1 (.int .i64 l')),
    (((((((h.f1.far (c := N) (by omega) 0 (.int .i64 a')).far (c := N) (by omega) 1 (.int .i64 b')).far (c := N) (by omega) 2 (.int .i64 c')).far (c := N) (by omega) 3 (.int .i64 d')).stored e' f' g' i').far (c := N + 1 + 1) (by omega) 0 (.int .i64 j')).far (c := N + 1 + 1) (by omega) 1 (.int .i64 l')),
    (((((((((h.f2.far (c := N) (by omega) 0 (.int .i64 a')).far (c := N) (by omega) 1 (.int .i64 b')).far (c := N) (by omega) 2 (.int .i64 c')).far (c := N) (by omega) 3 (.int .i64 d')).far (c := N + 1) (by omega) 0 (.int .i64 e')).far (c := N + 1) (by omega) 1 (.int .i64 f')).far (c := N + 1) (by omega) 2 (.int .i64 g')).far (c := N + 1) (by omega) 3 (.int .i64 i')).stored j' l')⟩
theorem bel_bbp {W w : World} {N : Nat} (h : Below W.heap.size W w) (hn : W.heap.size ≤ N) (a b c d e f g i j l : Int) : Below W.heap.size W (setBBP w N a b c d e f g i j l) :=
  (bel_set (bel_set (bel_set (bel_set (bel_set (bel_set (bel_set (bel_set (bel_set (bel_set h (b := N) (by omega) 0 (.int .i64 a)) (b := N) (by omega) 1 (.int .i64 b)) (b := N) (by omega) 2 (.int .i64 c)) (b := N) (by omega) 3 (.int .i64 d)) (b := N + 1) (by omega) 0 (.int .i64 e)) (b := N + 1) (by omega) 1 (.int .i64 f)) (b := N + 1) (by omega) 2 (.int .i64 g)) (b := N + 1) (by omega) 3 (.int .i64 i)) (b := N + 1 + 1) (by omega) 0 (.int .i64 j)) (b := N + 1 + 1) (by omega) 1 (.int .i64 l))
abbrev newBBP (w : World) (a b c d e f g i j l : Int) (tb tp : TypeId) : World :=
  (((w.alloc (.cells #[.int .i64 a, .int .i64 b, .int .i64 c, .int .i64 d] tb)).alloc (.cells #[.int .i64 e, .int .i64 f, .int .i64 g, .int .i64 i] tb)).alloc (.cells #[.int .i64 j, .int .i64 l] tp))
theorem bbp_new (w : World) (a b c d e f g i j l : Int) (tb tp : TypeId) : BBP w.heap.size a b c d e f g i j l (newBBP w a b c d e f g i j l tb tp) := by
  refine ⟨?_, ?_, ?_⟩
  · exact ((boxIn_new w a b c d tb).alloc (.cells #[.int .i64 e, .int .i64 f, .int .i64 g, .int .i64 i] tb)).alloc (.cells #[.int .i64 j, .int .i64 l] tp)
  · have h := (boxIn_new (w.alloc (.cells #[.int .i64 a, .int .i64 b, .int .i64 c, .int .i64 d] tb)) e f g i tb).alloc (.cells #[.int .i64 j, .int .i64 l] tp)
    rw [show (w.alloc (.cells #[.int .i64 a, .int .i64 b, .int .i64 c, .int .i64 d] tb)).heap.size = w.heap.size + 1 by simp] at h
    exact h
  · have h := ptIn_new ((w.alloc (.cells #[.int .i64 a, .int .i64 b, .int .i64 c, .int .i64 d] tb)).alloc (.cells #[.int .i64 e, .int .i64 f, .int .i64 g, .int .i64 i] tb)) j l tp
    rw [show ((w.alloc (.cells #[.int .i64 a, .int .i64 b, .int .i64 c, .int .i64 d] tb)).alloc (.cells #[.int .i64 e, .int .i64 f, .int .i64 g, .int .i64 i] tb)).heap.size = w.heap.size + 1 + 1 by simp] at h
    exact h
theorem bel_newBBP (w : World) (a b c d e f g i j l : Int) (tb tp : TypeId) : Below w.heap.size w (newBBP w a b c d e f g i j l tb tp) := (bel_alloc (bel_alloc (bel_alloc (bel_refl w) _) _) _)
end Go.Proofs.Ytcpnfafhekgabaa
