/- Boxes and points in blocks of the caller's own, side by side (made by tools/gen_held.py). No program in it. -/
import Derived.Test.YtoofbbmddddlcaaHeldBox
namespace Go.Proofs.Ytoofbbmddddlcaa
open Go.RowKit

structure BPPP (N : Nat) (a b c d e f g i j l : Int) (w : World) : Prop where
  f0 : BoxIn w (N) a b c d
  f1 : PtIn w (N + 1) e f
  f2 : PtIn w (N + 1 + 1) g i
  f3 : PtIn w (N + 1 + 1 + 1) j l
theorem BPPP.later {N : Nat} {w w1 : World} {a b c d e f g i j l : Int} (h : BPPP N a b c d e f g i j l w) (k : Below w.heap.size w w1) : BPPP N a b c d e f g i j l w1 := ⟨h.f0.later k, h.f1.later k, h.f2.later k, h.f3.later k⟩
abbrev setBPPP (w : World) (N : Nat) (a b c d e f g i j l : Int) : World :=
  ((((((((((w.setCell ⟨N, 0, none⟩ (.int .i64 a)).setCell ⟨N, 1, none⟩ (.int .i64 b)).setCell ⟨N, 2, none⟩ (.int .i64 c)).setCell ⟨N, 3, none⟩ (.int .i64 d)).setCell ⟨N + 1, 0, none⟩ (.int .i64 e)).setCell ⟨N + 1, 1, none⟩ (.int .i64 f)).setCell ⟨N + 1 + 1, 0, none⟩ (.int .i64 g)).setCell ⟨N + 1 + 1, 1, none⟩ (.int .i64 i)).setCell ⟨N + 1 + 1 + 1, 0, none⟩ (.int .i64 j)).setCell ⟨N + 1 + 1 + 1, 1, none⟩ (.int .i64 l))
theorem BPPP.stored {N : Nat} {w : World} {a b c d e f g i j l : Int} (h : BPPP N a b c d e f g i j l w) (a' b' c' d' e' f' g' i' j' l' : Int) : BPPP N a' b' c' d' e' f' g' i' j' l' (setBPPP w N a' b' c' d' e' f' g' i' j' l') :=
  ⟨(((((((h.f0.stored a' b' c' d').far (c := N + 1) (by omega) 0 (.int .i64 e')).far (c := N + 1) (by omega) 1 (.int .i64 f')).far (c := N + 1 + 1) (by omega) 0 (.int .i64 g')).far (c := N + 1 + 1) (by omega) 1 (.int .i64 i')).far (c := N + 1 + 1 + 1) (by omega) 0 (.int .i64 j')).far (c := N + 1 + 1 + 1) (by omega) 1 (.int .i64 l')),
    (((((((((h.f1.far (c := N) (by omega) 0 (.int .i64 a')).far (c := N) (by omega) 1 (.int .i64 b')).far (c := N) (by omega) 2 (.int .i64 c')).far (c := N) (by omega) 3 (.int .i64 d')).stored e' f').far (c := N + 1 + 1) (by omega) 0 (.int .i64 g')).far (c := N + 1 + 1) (by omega) 1 (.int .i64 i')).far (c := N + 1 + 1 + 1) (by omega) 0 (.int .i64 j')).far (c := N + 1 + 1 + 1) (by omega) 1 (.int .i64 l')),
    (((((((((h.f2.far (c := N) (by omega) 0 (.int .i64 a')).far (c := N) (by omega) 1 (.int .i64 b')).far (c := N) (by omega) 2 (.int .i64 c')).far (c := N) (by omega) 3 (.int .i64 d')).far (c := N + 1) (by omega) 0 (.int .i64 e')).far (c := N + 1) (by omega) 1 (.int .i64 f')).stored g' i').far (c := N + 1 + 1 + 1) (by omega) 0 (.int .i64 j')).far (c := N + 1 + 1 + 1) (by omega) 1 (.int .i64 l')),
    (((((((((h.f3.far (c := N) (by omega) 0 (.int .i64 a')).far (c := N) (by omega) 1 (.int .i64 b')).far (c := N) (by omega) 2 (.int .i64 c')).far (c := N) (by omega) 3 (.int .i64 d')).far (c := N + 1) (by omega) 0 (.int .i64 e')).far (c := N + 1) (by omega) 1 (.int .i64 f')).far (c := N + 1 + 1) (by omega) 0 (.int .i64 g')).far (c := N + 1 + 1) (by omega) 1 (.int .i64 i')).stored j' l')⟩
theorem bel_bppp {W w : World} {N : Nat} (h : Below W.heap.size W w) (hn : W.heap.size ≤ N) (a b c d e f g i j l : Int) : Below W.heap.size W (setBPPP w N a b c d e f g i j l) :=
  (bel_set (bel_set (bel_set (bel_set (bel_set (bel_set (bel_set (bel_set (bel_set (bel_set h (b := N) (by omega) 0 (.int .i64 a)) (b := N) (by omega) 1 (.int .i64 b)) (b := N) (by omega) 2 (.int .i64 c)) (b := N) (by omega) 3 (.int .i64 d)) (b := N + 1) (by omega) 0 (.int .i64 e)) (b := N + 1) (by omega) 1 (.int .i64 f)) (b := N + 1 + 1) (by omega) 0 (.int .i64 g)) (b := N + 1 + 1) (by omega) 1 (.int .i64 i)) (b := N + 1 + 1 + 1) (by omega) 0 (.int .i64 j)) (b := N + 1 + 1 + 1) (by omega) 1 (.int .i64 l))
abbrev newBPPP (w : World) (a b c d e f g i j l : Int) (tb tp : TypeId) : World :=
  ((((w.alloc (.cells #[.int .i64 a, .int .i64 b, .int .i64 c, .int .i64 d] tb)).alloc (.cells #[.int .i64 e, .int .i64 f] tp)).alloc (.cells #[.int .i64 g, .int .i64 i] tp)).alloc (.cells #[.int .i64 j, .int .i64 l] tp))
theorem bppp_new (w : World) (a b c d e f g i j l : Int) (tb tp : TypeId) : BPPP w.heap.size a b c d e f g i j l (newBPPP w a b c d e f g i j l tb tp) := by
  refine ⟨?_, ?_, ?_, ?_⟩
  · exact (((boxIn_new w a b c d tb).alloc (.cells #[.int .i64 e, .int .i64 f] tp)).alloc (.cells #[.int .i64 g, .int .i64 i] tp)).alloc (.cells #[.int .i64 j, .int .i64 l] tp)
  · have h := ((ptIn_new (w.alloc (.cells #[.int .i64 a, .int .i64 b, .int .i64 c, .int .i64 d] tb)) e f tp).alloc (.cells #[.int .i64 g, .int .i64 i] tp)).alloc (.cells #[.int .i64 j, .int .i64 l] tp)
    rw [show (w.alloc (.cells #[.int .i64 a, .int .i64 b, .int .i64 c, .int .i64 d] tb)).heap.size = w.heap.size + 1 by simp] at h
    exact h
  · have h := (ptIn_new ((w.alloc (.cells #[.int .i64 a, .int .i64 b, .int .i64 c, .int .i64 d] tb)).alloc (.cells #[.int .i64 e, .int .i64 f] tp)) g i tp).alloc (.cells #[.int .i64 j, .int .i64 l] tp)
    rw [show ((w.alloc (.cells #[.int .i64 a, .int .i64 b, .int .i64 c, .int .i64 d] tb)).alloc (.cells #[.int .i64 e, .int .i64 f] tp)).heap.size = w.heap.size + 1 + 1 by simp] at h
    exact h
  · have h := ptIn_new (((w.alloc (.cells #[.int .i64 a, .int .i64 b, .int .i64 c, .int .i64 d] tb)).alloc (.cells #[.int .i64 e, .int .i64 f] tp)).alloc (.cells #[.int .i64 g, .int .i64 i] tp)) j l tp
    rw [show (((w.alloc (.cells #[.int .i64 a, .int .i64 b, .int .i64 c, .int .i64 d] tb)).alloc (.cells #[.int .i64 e, .int .i64 f] tp)).alloc (.cells #[.int .i64 g, .int .i64 i] tp)).heap.size = w.heap.size + 1 + 1 + 1 by simp] at h
    exact h
theorem bel_newBPPP (w : World) (a b c d e f g i j l : Int) (tb tp : TypeId) : Below w.heap.size w (newBPPP w a b c d e f g i j l tb tp) := (bel_alloc (bel_alloc (bel_alloc (bel_alloc (bel_refl w) _) _) _) _)
end Go.Proofs.Ytoofbbmddddlcaa
