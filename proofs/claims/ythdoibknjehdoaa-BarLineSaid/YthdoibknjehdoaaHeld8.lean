/- Boxes and points in blocks of the caller's own, side by side (made by tools/gen_held.py). No program in it. -/
import Derived.Test.YthdoibknjehdoaaHeldBox
namespace Go.Proofs.Ythdoibknjehdoaa
open Go.RowKit

structure PPP (N : Nat) (a b c d e f : Int) (w : World) : Prop where
  f0 : PtIn w (N) a b
  f1 : PtIn w (N + 1) c d
  f2 : PtIn w (N + 1 + 1) e f
theorem PPP.later {N : Nat} {w w1 : World} {a b c d e f : Int} (h : PPP N a b c d e f w) (k : Below w.heap.size w w1) : PPP N a b c d e f w1 := ⟨h.f0.later k, h.f1.later k, h.f2.later k⟩
abbrev setPPP (w : World) (N : Nat) (a b c d e f : Int) : World :=
  ((((((w.setCell ⟨N, 0, none⟩ (.int .i64 a)).setCell ⟨N, 1, none⟩ (.int .i64 b)).setCell ⟨N + 1, 0, none⟩ (.int .i64 c)).setCell ⟨N + 1, 1, none⟩ (.int .i64 d)).setCell ⟨N + 1 + 1, 0, none⟩ (.int .i64 e)).setCell ⟨N + 1 + 1, 1, none⟩ (.int .i64 f))
theorem PPP.stored {N : Nat} {w : World} {a b c d e f : Int} (h : PPP N a b c d e f w) (a' b' c' d' e' f' : Int) : PPP N a' b' c' d' e' f' (setPPP w N a' b' c' d' e' f') :=
  ⟨(((((h.f0.stored a' b').far (c := N + 1) (by omega) 0 (.int .i64 c')).far (c := N + 1) (by omega) 1 (.int .i64 d')).far (c := N + 1 + 1) (by omega) 0 (.int .i64 e')).far (c := N + 1 + 1) (by omega) 1 (.int .i64 f')),
    (((((h.f1.far (c := N) (by omega) 0 (.int .i64 a')).far (c := N) (by omega) 1 (.int .i64 b')).stored c' d').far (c := N + 1 + 1) (by omega) 0 (.int .i64 e')).far (c := N + 1 + 1) (by omega) 1 (.int .i64 f')),
    (((((h.f2.far (c := N) (by omega) 0 (.int .i64 a')).far (c := N) (by omega) 1 (.int .i64 b')).far (c := N + 1) (by omega) 0 (.int .i64 c')).far (c := N + 1) (by omega) 1 (.int .i64 d')).stored e' f')⟩
theorem bel_ppp {W w : World} {N : Nat} (h : Below W.heap.size W w) (hn : W.heap.size ≤ N) (a b c d e f : Int) : Below W.heap.size W (setPPP w N a b c d e f) :=
  (bel_set (bel_set (bel_set (bel_set (bel_set (bel_set h (b := N) (by omega) 0 (.int .i64 a)) (b := N) (by omega) 1 (.int .i64 b)) (b := N + 1) (by omega) 0 (.int .i64 c)) (b := N + 1) (by omega) 1 (.int .i64 d)) (b := N + 1 + 1) (by omega) 0 (.int .i64 e)) (b := N + 1 + 1) (by omega) 1 (.int .i64 f))
abbrev newPPP (w : World) (a b c d e f : Int) (tp : TypeId) : World :=
  (((w.alloc (.cells #[.int .i64 a, .int .i64 b] tp)).alloc (.cells #[.int .i64 c, .int .i64 d] tp)).alloc (.cells #[.int .i64 e, .int .i64 f] tp))
theorem ppp_new (w : World) (a b c d e f : Int) (tp : TypeId) : PPP w.heap.size a b c d e f (newPPP w a b c d e f tp) := by
  refine ⟨?_, ?_, ?_⟩
  · exact ((ptIn_new w a b tp).alloc (.cells #[.int .i64 c, .int .i64 d] tp)).alloc (.cells #[.int .i64 e, .int .i64 f] tp)
  · have h := (ptIn_new (w.alloc (.cells #[.int .i64 a, .int .i64 b] tp)) c d tp).alloc (.cells #[.int .i64 e, .int .i64 f] tp)
    rw [show (w.alloc (.cells #[.int .i64 a, .int .i64 b] tp)).heap.size = w.heap.size + 1 by simp] at h
    exact h
  · have h := ptIn_new ((w.alloc (.cells #[.int .i64 a, .int .i64 b] tp)).alloc (.cells #[.int .i64 c, .int .i64 d] tp)) e f tp
    rw [show ((w.alloc (.cells #[.int .i64 a, .int .i64 b] tp)).alloc (.cells #[.int .i64 c, .int .i64 d] tp)).heap.size = w.heap.size + 1 + 1 by simp] at h
    exact h
theorem bel_newPPP (w : World) (a b c d e f : Int) (tp : TypeId) : Below w.heap.size w (newPPP w a b c d e f tp) := (bel_alloc (bel_alloc (bel_alloc (bel_refl w) _) _) _)
end Go.Proofs.Ythdoibknjehdoaa
