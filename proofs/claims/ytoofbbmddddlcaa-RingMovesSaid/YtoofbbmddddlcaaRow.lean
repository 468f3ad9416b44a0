/- An array that lies in a block of the caller's own, as one row of cells: behind calls, stores and drawn orders. No program in it. -/
import Derived.Test.YtoofbbmddddlcaaBase
namespace Go.Proofs.Ytoofbbmddddlcaa
open Go.RowKit

theorem row_later {w w1 : World} {g : Nat} {cs : Array Value} {t : TypeId} {fr : Nat × Nat} (h : w.heap[g]? = some (.cells cs t fr)) (k : Below w.heap.size w w1) : w1.heap[g]? = some (.cells cs t fr) :=
  (k.block g (Array.getElem?_eq_some_iff.1 h).1).trans h
theorem row_new (w : World) (cs : Array Value) (t : TypeId) : (w.alloc (.cells cs t)).heap[w.heap.size]? = some (.cells cs t (0, 0)) := by
  unfold World.alloc; simp
theorem below_row {w w1 : World} {g : Nat} (h : Below w.heap.size w w1) (hg : w.heap.size ≤ g) (cs : Array Value) : Below w.heap.size w (w1.setRow g cs) :=
  ⟨h.os, h.tape, h.output, by simpa using h.size, fun k hk => (setRow_other w1 g k cs (by omega)).trans (h.block k hk)⟩
/-- An array that is stored into a block just laid is a block laid so. -/
theorem setRow_new (w : World) (old cs : Array Value) (t : TypeId) : (w.alloc (.cells old t)).setRow w.heap.size cs = w.alloc (.cells cs t) := by
  unfold World.alloc World.setRow
  congr 1
  apply Array.ext
  · simp
  · intro k h1 h2
    simp only [Array.getElem_modify, Array.getElem_push]
    by_cases hk : k < w.heap.size
    · simp [hk, show w.heap.size ≠ k by omega]
    · simp [show w.heap.size = k by simp at h1; omega]
theorem bel_drew {a b : World} (h : Below a.heap.size a b) : Below a.heap.size a b.drew := ⟨h.os, h.tape, h.output, h.size, h.block⟩
end Go.Proofs.Ytoofbbmddddlcaa
