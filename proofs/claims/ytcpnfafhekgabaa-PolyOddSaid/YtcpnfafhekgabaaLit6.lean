/- Contours that are written out: slices of points, and slices of such slices, each in a block of its own. No program in it. -/
import Derived.Test.YtcpnfafhekgabaaHeld6
import Derived.Test.YtcpnfafhekgabaaContourTri
namespace Go.Proofs.Ytcpnfafhekgabaa
open Go.RowKit

theorem pts_new (w : World) {cs : Array Value} {t : TypeId} {c : List P2} (hc : cs.toList = cellsP c) {n : Nat} (hn : c.length = n) : PtsAt (w.alloc (.cells cs t)) (w.heap.size + 1) (.slice (some ⟨w.heap.size, 0, none⟩) n n) c := by
  subst hn
  exact pts_block (heap_alloc_new w _) hc (Nat.lt_succ_self _)
theorem rows_new {w : World} {V : Array Value} {t : TypeId} {L : List (List P2)} (h : ∀ (r : Nat) (c : List P2), L[r]? = some c → ∃ u, V[r]? = some u ∧ PtsAt w w.heap.size u c) {n : Nat} (hn : L.length = n) :
    RowsAt (w.alloc (.cells V t)) (w.alloc (.cells V t)).heap.size (.slice (some ⟨w.heap.size, 0, none⟩) n n) L := by
  subst hn
  have hs : (w.alloc (.cells V t)).heap.size = w.heap.size + 1 := by simp
  refine rows_block (heap_alloc_new w _) (fun r c hr => ?_) (by omega)
  obtain ⟨u, h1, h2⟩ := h r c hr
  exact ⟨u, h1, (h2.later (bel_alloc (bel_refl w) _)).more (by omega)⟩
theorem rows_one {w : World} {u : Value} {t : TypeId} {c : List P2} (h : PtsAt w w.heap.size u c) : RowsAt (w.alloc (.cells #[u] t)) (w.alloc (.cells #[u] t)).heap.size (.slice (some ⟨w.heap.size, 0, none⟩) 1 1) [c] := by
  refine rows_new (L := [c]) (fun r d hr => ?_) rfl
  match r, hr with
  | 0, hr =>
    obtain rfl : c = d := by simpa using hr
    exact ⟨u, rfl, h⟩
  | r + 1, hr => simp at hr
theorem rows_two {w : World} {u v : Value} {t : TypeId} {c d : List P2} (h : PtsAt w w.heap.size u c) (k : PtsAt w w.heap.size v d) : RowsAt (w.alloc (.cells #[u, v] t)) (w.alloc (.cells #[u, v] t)).heap.size (.slice (some ⟨w.heap.size, 0, none⟩) 2 2) [c, d] := by
  refine rows_new (L := [c, d]) (fun r e hr => ?_) rfl
  match r, hr with
  | 0, hr =>
    obtain rfl : c = e := by simpa using hr
    exact ⟨u, rfl, h⟩
  | 1, hr =>
    obtain rfl : d = e := by simpa using hr
    exact ⟨v, rfl, k⟩
  | r + 2, hr => simp at hr
theorem rows_four {w : World} {u v x y : Value} {t : TypeId} {c d e f : List P2} (h : PtsAt w w.heap.size u c) (k : PtsAt w w.heap.size v d) (l : PtsAt w w.heap.size x e) (m : PtsAt w w.heap.size y f) : RowsAt (w.alloc (.cells #[u, v, x, y] t)) (w.alloc (.cells #[u, v, x, y] t)).heap.size (.slice (some ⟨w.heap.size, 0, none⟩) 4 4) [c, d, e, f] := by
  refine rows_new (L := [c, d, e, f]) (fun r g hr => ?_) rfl
  match r, hr with
  | 0, hr =>
    obtain rfl : c = g := by simpa using hr
    exact ⟨u, rfl, h⟩
  | 1, hr =>
    obtain rfl : d = g := by simpa using hr
    exact ⟨v, rfl, k⟩
  | 2, hr =>
    obtain rfl : e = g := by simpa using hr
    exact ⟨x, rfl, l⟩
  | 3, hr =>
    obtain rfl : f = g := by simpa using hr
    exact ⟨y, rfl, m⟩
  | r + 4, hr => simp at hr
theorem PtsAt.on {w w1 : World} {v : Value} {c : List P2} (h : PtsAt w w.heap.size v c) (k : Below w.heap.size w w1) : PtsAt w1 w1.heap.size v c := (h.later k).more k.size
theorem PtsAt.new (w : World) {cs : Array Value} {t : TypeId} {c : List P2} (hc : cs.toList = cellsP c) {n : Nat} (hn : c.length = n) : PtsAt (w.alloc (.cells cs t)) (w.alloc (.cells cs t)).heap.size (.slice (some ⟨w.heap.size, 0, none⟩) n n) c :=
  (pts_new w hc hn).more (by simp)
/-- The tests of the law of triangles, in the order in which they are made. -/
theorem one_cases (x y z : Int) : (0 ≤ x ∧ 0 ≤ y ∧ 0 ≤ z ∧ True ∧ True ∧ True ∧ Hid (oneB x y z = true)) ∨ (0 ≤ x ∧ 0 ≤ y ∧ ¬ 0 ≤ z ∧ x ≤ 0 ∧ y ≤ 0 ∧ z ≤ 0 ∧ Hid (oneB x y z = true)) ∨ (0 ≤ x ∧ 0 ≤ y ∧ ¬ 0 ≤ z ∧ ¬ x ≤ 0 ∧ True ∧ True ∧ Hid (oneB x y z = false)) ∨
    (0 ≤ x ∧ 0 ≤ y ∧ ¬ 0 ≤ z ∧ x ≤ 0 ∧ ¬ y ≤ 0 ∧ True ∧ Hid (oneB x y z = false)) ∨ (0 ≤ x ∧ ¬ 0 ≤ y ∧ True ∧ ¬ x ≤ 0 ∧ True ∧ True ∧ Hid (oneB x y z = false)) ∨ (0 ≤ x ∧ ¬ 0 ≤ y ∧ True ∧ x ≤ 0 ∧ y ≤ 0 ∧ z ≤ 0 ∧ Hid (oneB x y z = true)) ∨
    (0 ≤ x ∧ ¬ 0 ≤ y ∧ True ∧ x ≤ 0 ∧ y ≤ 0 ∧ ¬ z ≤ 0 ∧ Hid (oneB x y z = false)) ∨ (¬ 0 ≤ x ∧ True ∧ True ∧ x ≤ 0 ∧ y ≤ 0 ∧ z ≤ 0 ∧ Hid (oneB x y z = true)) ∨ (¬ 0 ≤ x ∧ True ∧ True ∧ x ≤ 0 ∧ y ≤ 0 ∧ ¬ z ≤ 0 ∧ Hid (oneB x y z = false)) ∨ (¬ 0 ≤ x ∧ True ∧ True ∧ x ≤ 0 ∧ ¬ y ≤ 0 ∧ True ∧ Hid (oneB x y z = false)) := by
  by_cases a : 0 ≤ x
  · by_cases b : 0 ≤ y
    · by_cases c : 0 ≤ z
      · exact .inl (⟨a, b, c, trivial, trivial, trivial, decide_eq_true (by omega)⟩)
      · by_cases d : x ≤ 0
        · by_cases e : y ≤ 0
          · exact .inr (.inl (⟨a, b, c, d, e, by omega, decide_eq_true (by omega)⟩))
          · exact .inr (.inr (.inr (.inl (⟨a, b, c, d, e, trivial, decide_eq_false (by omega)⟩))))
        · exact .inr (.inr (.inl (⟨a, b, c, d, trivial, trivial, decide_eq_false (by omega)⟩)))
    · by_cases d : x ≤ 0
      · by_cases f : z ≤ 0
        · exact .inr (.inr (.inr (.inr (.inr (.inl (⟨a, b, trivial, d, by omega, f, decide_eq_true (by omega)⟩))))))
        · exact .inr (.inr (.inr (.inr (.inr (.inr (.inl (⟨a, b, trivial, d, by omega, f, decide_eq_false (by omega)⟩)))))))
      · exact .inr (.inr (.inr (.inr (.inl (⟨a, b, trivial, d, trivial, trivial, decide_eq_false (by omega)⟩)))))
  · by_cases e : y ≤ 0
    · by_cases f : z ≤ 0
      · exact .inr (.inr (.inr (.inr (.inr (.inr (.inr (.inl (⟨a, trivial, trivial, by omega, e, f, decide_eq_true (by omega)⟩))))))))
      · exact .inr (.inr (.inr (.inr (.inr (.inr (.inr (.inr (.inl (⟨a, trivial, trivial, by omega, e, f, decide_eq_false (by omega)⟩)))))))))
    · exact .inr (.inr (.inr (.inr (.inr (.inr (.inr (.inr (.inr (⟨a, trivial, trivial, by omega, e, trivial, decide_eq_false (by omega)⟩)))))))))
end Go.Proofs.Ytcpnfafhekgabaa
