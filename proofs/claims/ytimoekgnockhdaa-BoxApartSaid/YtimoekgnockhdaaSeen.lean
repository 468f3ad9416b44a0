/- Plain mathematics: which points of a box a double loop has seen, and whether two boxes share one. No program in it. -/
import Derived.Test.YtimoekgnockhdaaBoxMath
namespace Go.Proofs.Ytimoekgnockhdaa
open Go.RowKit

/-- Whether a point of the columns before x, or of the column x before y, lies in the other box. -/
def Seen (c0 c1 c2 c3 x0 y0 y1 x y : Int) (s : Bool) : Prop :=
  s = true ↔ ∃ p q : Int, hasB c0 c1 c2 c3 p q = true ∧ ((x0 ≤ p ∧ p < x ∧ y0 ≤ q ∧ q ≤ y1) ∨ (p = x ∧ y0 ≤ q ∧ q < y))
theorem seen_start (c0 c1 c2 c3 x0 y0 y1 : Int) : Seen c0 c1 c2 c3 x0 y0 y1 x0 y0 false := by
  unfold Seen
  constructor
  · intro h; simp at h
  · rintro ⟨p, q, _, h⟩; omega
theorem seen_step {c0 c1 c2 c3 x0 y0 y1 x y : Int} {s : Bool} (h : Seen c0 c1 c2 c3 x0 y0 y1 x y s) (hy : y0 ≤ y) : Seen c0 c1 c2 c3 x0 y0 y1 x (y + 1) (s || hasB c0 c1 c2 c3 x y) := by
  unfold Seen at *
  constructor
  · intro k
    rcases Bool.or_eq_true _ _ ▸ k with k | k
    · obtain ⟨p, q, hp, hq⟩ := h.1 k
      exact ⟨p, q, hp, by omega⟩
    · exact ⟨x, y, k, by omega⟩
  · rintro ⟨p, q, hp, hq⟩
    by_cases e : p = x ∧ q = y
    · obtain ⟨rfl, rfl⟩ := e
      rw [hp]; simp
    · rw [h.2 ⟨p, q, hp, by omega⟩]; simp
theorem seen_col {c0 c1 c2 c3 x0 y0 y1 x y : Int} {s : Bool} (h : Seen c0 c1 c2 c3 x0 y0 y1 x y s) (hx : x0 ≤ x) (hy : y1 + 1 ≤ y) (hy' : y ≤ y1 + 1) : Seen c0 c1 c2 c3 x0 y0 y1 (x + 1) y0 s := by
  unfold Seen at *
  constructor
  · intro k
    obtain ⟨p, q, hp, hq⟩ := h.1 k
    exact ⟨p, q, hp, by omega⟩
  · rintro ⟨p, q, hp, hq⟩
    exact h.2 ⟨p, q, hp, by omega⟩
theorem seen_end {c0 c1 c2 c3 x0 y0 x1 y1 x : Int} {s : Bool} (h : Seen c0 c1 c2 c3 x0 y0 y1 x y0 s) (hx : x1 + 1 ≤ x) (hx' : x ≤ x1 + 1) (a : x0 ≤ x1) (b : y0 ≤ y1) (c : c0 ≤ c2) (d : c1 ≤ c3) : apB x0 y0 x1 y1 c0 c1 c2 c3 = !s := by
  unfold apB
  rw [shB_eq, shB_eq]
  have k : s = (decide (x0 ≤ x1 ∧ x0 ≤ c2 ∧ c0 ≤ x1 ∧ c0 ≤ c2) && decide (y0 ≤ y1 ∧ y0 ≤ c3 ∧ c1 ≤ y1 ∧ c1 ≤ c3)) := by
    rw [Bool.eq_iff_iff, Bool.and_eq_true, decide_eq_true_eq, decide_eq_true_eq]
    constructor
    · intro hs
      obtain ⟨p, q, hp, hq⟩ := h.1 hs
      have hp := of_decide_eq_true hp
      omega
    · intro hc
      have m1 := mxI_le x0 c0
      have m2 := mxI_le y0 c1
      have o1 := mxI_or x0 c0
      have o2 := mxI_or y0 c1
      exact h.2 ⟨mxI x0 c0, mxI y0 c1, decide_eq_true (by omega), by omega⟩
  rw [k]
  simp
theorem apB_comm (a b c d e f g h : Int) : apB e f g h a b c d = apB a b c d e f g h := by
  unfold apB
  rw [shB_eq, shB_eq, shB_eq, shB_eq]
  congr 2
  · rw [decide_eq_decide]; omega
  · rw [decide_eq_decide]; omega
theorem apB_self {a b c d : Int} (h : a ≤ c) (k : b ≤ d) : apB a b c d a b c d = false := by
  unfold apB
  rw [shB_eq, shB_eq, decide_eq_true (by omega), decide_eq_true (by omega)]
  rfl
end Go.Proofs.Ytimoekgnockhdaa
