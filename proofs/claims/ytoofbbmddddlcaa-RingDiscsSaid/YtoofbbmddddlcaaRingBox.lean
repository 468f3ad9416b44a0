/- Plain mathematics of arcs: a box whose corners are within, or off, a sector has all of its points so; sectors moved, turned and mirrored. No program in it. -/
import Derived.Test.YtoofbbmddddlcaaRingLaws
import Derived.Test.YtoofbbmddddlcaaContourMove
namespace Go.Proofs.Ytoofbbmddddlcaa
open Go.RowKit

theorem cr_flip (x y u v s t : Int) : crI x y s t u v = -(crI x y u v s t) := by unfold crI; grind
/-- Four numbers, one for each corner. -/
def all4P (f : Int → Int → Prop) (a b c d : Int) : Prop := f a b ∧ f c b ∧ f a d ∧ f c d
theorem sec_eq (k u v : Int) : secB false k u v = decide ((k < 0 ∧ (0 ≤ u ∨ 0 ≤ v)) ∨ (0 ≤ k ∧ 0 ≤ u ∧ 0 ≤ v)) := by
  unfold secB
  rw [Bool.false_or]
  split
  · rw [← Bool.decide_or, decide_eq_decide]; omega
  · rw [← Bool.decide_and, decide_eq_decide]; omega
/-- A cross product that is not positive at the corners is not positive in the box. -/
theorem side_neg_ge {a b c d x y u v s t : Int} (h0 : crI x y u v a b ≤ 0) (h1 : crI x y u v c b ≤ 0) (h2 : crI x y u v a d ≤ 0) (h3 : crI x y u v c d ≤ 0) (sa : a ≤ s) (sc : s ≤ c) (tb : b ≤ t) (td : t ≤ d) : crI x y u v s t ≤ 0 := by
  have w : ∀ p q, crI x y u v p q = -(crI u v x y p q) := fun p q => cr_swap u v x y p q
  rw [w] at *
  have := side_ge (x := u) (y := v) (u := x) (v := y) (by omega) (by omega) (by omega) (by omega) sa sc tb td
  omega
section
variable {a b c d x y p q u v s t : Int} (sa : a ≤ s) (sc : s ≤ c) (tb : b ≤ t) (td : t ≤ d)
include sa sc tb td
/-- u: the cross product of the arc's first end and a point; v: that of a point and its last end. -/
theorem u_ge (h : all4P (fun m n => 0 ≤ crI x y p q m n) a b c d) : 0 ≤ crI x y p q s t := side_ge h.1 h.2.1 h.2.2.1 h.2.2.2 sa sc tb td
theorem u_lt (h : all4P (fun m n => crI x y p q m n < 0) a b c d) : crI x y p q s t < 0 := side_neg h.1 h.2.1 h.2.2.1 h.2.2.2 sa sc tb td
theorem v_ge (h : all4P (fun m n => 0 ≤ crI x y m n u v) a b c d) : 0 ≤ crI x y s t u v := by
  obtain ⟨h1, h2, h3, h4⟩ := h
  simp only [cr_flip x y u v] at *
  have := side_neg_ge (x := x) (y := y) (u := u) (v := v) (by omega) (by omega) (by omega) (by omega) sa sc tb td
  omega
theorem v_lt (h : all4P (fun m n => crI x y m n u v < 0) a b c d) : crI x y s t u v < 0 := by
  obtain ⟨h1, h2, h3, h4⟩ := h
  simp only [cr_flip x y u v] at *
  have := side_pos (x := x) (y := y) (u := u) (v := v) (by omega) (by omega) (by omega) (by omega) sa sc tb td
  omega
end
/-- Whether a box is within a sector, and off it, told by its corners. -/
def innB (same : Bool) (k : Int) (u4 v4 : Bool) : Bool := same || (if k < 0 then u4 || v4 else u4 && v4)
def offB (same : Bool) (k : Int) (u0 v0 both : Bool) : Bool := !same && (if k < 0 then both else u0 || v0)
theorem inn_sec {same u4 v4 : Bool} {k u v : Int} (hu : u4 = true → 0 ≤ u) (hv : v4 = true → 0 ≤ v) (h : innB same k u4 v4 = true) : secB same k u v = true := by
  unfold innB at h
  unfold secB
  cases same
  · rw [Bool.false_or] at *
    split
    · rename_i hk
      rw [if_pos hk, Bool.or_eq_true] at h
      rcases h with h | h
      · rw [decide_eq_true (hu h)]; rfl
      · rw [decide_eq_true (hv h)]; exact Bool.or_true _
    · rename_i hk
      rw [if_neg hk, Bool.and_eq_true] at h
      rw [decide_eq_true (hu h.1), decide_eq_true (hv h.2)]; rfl
  · rfl
theorem off_sec {same u0 v0 both : Bool} {k u v : Int} (hu : u0 = true → u < 0) (hv : v0 = true → v < 0) (hb : both = true → u < 0 ∧ v < 0) (h : offB same k u0 v0 both = true) : secB same k u v = false := by
  unfold offB at h
  rw [Bool.and_eq_true, Bool.not_eq_true'] at h
  obtain ⟨rfl, h⟩ := h
  rw [sec_eq]
  refine decide_eq_false ?_
  split at h
  · have := hb h; omega
  · rw [Bool.or_eq_true] at h
    rcases h with h | h
    · have := hu h; omega
    · have := hv h; omega
end Go.Proofs.Ytoofbbmddddlcaa
