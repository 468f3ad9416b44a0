/- Plain mathematics of arcs: the disc around a point of an arc is in the ring; a box within or off the sector. No program in it. -/
import Derived.Test.YtoofbbmddddlcaaRingMath
import Derived.Test.YtoofbbmddddlcaaContourTri
namespace Go.Proofs.Ytoofbbmddddlcaa
open Go.RowKit

/-- The cross and the dot product of vectors from the centre. -/
def xV (a b c d : Int) : Int := a * d - b * c
def dV (a b c d : Int) : Int := a * c + b * d
theorem plucker (a b m n p q e f : Int) : xV a b m n * xV p q e f = xV a b p q * xV m n e f - xV a b e f * xV m n p q := by
  unfold xV; grind
/-- A point that is nearer to m than to a, both on a circle, lies on m's side of the line between them. -/
theorem side_of {a b m n p q : Int} (h : a * a + b * b = m * m + n * n) : (dV p q m n - dV p q a b) * ((a + m) * (a + m) + (b + n) * (b + n)) = 2 * (xV a b m n * (xV a b p q + xV m n p q)) := by
  unfold dV xV; grind
theorem sum_zero {x y : Int} (h : x * x + y * y = 0) : x = 0 ∧ y = 0 := by
  have h1 := sq_nonneg x; have h2 := sq_nonneg y
  exact ⟨sq_zero (by omega), sq_zero (by omega)⟩
/-- Signs: where a point is nearer to m than to a, either m is opposite to a, or both products have one sign. -/
theorem nearer {a b m n p q : Int} (h : a * a + b * b = m * m + n * n) (k : dV p q a b < dV p q m n) : (m = -a ∧ n = -b) ∨ (0 < xV a b m n ∧ 0 < xV a b p q + xV m n p q) ∨ (xV a b m n < 0 ∧ xV a b p q + xV m n p q < 0) := by
  have e := side_of (p := p) (q := q) h
  by_cases z : (a + m) * (a + m) + (b + n) * (b + n) = 0
  · have := sum_zero z
    exact .inl (by omega)
  · have z1 : 0 < (a + m) * (a + m) + (b + n) * (b + n) := by have := sq_nonneg (a + m); have := sq_nonneg (b + n); omega
    have z2 := Int.mul_pos (show 0 < dV p q m n - dV p q a b by omega) z1
    rw [e] at z2
    have s := sg (xV a b m n) (xV a b p q + xV m n p q)
    generalize xV a b m n * (xV a b p q + xV m n p q) = P at *
    omega
theorem xV_swap (a b c d : Int) : xV c d a b = -(xV a b c d) := by unfold xV; grind
/-- No point outside the sector is nearer to a point of the arc than to both of its ends. -/
theorem arc_end {a b e f m n p q : Int} (h1 : a * a + b * b = m * m + n * n) (h2 : e * e + f * f = m * m + n * n) (hne : ¬ (a = e ∧ b = f))
    (hm : secB false (xV a b e f) (xV a b m n) (xV m n e f) = true) (hp : secB false (xV a b e f) (xV a b p q) (xV p q e f) = false) : dV p q m n ≤ dV p q a b ∨ dV p q m n ≤ dV p q e f := by
  have es (k u v : Int) : secB false k u v = decide ((k < 0 ∧ (0 ≤ u ∨ 0 ≤ v)) ∨ (0 ≤ k ∧ 0 ≤ u ∧ 0 ≤ v)) := by
    unfold secB
    rw [Bool.false_or]
    split
    · rw [← Bool.decide_or, decide_eq_decide]; omega
    · rw [← Bool.decide_and, decide_eq_decide]; omega
  rw [es] at hm hp
  have hm := of_decide_eq_true hm
  have hp := of_decide_eq_false hp
  refine Classical.byContradiction fun hc => ?_
  have c1 : dV p q a b < dV p q m n := by omega
  have c2 : dV p q e f < dV p q m n := by omega
  have n1 := nearer h1 c1
  have n2 := nearer (a := e) (b := f) (by omega) c2
  have s1 := xV_swap m n e f
  have s2 := xV_swap p q e f
  have s3 := xV_swap m n p q
  have pl := plucker a b m n p q e f
  have g1 := sg (xV a b m n) (xV p q e f)
  have g2 := sg (xV a b p q) (xV m n e f)
  have g3 := sg (xV a b e f) (xV m n p q)
  rcases n1 with ⟨rfl, rfl⟩ | n1
  · have t1 : xV (-a) (-b) e f = -(xV a b e f) := by unfold xV; grind
    have t2 : xV a b (-a) (-b) = 0 := by unfold xV; grind
    have t3 : xV (-a) (-b) p q = -(xV a b p q) := by unfold xV; grind
    rcases n2 with ⟨k1, k2⟩ | n2
    · exact hne ⟨by omega, by omega⟩
    · clear g1 g2 g3 pl
      omega
  · rcases n2 with ⟨k1, k2⟩ | n2
    · have t1 : xV a b m n = -(xV a b e f) := by rw [k1, k2]; unfold xV; grind
      have t2 : xV m n e f = 0 := by rw [k1, k2]; unfold xV; grind
      have t3 : xV m n p q = xV p q e f := by rw [k1, k2]; unfold xV; grind
      clear g1 g2 g3 pl
      omega
    · generalize xV a b m n * xV p q e f = P1 at *
      generalize xV a b p q * xV m n e f = P2 at *
      generalize xV a b e f * xV m n p q = P3 at *
      omega
/-- For half a turn, or none, both products are one. -/
theorem half_turn {a b e f p q : Int} (h : a * a + b * b = e * e + f * f) (hne : ¬ (a = e ∧ b = f)) (k : xV a b e f = 0) : xV a b p q = xV p q e f := by
  have e1 : ((a - e) * (a - e) + (b - f) * (b - f)) * ((a + e) * (a + e) + (b + f) * (b + f)) = 4 * (xV a b e f * xV a b e f) := by unfold xV; grind
  rw [k] at e1
  have e1 : ((a - e) * (a - e) + (b - f) * (b - f)) * ((a + e) * (a + e) + (b + f) * (b + f)) = 0 := by omega
  rcases Int.mul_eq_zero.1 e1 with z | z
  · have := sum_zero z
    exact absurd ⟨by omega, by omega⟩ hne
  · have := sum_zero z
    have h1 : e = -a := by omega
    have h2 : f = -b := by omega
    rw [h1, h2]; unfold xV; grind
/-- A cross product that is not negative at the corners is not negative in the box. -/
theorem side_ge {a b c d x y u v s t : Int} (h0 : 0 ≤ crI x y u v a b) (h1 : 0 ≤ crI x y u v c b) (h2 : 0 ≤ crI x y u v a d) (h3 : 0 ≤ crI x y u v c d) (sa : a ≤ s) (sc : s ≤ c) (tb : b ≤ t) (td : t ≤ d) : 0 ≤ crI x y u v s t := by
  have e : ∀ p q : Int, crI x y u v p q = crI x y u v s t + (u - x) * (q - t) - (v - y) * (p - s) := by
    intro p q
    unfold crI
    grind
  rw [e] at h0 h1 h2 h3
  rcases Int.le_total 0 (u - x) with h | h <;> rcases Int.le_total 0 (v - y) with k | k
  · have p1 := mul_pn h (show b - t ≤ 0 by omega); have p2 := mul_pp k (show 0 ≤ c - s by omega); omega
  · have p1 := mul_pn h (show b - t ≤ 0 by omega); have p2 := mul_nn k (show a - s ≤ 0 by omega); omega
  · have p1 := mul_np h (show 0 ≤ d - t by omega); have p2 := mul_pp k (show 0 ≤ c - s by omega); omega
  · have p1 := mul_np h (show 0 ≤ d - t by omega); have p2 := mul_nn k (show a - s ≤ 0 by omega); omega
theorem side_neg {a b c d x y u v s t : Int} (h0 : crI x y u v a b < 0) (h1 : crI x y u v c b < 0) (h2 : crI x y u v a d < 0) (h3 : crI x y u v c d < 0) (sa : a ≤ s) (sc : s ≤ c) (tb : b ≤ t) (td : t ≤ d) : crI x y u v s t < 0 := by
  have w : ∀ p q, crI x y u v p q = -(crI u v x y p q) := fun p q => cr_swap u v x y p q
  rw [w] at *
  have := side_pos (x := u) (y := v) (u := x) (v := y) (by omega) (by omega) (by omega) (by omega) sa sc tb td
  omega
end Go.Proofs.Ytoofbbmddddlcaa
