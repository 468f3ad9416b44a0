/- Plain mathematics of strokes: a point is in a stroke just if it is near enough to some point of the segment, told by two whole numbers; a box with its corners in a stroke lies in it. No program in it. -/
import Derived.Test.YtoofbbmddddlcaaContourMove
import Derived.Test.YtoofbbmddddlcaaDiscMath
namespace Go.Proofs.Ytoofbbmddddlcaa
open Go.RowKit

def dotI (ox oy ax ay bx b' : Int) : Int := (ax - ox) * (bx - ox) + (ay - oy) * (b' - oy)
/-- Whether a stroke has a point. -/
def lineB (a1 a2 c1 c2 r s t : Int) : Bool :=
  decide (1 ≤ r ∧ ((dotI a1 a2 c1 c2 s t ≤ 0 ∧ sqI s t a1 a2 ≤ r * r) ∨ (0 < dotI a1 a2 c1 c2 s t ∧ sqI a1 a2 c1 c2 ≤ dotI a1 a2 c1 c2 s t ∧ sqI s t c1 c2 ≤ r * r) ∨
    (0 < dotI a1 a2 c1 c2 s t ∧ dotI a1 a2 c1 c2 s t < sqI a1 a2 c1 c2 ∧ crI a1 a2 c1 c2 s t * crI a1 a2 c1 c2 s t ≤ r * r * sqI a1 a2 c1 c2)))
/-- The square of the distance from the point (X, Y) to m / N of the way to (d, e), N * N times. -/
def offI (X Y d e N m : Int) : Int := (N * X - m * d) * (N * X - m * d) + (N * Y - m * e) * (N * Y - m * e)
/-- A point near enough to some point of the segment. -/
def strk (a1 a2 c1 c2 r s t : Int) : Prop := ∃ N m : Int, 0 < N ∧ 0 ≤ m ∧ m ≤ N ∧ offI (s - a1) (t - a2) (c1 - a1) (c2 - a2) N m ≤ N * r * (N * r)

theorem off_full (X Y d e N m : Int) : offI X Y d e N m = N * N * (X * X + Y * Y) - 2 * (N * m) * (d * X + e * Y) + m * m * (d * d + e * e) := by unfold offI; grind
theorem le_of_sq {N A B : Int} (hN : 0 < N) (h : N * N * A ≤ N * N * B) : A ≤ B := Int.le_of_mul_le_mul_left h (Int.mul_pos hN hN)
theorem line_of_strk {a1 a2 c1 c2 r s t : Int} (hr : 1 ≤ r) (h : strk a1 a2 c1 c2 r s t) : lineB a1 a2 c1 c2 r s t = true := by
  obtain ⟨N, m, hN, h0, hm, ho⟩ := h
  unfold lineB sqI dotI crI
  refine decide_eq_true ⟨hr, ?_⟩
  rw [off_full] at ho
  have eR : N * r * (N * r) = N * N * (r * r) := by grind
  rw [eR] at ho
  have e1 : (a1 - s) * (a1 - s) + (a2 - t) * (a2 - t) = (s - a1) * (s - a1) + (t - a2) * (t - a2) := by grind
  have e2 : (c1 - s) * (c1 - s) + (c2 - t) * (c2 - t) = (s - a1) * (s - a1) + (t - a2) * (t - a2) - 2 * ((c1 - a1) * (s - a1) + (c2 - a2) * (t - a2)) + ((c1 - a1) * (c1 - a1) + (c2 - a2) * (c2 - a2)) := by grind
  have e3 : ((c1 - a1) * (t - a2) - (c2 - a2) * (s - a1)) * ((c1 - a1) * (t - a2) - (c2 - a2) * (s - a1)) = ((c1 - a1) * (c1 - a1) + (c2 - a2) * (c2 - a2)) * ((s - a1) * (s - a1) + (t - a2) * (t - a2)) - ((c1 - a1) * (s - a1) + (c2 - a2) * (t - a2)) * ((c1 - a1) * (s - a1) + (c2 - a2) * (t - a2)) := by grind
  rw [e1, e2, e3]
  have hL : 0 ≤ (c1 - a1) * (c1 - a1) + (c2 - a2) * (c2 - a2) := Int.add_nonneg (sq_nonneg _) (sq_nonneg _)
  generalize (c1 - a1) * (c1 - a1) + (c2 - a2) * (c2 - a2) = L at *
  generalize (c1 - a1) * (s - a1) + (c2 - a2) * (t - a2) = T at *
  generalize (s - a1) * (s - a1) + (t - a2) * (t - a2) = Q at *
  by_cases hT : T ≤ 0
  · refine .inl ⟨hT, le_of_sq hN ?_⟩
    have p1 : 2 * (N * m) * T ≤ 0 := mul_pn (Int.mul_nonneg (by omega) (Int.mul_nonneg (by omega) h0)) hT
    have p2 : 0 ≤ m * m * L := Int.mul_nonneg (sq_nonneg m) hL
    omega
  by_cases hTL : L ≤ T
  · refine .inr (.inl ⟨by omega, hTL, le_of_sq hN ?_⟩)
    have p1 : 0 ≤ (N - m) * (2 * N) * (T - L) := Int.mul_nonneg (Int.mul_nonneg (by omega) (by omega)) (by omega)
    have p2 : 0 ≤ (N - m) * (N - m) * L := Int.mul_nonneg (sq_nonneg _) hL
    have e : N * N * (Q - 2 * T + L) = (N * N * Q - 2 * (N * m) * T + m * m * L) - (N - m) * (2 * N) * (T - L) - (N - m) * (N - m) * L := by grind
    omega
  · refine .inr (.inr ⟨by omega, by omega, le_of_sq hN ?_⟩)
    have p1 := sq_nonneg (N * T - m * L)
    have p2 : L * (N * N * Q - 2 * (N * m) * T + m * m * L) ≤ L * (N * N * (r * r)) := Int.mul_le_mul_of_nonneg_left ho hL
    have e : N * N * (L * Q - T * T) = L * (N * N * Q - 2 * (N * m) * T + m * m * L) - (N * T - m * L) * (N * T - m * L) := by grind
    have e' : N * N * (r * r * L) = L * (N * N * (r * r)) := by grind
    omega
theorem strk_of_line {a1 a2 c1 c2 r s t : Int} (h : lineB a1 a2 c1 c2 r s t = true) : strk a1 a2 c1 c2 r s t := by
  unfold lineB sqI dotI crI at h
  obtain ⟨hr, h⟩ := of_decide_eq_true h
  rcases h with ⟨_, h⟩ | ⟨_, _, h⟩ | ⟨h1, h2, h3⟩
  · refine ⟨1, 0, by omega, by omega, by omega, ?_⟩
    have e : offI (s - a1) (t - a2) (c1 - a1) (c2 - a2) 1 0 = (a1 - s) * (a1 - s) + (a2 - t) * (a2 - t) := by unfold offI; grind
    rw [e, Int.one_mul]; exact h
  · refine ⟨1, 1, by omega, by omega, by omega, ?_⟩
    have e : offI (s - a1) (t - a2) (c1 - a1) (c2 - a2) 1 1 = (c1 - s) * (c1 - s) + (c2 - t) * (c2 - t) := by unfold offI; grind
    rw [e, Int.one_mul]; exact h
  · refine ⟨(c1 - a1) * (c1 - a1) + (c2 - a2) * (c2 - a2), (c1 - a1) * (s - a1) + (c2 - a2) * (t - a2), by omega, by omega, by omega, ?_⟩
    have hL : 0 ≤ (c1 - a1) * (c1 - a1) + (c2 - a2) * (c2 - a2) := Int.add_nonneg (sq_nonneg _) (sq_nonneg _)
    have e : offI (s - a1) (t - a2) (c1 - a1) (c2 - a2) ((c1 - a1) * (c1 - a1) + (c2 - a2) * (c2 - a2)) ((c1 - a1) * (s - a1) + (c2 - a2) * (t - a2)) =
        ((c1 - a1) * (c1 - a1) + (c2 - a2) * (c2 - a2)) * (((c1 - a1) * (t - a2) - (c2 - a2) * (s - a1)) * ((c1 - a1) * (t - a2) - (c2 - a2) * (s - a1))) := by unfold offI; grind
    have h4 := Int.mul_le_mul_of_nonneg_left h3 hL
    rw [e]
    refine Int.le_trans h4 (Int.le_of_eq ?_)
    grind
theorem line_iff {a1 a2 c1 c2 r s t : Int} (hr : 1 ≤ r) : lineB a1 a2 c1 c2 r s t = true ↔ strk a1 a2 c1 c2 r s t := ⟨strk_of_line, line_of_strk hr⟩

/-- A sum of two vectors is at most as long as both lengths together. -/
theorem longs {u1 u2 v1 v2 A B : Int} (hA : 0 ≤ A) (hB : 0 ≤ B) (hu : u1 * u1 + u2 * u2 ≤ A * A) (hv : v1 * v1 + v2 * v2 ≤ B * B) : (u1 + v1) * (u1 + v1) + (u2 + v2) * (u2 + v2) ≤ (A + B) * (A + B) := by
  have h1 : (u1 * v1 + u2 * v2) * (u1 * v1 + u2 * v2) ≤ (A * B) * (A * B) := by
    have e1 : (u1 * v1 + u2 * v2) * (u1 * v1 + u2 * v2) = (u1 * u1 + u2 * u2) * (v1 * v1 + v2 * v2) - (u1 * v2 - u2 * v1) * (u1 * v2 - u2 * v1) := by grind
    have e2 : (A * B) * (A * B) = (A * A) * (B * B) := by grind
    have p1 := sq_nonneg (u1 * v2 - u2 * v1)
    have p2 : (u1 * u1 + u2 * u2) * (v1 * v1 + v2 * v2) ≤ (A * A) * (B * B) := Int.mul_le_mul hu hv (Int.add_nonneg (sq_nonneg _) (sq_nonneg _)) (sq_nonneg _)
    omega
  have hAB := Int.mul_nonneg hA hB
  have h2 : u1 * v1 + u2 * v2 ≤ A * B := by
    rcases Int.lt_or_le (A * B) (u1 * v1 + u2 * v2) with h | h
    · have p1 := Int.mul_le_mul_of_nonneg_left (Int.le_of_lt h) hAB
      have p2 := Int.mul_lt_mul_of_pos_right h (show 0 < u1 * v1 + u2 * v2 by omega)
      omega
    · exact h
  have e : (u1 + v1) * (u1 + v1) + (u2 + v2) * (u2 + v2) = (u1 * u1 + u2 * u2) + 2 * (u1 * v1 + u2 * v2) + (v1 * v1 + v2 * v2) := by grind
  have e' : (A + B) * (A + B) = A * A + 2 * (A * B) + B * B := by grind
  omega
/-- A point between two points of a stroke is in it. -/
theorem strk_between {a1 a2 c1 c2 r s t s1 t1 s2 t2 α β : Int} (hr : 0 ≤ r) (hα : 0 ≤ α) (hβ : 0 ≤ β) (hp : 0 < α + β) (es : (α + β) * s = α * s1 + β * s2) (et : (α + β) * t = α * t1 + β * t2)
    (h1 : strk a1 a2 c1 c2 r s1 t1) (h2 : strk a1 a2 c1 c2 r s2 t2) : strk a1 a2 c1 c2 r s t := by
  obtain ⟨N, m, hN, m0, mN, h1⟩ := h1
  obtain ⟨M, n, hM, n0, nM, h2⟩ := h2
  refine ⟨(α + β) * (N * M), α * (m * M) + β * (n * N), Int.mul_pos hp (Int.mul_pos hN hM), Int.add_nonneg (Int.mul_nonneg hα (Int.mul_nonneg m0 (by omega))) (Int.mul_nonneg hβ (Int.mul_nonneg n0 (by omega))), ?_, ?_⟩
  · have p1 : α * (m * M) ≤ α * (N * M) := Int.mul_le_mul_of_nonneg_left (Int.mul_le_mul_of_nonneg_right mN (by omega)) hα
    have p2 : β * (n * N) ≤ β * (N * M) := Int.mul_le_mul_of_nonneg_left (by rw [Int.mul_comm N M]; exact Int.mul_le_mul_of_nonneg_right nM (by omega)) hβ
    rw [Int.add_mul]; omega
  · unfold offI at *
    have q1 : (α * M * (N * (s1 - a1) - m * (c1 - a1))) * (α * M * (N * (s1 - a1) - m * (c1 - a1))) + (α * M * (N * (t1 - a2) - m * (c2 - a2))) * (α * M * (N * (t1 - a2) - m * (c2 - a2))) ≤ (α * M * (N * r)) * (α * M * (N * r)) := by
      have := Int.mul_le_mul_of_nonneg_left h1 (sq_nonneg (α * M))
      refine Int.le_trans (Int.le_of_eq ?_) (Int.le_trans this (Int.le_of_eq ?_)) <;> grind
    have q2 : (β * N * (M * (s2 - a1) - n * (c1 - a1))) * (β * N * (M * (s2 - a1) - n * (c1 - a1))) + (β * N * (M * (t2 - a2) - n * (c2 - a2))) * (β * N * (M * (t2 - a2) - n * (c2 - a2))) ≤ (β * N * (M * r)) * (β * N * (M * r)) := by
      have := Int.mul_le_mul_of_nonneg_left h2 (sq_nonneg (β * N))
      refine Int.le_trans (Int.le_of_eq ?_) (Int.le_trans this (Int.le_of_eq ?_)) <;> grind
    have q := longs (Int.mul_nonneg (Int.mul_nonneg hα (by omega)) (Int.mul_nonneg (by omega) hr)) (Int.mul_nonneg (Int.mul_nonneg hβ (by omega)) (Int.mul_nonneg (by omega) hr)) q1 q2
    have g1 : (α + β) * (N * M) * (s - a1) - (α * (m * M) + β * (n * N)) * (c1 - a1) = α * M * (N * (s1 - a1) - m * (c1 - a1)) + β * N * (M * (s2 - a1) - n * (c1 - a1)) := by
      have : (α + β) * (N * M) * (s - a1) = N * M * ((α + β) * s) - (α + β) * (N * M) * a1 := by grind
      rw [this, es]; grind
    have g2 : (α + β) * (N * M) * (t - a2) - (α * (m * M) + β * (n * N)) * (c2 - a2) = α * M * (N * (t1 - a2) - m * (c2 - a2)) + β * N * (M * (t2 - a2) - n * (c2 - a2)) := by
      have : (α + β) * (N * M) * (t - a2) = N * M * ((α + β) * t) - (α + β) * (N * M) * a2 := by grind
      rw [this, et]; grind
    have g3 : (α + β) * (N * M) * r = α * M * (N * r) + β * N * (M * r) := by grind
    rw [g1, g2, g3]
    exact q
/-- A box with its corners in a stroke lies in it. -/
theorem strk_box {a1 a2 c1 c2 r a b c d s t : Int} (hr : 0 ≤ r) (sa : a ≤ s) (sc : s ≤ c) (tb : b ≤ t) (td : t ≤ d)
    (h0 : strk a1 a2 c1 c2 r a b) (h1 : strk a1 a2 c1 c2 r c b) (h2 : strk a1 a2 c1 c2 r a d) (h3 : strk a1 a2 c1 c2 r c d) : strk a1 a2 c1 c2 r s t := by
  have row : ∀ y, strk a1 a2 c1 c2 r a y → strk a1 a2 c1 c2 r c y → strk a1 a2 c1 c2 r s y := by
    intro y k1 k2
    by_cases e : a = c
    · obtain rfl : s = a := by omega
      exact k1
    · exact strk_between (α := c - s) (β := s - a) hr (by omega) (by omega) (by omega) (by grind) (by grind) k1 k2
  by_cases e : b = d
  · obtain rfl : t = b := by omega
    exact row t h0 h1
  · exact strk_between (α := d - t) (β := t - b) hr (by omega) (by omega) (by omega) (by grind) (by grind) (row b h0 h1) (row d h2 h3)
end Go.Proofs.Ytoofbbmddddlcaa
