/- Plain mathematics of rings, as the laws ask it: an arc and the one back make the whole circle; the discs around whole points of an arc; what is too far, or too near. No program in it. -/
import Derived.Test.YtoofbbmddddlcaaRingArc
namespace Go.Proofs.Ytoofbbmddddlcaa
open Go.RowKit

theorem sq_iff {x y : Int} (hx : 0 ≤ x) (hy : 0 ≤ y) : x * x ≤ y * y ↔ x ≤ y := by
  constructor
  · intro h
    refine Int.not_lt.1 fun hc => ?_
    have := sq_le (A := y + 1) (B := x) (by omega) (by omega)
    have e : (y + 1) * (y + 1) = y * y + 2 * y + 1 := by grind
    omega
  · intro h; exact sq_le (by omega) h
theorem up_root {d R r : Int} (hR : 0 ≤ R) (hr : 0 ≤ r) : upW d (R * R) (r * r) = decide (d ≤ (R + r) * (R + r)) := by
  have e : (R + r) * (R + r) = R * R + r * r + 2 * (R * r) := by grind
  have e2 : 4 * (r * r) * (R * R) = (2 * (R * r)) * (2 * (R * r)) := by grind
  have h0 : 0 ≤ R * r := Int.mul_nonneg hR hr
  unfold upW
  rw [decide_eq_decide, e, e2]
  generalize R * r = P at *
  generalize R * R = B at *
  generalize r * r = S at *
  by_cases q : d - B - S ≤ 0
  · constructor
    · intro; omega
    · intro; exact .inl q
  · rw [sq_iff (by omega) (by omega)]
    omega
theorem dn_root {d R r : Int} (hR : 0 ≤ R) (hr : 0 ≤ r) : dnW d (R * R) (r * r) = decide (R ≤ r ∨ (R - r) * (R - r) ≤ d) := by
  have e : (R - r) * (R - r) = R * R + r * r - 2 * (R * r) := by grind
  have e2 : 4 * (r * r) * (R * R) = (2 * (R * r)) * (2 * (R * r)) := by grind
  have h0 : 0 ≤ R * r := Int.mul_nonneg hR hr
  unfold dnW
  rw [decide_eq_decide, e, e2, sq_iff hR hr]
  generalize R * r = P at *
  generalize R * R = B at *
  generalize r * r = S at *
  by_cases q : B + S - d ≤ 0
  · constructor
    · intro; omega
    · intro; exact .inr (.inl q)
  · rw [sq_iff (by omega) (by omega)]
    omega
/-- An arc and the one back are the whole circle. -/
theorem ring_closes {pA pE s1 s2 : Bool} {d B S : Int} (hs : s1 = true ∨ s2 = true) (hE : pE = true → upW d B S = true ∧ dnW d B S = true) :
    (ringB pA pE s1 d B S || ringB pE pA s2 d B S) = ringB pA pA true d B S := by
  unfold ringB
  cases pA
  · cases pE
    · rcases hs with rfl | rfl
      · cases s2 <;> cases dnW d B S <;> cases upW d B S <;> rfl
      · cases s1 <;> cases dnW d B S <;> cases upW d B S <;> rfl
    · obtain ⟨h1, h2⟩ := hE rfl
      rw [h1, h2]; cases s1 <;> cases s2 <;> rfl
  · cases pE <;> cases s1 <;> cases s2 <;> rfl
/-- What lies in a ring lies between both circles. -/
theorem ring_between {pA pE s h : Bool} {d B S : Int} (hA : pA = true → upW d B S = true ∧ dnW d B S = true) (hE : pE = true → upW d B S = true ∧ dnW d B S = true) (k : ringB pA pE s d B S = h) (hh : h = true) : upW d B S = true ∧ dnW d B S = true := by
  subst hh
  unfold ringB at k
  simp only [Bool.or_eq_true, Bool.and_eq_true] at k
  rcases k with (k | k) | ⟨_, k2, k3⟩
  · exact hA k
  · exact hE k
  · exact ⟨k3, k2⟩
/-- The disc around a whole point of an arc is in the ring. Coordinates from the centre. -/
theorem disc_of_arc {a b e f m n p q S : Int} {pA pE : Bool} (h1 : a * a + b * b = m * m + n * n) (h2 : e * e + f * f = m * m + n * n)
    (hA : (p - a) * (p - a) + (q - b) * (q - b) ≤ S → pA = true) (hE : (p - e) * (p - e) + (q - f) * (q - f) ≤ S → pE = true) (hm : secB (decide (a = e ∧ b = f)) (xV a b e f) (xV a b m n) (xV m n e f) = true)
    (hd : (p - m) * (p - m) + (q - n) * (q - n) ≤ S) : ringB pA pE (secB (decide (a = e ∧ b = f)) (xV a b e f) (xV a b p q) (xV p q e f)) (p * p + q * q) (m * m + n * n) S = true := by
  have r := disc_ring (z := m) (w := n) (x := p - m) (y := q - n) hd
  rw [show m + (p - m) = p by omega, show n + (q - n) = q by omega] at r
  unfold ringB
  cases hs : secB (decide (a = e ∧ b = f)) (xV a b e f) (xV a b p q) (xV p q e f) with
  | true => rw [r.1, r.2]; cases pA <;> cases pE <;> rfl
  | false =>
    have hne : ¬ (a = e ∧ b = f) := by
      intro c
      rw [decide_eq_true c] at hs
      unfold secB at hs
      simp at hs
    rw [decide_eq_false hne] at hm hs
    have e1 : (p - a) * (p - a) + (q - b) * (q - b) = (p - m) * (p - m) + (q - n) * (q - n) + 2 * (dV p q m n - dV p q a b) := by unfold dV; grind
    have e2 : (p - e) * (p - e) + (q - f) * (q - f) = (p - m) * (p - m) + (q - n) * (q - n) + 2 * (dV p q m n - dV p q e f) := by unfold dV; grind
    rcases arc_end h1 h2 hne hm hs with k | k
    · rw [hA (by omega)]; rfl
    · rw [hE (by omega)]; cases pA <;> rfl
end Go.Proofs.Ytoofbbmddddlcaa
