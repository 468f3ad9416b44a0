/- Plain mathematics of strokes: a box with a point of a stroke has a corner in it, or meets the segment, or is near enough to one of its ends. No program in it. -/
import Derived.Test.YtoofbbmddddlcaaStroke
import Derived.Test.YtoofbbmddddlcaaMoveMath
namespace Go.Proofs.Ytoofbbmddddlcaa
open Go.RowKit

/-- What tells that a stroke touches a box. -/
def Touch (X0 Y0 X1 Y1 a1 a2 c1 c2 r : Int) : Prop :=
  strk a1 a2 c1 c2 r X0 Y0 ∨ strk a1 a2 c1 c2 r X1 Y0 ∨ strk a1 a2 c1 c2 r X0 Y1 ∨ strk a1 a2 c1 c2 r X1 Y1 ∨ meetB X0 Y0 X1 Y1 a1 a2 c1 c2 = true ∨ nearS X0 Y0 X1 Y1 a1 a2 ≤ r * r ∨ nearS X0 Y0 X1 Y1 c1 c2 ≤ r * r
theorem strk_swap {a1 a2 c1 c2 r s t : Int} (h : strk c1 c2 a1 a2 r s t) : strk a1 a2 c1 c2 r s t := by
  obtain ⟨N, m, hN, m0, mN, h⟩ := h
  refine ⟨N, N - m, hN, by omega, by omega, Int.le_trans (Int.le_of_eq ?_) h⟩
  unfold offI; grind
theorem strk_mirror {a1 a2 c1 c2 r s t : Int} (h : strk (-a1) a2 (-c1) c2 r (-s) t) : strk a1 a2 c1 c2 r s t := by
  obtain ⟨N, m, hN, m0, mN, h⟩ := h
  refine ⟨N, m, hN, m0, mN, Int.le_trans (Int.le_of_eq ?_) h⟩
  unfold offI; grind
theorem strk_turn {a1 a2 c1 c2 r s t : Int} (h : strk (-a2) a1 (-c2) c1 r (-t) s) : strk a1 a2 c1 c2 r s t := by
  obtain ⟨N, m, hN, m0, mN, h⟩ := h
  refine ⟨N, m, hN, m0, mN, Int.le_trans (Int.le_of_eq ?_) h⟩
  unfold offI; grind
theorem touch_swap {X0 Y0 X1 Y1 a1 a2 c1 c2 r : Int} (h : Touch X0 Y0 X1 Y1 c1 c2 a1 a2 r) : Touch X0 Y0 X1 Y1 a1 a2 c1 c2 r := by
  rcases h with h | h | h | h | h | h | h
  · exact .inl (strk_swap h)
  · exact .inr (.inl (strk_swap h))
  · exact .inr (.inr (.inl (strk_swap h)))
  · exact .inr (.inr (.inr (.inl (strk_swap h))))
  · exact .inr (.inr (.inr (.inr (.inl ((meet_swap X0 Y0 X1 Y1 a1 a2 c1 c2).symm.trans h)))))
  · exact .inr (.inr (.inr (.inr (.inr (.inr h)))))
  · exact .inr (.inr (.inr (.inr (.inr (.inl h)))))
theorem touch_mirror {X0 Y0 X1 Y1 a1 a2 c1 c2 r : Int} (hx : X0 ≤ X1) (h : Touch (-X1) Y0 (-X0) Y1 (-a1) a2 (-c1) c2 r) : Touch X0 Y0 X1 Y1 a1 a2 c1 c2 r := by
  rcases h with h | h | h | h | h | h | h
  · exact .inr (.inl (strk_mirror h))
  · exact .inl (strk_mirror h)
  · exact .inr (.inr (.inr (.inl (strk_mirror h))))
  · exact .inr (.inr (.inl (strk_mirror h)))
  · rw [meet_mirror] at h; exact .inr (.inr (.inr (.inr (.inl h))))
  · rw [near_mirror hx] at h; exact .inr (.inr (.inr (.inr (.inr (.inl h)))))
  · rw [near_mirror hx] at h; exact .inr (.inr (.inr (.inr (.inr (.inr h)))))
theorem touch_turn {X0 Y0 X1 Y1 a1 a2 c1 c2 r : Int} (hy : Y0 ≤ Y1) (h : Touch (-Y1) X0 (-Y0) X1 (-a2) a1 (-c2) c1 r) : Touch X0 Y0 X1 Y1 a1 a2 c1 c2 r := by
  rcases h with h | h | h | h | h | h | h
  · exact .inr (.inr (.inl (strk_turn h)))
  · exact .inl (strk_turn h)
  · exact .inr (.inr (.inr (.inl (strk_turn h))))
  · exact .inr (.inl (strk_turn h))
  · rw [meet_turn] at h; exact .inr (.inr (.inr (.inr (.inl h))))
  · rw [near_turn hy] at h; exact .inr (.inr (.inr (.inr (.inr (.inl h)))))
  · rw [near_turn hy] at h; exact .inr (.inr (.inr (.inr (.inr (.inr h)))))
theorem nearI_above {v a b : Int} (h : b < v) (_k : a ≤ b) : nearI v a b = b := by
  have := mxI_le v a; unfold nearI mnI; rw [if_pos (by omega)]
theorem le_of_mul {N A B : Int} (hN : 0 < N) (h : N * A ≤ N * B) : A ≤ B := Int.le_of_mul_le_mul_left h hN
/-- A segment that passes a box's right side within the box's heights meets it. -/
theorem pass_meets {X0 Y0 X1 Y1 a1 a2 c1 c2 N m M n : Int} (hx : X0 ≤ X1) (hy : Y0 ≤ Y1) (hd : 0 ≤ c1 - a1) (hN : 0 < N) (m0 : 0 ≤ m) (mN : m ≤ N) (hM : 0 < M) (n0 : 0 ≤ n) (nM : n ≤ M)
    (k1 : N * a1 + m * (c1 - a1) ≤ N * X1) (k2 : M * X1 ≤ M * a1 + n * (c1 - a1)) (l1 : N * Y0 ≤ N * a2 + m * (c2 - a2)) (l2 : N * a2 + m * (c2 - a2) ≤ N * Y1) (l3 : M * Y0 ≤ M * a2 + n * (c2 - a2)) (l4 : M * a2 + n * (c2 - a2) ≤ M * Y1) :
    meetB X0 Y0 X1 Y1 a1 a2 c1 c2 = true := by
  cases h : meetB X0 Y0 X1 Y1 a1 a2 c1 c2 with
  | true => rfl
  | false =>
    exfalso
    rcases miss_cases hx hy h with q | q | q | q | q | q
    · have p1 := Int.mul_nonneg (show 0 ≤ N - m by omega) (show 0 ≤ a1 - X1 - 1 by omega)
      have p2 := Int.mul_nonneg m0 (show 0 ≤ c1 - X1 - 1 by omega)
      have e : N * a1 + m * (c1 - a1) - N * X1 = (N - m) * (a1 - X1 - 1) + m * (c1 - X1 - 1) + N := by grind
      omega
    · have p1 := Int.mul_nonneg (show 0 ≤ M - n by omega) (show 0 ≤ X0 - a1 - 1 by omega)
      have p2 := Int.mul_nonneg n0 (show 0 ≤ X0 - c1 - 1 by omega)
      have e : M * X0 - (M * a1 + n * (c1 - a1)) = (M - n) * (X0 - a1 - 1) + n * (X0 - c1 - 1) + M := by grind
      have p3 := Int.mul_le_mul_of_nonneg_left hx (Int.le_of_lt hM)
      omega
    · have p1 := Int.mul_nonneg (show 0 ≤ N - m by omega) (show 0 ≤ a2 - Y1 - 1 by omega)
      have p2 := Int.mul_nonneg m0 (show 0 ≤ c2 - Y1 - 1 by omega)
      have e : N * a2 + m * (c2 - a2) - N * Y1 = (N - m) * (a2 - Y1 - 1) + m * (c2 - Y1 - 1) + N := by grind
      omega
    · have p1 := Int.mul_nonneg (show 0 ≤ N - m by omega) (show 0 ≤ Y0 - a2 - 1 by omega)
      have p2 := Int.mul_nonneg m0 (show 0 ≤ Y0 - c2 - 1 by omega)
      have e : N * Y0 - (N * a2 + m * (c2 - a2)) = (N - m) * (Y0 - a2 - 1) + m * (Y0 - c2 - 1) + N := by grind
      omega
    · have q := q X1 Y0 hx (Int.le_refl _) (Int.le_refl _) hy
      have e : crI a1 a2 c1 c2 X1 Y0 = (c1 - a1) * Y0 - ((c1 - a1) * a2 + (c2 - a2) * (X1 - a1)) := by unfold crI; grind
      rw [e] at q
      rcases Int.le_total 0 (c2 - a2) with g | g
      · have p1 := Int.mul_nonneg hd (show 0 ≤ N * a2 + m * (c2 - a2) - N * Y0 by omega)
        have p2 := Int.mul_nonneg g (show 0 ≤ N * X1 - (N * a1 + m * (c1 - a1)) by omega)
        have e2 : N * ((c1 - a1) * a2 + (c2 - a2) * (X1 - a1)) - N * ((c1 - a1) * Y0) = (c1 - a1) * (N * a2 + m * (c2 - a2) - N * Y0) + (c2 - a2) * (N * X1 - (N * a1 + m * (c1 - a1))) := by grind
        have := le_of_mul hN (show N * ((c1 - a1) * Y0) ≤ N * ((c1 - a1) * a2 + (c2 - a2) * (X1 - a1)) by omega)
        omega
      · have p1 := Int.mul_nonneg hd (show 0 ≤ M * a2 + n * (c2 - a2) - M * Y0 by omega)
        have p2 := mul_nn g (show M * X1 - (M * a1 + n * (c1 - a1)) ≤ 0 by omega)
        have e2 : M * ((c1 - a1) * a2 + (c2 - a2) * (X1 - a1)) - M * ((c1 - a1) * Y0) = (c1 - a1) * (M * a2 + n * (c2 - a2) - M * Y0) + (c2 - a2) * (M * X1 - (M * a1 + n * (c1 - a1))) := by grind
        have := le_of_mul hM (show M * ((c1 - a1) * Y0) ≤ M * ((c1 - a1) * a2 + (c2 - a2) * (X1 - a1)) by omega)
        omega
    · have q := q X1 Y1 hx (Int.le_refl _) hy (Int.le_refl _)
      have e : crI c1 c2 a1 a2 X1 Y1 = ((c1 - a1) * a2 + (c2 - a2) * (X1 - a1)) - (c1 - a1) * Y1 := by unfold crI; grind
      rw [e] at q
      rcases Int.le_total 0 (c2 - a2) with g | g
      · have p1 := Int.mul_nonneg hd (show 0 ≤ M * Y1 - (M * a2 + n * (c2 - a2)) by omega)
        have p2 := Int.mul_nonneg g (show 0 ≤ M * a1 + n * (c1 - a1) - M * X1 by omega)
        have e2 : M * ((c1 - a1) * Y1) - M * ((c1 - a1) * a2 + (c2 - a2) * (X1 - a1)) = (c1 - a1) * (M * Y1 - (M * a2 + n * (c2 - a2))) + (c2 - a2) * (M * a1 + n * (c1 - a1) - M * X1) := by grind
        have := le_of_mul hM (show M * ((c1 - a1) * a2 + (c2 - a2) * (X1 - a1)) ≤ M * ((c1 - a1) * Y1) by omega)
        omega
      · have p1 := Int.mul_nonneg hd (show 0 ≤ N * Y1 - (N * a2 + m * (c2 - a2)) by omega)
        have p2 := mul_nn g (show N * a1 + m * (c1 - a1) - N * X1 ≤ 0 by omega)
        have e2 : N * ((c1 - a1) * Y1) - N * ((c1 - a1) * a2 + (c2 - a2) * (X1 - a1)) = (c1 - a1) * (N * Y1 - (N * a2 + m * (c2 - a2))) + (c2 - a2) * (N * a1 + m * (c1 - a1) - N * X1) := by grind
        have := le_of_mul hN (show N * ((c1 - a1) * a2 + (c2 - a2) * (X1 - a1)) ≤ N * ((c1 - a1) * Y1) by omega)
        omega
/-- A segment with a point in a box meets it. -/
theorem inside_meets {X0 Y0 X1 Y1 a1 a2 c1 c2 N m : Int} (hx : X0 ≤ X1) (hy : Y0 ≤ Y1) (hN : 0 < N) (m0 : 0 ≤ m) (mN : m ≤ N)
    (k1 : N * X0 ≤ N * a1 + m * (c1 - a1)) (k2 : N * a1 + m * (c1 - a1) ≤ N * X1) (l1 : N * Y0 ≤ N * a2 + m * (c2 - a2)) (l2 : N * a2 + m * (c2 - a2) ≤ N * Y1) : meetB X0 Y0 X1 Y1 a1 a2 c1 c2 = true := by
  cases h : meetB X0 Y0 X1 Y1 a1 a2 c1 c2 with
  | true => rfl
  | false =>
    exfalso
    have cr : ∀ s t : Int, N * crI a1 a2 c1 c2 s t = (c1 - a1) * (N * t - (N * a2 + m * (c2 - a2))) - (c2 - a2) * (N * s - (N * a1 + m * (c1 - a1))) := by
      intro s t; unfold crI; grind
    have cr' : ∀ s t : Int, crI c1 c2 a1 a2 s t = -(crI a1 a2 c1 c2 s t) := fun s t => cr_swap a1 a2 c1 c2 s t
    rcases miss_cases hx hy h with q | q | q | q | q | q
    · have p1 := Int.mul_nonneg (show 0 ≤ N - m by omega) (show 0 ≤ a1 - X1 - 1 by omega)
      have p2 := Int.mul_nonneg m0 (show 0 ≤ c1 - X1 - 1 by omega)
      have e : N * a1 + m * (c1 - a1) - N * X1 = (N - m) * (a1 - X1 - 1) + m * (c1 - X1 - 1) + N := by grind
      omega
    · have p1 := Int.mul_nonneg (show 0 ≤ N - m by omega) (show 0 ≤ X0 - a1 - 1 by omega)
      have p2 := Int.mul_nonneg m0 (show 0 ≤ X0 - c1 - 1 by omega)
      have e : N * X0 - (N * a1 + m * (c1 - a1)) = (N - m) * (X0 - a1 - 1) + m * (X0 - c1 - 1) + N := by grind
      omega
    · have p1 := Int.mul_nonneg (show 0 ≤ N - m by omega) (show 0 ≤ a2 - Y1 - 1 by omega)
      have p2 := Int.mul_nonneg m0 (show 0 ≤ c2 - Y1 - 1 by omega)
      have e : N * a2 + m * (c2 - a2) - N * Y1 = (N - m) * (a2 - Y1 - 1) + m * (c2 - Y1 - 1) + N := by grind
      omega
    · have p1 := Int.mul_nonneg (show 0 ≤ N - m by omega) (show 0 ≤ Y0 - a2 - 1 by omega)
      have p2 := Int.mul_nonneg m0 (show 0 ≤ Y0 - c2 - 1 by omega)
      have e : N * Y0 - (N * a2 + m * (c2 - a2)) = (N - m) * (Y0 - a2 - 1) + m * (Y0 - c2 - 1) + N := by grind
      omega
    · have pos : ∀ s t : Int, X0 ≤ s → s ≤ X1 → Y0 ≤ t → t ≤ Y1 → 0 < (c1 - a1) * (N * t - (N * a2 + m * (c2 - a2))) - (c2 - a2) * (N * s - (N * a1 + m * (c1 - a1))) := by
        intro s t h1 h2 h3 h4
        rw [← cr]; exact Int.mul_pos hN (q s t h1 h2 h3 h4)
      rcases Int.le_total 0 (c1 - a1) with g | g <;> rcases Int.le_total 0 (c2 - a2) with f | f
      · have := pos X1 Y0 hx (Int.le_refl _) (Int.le_refl _) hy
        have p1 := mul_pn g (show N * Y0 - (N * a2 + m * (c2 - a2)) ≤ 0 by omega)
        have p2 := mul_pp f (show 0 ≤ N * X1 - (N * a1 + m * (c1 - a1)) by omega)
        omega
      · have := pos X0 Y0 (Int.le_refl _) hx (Int.le_refl _) hy
        have p1 := mul_pn g (show N * Y0 - (N * a2 + m * (c2 - a2)) ≤ 0 by omega)
        have p2 := mul_nn f (show N * X0 - (N * a1 + m * (c1 - a1)) ≤ 0 by omega)
        omega
      · have := pos X1 Y1 hx (Int.le_refl _) hy (Int.le_refl _)
        have p1 := mul_np g (show 0 ≤ N * Y1 - (N * a2 + m * (c2 - a2)) by omega)
        have p2 := mul_pp f (show 0 ≤ N * X1 - (N * a1 + m * (c1 - a1)) by omega)
        omega
      · have := pos X0 Y1 (Int.le_refl _) hx hy (Int.le_refl _)
        have p1 := mul_np g (show 0 ≤ N * Y1 - (N * a2 + m * (c2 - a2)) by omega)
        have p2 := mul_nn f (show N * X0 - (N * a1 + m * (c1 - a1)) ≤ 0 by omega)
        omega
    · have pos : ∀ s t : Int, X0 ≤ s → s ≤ X1 → Y0 ≤ t → t ≤ Y1 → (c1 - a1) * (N * t - (N * a2 + m * (c2 - a2))) - (c2 - a2) * (N * s - (N * a1 + m * (c1 - a1))) < 0 := by
        intro s t h1 h2 h3 h4
        have k := q s t h1 h2 h3 h4
        rw [cr'] at k
        rw [← cr]
        exact Int.mul_neg_of_pos_of_neg hN (by omega)
      rcases Int.le_total 0 (c1 - a1) with g | g <;> rcases Int.le_total 0 (c2 - a2) with f | f
      · have := pos X0 Y1 (Int.le_refl _) hx hy (Int.le_refl _)
        have p1 := mul_pp g (show 0 ≤ N * Y1 - (N * a2 + m * (c2 - a2)) by omega)
        have p2 := mul_pn f (show N * X0 - (N * a1 + m * (c1 - a1)) ≤ 0 by omega)
        omega
      · have := pos X1 Y1 hx (Int.le_refl _) hy (Int.le_refl _)
        have p1 := mul_pp g (show 0 ≤ N * Y1 - (N * a2 + m * (c2 - a2)) by omega)
        have p2 := mul_np f (show 0 ≤ N * X1 - (N * a1 + m * (c1 - a1)) by omega)
        omega
      · have := pos X0 Y0 (Int.le_refl _) hx (Int.le_refl _) hy
        have p1 := mul_nn g (show N * Y0 - (N * a2 + m * (c2 - a2)) ≤ 0 by omega)
        have p2 := mul_pn f (show N * X0 - (N * a1 + m * (c1 - a1)) ≤ 0 by omega)
        omega
      · have := pos X1 Y0 hx (Int.le_refl _) (Int.le_refl _) hy
        have p1 := mul_nn g (show N * Y0 - (N * a2 + m * (c2 - a2)) ≤ 0 by omega)
        have p2 := mul_np f (show 0 ≤ N * X1 - (N * a1 + m * (c1 - a1)) by omega)
        omega
/-- The nearest point of the segment lies right of the box, within its heights, and the segment's first end no farther right. -/
theorem touch_right {X0 Y0 X1 Y1 a1 a2 c1 c2 r N m : Int} (hx : X0 ≤ X1) (hy : Y0 ≤ Y1) (_hr : 0 ≤ r) (hd : 0 ≤ c1 - a1) (hN : 0 < N) (m0 : 0 ≤ m) (mN : m ≤ N)
    (k1 : N * X1 ≤ N * a1 + m * (c1 - a1)) (k2 : N * a1 + m * (c1 - a1) - N * X1 ≤ N * r) (l1 : N * Y0 ≤ N * a2 + m * (c2 - a2)) (l2 : N * a2 + m * (c2 - a2) ≤ N * Y1) : Touch X0 Y0 X1 Y1 a1 a2 c1 c2 r := by
  have md := Int.mul_nonneg m0 hd
  by_cases h1 : a2 < Y0
  · -- the segment comes from below the box
    have e0 : N * a2 + m * (c2 - a2) - N * Y0 = m * (c2 - a2) - N * (Y0 - a2) := by grind
    have g0 : N * (Y0 - a2) ≤ m * (c2 - a2) := by omega
    have g1 : 0 < N * (Y0 - a2) := Int.mul_pos hN (by omega)
    have g2 : 0 < c2 - a2 := by
      rcases Int.lt_or_le 0 (c2 - a2) with g | g
      · exact g
      · have := mul_pn m0 g; omega
    have g3 : Y0 - a2 ≤ c2 - a2 := by
      refine le_of_mul hN (Int.le_trans g0 ?_)
      exact Int.mul_le_mul_of_nonneg_right mN (by omega)
    by_cases h2 : (c2 - a2) * X1 ≤ (c2 - a2) * a1 + (Y0 - a2) * (c1 - a1)
    · -- its point at the box's lower height lies right of the corner
      refine .inr (.inl ⟨c2 - a2, Y0 - a2, g2, by omega, g3, ?_⟩)
      have e1 : offI (X1 - a1) (Y0 - a2) (c1 - a1) (c2 - a2) (c2 - a2) (Y0 - a2) = ((c2 - a2) * a1 + (Y0 - a2) * (c1 - a1) - (c2 - a2) * X1) * ((c2 - a2) * a1 + (Y0 - a2) * (c1 - a1) - (c2 - a2) * X1) := by unfold offI; grind
      rw [e1]
      have g4 : N * ((c2 - a2) * a1 + (Y0 - a2) * (c1 - a1) - (c2 - a2) * X1) ≤ N * ((c2 - a2) * r) := by
        have p1 := Int.mul_le_mul_of_nonneg_right g0 hd
        have p2 := Int.mul_le_mul_of_nonneg_left k2 (Int.le_of_lt g2)
        have e2 : N * ((c2 - a2) * a1 + (Y0 - a2) * (c1 - a1) - (c2 - a2) * X1) = (c2 - a2) * (N * a1 + m * (c1 - a1) - N * X1) + (N * (Y0 - a2) * (c1 - a1) - m * (c2 - a2) * (c1 - a1)) := by grind
        have e3 : N * ((c2 - a2) * r) = (c2 - a2) * (N * r) := by grind
        omega
      have g5 := le_of_mul hN g4
      exact sq_le (by omega) g5
    · -- it passes the box's right side
      refine .inr (.inr (.inr (.inr (.inl (pass_meets hx hy hd g2 (show 0 ≤ Y0 - a2 by omega) g3 hN m0 mN (by omega) k1 ?_ ?_ l1 l2)))))
      · exact Int.le_of_eq (by grind)
      · have p1 := Int.mul_le_mul_of_nonneg_left hy (Int.le_of_lt g2)
        refine Int.le_trans (Int.le_of_eq ?_) p1
        grind
  by_cases h2 : Y1 < a2
  · -- from above it
    have e0 : N * Y1 - (N * a2 + m * (c2 - a2)) = m * (a2 - c2) - N * (a2 - Y1) := by grind
    have g0 : N * (a2 - Y1) ≤ m * (a2 - c2) := by omega
    have g1 : 0 < N * (a2 - Y1) := Int.mul_pos hN (by omega)
    have g2 : 0 < a2 - c2 := by
      rcases Int.lt_or_le 0 (a2 - c2) with g | g
      · exact g
      · have := mul_pn m0 g; omega
    have g3 : a2 - Y1 ≤ a2 - c2 := by
      refine le_of_mul hN (Int.le_trans g0 ?_)
      exact Int.mul_le_mul_of_nonneg_right mN (by omega)
    by_cases h3 : (a2 - c2) * X1 ≤ (a2 - c2) * a1 + (a2 - Y1) * (c1 - a1)
    · refine .inr (.inr (.inr (.inl ⟨a2 - c2, a2 - Y1, g2, by omega, g3, ?_⟩)))
      have e1 : offI (X1 - a1) (Y1 - a2) (c1 - a1) (c2 - a2) (a2 - c2) (a2 - Y1) = ((a2 - c2) * a1 + (a2 - Y1) * (c1 - a1) - (a2 - c2) * X1) * ((a2 - c2) * a1 + (a2 - Y1) * (c1 - a1) - (a2 - c2) * X1) := by unfold offI; grind
      rw [e1]
      have g4 : N * ((a2 - c2) * a1 + (a2 - Y1) * (c1 - a1) - (a2 - c2) * X1) ≤ N * ((a2 - c2) * r) := by
        have p1 := Int.mul_le_mul_of_nonneg_right g0 hd
        have p2 := Int.mul_le_mul_of_nonneg_left k2 (Int.le_of_lt g2)
        have e2 : N * ((a2 - c2) * a1 + (a2 - Y1) * (c1 - a1) - (a2 - c2) * X1) = (a2 - c2) * (N * a1 + m * (c1 - a1) - N * X1) + (N * (a2 - Y1) * (c1 - a1) - m * (a2 - c2) * (c1 - a1)) := by grind
        have e3 : N * ((a2 - c2) * r) = (a2 - c2) * (N * r) := by grind
        omega
      have g5 := le_of_mul hN g4
      exact sq_le (by omega) g5
    · refine .inr (.inr (.inr (.inr (.inl (pass_meets hx hy hd g2 (show 0 ≤ a2 - Y1 by omega) g3 hN m0 mN (by omega) k1 ?_ ?_ l1 l2)))))
      · have p1 := Int.mul_le_mul_of_nonneg_left hy (Int.le_of_lt g2)
        refine Int.le_trans p1 (Int.le_of_eq ?_)
        grind
      · exact Int.le_of_eq (by grind)
  · by_cases h3 : a1 ≤ X1
    · refine .inr (.inr (.inr (.inr (.inl (pass_meets hx hy hd (show (0 : Int) < 1 by omega) (Int.le_refl 0) (by omega) hN m0 mN ?_ k1 ?_ ?_ l1 l2)))))
      all_goals omega
    · refine .inr (.inr (.inr (.inr (.inr (.inl ?_)))))
      have e1 : N * (a1 - X1) ≤ N * r := by
        have : N * (a1 - X1) = N * a1 - N * X1 := by grind
        omega
      have g := le_of_mul hN e1
      unfold nearS sqI
      rw [show nearI a2 Y0 Y1 = a2 from nearI_mid (by omega) (by omega), show nearI a1 X0 X1 = X1 from nearI_above (by omega) hx, Int.sub_self, Int.zero_mul, Int.add_zero, ← Int.neg_mul_neg, Int.neg_sub]
      exact sq_le (by omega) (by omega)
theorem touch_right_any {X0 Y0 X1 Y1 a1 a2 c1 c2 r N m : Int} (hx : X0 ≤ X1) (hy : Y0 ≤ Y1) (hr : 0 ≤ r) (hN : 0 < N) (m0 : 0 ≤ m) (mN : m ≤ N)
    (k1 : N * X1 ≤ N * a1 + m * (c1 - a1)) (k2 : N * a1 + m * (c1 - a1) - N * X1 ≤ N * r) (l1 : N * Y0 ≤ N * a2 + m * (c2 - a2)) (l2 : N * a2 + m * (c2 - a2) ≤ N * Y1) : Touch X0 Y0 X1 Y1 a1 a2 c1 c2 r := by
  rcases Int.le_total 0 (c1 - a1) with h | h
  · exact touch_right hx hy hr h hN m0 mN k1 k2 l1 l2
  · have e1 : N * c1 + (N - m) * (a1 - c1) = N * a1 + m * (c1 - a1) := by grind
    have e2 : N * c2 + (N - m) * (a2 - c2) = N * a2 + m * (c2 - a2) := by grind
    exact touch_swap (touch_right (N := N) (m := N - m) hx hy hr (by omega) hN (by omega) (by omega) (by omega) (by omega) (by omega) (by omega))
theorem touch_left_any {X0 Y0 X1 Y1 a1 a2 c1 c2 r N m : Int} (hx : X0 ≤ X1) (hy : Y0 ≤ Y1) (hr : 0 ≤ r) (hN : 0 < N) (m0 : 0 ≤ m) (mN : m ≤ N)
    (k1 : N * a1 + m * (c1 - a1) ≤ N * X0) (k2 : N * X0 - (N * a1 + m * (c1 - a1)) ≤ N * r) (l1 : N * Y0 ≤ N * a2 + m * (c2 - a2)) (l2 : N * a2 + m * (c2 - a2) ≤ N * Y1) : Touch X0 Y0 X1 Y1 a1 a2 c1 c2 r := by
  have e1 : N * -a1 + m * (-c1 - -a1) = -(N * a1 + m * (c1 - a1)) := by grind
  have e2 : N * -X0 = -(N * X0) := by grind
  exact touch_mirror hx (touch_right_any (N := N) (m := m) (by omega) hy hr hN m0 mN (by omega) (by omega) l1 l2)
/-- A box with a point of a stroke is touched by it. -/
theorem touch_of {X0 Y0 X1 Y1 a1 a2 c1 c2 r s t : Int} (hr : 0 ≤ r) (sa : X0 ≤ s) (sc : s ≤ X1) (tb : Y0 ≤ t) (td : t ≤ Y1) (h : strk a1 a2 c1 c2 r s t) : Touch X0 Y0 X1 Y1 a1 a2 c1 c2 r := by
  have hx : X0 ≤ X1 := by omega
  have hy : Y0 ≤ Y1 := by omega
  obtain ⟨N, m, hN, m0, mN, ho⟩ := h
  have hNr : 0 ≤ N * r := Int.mul_nonneg (by omega) hr
  have f1 : N * X0 ≤ N * s := Int.mul_le_mul_of_nonneg_left sa (by omega)
  have f2 : N * s ≤ N * X1 := Int.mul_le_mul_of_nonneg_left sc (by omega)
  have f3 : N * Y0 ≤ N * t := Int.mul_le_mul_of_nonneg_left tb (by omega)
  have f4 : N * t ≤ N * Y1 := Int.mul_le_mul_of_nonneg_left td (by omega)
  have ev : ∀ u v : Int, offI (u - a1) (v - a2) (c1 - a1) (c2 - a2) N m = (N * u - (N * a1 + m * (c1 - a1))) * (N * u - (N * a1 + m * (c1 - a1))) + (N * v - (N * a2 + m * (c2 - a2))) * (N * v - (N * a2 + m * (c2 - a2))) := by
    intro u v; unfold offI; grind
  rw [ev] at ho
  obtain ⟨Qx, hQx⟩ : ∃ q, N * a1 + m * (c1 - a1) = q := ⟨_, rfl⟩
  obtain ⟨Qy, hQy⟩ : ∃ q, N * a2 + m * (c2 - a2) = q := ⟨_, rfl⟩
  rw [hQx, hQy] at ho ev
  have gx := sq_nonneg (N * s - Qx)
  have gy := sq_nonneg (N * t - Qy)
  have bx : -(N * r) ≤ N * s - Qx ∧ N * s - Qx ≤ N * r := by
    constructor
    · rcases Int.lt_or_le (N * s - Qx) (-(N * r)) with g | g
      · have := Int.mul_le_mul (show N * r + 1 ≤ -(N * s - Qx) by omega) (show N * r + 1 ≤ -(N * s - Qx) by omega) (by omega) (by omega)
        rw [Int.neg_mul_neg] at this
        have e : (N * r + 1) * (N * r + 1) = N * r * (N * r) + 2 * (N * r) + 1 := by grind
        omega
      · exact g
    · rcases Int.lt_or_le (N * r) (N * s - Qx) with g | g
      · have := Int.mul_le_mul (show N * r + 1 ≤ N * s - Qx by omega) (show N * r + 1 ≤ N * s - Qx by omega) (by omega) (by omega)
        have e : (N * r + 1) * (N * r + 1) = N * r * (N * r) + 2 * (N * r) + 1 := by grind
        omega
      · exact g
  have by' : -(N * r) ≤ N * t - Qy ∧ N * t - Qy ≤ N * r := by
    constructor
    · rcases Int.lt_or_le (N * t - Qy) (-(N * r)) with g | g
      · have := Int.mul_le_mul (show N * r + 1 ≤ -(N * t - Qy) by omega) (show N * r + 1 ≤ -(N * t - Qy) by omega) (by omega) (by omega)
        rw [Int.neg_mul_neg] at this
        have e : (N * r + 1) * (N * r + 1) = N * r * (N * r) + 2 * (N * r) + 1 := by grind
        omega
      · exact g
    · rcases Int.lt_or_le (N * r) (N * t - Qy) with g | g
      · have := Int.mul_le_mul (show N * r + 1 ≤ N * t - Qy by omega) (show N * r + 1 ≤ N * t - Qy by omega) (by omega) (by omega)
        have e : (N * r + 1) * (N * r + 1) = N * r * (N * r) + 2 * (N * r) + 1 := by grind
        omega
      · exact g
  have corner : ∀ u v : Int, ((N * s ≤ N * u ∧ N * u ≤ Qx) ∨ (Qx ≤ N * u ∧ N * u ≤ N * s)) → ((N * t ≤ N * v ∧ N * v ≤ Qy) ∨ (Qy ≤ N * v ∧ N * v ≤ N * t)) → strk a1 a2 c1 c2 r u v := by
    intro u v hu hv
    refine ⟨N, m, hN, m0, mN, ?_⟩
    rw [ev]
    have p1 : (N * u - Qx) * (N * u - Qx) ≤ (N * s - Qx) * (N * s - Qx) := by
      rcases hu with hu | hu
      · exact sq_le' (by omega) (by omega)
      · exact sq_le (by omega) (by omega)
    have p2 : (N * v - Qy) * (N * v - Qy) ≤ (N * t - Qy) * (N * t - Qy) := by
      rcases hv with hv | hv
      · exact sq_le' (by omega) (by omega)
      · exact sq_le (by omega) (by omega)
    omega
  by_cases x1 : Qx < N * X0
  · by_cases y1 : Qy < N * Y0
    · exact .inl (corner X0 Y0 (by omega) (by omega))
    by_cases y2 : N * Y1 < Qy
    · exact .inr (.inr (.inl (corner X0 Y1 (by omega) (by omega))))
    · exact touch_left_any hx hy hr hN m0 mN (by omega) (by omega) (by omega) (by omega)
  by_cases x2 : N * X1 < Qx
  · by_cases y1 : Qy < N * Y0
    · exact .inr (.inl (corner X1 Y0 (by omega) (by omega)))
    by_cases y2 : N * Y1 < Qy
    · exact .inr (.inr (.inr (.inl (corner X1 Y1 (by omega) (by omega)))))
    · exact touch_right_any hx hy hr hN m0 mN (by omega) (by omega) (by omega) (by omega)
  have e1 : N * -a2 + m * (-c2 - -a2) = -Qy := by rw [← hQy]; grind
  have e2 : N * -Y0 = -(N * Y0) := by grind
  have e3 : N * -Y1 = -(N * Y1) := by grind
  by_cases y1 : Qy ≤ N * Y0
  · exact touch_turn hy (touch_right_any (N := N) (m := m) (by omega) hx hr hN m0 mN (by omega) (by omega) (by omega) (by omega))
  by_cases y2 : N * Y1 ≤ Qy
  · exact touch_turn hy (touch_left_any (N := N) (m := m) (by omega) hx hr hN m0 mN (by omega) (by omega) (by omega) (by omega))
  · -- the point of the segment lies in the box
    exact .inr (.inr (.inr (.inr (.inl (inside_meets hx hy hN m0 mN (by omega) (by omega) (by omega) (by omega))))))
end Go.Proofs.Ytoofbbmddddlcaa
