/- Plain mathematics of contours: a triangle has just the points that lie on one side of all its edges. No program in it. -/
import Derived.Test.YtoofbbmddddlcaaContourMove
namespace Go.Proofs.Ytoofbbmddddlcaa
open Go.RowKit

/-- Three numbers of no two signs. -/
def oneB (x y z : Int) : Bool := decide ((0 ≤ x ∧ 0 ≤ y ∧ 0 ≤ z) ∨ (x ≤ 0 ∧ y ≤ 0 ∧ z ≤ 0))
theorem one_turn (x y z : Int) : oneB y z x = oneB x y z := by unfold oneB; rw [decide_eq_decide]; omega
/-- A cross product in coordinates around the point. -/
theorem cr_rel (x y u v s t : Int) : crI x y u v s t = (x - s) * (v - t) - (y - t) * (u - s) := by
  rw [cr_ends]
  rw [show t - y = -(y - t) by omega, Int.mul_neg, Int.mul_comm (u - s)]
  omega
/-- The three cross products weigh the corners to nothing. -/
theorem weigh (A1 A2 B1 B2 C1 C2 : Int) : (B1 * C2 - B2 * C1) * A1 + (C1 * A2 - C2 * A1) * B1 + (A1 * B2 - A2 * B1) * C1 = 0 ∧ (B1 * C2 - B2 * C1) * A2 + (C1 * A2 - C2 * A1) * B2 + (A1 * B2 - A2 * B1) * C2 = 0 := by
  exact ⟨by grind, by grind⟩
/-- The sign of a product. -/
theorem sg (X Y : Int) : (X = 0 ∧ X * Y = 0) ∨ (Y = 0 ∧ X * Y = 0) ∨ (0 < X ∧ 0 < Y ∧ 0 < X * Y) ∨ (0 < X ∧ Y < 0 ∧ X * Y < 0) ∨ (X < 0 ∧ 0 < Y ∧ X * Y < 0) ∨ (X < 0 ∧ Y < 0 ∧ 0 < X * Y) := by
  rcases Int.lt_trichotomy X 0 with h | h | h <;> rcases Int.lt_trichotomy Y 0 with k | k | k
  · have := Int.mul_pos_of_neg_of_neg h k; omega
  · subst k; rw [Int.mul_zero]; omega
  · have := Int.mul_neg_of_neg_of_pos h k; omega
  · subst h; rw [Int.zero_mul]; omega
  · subst h; rw [Int.zero_mul]; omega
  · subst h; rw [Int.zero_mul]; omega
  · have := Int.mul_neg_of_pos_of_neg h k; omega
  · subst k; rw [Int.mul_zero]; omega
  · have := Int.mul_pos h k; omega
theorem area (a1 a2 b1 b2 c1 c2 s t : Int) : crI a1 a2 b1 b2 c1 c2 = crI a1 a2 b1 b2 s t + crI b1 b2 c1 c2 s t + crI c1 c2 a1 a2 s t := by
  unfold crI; grind
/-- An edge that reaches the point's height on both sides and whose line passes through the point has it. -/
theorem straddle_on {x y u v s t : Int} (h0 : crI x y u v s t = 0) (h : (y ≤ t ∧ t < v) ∨ (v ≤ t ∧ t < y)) : onE ((x, y), (u, v)) (s, t) = true := by
  rw [cr_ends] at h0
  have m1 := mnI_le x u; have m2 := mxI_le x u; have m3 := mnI_le y v; have m4 := mxI_le y v
  have n1 := mnI_or x u; have n2 := mxI_or x u; have n3 := mnI_or y v; have n4 := mxI_or y v
  have sa := sg_mul (u - s) (t - y)
  have sb := sg_mul' (x - s) (v - t)
  rw [onE_at, cr_ends]
  generalize (u - s) * (t - y) = A at *
  generalize (x - s) * (v - t) = B at *
  exact decide_eq_true ⟨h0, by omega, by omega, by omega, by omega⟩
theorem on_of {x y u v s t : Int} (h0 : crI x y u v s t = 0) (h1 : (x ≤ s ∧ s ≤ u) ∨ (u ≤ s ∧ s ≤ x)) (h2 : (y ≤ t ∧ t ≤ v) ∨ (v ≤ t ∧ t ≤ y)) : onE ((x, y), (u, v)) (s, t) = true := by
  have m1 := mnI_le x u; have m2 := mxI_le x u; have m3 := mnI_le y v; have m4 := mxI_le y v
  rw [onE_at]
  exact decide_eq_true ⟨h0, by omega, by omega, by omega, by omega⟩

theorem on_not_not {x y u v s t : Int} (h : onE ((x, y), (u, v)) (s, t) = true) : crI x y u v s t = 0 ∧ ((x ≤ s ∧ s ≤ u) ∨ (u ≤ s ∧ s ≤ x)) ∧ ((y ≤ t ∧ t ≤ v) ∨ (v ≤ t ∧ t ≤ y)) := by
  rw [onE_at] at h
  have h := of_decide_eq_true h
  have n1 := mnI_or x u; have n2 := mxI_or x u; have n3 := mnI_or y v; have n4 := mxI_or y v
  have m1 := mnI_le x u; have m2 := mxI_le x u; have m3 := mnI_le y v; have m4 := mxI_le y v
  exact ⟨h.1, by omega, by omega⟩
/-- The triangle's three edges, for one point: what the law's numbers are. -/
structure Tri (a1 a2 b1 b2 c1 c2 s t x y z : Int) : Prop where
  hx : crI a1 a2 b1 b2 s t = x
  hy : crI b1 b2 c1 c2 s t = y
  hz : crI c1 c2 a1 a2 s t = z
  ne : ¬ (x = 0 ∧ y = 0 ∧ z = 0)
theorem Tri.turn {a1 a2 b1 b2 c1 c2 s t x y z : Int} (h : Tri a1 a2 b1 b2 c1 c2 s t x y z) : Tri b1 b2 c1 c2 a1 a2 s t y z x := ⟨h.hy, h.hz, h.hx, fun k => h.ne ⟨k.2.2, k.1, k.2.1⟩⟩
theorem Tri.sum {a1 a2 b1 b2 c1 c2 s t x y z : Int} (h : Tri a1 a2 b1 b2 c1 c2 s t x y z) : y * (a1 - s) + z * (b1 - s) + x * (c1 - s) = 0 ∧ y * (a2 - t) + z * (b2 - t) + x * (c2 - t) = 0 := by
  have k := weigh (a1 - s) (a2 - t) (b1 - s) (b2 - t) (c1 - s) (c2 - t)
  rw [← cr_rel, ← cr_rel, ← cr_rel, h.hx, h.hy, h.hz] at k
  exact k
def triE (a1 a2 b1 b2 c1 c2 : Int) : List E2 := edges [(a1, a2), (b1, b2), (c1, c2)]
theorem tri_turn (a1 a2 b1 b2 c1 c2 : Int) (p : P2) : hasE (triE b1 b2 c1 c2 a1 a2) p = hasE (triE a1 a2 b1 b2 c1 c2) p :=
  has_perm (edges_rot1 [(a1, a2), (b1, b2), (c1, c2)]) p
theorem tri_has (a1 a2 b1 b2 c1 c2 s t : Int) : hasE (triE a1 a2 b1 b2 c1 c2) (s, t) =
    ((onE ((a1, a2), (b1, b2)) (s, t) || (onE ((b1, b2), (c1, c2)) (s, t) || (onE ((c1, c2), (a1, a2)) (s, t) || false))) ||
      (cutE ((a1, a2), (b1, b2)) (s, t) ^^ (cutE ((b1, b2), (c1, c2)) (s, t) ^^ (cutE ((c1, c2), (a1, a2)) (s, t) ^^ false)))) := rfl
/-- On the first edge: on one side of all. -/
theorem tri_on {a1 a2 b1 b2 c1 c2 s t x y z : Int} (h : Tri a1 a2 b1 b2 c1 c2 s t x y z) (ho : onE ((a1, a2), (b1, b2)) (s, t) = true) : oneB x y z = true := by
  have k := on_not_not ho
  rw [h.hx] at k
  obtain ⟨rfl, k1, k2⟩ := k
  have w := h.sum
  rw [Int.zero_mul, Int.zero_mul, Int.add_zero, Int.add_zero] at w
  obtain ⟨w1, w2⟩ := w
  have ne := h.ne
  have p1 := sg y (a1 - s); have p2 := sg z (b1 - s); have p3 := sg y (a2 - t); have p4 := sg z (b2 - t)
  have hz := h.hz
  have hy := h.hy
  have q : a1 - s = 0 → a2 - t = 0 → z = 0 := by
    intro e1 e2
    rw [← hz, cr_rel, e1, e2, Int.mul_zero, Int.mul_zero]; rfl
  have r : b1 - s = 0 → b2 - t = 0 → y = 0 := by
    intro e1 e2
    rw [← hy, cr_rel, e1, e2, Int.zero_mul, Int.zero_mul]; rfl
  generalize y * (a1 - s) = P1 at *
  generalize z * (b1 - s) = P2 at *
  generalize y * (a2 - t) = P3 at *
  generalize z * (b2 - t) = P4 at *
  unfold oneB
  refine decide_eq_true ?_
  omega
theorem xor3 {A B C : Prop} [Decidable A] [Decidable B] [Decidable C] (h : (A ∧ ¬ B ∨ ¬ A ∧ B) ↔ C) : (decide A ^^ decide B) = decide C := by
  by_cases a : A <;> by_cases b : B <;> by_cases c : C <;> simp [a, b, c] at h ⊢
/-- One corner not above the point, the others above it. -/
theorem tri_low {a1 a2 b1 b2 c1 c2 s t x y z : Int} (h : Tri a1 a2 b1 b2 c1 c2 s t x y z) (ha : a2 ≤ t) (hb : t < b2) (hc : t < c2)
    (n1 : onE ((a1, a2), (b1, b2)) (s, t) = false) (n2 : onE ((b1, b2), (c1, c2)) (s, t) = false) (n3 : onE ((c1, c2), (a1, a2)) (s, t) = false) : hasE (triE a1 a2 b1 b2 c1 c2) (s, t) = oneB x y z := by
  have x0 : x ≠ 0 := by
    intro e
    have := straddle_on (h.hx.trans e) (.inl ⟨ha, hb⟩)
    rw [n1] at this; cases this
  have z0 : z ≠ 0 := by
    intro e
    have := straddle_on (h.hz.trans e) (.inr ⟨ha, hc⟩)
    rw [n3] at this; cases this
  rw [tri_has, n1, n2, n3, cut_flat (x := b1) (u := c1) (.inr ⟨hb, hc⟩), cutE_at, cutE_at, h.hx, h.hz, Bool.xor_false, Bool.or_false, Bool.or_false, Bool.false_or, Bool.false_xor]
  obtain ⟨_, w⟩ := h.sum
  have p1 := sg y (a2 - t); have p2 := sg z (b2 - t); have p3 := sg x (c2 - t)
  generalize y * (a2 - t) = P1 at *
  generalize z * (b2 - t) = P2 at *
  generalize x * (c2 - t) = P3 at *
  unfold oneB
  refine xor3 ?_
  omega
/-- One corner above the point, the others not. -/
theorem tri_high {a1 a2 b1 b2 c1 c2 s t x y z : Int} (h : Tri a1 a2 b1 b2 c1 c2 s t x y z) (ha : a2 ≤ t) (hb : b2 ≤ t) (hc : t < c2)
    (n1 : onE ((a1, a2), (b1, b2)) (s, t) = false) (n2 : onE ((b1, b2), (c1, c2)) (s, t) = false) (n3 : onE ((c1, c2), (a1, a2)) (s, t) = false) : hasE (triE a1 a2 b1 b2 c1 c2) (s, t) = oneB x y z := by
  have y0 : y ≠ 0 := by
    intro e
    have := straddle_on (h.hy.trans e) (.inl ⟨hb, hc⟩)
    rw [n2] at this; cases this
  have z0 : z ≠ 0 := by
    intro e
    have := straddle_on (h.hz.trans e) (.inr ⟨ha, hc⟩)
    rw [n3] at this; cases this
  rw [tri_has, n1, n2, n3, cut_flat (x := a1) (u := b1) (.inl ⟨ha, hb⟩), cutE_at, cutE_at, h.hy, h.hz, Bool.xor_false, Bool.or_false, Bool.or_false, Bool.false_or, Bool.false_xor]
  obtain ⟨_, w⟩ := h.sum
  have p1 := sg y (a2 - t); have p2 := sg z (b2 - t); have p3 := sg x (c2 - t)
  generalize y * (a2 - t) = P1 at *
  generalize z * (b2 - t) = P2 at *
  generalize x * (c2 - t) = P3 at *
  unfold oneB
  refine xor3 ?_
  omega
/-- All corners above the point. -/
theorem tri_above {a1 a2 b1 b2 c1 c2 s t x y z : Int} (h : Tri a1 a2 b1 b2 c1 c2 s t x y z) (ha : t < a2) (hb : t < b2) (hc : t < c2)
    (n1 : onE ((a1, a2), (b1, b2)) (s, t) = false) (n2 : onE ((b1, b2), (c1, c2)) (s, t) = false) (n3 : onE ((c1, c2), (a1, a2)) (s, t) = false) : hasE (triE a1 a2 b1 b2 c1 c2) (s, t) = oneB x y z := by
  rw [tri_has, n1, n2, n3, cut_flat (x := a1) (u := b1) (.inr ⟨ha, hb⟩), cut_flat (x := b1) (u := c1) (.inr ⟨hb, hc⟩), cut_flat (x := c1) (u := a1) (.inr ⟨hc, ha⟩)]
  obtain ⟨_, w⟩ := h.sum
  have ne := h.ne
  have p1 := sg y (a2 - t); have p2 := sg z (b2 - t); have p3 := sg x (c2 - t)
  generalize y * (a2 - t) = P1 at *
  generalize z * (b2 - t) = P2 at *
  generalize x * (c2 - t) = P3 at *
  unfold oneB
  rw [decide_eq_false (show ¬ (0 ≤ x ∧ 0 ≤ y ∧ 0 ≤ z ∨ x ≤ 0 ∧ y ≤ 0 ∧ z ≤ 0) by omega)]
  rfl
theorem pair_on {z x B C : Int} (h : z * B + x * C = 0) (hs : (0 < z ∧ 0 < x) ∨ (z < 0 ∧ x < 0)) : (B ≤ 0 ∧ 0 ≤ C) ∨ (C ≤ 0 ∧ 0 ≤ B) := by
  have p := sg z B; have q := sg x C
  generalize z * B = P at *
  generalize x * C = Q at *
  omega
theorem lone {x C : Int} (h : x * C = 0) (hx : x ≠ 0) : C = 0 := by
  rcases Int.mul_eq_zero.1 h with k | k
  · exact absurd k hx
  · exact k
/-- What weighs nothing though all weights have one sign and no place is above 0 lies at 0, or has no weight. -/
theorem levels {x y z A B C : Int} (k : (0 ≤ x ∧ 0 ≤ y ∧ 0 ≤ z) ∨ (x ≤ 0 ∧ y ≤ 0 ∧ z ≤ 0)) (hA : A ≤ 0) (hB : B ≤ 0) (hC : C ≤ 0) (w : y * A + z * B + x * C = 0) : (y ≠ 0 → A = 0) ∧ (z ≠ 0 → B = 0) ∧ (x ≠ 0 → C = 0) := by
  have p1 := sg y A; have p2 := sg z B; have p3 := sg x C
  generalize y * A = P1 at *
  generalize z * B = P2 at *
  generalize x * C = P3 at *
  have f1 : P1 = 0 ∧ P2 = 0 ∧ P3 = 0 := by omega
  obtain ⟨rfl, rfl, rfl⟩ := f1
  clear w
  refine ⟨?_, ?_, ?_⟩
  · clear p2 p3; omega
  · clear p1 p3; omega
  · clear p1 p2; omega
/-- No corner above the point: it is in the triangle only on an edge. -/
theorem tri_below {a1 a2 b1 b2 c1 c2 s t x y z : Int} (h : Tri a1 a2 b1 b2 c1 c2 s t x y z) (ha : a2 ≤ t) (hb : b2 ≤ t) (hc : c2 ≤ t)
    (n1 : onE ((a1, a2), (b1, b2)) (s, t) = false) (n2 : onE ((b1, b2), (c1, c2)) (s, t) = false) (n3 : onE ((c1, c2), (a1, a2)) (s, t) = false) : hasE (triE a1 a2 b1 b2 c1 c2) (s, t) = oneB x y z := by
  rw [tri_has, n1, n2, n3, cut_flat (x := a1) (u := b1) (.inl ⟨ha, hb⟩), cut_flat (x := b1) (u := c1) (.inl ⟨hb, hc⟩), cut_flat (x := c1) (u := a1) (.inl ⟨hc, ha⟩)]
  obtain ⟨w1, w⟩ := h.sum
  have no : ¬ (0 ≤ x ∧ 0 ≤ y ∧ 0 ≤ z ∨ x ≤ 0 ∧ y ≤ 0 ∧ z ≤ 0) := by
    intro k
    obtain ⟨l1, l2, l3⟩ := levels k (show a2 - t ≤ 0 by omega) (show b2 - t ≤ 0 by omega) (show c2 - t ≤ 0 by omega) w
    clear w
    have hx := h.hx; have hy := h.hy; have hz := h.hz
    have on1 : x = 0 → ¬ (((a1 ≤ s ∧ s ≤ b1) ∨ (b1 ≤ s ∧ s ≤ a1)) ∧ ((a2 ≤ t ∧ t ≤ b2) ∨ (b2 ≤ t ∧ t ≤ a2))) := fun e q => by
      have := on_of (hx.trans e) q.1 q.2; rw [n1] at this; cases this
    have on2 : y = 0 → ¬ (((b1 ≤ s ∧ s ≤ c1) ∨ (c1 ≤ s ∧ s ≤ b1)) ∧ ((b2 ≤ t ∧ t ≤ c2) ∨ (c2 ≤ t ∧ t ≤ b2))) := fun e q => by
      have := on_of (hy.trans e) q.1 q.2; rw [n2] at this; cases this
    have on3 : z = 0 → ¬ (((c1 ≤ s ∧ s ≤ a1) ∨ (a1 ≤ s ∧ s ≤ c1)) ∧ ((c2 ≤ t ∧ t ≤ a2) ∨ (a2 ≤ t ∧ t ≤ c2))) := fun e q => by
      have := on_of (hz.trans e) q.1 q.2; rw [n3] at this; cases this
    have ne := h.ne
    rw [cr_rel] at hx
    by_cases x0 : x = 0 <;> by_cases y0 : y = 0 <;> by_cases z0 : z = 0
    · exact ne ⟨x0, y0, z0⟩
    · have e2 := l2 z0
      rw [x0, y0, Int.zero_mul, Int.zero_mul, Int.zero_add, Int.add_zero] at w1
      have e1 := lone w1 z0
      exact on1 x0 (by omega)
    · have e2 := l1 y0
      rw [x0, z0, Int.zero_mul, Int.zero_mul, Int.add_zero, Int.add_zero] at w1
      have e1 := lone w1 y0
      exact on1 x0 (by omega)
    · have e1 := l1 y0; have e2 := l2 z0
      rw [x0, Int.zero_mul, Int.add_zero] at w1
      have q := pair_on w1 (by omega)
      exact on1 x0 (by omega)
    · have e2 := l3 x0
      rw [y0, z0, Int.zero_mul, Int.zero_mul, Int.zero_add, Int.zero_add] at w1
      have e1 := lone w1 x0
      exact on2 y0 (by omega)
    · have e1 := l2 z0; have e2 := l3 x0
      rw [y0, Int.zero_mul, Int.zero_add] at w1
      have q := pair_on w1 (by omega)
      exact on2 y0 (by omega)
    · have e1 := l1 y0; have e2 := l3 x0
      rw [z0, Int.zero_mul, Int.add_zero] at w1
      have q := pair_on w1 (by omega)
      exact on3 z0 (by omega)
    · have e1 := l1 y0; have e2 := l2 z0
      rw [e1, e2, Int.mul_zero, Int.zero_mul] at hx
      exact x0 (by omega)
  unfold oneB
  rw [decide_eq_false no]
  rfl
theorem tri_is {a1 a2 b1 b2 c1 c2 s t x y z : Int} (h : Tri a1 a2 b1 b2 c1 c2 s t x y z) : hasE (triE a1 a2 b1 b2 c1 c2) (s, t) = oneB x y z := by
  cases n1 : onE ((a1, a2), (b1, b2)) (s, t) with
  | true => rw [tri_has, n1, tri_on h n1]; rfl
  | false =>
    cases n2 : onE ((b1, b2), (c1, c2)) (s, t) with
    | true => rw [tri_has, n1, n2, ← one_turn, tri_on h.turn n2]; rfl
    | false =>
      cases n3 : onE ((c1, c2), (a1, a2)) (s, t) with
      | true => rw [tri_has, n1, n2, n3, ← one_turn, ← one_turn, tri_on h.turn.turn n3]; rfl
      | false =>
        by_cases ha : a2 ≤ t <;> by_cases hb : b2 ≤ t <;> by_cases hc : c2 ≤ t
        · exact tri_below h ha hb hc n1 n2 n3
        · exact tri_high h ha hb (by omega) n1 n2 n3
        · rw [← one_turn, ← one_turn, ← tri_turn, ← tri_turn]
          exact tri_high h.turn.turn hc ha (by omega) n3 n1 n2
        · exact tri_low h ha (by omega) (by omega) n1 n2 n3
        · rw [← one_turn, ← tri_turn]
          exact tri_high h.turn hb hc (by omega) n2 n3 n1
        · rw [← one_turn, ← tri_turn]
          exact tri_low h.turn hb (by omega) (by omega) n2 n3 n1
        · rw [← one_turn, ← one_turn, ← tri_turn, ← tri_turn]
          exact tri_low h.turn.turn hc (by omega) (by omega) n3 n1 n2
        · exact tri_above h (by omega) (by omega) (by omega) n1 n2 n3
theorem on_dot (x y s t : Int) : onE ((x, y), (x, y)) (s, t) = (s == x && t == y) := by
  have m1 := mnI_le x x; have m2 := mxI_le x x; have m3 := mnI_le y y; have m4 := mxI_le y y
  have n1 := mnI_or x x; have n2 := mxI_or x x; have n3 := mnI_or y y; have n4 := mxI_or y y
  rw [onE_at, Bool.eq_iff_iff]
  simp only [decide_eq_true_eq, Bool.and_eq_true, beq_iff_eq]
  constructor
  · omega
  · rintro ⟨rfl, rfl⟩
    refine ⟨?_, by omega, by omega, by omega, by omega⟩
    unfold crI
    rw [Int.sub_self, Int.sub_self, Int.zero_mul]; rfl
theorem cut_dot (x y s t : Int) : cutE ((x, y), (x, y)) (s, t) = false := cut_flat (by omega)
/-- What the law of triangles compares. -/
theorem tri_one {a1 a2 b1 b2 c1 c2 s t x y z : Int} (h : Tri a1 a2 b1 b2 c1 c2 s t x y z) : hasE (edgesL [[(a1, a2), (b1, b2), (c1, c2)]]) (s, t) = oneB x y z := by
  rw [← tri_is h]
  show hasE (triE a1 a2 b1 b2 c1 c2 ++ []) (s, t) = _
  rw [List.append_nil]
theorem tri_more {a1 a2 b1 b2 c1 c2 s t x y z : Int} (h : Tri a1 a2 b1 b2 c1 c2 s t x y z) : hasE (edgesL [[(a1, a2), (b1, b2), (c1, c2)], [], [(a1, a2)], [(b1, b2), (b1, b2)]]) (s, t) = (oneB x y z || (s == a1 && t == a2) || (s == b1 && t == b2)) := by
  rw [← tri_is h]
  show hasE (triE a1 a2 b1 b2 c1 c2 ++ ([((a1, a2), (a1, a2)), ((b1, b2), (b1, b2)), ((b1, b2), (b1, b2))])) (s, t) = _
  unfold hasE
  rw [List.any_append, List.map_append, xorL_append]
  simp only [List.any_cons, List.any_nil, List.map_cons, List.map_nil, xorL, on_dot, cut_dot]
  cases (triE a1 a2 b1 b2 c1 c2).any (fun e => onE e (s, t)) <;> cases xorL ((triE a1 a2 b1 b2 c1 c2).map fun e => cutE e (s, t)) <;> cases (s == a1 && t == a2) <;> cases (s == b1 && t == b2) <;> rfl
theorem tri_mk {a1 a2 b1 b2 c1 c2 : Int} (h : crI a1 a2 b1 b2 c1 c2 ≠ 0) (s t : Int) : Tri a1 a2 b1 b2 c1 c2 s t (crI a1 a2 b1 b2 s t) (crI b1 b2 c1 c2 s t) (crI c1 c2 a1 a2 s t) :=
  ⟨rfl, rfl, rfl, fun k => h (by rw [area a1 a2 b1 b2 c1 c2 s t]; omega)⟩
end Go.Proofs.Ytoofbbmddddlcaa
