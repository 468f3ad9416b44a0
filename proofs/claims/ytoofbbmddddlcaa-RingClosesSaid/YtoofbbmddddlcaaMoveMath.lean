/- Plain mathematics: a box and a point that are moved, mirrored and turned together keep their distances; a smaller box, a greater disc. No program in it. -/
import Derived.Test.YtoofbbmddddlcaaDiscMath
namespace Go.Proofs.Ytoofbbmddddlcaa
open Go.RowKit

theorem nearI_move (v a b e : Int) : nearI (v + e) (a + e) (b + e) = nearI v a b + e := by
  unfold nearI mnI mxI
  by_cases h1 : v < a
  · rw [if_pos h1, if_pos (show v + e < a + e by omega)]
    by_cases h2 : b < a
    · rw [if_pos h2, if_pos (by omega)]
    · rw [if_neg h2, if_neg (by omega)]
  · rw [if_neg h1, if_neg (show ¬ v + e < a + e by omega)]
    by_cases h2 : b < v
    · rw [if_pos h2, if_pos (by omega)]
    · rw [if_neg h2, if_neg (by omega)]
theorem farI_move (v a b e : Int) : farI (v + e) (a + e) (b + e) = farI v a b + e := by
  unfold farI
  by_cases h : v - a < b - v
  · rw [if_pos h, if_pos (by omega)]
  · rw [if_neg h, if_neg (by omega)]
theorem nearI_neg {v a b : Int} (h : a ≤ b) : nearI (-v) (-b) (-a) = -(nearI v a b) := by
  unfold nearI mnI mxI
  by_cases h1 : v < a
  · rw [if_pos h1, if_neg (show ¬ -v < -b by omega), if_pos (show -a < -v by omega), if_neg (show ¬ b < a by omega)]
  · rw [if_neg h1]
    by_cases h2 : b < v
    · rw [if_pos (show -v < -b by omega), if_neg (show ¬ -a < -b by omega), if_pos h2]
    · rw [if_neg (show ¬ -v < -b by omega), if_neg (show ¬ -a < -v by omega), if_neg h2]
theorem neg_sq (x : Int) : -x * -x = x * x := Int.neg_mul_neg x x
theorem far_neg (v a b : Int) : (farI (-v) (-b) (-a) - -v) * (farI (-v) (-b) (-a) - -v) = (farI v a b - v) * (farI v a b - v) := by
  unfold farI
  by_cases h : v - a < b - v
  · rw [if_pos h, if_neg (by omega), ← neg_sq (b - v)]
    rw [show -b - -v = -(b - v) by omega]
  · rw [if_neg h]
    by_cases k : -v - -b < -a - -v
    · rw [if_pos k, show -a - -v = -(a - v) by omega, neg_sq]
    · rw [if_neg k, show -b - -v = a - v by omega]
theorem near_axis_neg {v a b : Int} (h : a ≤ b) : (nearI (-v) (-b) (-a) - -v) * (nearI (-v) (-b) (-a) - -v) = (nearI v a b - v) * (nearI v a b - v) := by
  rw [nearI_neg h, show -(nearI v a b) - -v = -(nearI v a b - v) by omega, neg_sq]
theorem near_move (a b c d x y e f : Int) : nearS (a + e) (b + f) (c + e) (d + f) (x + e) (y + f) = nearS a b c d x y := by
  unfold nearS sqI
  rw [nearI_move, nearI_move, show nearI x a c + e - (x + e) = nearI x a c - x by omega, show nearI y b d + f - (y + f) = nearI y b d - y by omega]
theorem most_move (a b c d x y e f : Int) : mostS (a + e) (b + f) (c + e) (d + f) (x + e) (y + f) = mostS a b c d x y := by
  unfold mostS sqI
  rw [farI_move, farI_move, show farI x a c + e - (x + e) = farI x a c - x by omega, show farI y b d + f - (y + f) = farI y b d - y by omega]
/-- Turned by a quarter: (x, y) becomes (-y, x). -/
theorem near_turn {a b c d x y : Int} (k : b ≤ d) : nearS (-d) a (-b) c (-y) x = nearS a b c d x y := by
  unfold nearS sqI
  rw [near_axis_neg k]
  omega
theorem most_turn (a b c d x y : Int) : mostS (-d) a (-b) c (-y) x = mostS a b c d x y := by
  unfold mostS sqI
  rw [far_neg]
  omega
/-- Mirrored: (x, y) becomes (-x, y). -/
theorem near_mirror {a b c d x y : Int} (h : a ≤ c) : nearS (-c) b (-a) d (-x) y = nearS a b c d x y := by
  unfold nearS sqI
  rw [near_axis_neg h]
theorem most_mirror (a b c d x y : Int) : mostS (-c) b (-a) d (-x) y = mostS a b c d x y := by
  unfold mostS sqI
  rw [far_neg]
/-- A box within another one. -/
theorem near_within {a b c d x y e f g h : Int} (h1 : a ≤ e) (h2 : e ≤ g) (h3 : g ≤ c) (k1 : b ≤ f) (k2 : f ≤ h) (k3 : h ≤ d) : nearS a b c d x y ≤ nearS e f g h x y := by
  obtain ⟨p1, p2⟩ := nearI_in x h2
  obtain ⟨q1, q2⟩ := nearI_in y k2
  have z := near_le (a := a) (b := b) (c := c) (d := d) (x := x) (y := y) (u := nearI x e g) (v := nearI y f h) (by omega) (by omega) (by omega) (by omega) (by omega) (by omega)
  refine Int.le_trans z (Int.le_of_eq ?_)
  unfold nearS sqI
  rw [← neg_sq (nearI x e g - x), ← neg_sq (nearI y f h - y), Int.neg_sub, Int.neg_sub]
theorem most_within {a b c d x y e f g h : Int} (h1 : a ≤ e) (h2 : e ≤ g) (h3 : g ≤ c) (k1 : b ≤ f) (k2 : f ≤ h) (k3 : h ≤ d) : mostS e f g h x y ≤ mostS a b c d x y := by
  obtain ⟨p1, p2⟩ := farI_in x h2
  obtain ⟨q1, q2⟩ := farI_in y k2
  have z := most_ge (a := a) (b := b) (c := c) (d := d) (x := x) (y := y) (u := farI x e g) (v := farI y f h) (by omega) (by omega) (by omega) (by omega)
  refine Int.le_trans (Int.le_of_eq ?_) z
  unfold mostS sqI
  rw [← neg_sq (farI x e g - x), ← neg_sq (farI y f h - y), Int.neg_sub, Int.neg_sub]
/-- A smaller box keeps a class that is not Mixed. -/
theorem keeps_class {r n m n' m' k j : Int} (_hr : 1 ≤ r) (h1 : n ≤ n') (h2 : n' ≤ m') (h3 : m' ≤ m) (hk : discK r n m = k) (hj : discK r n' m' = j) : k = 1 ∨ j = k := by
  unfold discK at hk hj
  generalize r * r = q at *
  split at hk
  · omega
  · split at hk <;> split at hj <;> (try split at hj) <;> (try split at hk) <;> (try split at hj) <;> omega
/-- A greater disc has no lower class. -/
theorem greater_class {r s n m k j : Int} (hr : 1 ≤ r) (hs : r ≤ s) (hk : discK r n m = k) (hj : discK s n m = j) : k ≤ j := by
  have q := sq_le (A := r) (B := s) (by omega) hs
  unfold discK at hk hj
  generalize r * r = q at *
  generalize s * s = p at *
  split at hk <;> split at hj <;> (try split at hk) <;> (try split at hj) <;> (try split at hk) <;> (try split at hj) <;> omega
end Go.Proofs.Ytoofbbmddddlcaa
