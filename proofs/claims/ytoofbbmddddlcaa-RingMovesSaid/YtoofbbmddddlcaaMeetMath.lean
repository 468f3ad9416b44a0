/- Plain mathematics: when a segment meets a box, the nearest and the farthest point. No program in it. -/
import Derived.Test.YtoofbbmddddlcaaBoxMath
namespace Go.Proofs.Ytoofbbmddddlcaa
open Go.RowKit

theorem shB_yes {a b c d z : Int} (h1 : a ≤ z) (h2 : z ≤ b) (h3 : c ≤ z) (h4 : z ≤ d) : shB a b c d = true := by
  rw [shB_eq]; exact decide_eq_true (by omega)
theorem mul_pp {x y : Int} (h : 0 ≤ x) (k : 0 ≤ y) : 0 ≤ x * y := Int.mul_nonneg h k
theorem mul_nn {x y : Int} (h : x ≤ 0) (k : y ≤ 0) : 0 ≤ x * y := Int.mul_nonneg_of_nonpos_of_nonpos h k
theorem mul_pn {x y : Int} (h : 0 ≤ x) (k : y ≤ 0) : x * y ≤ 0 := Int.mul_nonpos_of_nonneg_of_nonpos h k
theorem mul_np {x y : Int} (h : x ≤ 0) (k : 0 ≤ y) : x * y ≤ 0 := Int.mul_nonpos_of_nonpos_of_nonneg h k
/-- The corners of a box with the point (x, y) in it do not lie all on one side of a line through it. -/
theorem side_in {a b c d x y u v : Int} (hx : a ≤ x) (hx' : x ≤ c) (hy : b ≤ y) (hy' : y ≤ d) : sideB a b c d x y u v = false := by
  unfold sideB besB crI
  refine decide_eq_false ?_
  rcases Int.le_total 0 (u - x) with h | h <;> rcases Int.le_total 0 (v - y) with k | k
  · have p1 := mul_pn h (show b - y ≤ 0 by omega); have p2 := mul_pp k (show 0 ≤ c - x by omega)
    have p3 := mul_pp h (show 0 ≤ d - y by omega); have p4 := mul_pn k (show a - x ≤ 0 by omega)
    omega
  · have p1 := mul_pn h (show b - y ≤ 0 by omega); have p2 := mul_nn k (show a - x ≤ 0 by omega)
    have p3 := mul_pp h (show 0 ≤ d - y by omega); have p4 := mul_np k (show 0 ≤ c - x by omega)
    omega
  · have p1 := mul_np h (show 0 ≤ d - y by omega); have p2 := mul_pp k (show 0 ≤ c - x by omega)
    have p3 := mul_nn h (show b - y ≤ 0 by omega); have p4 := mul_pn k (show a - x ≤ 0 by omega)
    omega
  · have p1 := mul_np h (show 0 ≤ d - y by omega); have p2 := mul_nn k (show a - x ≤ 0 by omega)
    have p3 := mul_nn h (show b - y ≤ 0 by omega); have p4 := mul_np k (show 0 ≤ c - x by omega)
    omega
/-- A segment that begins in a box meets it. -/
theorem meet_in {a b c d x y u v : Int} (hx : a ≤ x) (hx' : x ≤ c) (hy : b ≤ y) (hy' : y ≤ d) : meetB a b c d x y u v = true := by
  have m1 := mnI_le x u; have m2 := mxI_le x u; have m3 := mnI_le y v; have m4 := mxI_le y v
  unfold meetB apB
  rw [side_in hx hx' hy hy', shB_yes (z := x) hx hx' m1.1 m2.1, shB_yes (z := y) hy hy' m3.1 m4.1]
  rfl
theorem nearI_mid {v a b : Int} (h : a ≤ v) (k : v ≤ b) : nearI v a b = v := by
  unfold nearI mnI mxI
  rw [if_neg (by omega), if_neg (by omega)]
theorem near_in {a b c d x y : Int} (hx : a ≤ x) (hx' : x ≤ c) (hy : b ≤ y) (hy' : y ≤ d) : nearS a b c d x y = 0 := by
  unfold nearS sqI
  rw [nearI_mid hx hx', nearI_mid hy hy', Int.sub_self, Int.sub_self]
  rfl
/-- The farthest point of the greatest box. -/
theorem most_great {x y X Y : Int} (hX : (0 ≤ x ∧ X = x) ∨ (x ≤ 0 ∧ X = -x)) (hY : (0 ≤ y ∧ Y = y) ∨ (y ≤ 0 ∧ Y = -y)) :
    mostS (-536870912) (-536870912) 536870912 536870912 x y = (X + 536870912) * (X + 536870912) + (Y + 536870912) * (Y + 536870912) := by
  unfold mostS sqI farI
  have e1 : ∀ z Z : Int, ((0 ≤ z ∧ Z = z) ∨ (z ≤ 0 ∧ Z = -z)) → (if z - -536870912 < 536870912 - z then (536870912 : Int) else -536870912) - z = Z + 536870912 ∨ (if z - -536870912 < 536870912 - z then (536870912 : Int) else -536870912) - z = -(Z + 536870912) := by
    intro z Z h
    split <;> omega
  rcases e1 x X hX with h | h <;> rcases e1 y Y hY with k | k <;> rw [h, k] <;> simp only [Int.neg_mul_neg]
theorem cross_great (x y : Int) : crI (-536870912) (-536870912) 536870912 (-536870912) x y = 1073741824 * (y + 536870912) := by
  unfold crI; omega
end Go.Proofs.Ytoofbbmddddlcaa
