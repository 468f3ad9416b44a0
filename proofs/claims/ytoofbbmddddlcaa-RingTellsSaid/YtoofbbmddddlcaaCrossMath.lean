/- Plain mathematics: Meets hangs on no order of the ends and on no mirror; a point of the segment in the box shows it. No program in it. -/
import Derived.Test.YtoofbbmddddlcaaMeetMath
namespace Go.Proofs.Ytoofbbmddddlcaa
open Go.RowKit

theorem cr_swap (x y u v s t : Int) : crI u v x y s t = -(crI x y u v s t) := by
  unfold crI
  simp only [Int.sub_mul, Int.mul_sub]
  have h1 := Int.mul_comm x v
  have h2 := Int.mul_comm y u
  have h3 := Int.mul_comm u v
  have h4 := Int.mul_comm x y
  omega
theorem cr_mirror (x y u v s t : Int) : crI (-x) y (-u) v (-s) t = -(crI x y u v s t) := by
  unfold crI
  simp only [Int.sub_mul, Int.mul_sub, Int.neg_mul, Int.mul_neg]
  omega
theorem bes_neg (k l m n : Int) : besB (-k) (-l) (-m) (-n) = besB k l m n := by
  unfold besB; rw [decide_eq_decide]; omega
theorem bes_turn (k l m n : Int) : besB (-l) (-k) (-n) (-m) = besB k l m n := by
  unfold besB; rw [decide_eq_decide]; omega
theorem meet_swap (a b c d x y u v : Int) : meetB a b c d u v x y = meetB a b c d x y u v := by
  unfold meetB sideB
  rw [cr_swap x y u v a b, cr_swap x y u v c b, cr_swap x y u v a d, cr_swap x y u v c d, bes_neg, mnI_comm u x, mnI_comm v y, mxI_comm u x, mxI_comm v y]
theorem mn_neg (x u : Int) : mnI (-x) (-u) = -(mxI x u) := by
  unfold mnI mxI; split <;> split <;> omega
theorem mx_neg (x u : Int) : mxI (-x) (-u) = -(mnI x u) := by
  unfold mnI mxI; split <;> split <;> omega
theorem sh_neg (a c e g : Int) : shB (-c) (-a) (-g) (-e) = shB a c e g := by
  rw [shB_eq, shB_eq, decide_eq_decide]; omega
theorem meet_mirror (a b c d x y u v : Int) : meetB (-c) b (-a) d (-x) y (-u) v = meetB a b c d x y u v := by
  unfold meetB sideB apB
  rw [cr_mirror x y u v c b, cr_mirror x y u v a b, cr_mirror x y u v c d, cr_mirror x y u v a d, bes_turn, mn_neg, mx_neg, sh_neg]
/-- The corners of a box with the point (s, t) in it do not lie all on one side of a line through (s, t). -/
theorem side_on {a b c d x y u v s t : Int} (h0 : crI x y u v s t = 0) (hx : a ≤ s) (hx' : s ≤ c) (hy : b ≤ t) (hy' : t ≤ d) : sideB a b c d x y u v = false := by
  have e : ∀ p q : Int, crI x y u v p q = (u - x) * (q - t) - (v - y) * (p - s) := by
    intro p q
    unfold crI at *
    generalize u - x = U at *
    generalize v - y = V at *
    simp only [Int.mul_sub] at *
    omega
  unfold sideB besB
  rw [e, e, e, e]
  refine decide_eq_false ?_
  rcases Int.le_total 0 (u - x) with h | h <;> rcases Int.le_total 0 (v - y) with k | k
  · have p1 := mul_pn h (show b - t ≤ 0 by omega); have p2 := mul_pp k (show 0 ≤ c - s by omega)
    have p3 := mul_pp h (show 0 ≤ d - t by omega); have p4 := mul_pn k (show a - s ≤ 0 by omega)
    omega
  · have p1 := mul_pn h (show b - t ≤ 0 by omega); have p2 := mul_nn k (show a - s ≤ 0 by omega)
    have p3 := mul_pp h (show 0 ≤ d - t by omega); have p4 := mul_np k (show 0 ≤ c - s by omega)
    omega
  · have p1 := mul_np h (show 0 ≤ d - t by omega); have p2 := mul_pp k (show 0 ≤ c - s by omega)
    have p3 := mul_nn h (show b - t ≤ 0 by omega); have p4 := mul_pn k (show a - s ≤ 0 by omega)
    omega
  · have p1 := mul_np h (show 0 ≤ d - t by omega); have p2 := mul_nn k (show a - s ≤ 0 by omega)
    have p3 := mul_nn h (show b - t ≤ 0 by omega); have p4 := mul_np k (show 0 ≤ c - s by omega)
    omega
theorem meet_through {a b c d x y u v s t : Int} (h0 : crI x y u v s t = 0) (hx : a ≤ s) (hx' : s ≤ c) (hy : b ≤ t) (hy' : t ≤ d) (g1 : mnI x u ≤ s) (g2 : s ≤ mxI x u) (g3 : mnI y v ≤ t) (g4 : t ≤ mxI y v) : meetB a b c d x y u v = true := by
  unfold meetB apB
  rw [side_on h0 hx hx' hy hy', shB_yes (z := s) hx hx' g1 g2, shB_yes (z := t) hy hy' g3 g4]
  rfl
end Go.Proofs.Ytoofbbmddddlcaa
