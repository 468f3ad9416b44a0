/- Plain mathematics of discs: what each function of package disc says, over whole numbers. No program in it. -/
import Derived.Test.YtoofbbmddddlcaaHoldMath
namespace Go.Proofs.Ytoofbbmddddlcaa
open Go.RowKit

/-- The class of a box whose nearest and farthest point have these squares of distances. -/
def discK (r nr ms : Int) : Int := if r < 1 then 0 else if r * r < nr then 0 else if ms ≤ r * r then 2 else 1
/-- Whether a disc has a point at this square of a distance. -/
def discB (r d : Int) : Bool := decide (1 ≤ r ∧ d ≤ r * r)
theorem discK_cases (r q nr ms : Int) (hq : r * r = q) : (r < 1 ∧ Hid (discK r nr ms = 0)) ∨ (¬ r < 1 ∧ q < nr ∧ Hid (discK r nr ms = 0)) ∨ (¬ r < 1 ∧ ¬ q < nr ∧ ms ≤ q ∧ Hid (discK r nr ms = 2)) ∨ (¬ r < 1 ∧ ¬ q < nr ∧ ¬ ms ≤ q ∧ Hid (discK r nr ms = 1)) := by
  subst hq
  unfold Hid discK
  by_cases h : r < 1
  · exact .inl ⟨h, by rw [if_pos h]⟩
  by_cases k : r * r < nr
  · exact .inr (.inl ⟨h, k, by rw [if_neg h, if_pos k]⟩)
  by_cases l : ms ≤ r * r
  · exact .inr (.inr (.inl ⟨h, k, l, by rw [if_neg h, if_neg k, if_pos l]⟩))
  · exact .inr (.inr (.inr ⟨h, k, l, by rw [if_neg h, if_neg k, if_neg l]⟩))
theorem discB_cases (r q d : Int) (hq : r * r = q) : (¬ 1 ≤ r ∧ Hid (discB r d = false)) ∨ (1 ≤ r ∧ d ≤ q ∧ Hid (discB r d = true)) ∨ (1 ≤ r ∧ decide (d ≤ q) = false ∧ Hid (discB r d = false)) := by
  subst hq
  unfold Hid discB
  simp only [decide_eq_true_eq, decide_eq_false_iff_not]
  generalize r * r = q
  omega
theorem discK_out {r : Int} (h : r < 1) (nr ms : Int) : discK r nr ms = 0 := by unfold discK; rw [if_pos h]
theorem discB_out {r : Int} (h : r < 1) (d : Int) : discB r d = false := by unfold discB; exact decide_eq_false (by omega)
/-- The nearest point of a box of one point. -/
theorem near_dot (x y u v : Int) : nearS x y x y u v = sqI u v x y := by
  have e (v a : Int) : nearI v a a = a := by unfold nearI mxI mnI; split <;> split <;> omega
  unfold nearS; rw [e, e]
theorem sqI_comm (x y u v : Int) : sqI x y u v = sqI u v x y := by
  unfold sqI
  rw [← Int.neg_mul_neg (u - x) (u - x), ← Int.neg_mul_neg (v - y) (v - y), Int.neg_sub, Int.neg_sub]
theorem near_bd {a b c d x y : Int} (a0 : -536870912 ≤ a) (ac : a ≤ c) (c1 : c ≤ 536870912) (b0 : -536870912 ≤ b) (bd : b ≤ d) (d1 : d ≤ 536870912) (x0 : -536870912 ≤ x) (x1 : x ≤ 536870912) (y0 : -536870912 ≤ y) (y1 : y ≤ 536870912) : -2305843009213693952 ≤ nearS a b c d x y ∧ nearS a b c d x y ≤ 2305843009213693952 := by
  obtain ⟨h0, h1⟩ := nearI_in x ac
  obtain ⟨k0, k1⟩ := nearI_in y bd
  have p := mul_bd (X := nearI x a c - x) (Y := nearI x a c - x) (by omega) (by omega) (by omega) (by omega)
  have q := mul_bd (X := nearI y b d - y) (Y := nearI y b d - y) (by omega) (by omega) (by omega) (by omega)
  unfold nearS sqI
  omega
theorem near_most {a b c d x y : Int} (ac : a ≤ c) (bd : b ≤ d) : nearS a b c d x y ≤ mostS a b c d x y :=
  Int.le_trans (near_le ac bd (Int.le_refl a) ac (Int.le_refl b) bd) (most_ge (Int.le_refl a) ac (Int.le_refl b) bd)
end Go.Proofs.Ytoofbbmddddlcaa
