/- Plain mathematics: no point of a box is nearer than the nearest or farther than the farthest one; the quarters. No program in it. -/
import Derived.Test.YtoofbbmddddlcaaMeetMath
namespace Go.Proofs.Ytoofbbmddddlcaa
open Go.RowKit

theorem sq_le {A B : Int} (h : -B ≤ A) (k : A ≤ B) : A * A ≤ B * B := by
  have p := mul_pp (show 0 ≤ B - A by omega) (show 0 ≤ B + A by omega)
  rw [Int.sub_mul, Int.mul_add, Int.mul_add, Int.mul_comm A B] at p
  omega
theorem sq_le' {A B : Int} (h : B ≤ A) (k : A ≤ -B) : A * A ≤ B * B := by
  rw [← Int.neg_mul_neg B B]
  exact sq_le (by omega) k
theorem near_axis {x a c u : Int} (h : a ≤ c) (hu : a ≤ u) (hu' : u ≤ c) : (nearI x a c - x) * (nearI x a c - x) ≤ (x - u) * (x - u) := by
  unfold nearI mnI mxI
  by_cases h1 : x < a
  · rw [if_pos h1, if_neg (by omega)]
    exact sq_le' (by omega) (by omega)
  · rw [if_neg h1]
    by_cases h2 : c < x
    · rw [if_pos h2]
      exact sq_le (by omega) (by omega)
    · rw [if_neg h2, Int.sub_self]
      have := sq_nonneg (x - u)
      simpa using this
theorem far_axis {x a c u : Int} (hu : a ≤ u) (hu' : u ≤ c) : (x - u) * (x - u) ≤ (farI x a c - x) * (farI x a c - x) := by
  unfold farI
  split
  · exact sq_le (by omega) (by omega)
  · exact sq_le' (by omega) (by omega)
theorem near_le {a b c d x y u v : Int} (h : a ≤ c) (k : b ≤ d) (hu : a ≤ u) (hu' : u ≤ c) (hv : b ≤ v) (hv' : v ≤ d) : nearS a b c d x y ≤ (x - u) * (x - u) + (y - v) * (y - v) := by
  have p := near_axis (x := x) h hu hu'
  have q := near_axis (x := y) k hv hv'
  unfold nearS sqI
  omega
theorem most_ge {a b c d x y u v : Int} (hu : a ≤ u) (hu' : u ≤ c) (hv : b ≤ v) (hv' : v ≤ d) : (x - u) * (x - u) + (y - v) * (y - v) ≤ mostS a b c d x y := by
  have p := far_axis (x := x) hu hu'
  have q := far_axis (x := y) hv hv'
  unfold mostS sqI
  omega
theorem nearI_at {x a c : Int} (h : a ≤ c) : nearI x a c = x ↔ a ≤ x ∧ x ≤ c := by
  unfold nearI mnI mxI
  split <;> split <;> omega
theorem sq_zero {A : Int} (h : A * A = 0) : A = 0 := by
  rcases Int.mul_eq_zero.1 h with k | k <;> exact k
theorem near_zero {a b c d x y : Int} (h : a ≤ c) (k : b ≤ d) : (nearS a b c d x y == 0) = hasB a b c d x y := by
  rw [Bool.eq_iff_iff, beq_iff_eq]
  unfold nearS sqI hasB
  rw [decide_eq_true_eq]
  constructor
  · intro e
    have p := sq_nonneg (nearI x a c - x)
    have q := sq_nonneg (nearI y b d - y)
    have e1 := sq_zero (show (nearI x a c - x) * (nearI x a c - x) = 0 by omega)
    have e2 := sq_zero (show (nearI y b d - y) * (nearI y b d - y) = 0 by omega)
    have f1 := (nearI_at (x := x) h).1 (by omega)
    have f2 := (nearI_at (x := y) k).1 (by omega)
    exact ⟨f1.1, f1.2, f2.1, f2.2⟩
  · rintro ⟨h1, h2, h3, h4⟩
    rw [(nearI_at h).2 ⟨h1, h2⟩, (nearI_at k).2 ⟨h3, h4⟩, Int.sub_self, Int.sub_self]
    rfl
/-- A box within another one is not apart from it. -/
theorem apB_in {a b c d e f g h : Int} (h1 : e ≤ a) (h2 : a ≤ c) (h3 : c ≤ g) (k1 : f ≤ b) (k2 : b ≤ d) (k3 : d ≤ h) : apB a b c d e f g h = false := by
  unfold apB
  rw [shB_yes (z := a) (by omega) (by omega) (by omega) (by omega), shB_yes (z := b) (by omega) (by omega) (by omega) (by omega)]
  rfl
theorem hasB_yes {a b c d x y : Int} (h1 : a ≤ x) (h2 : x ≤ c) (h3 : b ≤ y) (h4 : y ≤ d) : hasB a b c d x y = true := decide_eq_true ⟨h1, h2, h3, h4⟩
theorem okX_yes {a b c d : Int} (h1 : -536870912 ≤ a) (h2 : a ≤ c) (h3 : c ≤ 536870912) (k1 : -536870912 ≤ b) (k2 : b ≤ d) (k3 : d ≤ 536870912) : okX a b c d = true := decide_eq_true ⟨⟨h1, h2, h3⟩, k1, k2, k3⟩
/-- How many quarters have been found that have the point. -/
def found (h0 h1 h2 h3 : Bool) : Nat → Int
  | 0 => 0
  | 1 => (if h0 then 1 else 0)
  | 2 => (if h0 then 1 else 0) + (if h1 then 1 else 0)
  | 3 => (if h0 then 1 else 0) + (if h1 then 1 else 0) + (if h2 then 1 else 0)
  | _ => (if h0 then 1 else 0) + (if h1 then 1 else 0) + (if h2 then 1 else 0) + (if h3 then 1 else 0)
theorem found_bd (h0 h1 h2 h3 : Bool) (j : Nat) : 0 ≤ found h0 h1 h2 h3 j ∧ found h0 h1 h2 h3 j ≤ 4 := by
  unfold found
  cases h0 <;> cases h1 <;> cases h2 <;> cases h3 <;> split <;> simp
/-- Every point of a box is in one of its quarters. -/
theorem found_one {a b c d X Y u v : Int} (_ha : a ≤ X) (_hc : X ≤ c) (_hb : b ≤ Y) (_hd : Y ≤ d) (hu : a ≤ u) (hu' : u ≤ c) (hv : b ≤ v) (hv' : v ≤ d) :
    1 ≤ found (hasB a b X Y u v) (hasB X b c Y u v) (hasB a Y X d u v) (hasB X Y c d u v) 4 := by
  unfold found
  by_cases h1 : u ≤ X <;> by_cases h2 : v ≤ Y
  · rw [hasB_yes hu h1 hv h2]
    cases hasB X b c Y u v <;> cases hasB a Y X d u v <;> cases hasB X Y c d u v <;> simp
  · rw [hasB_yes (a := a) (b := Y) (c := X) (d := d) hu h1 (by omega) hv']
    cases hasB a b X Y u v <;> cases hasB X b c Y u v <;> cases hasB X Y c d u v <;> simp
  · rw [hasB_yes (a := X) (b := b) (c := c) (d := Y) (by omega) hu' hv h2]
    cases hasB a b X Y u v <;> cases hasB a Y X d u v <;> cases hasB X Y c d u v <;> simp
  · rw [hasB_yes (a := X) (b := Y) (c := c) (d := d) (by omega) hu' (by omega) hv']
    cases hasB a b X Y u v <;> cases hasB X b c Y u v <;> cases hasB a Y X d u v <;> simp
end Go.Proofs.Ytoofbbmddddlcaa
