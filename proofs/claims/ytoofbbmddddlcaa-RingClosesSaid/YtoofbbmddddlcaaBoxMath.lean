/- Plain mathematics of boxes and points: what each function of package box says, over whole numbers. No program in it. -/
import Derived.Test.YtoofbbmddddlcaaBase
namespace Go.Proofs.Ytoofbbmddddlcaa
open Go.RowKit

def mxI (a b : Int) : Int := if a < b then b else a
def mnI (a b : Int) : Int := if b < a then b else a
theorem mxI_le (a b : Int) : a ≤ mxI a b ∧ b ≤ mxI a b := by unfold mxI; split <;> omega
theorem mnI_le (a b : Int) : mnI a b ≤ a ∧ mnI a b ≤ b := by unfold mnI; split <;> omega
theorem mxI_or (a b : Int) : mxI a b = a ∨ mxI a b = b := by unfold mxI; split <;> simp
theorem mnI_or (a b : Int) : mnI a b = a ∨ mnI a b = b := by unfold mnI; split <;> simp
theorem mxI_comm (a b : Int) : mxI a b = mxI b a := by have := mxI_le a b; have := mxI_le b a; rcases mxI_or a b with h | h <;> rcases mxI_or b a with k | k <;> omega
theorem mnI_comm (a b : Int) : mnI a b = mnI b a := by have := mnI_le a b; have := mnI_le b a; rcases mnI_or a b with h | h <;> rcases mnI_or b a with k | k <;> omega

def rgB (a b : Int) : Bool := decide (-536870912 ≤ a ∧ a ≤ b ∧ b ≤ 536870912)
def okX (a b c d : Int) : Bool := decide ((-536870912 ≤ a ∧ a ≤ c ∧ c ≤ 536870912) ∧ (-536870912 ≤ b ∧ b ≤ d ∧ d ≤ 536870912))
def hasB (a b c d x y : Int) : Bool := decide (a ≤ x ∧ x ≤ c ∧ b ≤ y ∧ y ≤ d)
def shB (a b c d : Int) : Bool := decide (mxI a c ≤ mnI b d)
/-- Whether two boxes have no common point. -/
def apB (a b c d e f g h : Int) : Bool := !(shB a c e g) || !(shB b d f h)
def hvB (n : Int) : Bool := decide (0 < n ∧ n % 2 = 0)
def nearI (v a b : Int) : Int := mnI (mxI v a) b
def farI (v a b : Int) : Int := if v - a < b - v then b else a
def sqI (x y u v : Int) : Int := (u - x) * (u - x) + (v - y) * (v - y)
def nearS (a b c d x y : Int) : Int := sqI x y (nearI x a c) (nearI y b d)
def mostS (a b c d x y : Int) : Int := sqI x y (farI x a c) (farI y b d)
def crI (ox oy ax ay bx b' : Int) : Int := (ax - ox) * (b' - oy) - (ay - oy) * (bx - ox)
/-- All of four numbers on one side of 0. -/
def besB (k l m n : Int) : Bool := decide ((0 < k ∧ 0 < l ∧ 0 < m ∧ 0 < n) ∨ (k < 0 ∧ l < 0 ∧ m < 0 ∧ n < 0))
/-- Whether a box lies strictly on one side of the line from (x, y) to (u, v). -/
def sideB (a b c d x y u v : Int) : Bool := besB (crI x y u v a b) (crI x y u v c b) (crI x y u v a d) (crI x y u v c d)
def meetB (a b c d x y u v : Int) : Bool := !(apB a b c d (mnI x u) (mnI y v) (mxI x u) (mxI y v)) && !(sideB a b c d x y u v)
/-- Whether a box can be split. -/
def splB (a b c d : Int) : Bool := okX a b c d && hvB (c - a) && hvB (d - b)

theorem shB_eq (a b c d : Int) : shB a b c d = decide (a ≤ b ∧ a ≤ d ∧ c ≤ b ∧ c ≤ d) := by
  have := mxI_le a c; have := mnI_le b d
  unfold shB
  rw [decide_eq_decide]
  constructor
  · omega
  · rcases mxI_or a c with h | h <;> rcases mnI_or b d with k | k <;> omega

theorem mul_bd {X Y : Int} (h0 : -1073741824 ≤ X) (h1 : X ≤ 1073741824) (k0 : -1073741824 ≤ Y) (k1 : Y ≤ 1073741824) : -1152921504606846976 ≤ X * Y ∧ X * Y ≤ 1152921504606846976 := by
  have a1 := Int.mul_nonneg (show 0 ≤ 1073741824 - X by omega) (show 0 ≤ 1073741824 - Y by omega)
  have a2 := Int.mul_nonneg (show 0 ≤ 1073741824 - X by omega) (show 0 ≤ 1073741824 + Y by omega)
  have a3 := Int.mul_nonneg (show 0 ≤ 1073741824 + X by omega) (show 0 ≤ 1073741824 - Y by omega)
  have a4 := Int.mul_nonneg (show 0 ≤ 1073741824 + X by omega) (show 0 ≤ 1073741824 + Y by omega)
  simp only [Int.sub_mul, Int.mul_sub, Int.add_mul, Int.mul_add] at a1 a2 a3 a4
  generalize X * Y = Z at *
  omega
theorem sq_nonneg (X : Int) : 0 ≤ X * X := by
  rcases Int.le_total 0 X with h | h
  · exact Int.mul_nonneg h h
  · exact Int.mul_nonneg_of_nonpos_of_nonpos h h
/-- A product of bounded factors does not wrap. -/
theorem mul_wrap {X Y : Int} (h0 : -1073741824 ≤ X) (h1 : X ≤ 1073741824) (k0 : -1073741824 ≤ Y) (k1 : Y ≤ 1073741824) : IntKind.i64.wrap (X * Y) = X * Y := by
  have := mul_bd h0 h1 k0 k1
  exact IntWalk.i64_in _ (by omega)
/-- The point of a range that is nearest, and the one that is farthest, lie in it. -/
theorem nearI_in (v : Int) {a b : Int} (h : a ≤ b) : a ≤ nearI v a b ∧ nearI v a b ≤ b := by
  unfold nearI
  have := mxI_le v a; have := mnI_le (mxI v a) b
  rcases mnI_or (mxI v a) b with k | k <;> omega
theorem farI_in (v : Int) {a b : Int} (h : a ≤ b) : a ≤ farI v a b ∧ farI v a b ≤ b := by
  unfold farI; split <;> omega
end Go.Proofs.Ytoofbbmddddlcaa
