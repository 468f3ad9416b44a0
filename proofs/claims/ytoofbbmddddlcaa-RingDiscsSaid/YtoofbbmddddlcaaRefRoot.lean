/- Contract of the document's Root: the least whole number whose square is not below a number up to 2 to the 62. -/
import Derived.Test.YtoofbbmddddlcaaBoxMath
import Derived.Test.YtoofbbmddddlcaaBase
import Derived.Test.YtoofbbmddddlcaaBox
import Derived.Below
namespace Go.Proofs.Ytoofbbmddddlcaa
open Go.RowKit

/-- The least whole number whose square is not below n. -/
def Least (n R : Int) : Prop := 0 ≤ R ∧ n ≤ R * R ∧ ∀ m, 0 ≤ m → m < R → m * m < n
theorem least_half {n R m : Int} (h : Least n R) (h0 : 0 ≤ m) : n ≤ m * m ↔ R ≤ m := by
  constructor
  · intro k
    rcases Int.lt_or_le m R with g | g
    · have := h.2.2 m h0 g; omega
    · exact g
  · intro k
    have := Int.mul_le_mul k k h.1 h0
    have := h.2.1
    omega
def RootAt (R : Int) (w : World) (sl sh : Value) (wr : World) : Prop := ∃ l h : Int, sl = .int .i64 l ∧ sh = .int .i64 h ∧ 0 ≤ l ∧ l ≤ R ∧ R ≤ h ∧ h ≤ 2147483648 ∧ wr = w

set_option maxHeartbeats 4000000 in
theorem refRoot_is {n R : Int} (hR : Least n R) (hb : R ≤ 2147483648) (w : World) :
    Calls Try.prog 27 #[.int .i64 n] w fun e w' => e = .returned (.int .i64 R) ∧ w = w' := by
  have HR := Lib.hid hR
  have R0 := hR.1
  clear hR
  go_enter Try.func27, Try.ntmps27
  go_wp2
  go_loopw [3, 4] (fun sl sh wr => RootAt R w sl sh wr) (fun sl sh _ => (intOf sh - intOf sl).toNat)
  case atStart => exact ⟨0, 2147483648, rfl, rfl, by omega, R0, hb, by omega, rfl⟩
  case round =>
    obtain ⟨l, h, rfl, rfl, l0, l1, h1, h2, rfl⟩ := hrel
    by_cases hlt : l < h
    · obtain ⟨m, hm⟩ : ∃ m, (l + h).tdiv 2 = m := ⟨_, rfl⟩
      have hm' : (l + h) / 2 = m := by rw [← hm, Int.tdiv_eq_ediv_of_nonneg (by omega)]
      have ml : l ≤ m := by omega
      have mh : m < h := by omega
      obtain ⟨q, hq⟩ : ∃ q, m * m = q := ⟨_, rfl⟩
      have q0 : 0 ≤ q := by rw [← hq]; exact Int.mul_nonneg (by omega) (by omega)
      have q1 : q ≤ 4611686018427387904 := by
        rw [← hq]
        have := Int.mul_le_mul (show m ≤ 2147483648 by omega) (show m ≤ 2147483648 by omega) (by omega) (by omega)
        omega
      have v1 : IntKind.i64.wrap (m * m) = q := by rw [hq]; exact IntWalk.i64_in _ (by omega)
      have half := least_half HR.out (show 0 ≤ m by omega)
      rw [hq] at half
      have d1 : decide (l < h) = true := decide_eq_true hlt
      by_cases hn : n ≤ q
      · have k := half.1 hn
        have d2 : decide (n ≤ q) = true := decide_eq_true hn
        go_wp2
        go_roundw
        case rel => exact ⟨l, m, rfl, rfl, l0, l1, k, by omega, rfl⟩
        case measure => simp [intOf]; omega
      · have k : ¬ R ≤ m := fun k => hn (half.2 k)
        have d2 : decide (n ≤ q) = false := decide_eq_false hn
        go_wp2
        go_roundw
        case rel => exact ⟨m + 1, h, rfl, rfl, by omega, by omega, h1, h2, rfl⟩
        case measure => simp [intOf]; omega
    · have d1 : decide (l < h) = false := decide_eq_false hlt
      have e : l = R := by omega
      subst e
      go_wp2
      go_ret
      exact ⟨rfl, rfl⟩
end Go.Proofs.Ytoofbbmddddlcaa
