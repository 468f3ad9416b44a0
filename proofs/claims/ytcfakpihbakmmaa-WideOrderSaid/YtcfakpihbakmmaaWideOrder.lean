/- Greater factors give products that are not smaller, strictly greater ones unless the other factor is 0; squares are ordered as absolute values are. No condition. -/
import Derived.Test.YtcfakpihbakmmaaRows
import Derived.Test.YtcfakpihbakmmaaAwake1
import Derived.ProofKit
import Derived.OpenShut
import Derived.ShutString
import Derived.ChangeOld
import Derived.Below
import Derived.Lib.SmallJoins
import Derived.BigQuiet
import Derived.Lib.QuietBelow
namespace Go.Proofs.Ytcfakpihbakmmaa.wideOrder
open Go.ChangeShapes Go.WideShapes Go.ChangeAt Go.RowKit Go.Joins
open Go.Sort (grow)

set_option maxHeartbeats 2000000 in
theorem walkLt (a b c v u : Int) (h0 : 0 ≤ a) (h1 : a ≤ 18446744073709551615) (h2 : 0 ≤ b) (h3 : b ≤ 18446744073709551615) (h4 : 0 ≤ c) (h5 : c ≤ 18446744073709551615)
    (h6 : -9223372036854775808 ≤ v) (h7 : v ≤ 9223372036854775807) (h8 : -9223372036854775808 ≤ u) (h9 : u ≤ 9223372036854775807) (g : absI v < absI u)
    (HS : Hid (cmpWide (mulHi (absI v) (absI v)) (mulLo (absI v) (absI v)) (mulHi (absI u) (absI u)) (mulLo (absI u) (absI u)) = -1)) (w : World) :
    Calls Try.prog 6 #[.int .u64 a, .int .u64 b, .int .u64 c, .int .i64 v, .int .i64 u] w fun e w' => e = .returned (.bool true) ∧ Below w.heap.size w w' := by
  obtain ⟨av0, av1⟩ := absI_bd v h6 h7
  obtain ⟨au0, au1⟩ := absI_bd u h8 h9
  have B := bel_refl w
  rcases Int.lt_trichotomy a b with q | q | q
  · by_cases z : c = 0
    · have HK := Lib.hid (cmpMul_zero a b c z)
      have zb : (c == 0) = true := beq_iff_eq.2 z
      clear z
      go_enter Try.func6, Try.ntmps6
      go_wp2_with (first
      | (go_at_call 12; refine (abs_any _ (by omega) (by omega) _).mono ?_; rintro e w' ⟨rfl, rfl⟩)
      | (go_at_call 8; refine (mul_any _ _ (by omega) (by omega) (by omega) (by omega) _).mono ?_; rintro e w' ⟨rfl, hb⟩; replace B := bel_trans B hb; clear hb)
      | (go_at_call 15; refine (sq_any _ (by omega) (by omega) _).mono ?_; rintro e w' ⟨rfl, hb⟩; replace B := bel_trans B hb; clear hb)
      | (go_at_call 17; refine (cmp_any _ _ _ _ (mulLo_bd _ _).1 (mulLo_bd _ _).2 (mulLo_bd _ _).1 (mulLo_bd _ _).2 _).mono ?_; rintro e w' ⟨rfl, hb⟩; replace B := bel_trans B hb; clear hb; first | rw [HK.out] | rw [HS.out])
      | (go_at_call 10; refine (awake_any _).mono ?_; rintro e w' ⟨rfl, hb⟩; replace B := bel_trans B hb; clear hb))
      go_ret
      exact ⟨rfl, B⟩
    · have HK := Lib.hid (cmpMul_lt q (c := c) (by omega))
      have zb : (c == 0) = false := beq_eq_false_iff_ne.2 z
      have qb : (a == b) = false := beq_eq_false_iff_ne.2 (by omega)
      clear z
      go_enter Try.func6, Try.ntmps6
      go_wp2_with (first
      | (go_at_call 12; refine (abs_any _ (by omega) (by omega) _).mono ?_; rintro e w' ⟨rfl, rfl⟩)
      | (go_at_call 8; refine (mul_any _ _ (by omega) (by omega) (by omega) (by omega) _).mono ?_; rintro e w' ⟨rfl, hb⟩; replace B := bel_trans B hb; clear hb)
      | (go_at_call 15; refine (sq_any _ (by omega) (by omega) _).mono ?_; rintro e w' ⟨rfl, hb⟩; replace B := bel_trans B hb; clear hb)
      | (go_at_call 17; refine (cmp_any _ _ _ _ (mulLo_bd _ _).1 (mulLo_bd _ _).2 (mulLo_bd _ _).1 (mulLo_bd _ _).2 _).mono ?_; rintro e w' ⟨rfl, hb⟩; replace B := bel_trans B hb; clear hb; first | rw [HK.out] | rw [HS.out])
      | (go_at_call 10; refine (awake_any _).mono ?_; rintro e w' ⟨rfl, hb⟩; replace B := bel_trans B hb; clear hb))
      go_ret
      exact ⟨rfl, B⟩
  · subst q
    have HK := Lib.hid (cmpMul_same a c)
    by_cases z : c = 0
    · have zb : (c == 0) = true := beq_iff_eq.2 z
      clear z
      go_enter Try.func6, Try.ntmps6
      go_wp2_with (first
      | (go_at_call 12; refine (abs_any _ (by omega) (by omega) _).mono ?_; rintro e w' ⟨rfl, rfl⟩)
      | (go_at_call 8; refine (mul_any _ _ (by omega) (by omega) (by omega) (by omega) _).mono ?_; rintro e w' ⟨rfl, hb⟩; replace B := bel_trans B hb; clear hb)
      | (go_at_call 15; refine (sq_any _ (by omega) (by omega) _).mono ?_; rintro e w' ⟨rfl, hb⟩; replace B := bel_trans B hb; clear hb)
      | (go_at_call 17; refine (cmp_any _ _ _ _ (mulLo_bd _ _).1 (mulLo_bd _ _).2 (mulLo_bd _ _).1 (mulLo_bd _ _).2 _).mono ?_; rintro e w' ⟨rfl, hb⟩; replace B := bel_trans B hb; clear hb; first | rw [HK.out] | rw [HS.out])
      | (go_at_call 10; refine (awake_any _).mono ?_; rintro e w' ⟨rfl, hb⟩; replace B := bel_trans B hb; clear hb))
      go_ret
      exact ⟨rfl, B⟩
    · have zb : (c == 0) = false := beq_eq_false_iff_ne.2 z
      clear z
      go_enter Try.func6, Try.ntmps6
      go_wp2_with (first
      | (go_at_call 12; refine (abs_any _ (by omega) (by omega) _).mono ?_; rintro e w' ⟨rfl, rfl⟩)
      | (go_at_call 8; refine (mul_any _ _ (by omega) (by omega) (by omega) (by omega) _).mono ?_; rintro e w' ⟨rfl, hb⟩; replace B := bel_trans B hb; clear hb)
      | (go_at_call 15; refine (sq_any _ (by omega) (by omega) _).mono ?_; rintro e w' ⟨rfl, hb⟩; replace B := bel_trans B hb; clear hb)
      | (go_at_call 17; refine (cmp_any _ _ _ _ (mulLo_bd _ _).1 (mulLo_bd _ _).2 (mulLo_bd _ _).1 (mulLo_bd _ _).2 _).mono ?_; rintro e w' ⟨rfl, hb⟩; replace B := bel_trans B hb; clear hb; first | rw [HK.out] | rw [HS.out])
      | (go_at_call 10; refine (awake_any _).mono ?_; rintro e w' ⟨rfl, hb⟩; replace B := bel_trans B hb; clear hb))
      go_ret
      exact ⟨rfl, B⟩
  · by_cases z : c = 0
    · have HK := Lib.hid (cmpMul_zero b a c z)
      have zb : (c == 0) = true := beq_iff_eq.2 z
      clear z
      go_enter Try.func6, Try.ntmps6
      go_wp2_with (first
      | (go_at_call 12; refine (abs_any _ (by omega) (by omega) _).mono ?_; rintro e w' ⟨rfl, rfl⟩)
      | (go_at_call 8; refine (mul_any _ _ (by omega) (by omega) (by omega) (by omega) _).mono ?_; rintro e w' ⟨rfl, hb⟩; replace B := bel_trans B hb; clear hb)
      | (go_at_call 15; refine (sq_any _ (by omega) (by omega) _).mono ?_; rintro e w' ⟨rfl, hb⟩; replace B := bel_trans B hb; clear hb)
      | (go_at_call 17; refine (cmp_any _ _ _ _ (mulLo_bd _ _).1 (mulLo_bd _ _).2 (mulLo_bd _ _).1 (mulLo_bd _ _).2 _).mono ?_; rintro e w' ⟨rfl, hb⟩; replace B := bel_trans B hb; clear hb; first | rw [HK.out] | rw [HS.out])
      | (go_at_call 10; refine (awake_any _).mono ?_; rintro e w' ⟨rfl, hb⟩; replace B := bel_trans B hb; clear hb))
      go_ret
      exact ⟨rfl, B⟩
    · have HK := Lib.hid (cmpMul_lt q (c := c) (by omega))
      have zb : (c == 0) = false := beq_eq_false_iff_ne.2 z
      have qb : (b == a) = false := beq_eq_false_iff_ne.2 (by omega)
      clear z
      go_enter Try.func6, Try.ntmps6
      go_wp2_with (first
      | (go_at_call 12; refine (abs_any _ (by omega) (by omega) _).mono ?_; rintro e w' ⟨rfl, rfl⟩)
      | (go_at_call 8; refine (mul_any _ _ (by omega) (by omega) (by omega) (by omega) _).mono ?_; rintro e w' ⟨rfl, hb⟩; replace B := bel_trans B hb; clear hb)
      | (go_at_call 15; refine (sq_any _ (by omega) (by omega) _).mono ?_; rintro e w' ⟨rfl, hb⟩; replace B := bel_trans B hb; clear hb)
      | (go_at_call 17; refine (cmp_any _ _ _ _ (mulLo_bd _ _).1 (mulLo_bd _ _).2 (mulLo_bd _ _).1 (mulLo_bd _ _).2 _).mono ?_; rintro e w' ⟨rfl, hb⟩; replace B := bel_trans B hb; clear hb; first | rw [HK.out] | rw [HS.out])
      | (go_at_call 10; refine (awake_any _).mono ?_; rintro e w' ⟨rfl, hb⟩; replace B := bel_trans B hb; clear hb))
      go_ret
      exact ⟨rfl, B⟩

set_option maxHeartbeats 2000000 in
theorem walkEq (a b c v u : Int) (h0 : 0 ≤ a) (h1 : a ≤ 18446744073709551615) (h2 : 0 ≤ b) (h3 : b ≤ 18446744073709551615) (h4 : 0 ≤ c) (h5 : c ≤ 18446744073709551615)
    (h6 : -9223372036854775808 ≤ v) (h7 : v ≤ 9223372036854775807) (h8 : -9223372036854775808 ≤ u) (h9 : u ≤ 9223372036854775807) (g : absI v ≤ absI u) (g' : absI u ≤ absI v)
    (HS : Hid (cmpWide (mulHi (absI v) (absI v)) (mulLo (absI v) (absI v)) (mulHi (absI u) (absI u)) (mulLo (absI u) (absI u)) = 0)) (w : World) :
    Calls Try.prog 6 #[.int .u64 a, .int .u64 b, .int .u64 c, .int .i64 v, .int .i64 u] w fun e w' => e = .returned (.bool true) ∧ Below w.heap.size w w' := by
  obtain ⟨av0, av1⟩ := absI_bd v h6 h7
  obtain ⟨au0, au1⟩ := absI_bd u h8 h9
  have B := bel_refl w
  rcases Int.lt_trichotomy a b with q | q | q
  · by_cases z : c = 0
    · have HK := Lib.hid (cmpMul_zero a b c z)
      have zb : (c == 0) = true := beq_iff_eq.2 z
      clear z
      go_enter Try.func6, Try.ntmps6
      go_wp2_with (first
      | (go_at_call 12; refine (abs_any _ (by omega) (by omega) _).mono ?_; rintro e w' ⟨rfl, rfl⟩)
      | (go_at_call 8; refine (mul_any _ _ (by omega) (by omega) (by omega) (by omega) _).mono ?_; rintro e w' ⟨rfl, hb⟩; replace B := bel_trans B hb; clear hb)
      | (go_at_call 15; refine (sq_any _ (by omega) (by omega) _).mono ?_; rintro e w' ⟨rfl, hb⟩; replace B := bel_trans B hb; clear hb)
      | (go_at_call 17; refine (cmp_any _ _ _ _ (mulLo_bd _ _).1 (mulLo_bd _ _).2 (mulLo_bd _ _).1 (mulLo_bd _ _).2 _).mono ?_; rintro e w' ⟨rfl, hb⟩; replace B := bel_trans B hb; clear hb; first | rw [HK.out] | rw [HS.out])
      | (go_at_call 10; refine (awake_any _).mono ?_; rintro e w' ⟨rfl, hb⟩; replace B := bel_trans B hb; clear hb))
      go_ret
      exact ⟨rfl, B⟩
    · have HK := Lib.hid (cmpMul_lt q (c := c) (by omega))
      have zb : (c == 0) = false := beq_eq_false_iff_ne.2 z
      have qb : (a == b) = false := beq_eq_false_iff_ne.2 (by omega)
      clear z
      go_enter Try.func6, Try.ntmps6
      go_wp2_with (first
      | (go_at_call 12; refine (abs_any _ (by omega) (by omega) _).mono ?_; rintro e w' ⟨rfl, rfl⟩)
      | (go_at_call 8; refine (mul_any _ _ (by omega) (by omega) (by omega) (by omega) _).mono ?_; rintro e w' ⟨rfl, hb⟩; replace B := bel_trans B hb; clear hb)
      | (go_at_call 15; refine (sq_any _ (by omega) (by omega) _).mono ?_; rintro e w' ⟨rfl, hb⟩; replace B := bel_trans B hb; clear hb)
      | (go_at_call 17; refine (cmp_any _ _ _ _ (mulLo_bd _ _).1 (mulLo_bd _ _).2 (mulLo_bd _ _).1 (mulLo_bd _ _).2 _).mono ?_; rintro e w' ⟨rfl, hb⟩; replace B := bel_trans B hb; clear hb; first | rw [HK.out] | rw [HS.out])
      | (go_at_call 10; refine (awake_any _).mono ?_; rintro e w' ⟨rfl, hb⟩; replace B := bel_trans B hb; clear hb))
      go_ret
      exact ⟨rfl, B⟩
  · subst q
    have HK := Lib.hid (cmpMul_same a c)
    by_cases z : c = 0
    · have zb : (c == 0) = true := beq_iff_eq.2 z
      clear z
      go_enter Try.func6, Try.ntmps6
      go_wp2_with (first
      | (go_at_call 12; refine (abs_any _ (by omega) (by omega) _).mono ?_; rintro e w' ⟨rfl, rfl⟩)
      | (go_at_call 8; refine (mul_any _ _ (by omega) (by omega) (by omega) (by omega) _).mono ?_; rintro e w' ⟨rfl, hb⟩; replace B := bel_trans B hb; clear hb)
      | (go_at_call 15; refine (sq_any _ (by omega) (by omega) _).mono ?_; rintro e w' ⟨rfl, hb⟩; replace B := bel_trans B hb; clear hb)
      | (go_at_call 17; refine (cmp_any _ _ _ _ (mulLo_bd _ _).1 (mulLo_bd _ _).2 (mulLo_bd _ _).1 (mulLo_bd _ _).2 _).mono ?_; rintro e w' ⟨rfl, hb⟩; replace B := bel_trans B hb; clear hb; first | rw [HK.out] | rw [HS.out])
      | (go_at_call 10; refine (awake_any _).mono ?_; rintro e w' ⟨rfl, hb⟩; replace B := bel_trans B hb; clear hb))
      go_ret
      exact ⟨rfl, B⟩
    · have zb : (c == 0) = false := beq_eq_false_iff_ne.2 z
      clear z
      go_enter Try.func6, Try.ntmps6
      go_wp2_with (first
      | (go_at_call 12; refine (abs_any _ (by omega) (by omega) _).mono ?_; rintro e w' ⟨rfl, rfl⟩)
      | (go_at_call 8; refine (mul_any _ _ (by omega) (by omega) (by omega) (by omega) _).mono ?_; rintro e w' ⟨rfl, hb⟩; replace B := bel_trans B hb; clear hb)
      | (go_at_call 15; refine (sq_any _ (by omega) (by omega) _).mono ?_; rintro e w' ⟨rfl, hb⟩; replace B := bel_trans B hb; clear hb)
      | (go_at_call 17; refine (cmp_any _ _ _ _ (mulLo_bd _ _).1 (mulLo_bd _ _).2 (mulLo_bd _ _).1 (mulLo_bd _ _).2 _).mono ?_; rintro e w' ⟨rfl, hb⟩; replace B := bel_trans B hb; clear hb; first | rw [HK.out] | rw [HS.out])
      | (go_at_call 10; refine (awake_any _).mono ?_; rintro e w' ⟨rfl, hb⟩; replace B := bel_trans B hb; clear hb))
      go_ret
      exact ⟨rfl, B⟩
  · by_cases z : c = 0
    · have HK := Lib.hid (cmpMul_zero b a c z)
      have zb : (c == 0) = true := beq_iff_eq.2 z
      clear z
      go_enter Try.func6, Try.ntmps6
      go_wp2_with (first
      | (go_at_call 12; refine (abs_any _ (by omega) (by omega) _).mono ?_; rintro e w' ⟨rfl, rfl⟩)
      | (go_at_call 8; refine (mul_any _ _ (by omega) (by omega) (by omega) (by omega) _).mono ?_; rintro e w' ⟨rfl, hb⟩; replace B := bel_trans B hb; clear hb)
      | (go_at_call 15; refine (sq_any _ (by omega) (by omega) _).mono ?_; rintro e w' ⟨rfl, hb⟩; replace B := bel_trans B hb; clear hb)
      | (go_at_call 17; refine (cmp_any _ _ _ _ (mulLo_bd _ _).1 (mulLo_bd _ _).2 (mulLo_bd _ _).1 (mulLo_bd _ _).2 _).mono ?_; rintro e w' ⟨rfl, hb⟩; replace B := bel_trans B hb; clear hb; first | rw [HK.out] | rw [HS.out])
      | (go_at_call 10; refine (awake_any _).mono ?_; rintro e w' ⟨rfl, hb⟩; replace B := bel_trans B hb; clear hb))
      go_ret
      exact ⟨rfl, B⟩
    · have HK := Lib.hid (cmpMul_lt q (c := c) (by omega))
      have zb : (c == 0) = false := beq_eq_false_iff_ne.2 z
      have qb : (b == a) = false := beq_eq_false_iff_ne.2 (by omega)
      clear z
      go_enter Try.func6, Try.ntmps6
      go_wp2_with (first
      | (go_at_call 12; refine (abs_any _ (by omega) (by omega) _).mono ?_; rintro e w' ⟨rfl, rfl⟩)
      | (go_at_call 8; refine (mul_any _ _ (by omega) (by omega) (by omega) (by omega) _).mono ?_; rintro e w' ⟨rfl, hb⟩; replace B := bel_trans B hb; clear hb)
      | (go_at_call 15; refine (sq_any _ (by omega) (by omega) _).mono ?_; rintro e w' ⟨rfl, hb⟩; replace B := bel_trans B hb; clear hb)
      | (go_at_call 17; refine (cmp_any _ _ _ _ (mulLo_bd _ _).1 (mulLo_bd _ _).2 (mulLo_bd _ _).1 (mulLo_bd _ _).2 _).mono ?_; rintro e w' ⟨rfl, hb⟩; replace B := bel_trans B hb; clear hb; first | rw [HK.out] | rw [HS.out])
      | (go_at_call 10; refine (awake_any _).mono ?_; rintro e w' ⟨rfl, hb⟩; replace B := bel_trans B hb; clear hb))
      go_ret
      exact ⟨rfl, B⟩

set_option maxHeartbeats 2000000 in
theorem walkGt (a b c v u : Int) (h0 : 0 ≤ a) (h1 : a ≤ 18446744073709551615) (h2 : 0 ≤ b) (h3 : b ≤ 18446744073709551615) (h4 : 0 ≤ c) (h5 : c ≤ 18446744073709551615)
    (h6 : -9223372036854775808 ≤ v) (h7 : v ≤ 9223372036854775807) (h8 : -9223372036854775808 ≤ u) (h9 : u ≤ 9223372036854775807) (g : absI u < absI v)
    (HS : Hid (cmpWide (mulHi (absI v) (absI v)) (mulLo (absI v) (absI v)) (mulHi (absI u) (absI u)) (mulLo (absI u) (absI u)) = 1)) (w : World) :
    Calls Try.prog 6 #[.int .u64 a, .int .u64 b, .int .u64 c, .int .i64 v, .int .i64 u] w fun e w' => e = .returned (.bool true) ∧ Below w.heap.size w w' := by
  obtain ⟨av0, av1⟩ := absI_bd v h6 h7
  obtain ⟨au0, au1⟩ := absI_bd u h8 h9
  have B := bel_refl w
  rcases Int.lt_trichotomy a b with q | q | q
  · by_cases z : c = 0
    · have HK := Lib.hid (cmpMul_zero a b c z)
      have zb : (c == 0) = true := beq_iff_eq.2 z
      clear z
      go_enter Try.func6, Try.ntmps6
      go_wp2_with (first
      | (go_at_call 12; refine (abs_any _ (by omega) (by omega) _).mono ?_; rintro e w' ⟨rfl, rfl⟩)
      | (go_at_call 8; refine (mul_any _ _ (by omega) (by omega) (by omega) (by omega) _).mono ?_; rintro e w' ⟨rfl, hb⟩; replace B := bel_trans B hb; clear hb)
      | (go_at_call 15; refine (sq_any _ (by omega) (by omega) _).mono ?_; rintro e w' ⟨rfl, hb⟩; replace B := bel_trans B hb; clear hb)
      | (go_at_call 17; refine (cmp_any _ _ _ _ (mulLo_bd _ _).1 (mulLo_bd _ _).2 (mulLo_bd _ _).1 (mulLo_bd _ _).2 _).mono ?_; rintro e w' ⟨rfl, hb⟩; replace B := bel_trans B hb; clear hb; first | rw [HK.out] | rw [HS.out])
      | (go_at_call 10; refine (awake_any _).mono ?_; rintro e w' ⟨rfl, hb⟩; replace B := bel_trans B hb; clear hb))
      go_ret
      exact ⟨rfl, B⟩
    · have HK := Lib.hid (cmpMul_lt q (c := c) (by omega))
      have zb : (c == 0) = false := beq_eq_false_iff_ne.2 z
      have qb : (a == b) = false := beq_eq_false_iff_ne.2 (by omega)
      clear z
      go_enter Try.func6, Try.ntmps6
      go_wp2_with (first
      | (go_at_call 12; refine (abs_any _ (by omega) (by omega) _).mono ?_; rintro e w' ⟨rfl, rfl⟩)
      | (go_at_call 8; refine (mul_any _ _ (by omega) (by omega) (by omega) (by omega) _).mono ?_; rintro e w' ⟨rfl, hb⟩; replace B := bel_trans B hb; clear hb)
      | (go_at_call 15; refine (sq_any _ (by omega) (by omega) _).mono ?_; rintro e w' ⟨rfl, hb⟩; replace B := bel_trans B hb; clear hb)
      | (go_at_call 17; refine (cmp_any _ _ _ _ (mulLo_bd _ _).1 (mulLo_bd _ _).2 (mulLo_bd _ _).1 (mulLo_bd _ _).2 _).mono ?_; rintro e w' ⟨rfl, hb⟩; replace B := bel_trans B hb; clear hb; first | rw [HK.out] | rw [HS.out])
      | (go_at_call 10; refine (awake_any _).mono ?_; rintro e w' ⟨rfl, hb⟩; replace B := bel_trans B hb; clear hb))
      go_ret
      exact ⟨rfl, B⟩
  · subst q
    have HK := Lib.hid (cmpMul_same a c)
    by_cases z : c = 0
    · have zb : (c == 0) = true := beq_iff_eq.2 z
      clear z
      go_enter Try.func6, Try.ntmps6
      go_wp2_with (first
      | (go_at_call 12; refine (abs_any _ (by omega) (by omega) _).mono ?_; rintro e w' ⟨rfl, rfl⟩)
      | (go_at_call 8; refine (mul_any _ _ (by omega) (by omega) (by omega) (by omega) _).mono ?_; rintro e w' ⟨rfl, hb⟩; replace B := bel_trans B hb; clear hb)
      | (go_at_call 15; refine (sq_any _ (by omega) (by omega) _).mono ?_; rintro e w' ⟨rfl, hb⟩; replace B := bel_trans B hb; clear hb)
      | (go_at_call 17; refine (cmp_any _ _ _ _ (mulLo_bd _ _).1 (mulLo_bd _ _).2 (mulLo_bd _ _).1 (mulLo_bd _ _).2 _).mono ?_; rintro e w' ⟨rfl, hb⟩; replace B := bel_trans B hb; clear hb; first | rw [HK.out] | rw [HS.out])
      | (go_at_call 10; refine (awake_any _).mono ?_; rintro e w' ⟨rfl, hb⟩; replace B := bel_trans B hb; clear hb))
      go_ret
      exact ⟨rfl, B⟩
    · have zb : (c == 0) = false := beq_eq_false_iff_ne.2 z
      clear z
      go_enter Try.func6, Try.ntmps6
      go_wp2_with (first
      | (go_at_call 12; refine (abs_any _ (by omega) (by omega) _).mono ?_; rintro e w' ⟨rfl, rfl⟩)
      | (go_at_call 8; refine (mul_any _ _ (by omega) (by omega) (by omega) (by omega) _).mono ?_; rintro e w' ⟨rfl, hb⟩; replace B := bel_trans B hb; clear hb)
      | (go_at_call 15; refine (sq_any _ (by omega) (by omega) _).mono ?_; rintro e w' ⟨rfl, hb⟩; replace B := bel_trans B hb; clear hb)
      | (go_at_call 17; refine (cmp_any _ _ _ _ (mulLo_bd _ _).1 (mulLo_bd _ _).2 (mulLo_bd _ _).1 (mulLo_bd _ _).2 _).mono ?_; rintro e w' ⟨rfl, hb⟩; replace B := bel_trans B hb; clear hb; first | rw [HK.out] | rw [HS.out])
      | (go_at_call 10; refine (awake_any _).mono ?_; rintro e w' ⟨rfl, hb⟩; replace B := bel_trans B hb; clear hb))
      go_ret
      exact ⟨rfl, B⟩
  · by_cases z : c = 0
    · have HK := Lib.hid (cmpMul_zero b a c z)
      have zb : (c == 0) = true := beq_iff_eq.2 z
      clear z
      go_enter Try.func6, Try.ntmps6
      go_wp2_with (first
      | (go_at_call 12; refine (abs_any _ (by omega) (by omega) _).mono ?_; rintro e w' ⟨rfl, rfl⟩)
      | (go_at_call 8; refine (mul_any _ _ (by omega) (by omega) (by omega) (by omega) _).mono ?_; rintro e w' ⟨rfl, hb⟩; replace B := bel_trans B hb; clear hb)
      | (go_at_call 15; refine (sq_any _ (by omega) (by omega) _).mono ?_; rintro e w' ⟨rfl, hb⟩; replace B := bel_trans B hb; clear hb)
      | (go_at_call 17; refine (cmp_any _ _ _ _ (mulLo_bd _ _).1 (mulLo_bd _ _).2 (mulLo_bd _ _).1 (mulLo_bd _ _).2 _).mono ?_; rintro e w' ⟨rfl, hb⟩; replace B := bel_trans B hb; clear hb; first | rw [HK.out] | rw [HS.out])
      | (go_at_call 10; refine (awake_any _).mono ?_; rintro e w' ⟨rfl, hb⟩; replace B := bel_trans B hb; clear hb))
      go_ret
      exact ⟨rfl, B⟩
    · have HK := Lib.hid (cmpMul_lt q (c := c) (by omega))
      have zb : (c == 0) = false := beq_eq_false_iff_ne.2 z
      have qb : (b == a) = false := beq_eq_false_iff_ne.2 (by omega)
      clear z
      go_enter Try.func6, Try.ntmps6
      go_wp2_with (first
      | (go_at_call 12; refine (abs_any _ (by omega) (by omega) _).mono ?_; rintro e w' ⟨rfl, rfl⟩)
      | (go_at_call 8; refine (mul_any _ _ (by omega) (by omega) (by omega) (by omega) _).mono ?_; rintro e w' ⟨rfl, hb⟩; replace B := bel_trans B hb; clear hb)
      | (go_at_call 15; refine (sq_any _ (by omega) (by omega) _).mono ?_; rintro e w' ⟨rfl, hb⟩; replace B := bel_trans B hb; clear hb)
      | (go_at_call 17; refine (cmp_any _ _ _ _ (mulLo_bd _ _).1 (mulLo_bd _ _).2 (mulLo_bd _ _).1 (mulLo_bd _ _).2 _).mono ?_; rintro e w' ⟨rfl, hb⟩; replace B := bel_trans B hb; clear hb; first | rw [HK.out] | rw [HS.out])
      | (go_at_call 10; refine (awake_any _).mono ?_; rintro e w' ⟨rfl, hb⟩; replace B := bel_trans B hb; clear hb))
      go_ret
      exact ⟨rfl, B⟩

set_option maxHeartbeats 1000000 in
theorem walk (a b c v u : Int) (h0 : 0 ≤ a) (h1 : a ≤ 18446744073709551615) (h2 : 0 ≤ b) (h3 : b ≤ 18446744073709551615) (h4 : 0 ≤ c) (h5 : c ≤ 18446744073709551615)
    (h6 : -9223372036854775808 ≤ v) (h7 : v ≤ 9223372036854775807) (h8 : -9223372036854775808 ≤ u) (h9 : u ≤ 9223372036854775807) (w : World) :
    Calls Try.prog 6 #[.int .u64 a, .int .u64 b, .int .u64 c, .int .i64 v, .int .i64 u] w fun e w' => e = .returned (.bool true) ∧ Below w.heap.size w w' := by
  obtain ⟨av0, av1⟩ := absI_bd v h6 h7
  obtain ⟨au0, au1⟩ := absI_bd u h8 h9
  have B := bel_refl w
  obtain ⟨k, HS, hk⟩ : ∃ k, Hid (cmpWide (mulHi (absI v) (absI v)) (mulLo (absI v) (absI v)) (mulHi (absI u) (absI u)) (mulLo (absI u) (absI u)) = k) ∧ ((k = -1 ∧ absI v < absI u) ∨ (k = 0 ∧ absI v = absI u) ∨ (k = 1 ∧ absI u < absI v)) := by
    rcases Int.lt_trichotomy (absI v) (absI u) with g | g | g
    · exact ⟨-1, Lib.hid (cmpSq_lt g), .inl ⟨rfl, g⟩⟩
    · exact ⟨0, Lib.hid (cmpSq_eq g), .inr (.inl ⟨rfl, g⟩)⟩
    · exact ⟨1, Lib.hid (cmpSq_gt g), .inr (.inr ⟨rfl, g⟩)⟩
  rcases hk with ⟨rfl, g⟩ | ⟨rfl, g⟩ | ⟨rfl, g⟩
  · exact walkLt a b c v u h0 h1 h2 h3 h4 h5 h6 h7 h8 h9 g HS w
  · exact walkEq a b c v u h0 h1 h2 h3 h4 h5 h6 h7 h8 h9 (by omega) (by omega) HS w
  · exact walkGt a b c v u h0 h1 h2 h3 h4 h5 h6 h7 h8 h9 g HS w
theorem own : ownKnob Try.prog.godebug = none := by kernel_rfl
set_option maxRecDepth 100000 in
theorem lifted (os : Os) (started : os.Started) (H : Type) (enc : TypeId × Value → H) :
    ReturnsInHanded {} Try.checked os 6 .any (Rows.wideOrderSpec.pre6 enc Try.prog Try.f6 Rows.wideOrderRow.domain false) (Rows.wideOrderSpec.post enc Try.prog Try.f6 false true false false) := by
  refine returnsInHanded_of_change (C := Try.checked) own started (by kernel_rfl) Try.func6
    (ChangeSpec.witness6 (enc := enc) (C := Try.checked) false ⟨#[], #[.int .u64 0, .int .u64 0, .int .u64 0, .int .i64 0, .int .i64 0], []⟩ 8 (by kernel_rfl) (by kernel_rfl) (by kernel_rfl) (by kernel_rfl)) ?_
  intro W base args ds gs before hval0 hW _ _
  have hval : ∀ (j : Nat) t v, Try.f6.params[j]? = some t → args[j]? = some v → Value.okWide Try.prog W .any base t v := hval0
  have hW' := hW
  obtain ⟨p, q, hA0, hV, rfl, hfz, hnd⟩ := hW
  have hA : DataW.TrodAll enc Try.prog W 0 (fun _ => true) true Try.f6.params.toList args.toList ds p := hA0
  rw [Try.params6] at hA hval
  obtain ⟨v0, vs0, d0, ds0, p0, q0, hargs, rfl, rfl, h0, r0⟩ := trodAll_cons hA
  obtain ⟨v1, vs1, d1, ds1, p1, q1, rfl, rfl, rfl, h1, r1⟩ := trodAll_cons r0
  obtain ⟨v2, vs2, d2, ds2, p2, q2, rfl, rfl, rfl, h2, r2⟩ := trodAll_cons r1
  obtain ⟨v3, vs3, d3, ds3, p3, q3, rfl, rfl, rfl, h3, r3⟩ := trodAll_cons r2
  obtain ⟨v4, vs4, d4, ds4, p4, q4, rfl, rfl, rfl, h4, r4⟩ := trodAll_cons r3
  obtain ⟨rfl, rfl, rfl⟩ := trodAll_nil r4
  obtain rfl : args = #[v0, v1, v2, v3, v4] := by cases args; simp_all
  obtain ⟨rfl, rfl⟩ := trodVars_none hV
  obtain ⟨a0, rfl, rfl, rfl, w0⟩ := open_int Try.underlying22 (hval 0 22 v0 rfl rfl) h0
  obtain ⟨a1, rfl, rfl, rfl, w1⟩ := open_int Try.underlying22 (hval 1 22 v1 rfl rfl) h1
  obtain ⟨a2, rfl, rfl, rfl, w2⟩ := open_int Try.underlying22 (hval 2 22 v2 rfl rfl) h2
  obtain ⟨a3, rfl, rfl, rfl, w3⟩ := open_int Try.underlying2 (hval 3 2 v3 rfl rfl) h3
  obtain ⟨a4, rfl, rfl, rfl, w4⟩ := open_int Try.underlying2 (hval 4 2 v4 rfl rfl) h4
  clear hA0 hval0
  simp only [List.append_nil] at hW'
  refine (walk a0 a1 a2 a3 a4 (bounds_u64 w0).1 (bounds_u64 w0).2 (bounds_u64 w1).1 (bounds_u64 w1).2 (bounds_u64 w2).1 (bounds_u64 w2).2 (bounds_i64 w3).1 (bounds_i64 w3).2 (bounds_i64 w4).1 (bounds_i64 w4).2 W).mono fun e W' ⟨he, bel⟩ => ?_
  subst he
  exact ⟨_, rfl, _, _, _, [], _, [], hW', trodAll_mk1 (shut_bool Try.underlying4 _), (trodAll_cons_mk (shut_int Try.underlying22 w0) (trodAll_cons_mk (shut_int Try.underlying22 w1) (trodAll_cons_mk (shut_int Try.underlying22 w2) (trodAll_cons_mk (shut_int Try.underlying2 w3) (trodAll_cons_mk (shut_int Try.underlying2 w4) trodAll_mk0))))), rfl, bel.frame _, fun h => by cases h⟩
theorem over : Rows.wideOrderRow.holds Try.pinned (OpenSpec.ofChange Rows.wideOrderSpec) :=
  OpenClaim.holds_of_wide 6 Try.f6 rfl rfl rfl rfl rfl rfl rfl ⟨rfl, rfl, rfl, rfl, rfl⟩ rfl rfl rfl rfl rfl (by kernel_rfl) Try.func6 (by kernel_rfl)
    (of_decide_eq_true (by kernel_rfl)) (by unfold Func.isWrapper; first | (rw [if_pos (by decide +kernel)]; kernel_rfl) | (rw [if_neg (by decide +kernel)]; exact ⟨rfl, rfl⟩))
    (fun os started H enc _ => lifted os started H enc)
theorem proved : Rows.WideOrderSaid := over
#print axioms proved
end Go.Proofs.Ytcfakpihbakmmaa.wideOrder
