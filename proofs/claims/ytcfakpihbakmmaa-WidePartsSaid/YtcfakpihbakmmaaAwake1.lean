/- The law package's own examples of layer 1 hold. -/
import Derived.Test.YtcfakpihbakmmaaWide
namespace Go.Proofs.Ytcfakpihbakmmaa
open Go.RowKit

theorem aw1 : addOk 18446744073709551615 1 0 18446744073709551615 = false := by unfold addOk Wv; exact decide_eq_false (by omega)
theorem aw2 : absI (-9223372036854775808) = 9223372036854775808 := by unfold absI; rw [if_pos (by omega)]; omega
theorem aw3 : mulHi 9223372036854775808 2 = 1 := by unfold mulHi; omega
theorem aw4 : mulLo 9223372036854775808 2 = 0 := by unfold mulLo; omega
theorem aw5 : absI (-3) = 3 := by unfold absI; rw [if_pos (by omega)]; omega
theorem aw6 : mulHi 3 3 = 0 := by unfold mulHi; omega
theorem aw7 : mulLo 3 3 = 9 := by unfold mulLo; omega
theorem aw8 : cmpWide 1 0 0 5 = 1 := by unfold cmpWide cmpW Wv; rw [if_neg (by omega), if_pos (by omega)]

set_option maxHeartbeats 400000 in
theorem awake_any (w : World) :
    Calls Try.prog 10 #[] w fun e w' => e = .returned (.bool true) ∧ Below w.heap.size w w' := by
  go_enter Try.func10, Try.ntmps10
  go_wp2_with fail
  refine (add_any _ _ _ _ (by omega) (by omega) (by omega) (by omega) (by omega) (by omega) (by omega) (by omega) _).mono ?_; rintro e w1 ⟨rfl, hb1⟩
  rw [aw1]
  go_wp2_with fail
  refine (abs_any _ (by omega) (by omega) _).mono ?_; rintro e w' ⟨rfl, rfl⟩
  rw [aw2]
  go_wp2_with fail
  refine (mul_any _ _ (by omega) (by omega) (by omega) (by omega) _).mono ?_; rintro e w2 ⟨rfl, hb2⟩
  rw [aw3, aw4]
  go_wp2_with fail
  refine (sq_any _ (by omega) (by omega) _).mono ?_; rintro e w3 ⟨rfl, hb3⟩
  rw [aw5, aw6, aw7]
  go_wp2_with fail
  refine (cmp_any _ _ _ _ (by omega) (by omega) (by omega) (by omega) _).mono ?_; rintro e w4 ⟨rfl, hb4⟩
  rw [aw8]
  go_wp2
  go_ret
  exact ⟨rfl, bel_trans (bel_trans (bel_trans (bel_alloc hb1 _) hb2) hb3) hb4⟩
end Go.Proofs.Ytcfakpihbakmmaa
