/- The law package's own examples of layer 2 hold. -/
import Derived.Test.YtpojkpiadbpooaaDeci
import Derived.Test.YtpojkpiadbpooaaDeciTextW
namespace Go.Proofs.Ytpojkpiadbpooaa
open Go.RowKit

theorem ax1 : parseO [45, 46, 53] = some (-500000) := by decide +kernel
theorem ax2 : parseO [] = none := by decide +kernel
theorem ax3 : parseO [49, 50, 51, 52, 53, 54, 55] = none := by decide +kernel
theorem ndig1 : ndig 1 = 1 := by rw [ndig_pos (by omega), ndig_zero]
theorem ax4 : textL 1250000 = [49, 46, 50, 53] := by
  unfold textL sizeT numL
  rw [show (1250000 : Int).natAbs / 1000000 = 1 from by decide, ndig1]
  decide +kernel
theorem ax5 : textL (-1) = [45, 48, 46, 48, 48, 48, 48, 48, 49] := by
  unfold textL sizeT numL
  rw [show (-1 : Int).natAbs / 1000000 = 0 from by decide, ndig_zero]
  decide +kernel
theorem ax6 : okB 999999999999 = true := by decide +kernel
theorem ax7 : okB 1000000000000 = false := by decide +kernel

theorem parse_at (l : List UInt8) (o : Option Int) (h : parseO l = o) (hl : l.length ≤ 1000) (w : World) :
    Calls Try.prog 7 #[.string ⟨l.toArray⟩] w fun e w' => e = .returned (.tuple #[.int .i64 (o.getD 0), .bool o.isSome]) ∧ Below w.heap.size w w' := by
  subst h; exact parse_any l hl w
theorem text_at (n : Int) (l : List UInt8) (h : textL n = l) (w : World) :
    Calls Try.prog 12 #[.int .i64 n] w fun e w' => e = .returned (.string ⟨l.toArray⟩) ∧ Below w.heap.size w w' := by
  subst h; exact text_any n w

set_option maxHeartbeats 1000000 in
theorem awake_any (w : World) :
    Calls Try.prog 9 #[] w fun e w' => e = .returned (.bool true) ∧ Below w.heap.size w w' := by
  have H1 := Lib.hid (fun w => parse_at _ _ ax1 (by decide) w)
  have H2 := Lib.hid (fun w => parse_at _ _ ax2 (by decide) w)
  have H3 := Lib.hid (fun w => parse_at _ _ ax3 (by decide) w)
  have H4 := Lib.hid (fun w => text_at _ _ ax4 w)
  have H5 := Lib.hid (fun w => text_at _ _ ax5 w)
  have A6 := Lib.hid ax6
  have A7 := Lib.hid ax7
  go_enter Try.func9, Try.ntmps9
  go_wp2_with fail
  refine (H1.out _).mono ?_; rintro e w1 ⟨rfl, b1⟩
  go_wp2_with fail
  refine (H2.out _).mono ?_; rintro e w2 ⟨rfl, b2⟩
  go_wp2_with fail
  refine (H3.out _).mono ?_; rintro e w3 ⟨rfl, b3⟩
  go_wp2_with fail
  refine (H4.out _).mono ?_; rintro e w4 ⟨rfl, b4⟩
  go_wp2_with fail
  refine (H5.out _).mono ?_; rintro e w5 ⟨rfl, b5⟩
  go_wp2_with fail
  refine (ok_any _ _).mono ?_; rintro e w' ⟨rfl, rfl⟩
  rw [A6.out]
  go_wp2_with fail
  refine (ok_any _ _).mono ?_; rintro e w' ⟨rfl, rfl⟩
  rw [A7.out]
  go_wp2
  go_ret
  exact ⟨rfl, bel_trans (bel_trans (bel_trans (bel_trans b1 b2) b3) b4) b5⟩
end Go.Proofs.Ytpojkpiadbpooaa
