/- The law package's own examples of layer 5 hold. -/
import Derived.Test.YtmbegglkinlgdaaDisc
import Derived.Test.YtmbegglkinlgdaaHeldBox
namespace Go.Proofs.Ytmbegglkinlgdaa
open Go.RowKit

theorem class_is {a b c d x y r k : Int} (hk : discK r (nearS a b c d x y) (mostS a b c d x y) = k) (a0 : -536870912 ≤ a) (ac : a ≤ c) (c1 : c ≤ 536870912) (b0 : -536870912 ≤ b) (bd : b ≤ d) (d1 : d ≤ 536870912) (x0 : -536870912 ≤ x) (x1 : x ≤ 536870912) (y0 : -536870912 ≤ y) (y1 : y ≤ 536870912) (hr : r ≤ 1073741824) (w : World) :
    Calls Try.prog 9 #[boxV a b c d, ptV x y, .int .i64 r] w fun e w' => e = .returned (.int .i64 k) ∧ Below w.heap.size w w' := hk ▸ class_any a b c d x y r a0 ac c1 b0 bd d1 x0 x1 y0 y1 hr w
theorem discHas_is {x y u v r : Int} {h : Bool} (hh : discB r (sqI u v x y) = h) (x0 : -536870912 ≤ x) (x1 : x ≤ 536870912) (y0 : -536870912 ≤ y) (y1 : y ≤ 536870912) (u0 : -536870912 ≤ u) (u1 : u ≤ 536870912) (v0 : -536870912 ≤ v) (v1 : v ≤ 536870912) (hr : r ≤ 1073741824) (w : World) :
    Calls Try.prog 10 #[ptV x y, ptV u v, .int .i64 r] w fun e w' => e = .returned (.bool h) ∧ Below w.heap.size w w' := hh ▸ discHas_any x y u v r x0 x1 y0 y1 u0 u1 v0 v1 hr w
theorem aw51 : discK 5 (nearS 0 0 3 4 0 0) (mostS 0 0 3 4 0 0) = 2 := by decide
theorem aw52 : discK 4 (nearS 0 0 3 4 0 0) (mostS 0 0 3 4 0 0) = 1 := by decide
theorem aw53 : discK 5 (nearS 0 0 3 4 9 0) (mostS 0 0 3 4 9 0) = 0 := by decide
theorem aw54 : discK 0 (nearS 0 0 3 4 0 0) (mostS 0 0 3 4 0 0) = 0 := by decide
theorem aw55 : discB 5 (sqI 0 0 3 4) = true := by decide
theorem aw56 : discB 0 (sqI 0 0 0 0) = false := by decide

set_option maxRecDepth 100000 in
set_option maxHeartbeats 4000000 in
theorem awake_any (w : World) :
    Calls Try.prog 11 #[] w fun e w' => e = .returned (.bool true) ∧ Below w.heap.size w w' := by
  have C1 := Lib.hid (fun w => class_is aw51 (by omega) (by omega) (by omega) (by omega) (by omega) (by omega) (by omega) (by omega) (by omega) (by omega) (by omega) w)
  have C2 := Lib.hid (fun w => class_is aw52 (by omega) (by omega) (by omega) (by omega) (by omega) (by omega) (by omega) (by omega) (by omega) (by omega) (by omega) w)
  have C3 := Lib.hid (fun w => class_is aw53 (by omega) (by omega) (by omega) (by omega) (by omega) (by omega) (by omega) (by omega) (by omega) (by omega) (by omega) w)
  have C4 := Lib.hid (fun w => class_is aw54 (by omega) (by omega) (by omega) (by omega) (by omega) (by omega) (by omega) (by omega) (by omega) (by omega) (by omega) w)
  have C5 := Lib.hid (fun w => discHas_is aw55 (by omega) (by omega) (by omega) (by omega) (by omega) (by omega) (by omega) (by omega) (by omega) w)
  have C6 := Lib.hid (fun w => discHas_is aw56 (by omega) (by omega) (by omega) (by omega) (by omega) (by omega) (by omega) (by omega) (by omega) w)
  have X0 := Lib.hid (boxAt_new w 0 0 3 4 28)
  have B0 := Lib.hid (bel_alloc (bel_refl w) (.cells #[.int .i64 0, .int .i64 0, .int .i64 3, .int .i64 4] 28))
  go_enter Try.func11, Try.ntmps11
  go_wp2_with fail
  refine (C1.out _).mono ?_; rintro e w1 ⟨rfl, z1⟩
  have X1 := Lib.hid (X0.out.later z1)
  have B1 := Lib.hid (bel_trans B0.out z1)
  clear z1 X0 B0
  obtain ⟨c0, c1, c2, c3, cl⟩ := X1.out
  go_wp2_with fail
  refine (C2.out _).mono ?_; rintro e w2 ⟨rfl, z2⟩
  have X2 := Lib.hid (X1.out.later z2)
  have B2 := Lib.hid (bel_trans B1.out z2)
  clear z2 X1 B1 c0 c1 c2 c3 cl
  obtain ⟨c0, c1, c2, c3, cl⟩ := X2.out
  go_wp2_with fail
  refine (C3.out _).mono ?_; rintro e w3 ⟨rfl, z3⟩
  have X3 := Lib.hid (X2.out.later z3)
  have B3 := Lib.hid (bel_trans B2.out z3)
  clear z3 X2 B2 c0 c1 c2 c3 cl
  obtain ⟨c0, c1, c2, c3, cl⟩ := X3.out
  go_wp2_with fail
  refine (C4.out _).mono ?_; rintro e w4 ⟨rfl, z4⟩
  have B4 := Lib.hid (bel_trans B3.out z4)
  clear z4 X3 B3 c0 c1 c2 c3 cl
  go_wp2_with fail
  refine (C5.out _).mono ?_; rintro e w5 ⟨rfl, z5⟩
  go_wp2_with fail
  refine (C6.out _).mono ?_; rintro e w6 ⟨rfl, z6⟩
  go_wp2
  go_ret
  exact ⟨rfl, bel_trans (bel_trans B4.out z5) z6⟩
end Go.Proofs.Ytmbegglkinlgdaa
