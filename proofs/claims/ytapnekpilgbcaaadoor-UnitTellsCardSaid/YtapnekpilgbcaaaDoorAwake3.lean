/- The law package's own examples of layer 3 hold. -/
import Derived.Test.YtapnekpilgbcaaaDoorUnitCA
import Derived.Test.YtapnekpilgbcaaaDoorUnitGB
namespace Go.Proofs.YtapnekpilgbcaaaDoor
open Go.RowKit

theorem bx1 : grainO 1000000 2 = some 254000000 := by decide +kernel
theorem bx2 : grainO 60000000 1 = none := by decide +kernel
theorem bx3 : coordO [45, 49, 53] 1 2 4 false = some (-15000) := by decide +kernel
theorem bx4 : digitsO (-15000) 1 2 4 false = some [45, 49, 53] := by decide +kernel
theorem bx5 : fmtB 0 0 0 = false := by decide +kernel
theorem coord_is {l : List UInt8} {u a d : Int} {t : Bool} {o : Option Int} (h : coordO l u a d t = o) (hl : l.length ≤ 1000) (w : World) :
    Calls Tryd.prog 10 #[.string ⟨l.toArray⟩, fmtV u a d t] w fun e w' => e = .returned (.tuple #[.int .i64 (o.getD 0), .bool o.isSome]) ∧ Below w.heap.size w w' := h ▸ coord_any l u a d t hl w
theorem digits_is {g u a d : Int} {t : Bool} {o : Option (List UInt8)} (h : digitsO g u a d t = o) (w : World) :
    Calls Tryd.prog 8 #[.int .i64 g, fmtV u a d t] w fun e w' => e = .returned (strOk o) ∧ Below w.heap.size w w' := h ▸ unitDigits_any g u a d t w

set_option maxHeartbeats 1000000 in
theorem awake_any (w : World) :
    Calls Tryd.prog 9 #[] w fun e w' => e = .returned (.bool true) ∧ Below w.heap.size w w' := by
  have H1 := Lib.hid (fun w => grain_is bx1 w)
  have H2 := Lib.hid (fun w => grain_is bx2 w)
  have H3 := Lib.hid (fun w => coord_is bx3 (by decide) w)
  have H4 := Lib.hid (fun w => digits_is bx4 w)
  have H5 := Lib.hid (fun w => unitOk_is false bx5 w)
  go_enter Tryd.func9, Tryd.ntmps9
  go_wp2_with fail
  refine (H1.out _).mono ?_; rintro e w' ⟨rfl, rfl⟩
  go_wp2_with fail
  refine (H2.out _).mono ?_; rintro e w' ⟨rfl, rfl⟩
  go_wp2_with fail
  refine (H3.out _).mono ?_; rintro e w1 ⟨rfl, b1⟩
  have f1 := (fmtAt_new w 1 2 4 false 23).later b1
  have bA := bel_trans (bel_alloc (bel_refl w) (.cells #[.int .i64 1, .int .i64 2, .int .i64 4, .bool false] 23)) b1
  clear b1
  obtain ⟨x0, x1, x2, x3, xl⟩ := f1
  go_wp2_with fail
  refine (H4.out _).mono ?_; rintro e w2 ⟨rfl, b2⟩
  go_wp2_with fail
  refine (H5.out _).mono ?_; rintro e w3 ⟨rfl, b3⟩
  go_wp2
  go_ret
  exact ⟨rfl, bel_trans (bel_trans bA b2) b3⟩
end Go.Proofs.YtapnekpilgbcaaaDoor
