/- The law package's own examples of layer 9 hold. -/
import Derived.Test.YtoofbbmddddlcaaRingC
import Derived.Test.YtoofbbmddddlcaaHeldBox
namespace Go.Proofs.Ytoofbbmddddlcaa
open Go.RowKit

theorem aw91 : okR 0 0 5 0 0 5 = true := by decide
theorem aw92 : okR 0 0 5 0 6 0 = false := by decide
theorem aw93 : secP 0 0 5 0 0 5 1 1 = true := by decide
theorem aw94 : secP 0 0 5 0 0 5 (-1) 1 = false := by decide
theorem aw95 : ringP 3 4 0 0 5 0 0 5 1 = true := by decide
theorem aw96 : ringP (-4) 3 0 0 5 0 0 5 1 = false := by decide
theorem aw97 : ringP (-3) (-4) 0 0 0 5 5 0 1 = true := by decide
theorem aw98 : ringC 1 1 2 2 0 0 5 0 0 5 1 = 0 := by decide
theorem aw99 : ringC 3 4 3 4 0 0 5 0 0 5 1 = 2 := by decide
theorem aw9x : ringC 0 0 9 9 0 0 5 0 0 5 1 = 1 := by decide
/-- The centre and both ends of the examples' arc. -/
structure Ends9 (n : Nat) (w : World) : Prop where
  c : PtAt w n 0 0
  a : PtAt w (n + 1) 5 0
  e : PtAt w (n + 1 + 1) 0 5
theorem Ends9.later {n : Nat} {w w1 : World} (h : Ends9 n w) (k : Below w.heap.size w w1) : Ends9 n w1 := ⟨h.c.later k, h.a.later k, h.e.later k⟩

set_option maxRecDepth 100000 in
set_option maxHeartbeats 4000000 in
theorem awake_any (w : World) :
    Calls Try.prog 17 #[] w fun e w' => e = .returned (.bool true) ∧ Below w.heap.size w w' := by
  have C1 := Lib.hid (fun w => ringOk_is aw91 (by omega) (by omega) (by omega) (by omega) (by omega) (by omega) (by omega) (by omega) (by omega) (by omega) (by omega) (by omega) w)
  have C2 := Lib.hid (fun w => ringOk_is aw92 (by omega) (by omega) (by omega) (by omega) (by omega) (by omega) (by omega) (by omega) (by omega) (by omega) (by omega) (by omega) w)
  have C3 := Lib.hid (fun w => ringSector_is aw93 (by omega) (by omega) (by omega) (by omega) (by omega) (by omega) (by omega) (by omega) (by omega) (by omega) (by omega) (by omega) (by omega) (by omega) (by omega) (by omega) w)
  have C4 := Lib.hid (fun w => ringSector_is aw94 (by omega) (by omega) (by omega) (by omega) (by omega) (by omega) (by omega) (by omega) (by omega) (by omega) (by omega) (by omega) (by omega) (by omega) (by omega) (by omega) w)
  have C5 := Lib.hid (fun w => ringHas_is aw95 (by omega) (by omega) (by omega) (by omega) (by omega) (by omega) (by omega) (by omega) (by omega) (by omega) (by omega) (by omega) (by omega) (by omega) (by omega) (by omega) (by omega) w)
  have C6 := Lib.hid (fun w => ringHas_is aw96 (by omega) (by omega) (by omega) (by omega) (by omega) (by omega) (by omega) (by omega) (by omega) (by omega) (by omega) (by omega) (by omega) (by omega) (by omega) (by omega) (by omega) w)
  have C7 := Lib.hid (fun w => ringHas_is aw97 (by omega) (by omega) (by omega) (by omega) (by omega) (by omega) (by omega) (by omega) (by omega) (by omega) (by omega) (by omega) (by omega) (by omega) (by omega) (by omega) (by omega) w)
  have C8 := Lib.hid (fun w => ringClass_is aw98 (by omega) (by omega) (by omega) (by omega) (by omega) (by omega) (by omega) (by omega) (by omega) (by omega) (by omega) (by omega) (by omega) (by omega) (by omega) (by omega) (by omega) (by omega) (by omega) w)
  have C9 := Lib.hid (fun w => ringClass_is aw99 (by omega) (by omega) (by omega) (by omega) (by omega) (by omega) (by omega) (by omega) (by omega) (by omega) (by omega) (by omega) (by omega) (by omega) (by omega) (by omega) (by omega) (by omega) (by omega) w)
  have Cx := Lib.hid (fun w => ringClass_is aw9x (by omega) (by omega) (by omega) (by omega) (by omega) (by omega) (by omega) (by omega) (by omega) (by omega) (by omega) (by omega) (by omega) (by omega) (by omega) (by omega) (by omega) (by omega) (by omega) w)
  have X0 := Lib.hid (show Ends9 w.heap.size (((w.alloc (.cells #[.int .i64 0, .int .i64 0] 25)).alloc (.cells #[.int .i64 5, .int .i64 0] 25)).alloc (.cells #[.int .i64 0, .int .i64 5] 25)) from ⟨(p3_new w 0 0 5 0 0 5 25).a, (p3_new w 0 0 5 0 0 5 25).b, (p3_new w 0 0 5 0 0 5 25).c⟩)
  have B0 := Lib.hid (bel_p3 w 0 0 5 0 0 5 25)
  go_enter Try.func17, Try.ntmps17
  go_upto_region 2 with (fail)
  generalize ((w.alloc (.cells #[.int .i64 0, .int .i64 0] 25)).alloc (.cells #[.int .i64 5, .int .i64 0] 25)).alloc (.cells #[.int .i64 0, .int .i64 5] 25) = W at *
  obtain ⟨⟨i0, i1, il⟩, ⟨j0, j1, jl⟩, ⟨l0, l1, ll⟩⟩ := X0.out
  go_wp2_with fail
  refine (C1.out _).mono ?_; rintro e w1 ⟨rfl, z1⟩
  have X1 := Lib.hid (X0.out.later z1)
  have B1 := Lib.hid (bel_trans B0.out z1)
  clear z1 X0 B0 i0 i1 il j0 j1 jl l0 l1 ll
  obtain ⟨⟨i0, i1, il⟩, ⟨j0, j1, jl⟩, ⟨l0, l1, ll⟩⟩ := X1.out
  go_wp2_with fail
  refine (C2.out _).mono ?_; rintro e w2 ⟨rfl, z2⟩
  have X2 := Lib.hid (X1.out.later z2)
  have B2 := Lib.hid (bel_trans B1.out z2)
  clear z2 X1 B1 i0 i1 il j0 j1 jl l0 l1 ll
  obtain ⟨⟨i0, i1, il⟩, ⟨j0, j1, jl⟩, ⟨l0, l1, ll⟩⟩ := X2.out
  go_wp2_with fail
  refine (C3.out _).mono ?_; rintro e w3 ⟨rfl, z3⟩
  have X3 := Lib.hid (X2.out.later z3)
  have B3 := Lib.hid (bel_trans B2.out z3)
  clear z3 X2 B2 i0 i1 il j0 j1 jl l0 l1 ll
  obtain ⟨⟨i0, i1, il⟩, ⟨j0, j1, jl⟩, ⟨l0, l1, ll⟩⟩ := X3.out
  go_wp2_with fail
  refine (C4.out _).mono ?_; rintro e w4 ⟨rfl, z4⟩
  have X4 := Lib.hid (X3.out.later z4)
  have B4 := Lib.hid (bel_trans B3.out z4)
  clear z4 X3 B3 i0 i1 il j0 j1 jl l0 l1 ll
  obtain ⟨⟨i0, i1, il⟩, ⟨j0, j1, jl⟩, ⟨l0, l1, ll⟩⟩ := X4.out
  go_wp2_with fail
  refine (C5.out _).mono ?_; rintro e w5 ⟨rfl, z5⟩
  have X5 := Lib.hid (X4.out.later z5)
  have B5 := Lib.hid (bel_trans B4.out z5)
  clear z5 X4 B4 i0 i1 il j0 j1 jl l0 l1 ll
  obtain ⟨⟨i0, i1, il⟩, ⟨j0, j1, jl⟩, ⟨l0, l1, ll⟩⟩ := X5.out
  go_wp2_with fail
  refine (C6.out _).mono ?_; rintro e w6 ⟨rfl, z6⟩
  have X6 := Lib.hid (X5.out.later z6)
  have B6 := Lib.hid (bel_trans B5.out z6)
  clear z6 X5 B5 i0 i1 il j0 j1 jl l0 l1 ll
  obtain ⟨⟨i0, i1, il⟩, ⟨j0, j1, jl⟩, ⟨l0, l1, ll⟩⟩ := X6.out
  go_wp2_with fail
  refine (C7.out _).mono ?_; rintro e w7 ⟨rfl, z7⟩
  have X7 := Lib.hid (X6.out.later z7)
  have B7 := Lib.hid (bel_trans B6.out z7)
  clear z7 X6 B6 i0 i1 il j0 j1 jl l0 l1 ll
  obtain ⟨⟨i0, i1, il⟩, ⟨j0, j1, jl⟩, ⟨l0, l1, ll⟩⟩ := X7.out
  go_wp2_with fail
  refine (C8.out _).mono ?_; rintro e w8 ⟨rfl, z8⟩
  have X8 := Lib.hid (X7.out.later z8)
  have B8 := Lib.hid (bel_trans B7.out z8)
  clear z8 X7 B7 i0 i1 il j0 j1 jl l0 l1 ll
  obtain ⟨⟨i0, i1, il⟩, ⟨j0, j1, jl⟩, ⟨l0, l1, ll⟩⟩ := X8.out
  go_wp2_with fail
  refine (C9.out _).mono ?_; rintro e w9 ⟨rfl, z9⟩
  have X9 := Lib.hid (X8.out.later z9)
  have B9 := Lib.hid (bel_trans B8.out z9)
  clear z9 X8 B8 i0 i1 il j0 j1 jl l0 l1 ll
  obtain ⟨⟨i0, i1, il⟩, ⟨j0, j1, jl⟩, ⟨l0, l1, ll⟩⟩ := X9.out
  go_wp2_with fail
  refine (Cx.out _).mono ?_; rintro e w10 ⟨rfl, z10⟩
  go_wp2
  go_ret
  exact ⟨rfl, bel_trans B9.out z10⟩
end Go.Proofs.Ytoofbbmddddlcaa
