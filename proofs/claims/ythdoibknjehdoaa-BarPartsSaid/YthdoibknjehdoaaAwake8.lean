/- The law package's own examples of layer 8 hold. -/
import Derived.Test.YthdoibknjehdoaaBarC
import Derived.Test.YthdoibknjehdoaaHeldBox
namespace Go.Proofs.Ythdoibknjehdoaa
open Go.RowKit

theorem aw81 : barK 0 (-2) 10 2 0 0 10 0 2 = 2 := by decide
theorem aw82 : barK 11 0 12 0 0 0 10 0 2 = 0 := by decide
theorem aw83 : barK (-1) 0 12 0 0 0 10 0 2 = 1 := by decide
theorem aw84 : barB 0 0 10 0 2 10 2 = true := by decide
theorem aw85 : barB 0 0 10 0 2 11 0 = false := by decide
theorem aw86 : barK 0 0 0 0 0 0 0 0 2 = 0 := by decide
/-- The two ends of the examples' segment. -/
structure Ends8 (n : Nat) (w : World) : Prop where
  a : PtAt w n 0 0
  c : PtAt w (n + 1) 10 0
theorem Ends8.later {n : Nat} {w w1 : World} (h : Ends8 n w) (k : Below w.heap.size w w1) : Ends8 n w1 := ⟨h.a.later k, h.c.later k⟩

set_option maxRecDepth 100000 in
set_option maxHeartbeats 4000000 in
theorem awake_any (w : World) :
    Calls Try.prog 13 #[] w fun e w' => e = .returned (.bool true) ∧ Below w.heap.size w w' := by
  have C1 := Lib.hid (fun w => barClass_is aw81 (by omega) (by omega) (by omega) (by omega) (by omega) (by omega) (by omega) (by omega) (by omega) (by omega) (by omega) (by omega) (by omega) (by omega) (by omega) w)
  have C2 := Lib.hid (fun w => barClass_is aw82 (by omega) (by omega) (by omega) (by omega) (by omega) (by omega) (by omega) (by omega) (by omega) (by omega) (by omega) (by omega) (by omega) (by omega) (by omega) w)
  have C3 := Lib.hid (fun w => barClass_is aw83 (by omega) (by omega) (by omega) (by omega) (by omega) (by omega) (by omega) (by omega) (by omega) (by omega) (by omega) (by omega) (by omega) (by omega) (by omega) w)
  have C6 := Lib.hid (fun w => barClass_is aw86 (by omega) (by omega) (by omega) (by omega) (by omega) (by omega) (by omega) (by omega) (by omega) (by omega) (by omega) (by omega) (by omega) (by omega) (by omega) w)
  have C4 := Lib.hid (fun w => barHas_is aw84 (by omega) (by omega) (by omega) (by omega) (by omega) (by omega) (by omega) (by omega) (by omega) (by omega) (by omega) (by omega) (by omega) w)
  have C5 := Lib.hid (fun w => barHas_is aw85 (by omega) (by omega) (by omega) (by omega) (by omega) (by omega) (by omega) (by omega) (by omega) (by omega) (by omega) (by omega) (by omega) w)
  have X0 : Ends8 w.heap.size ((w.alloc (.cells #[.int .i64 0, .int .i64 0] 25)).alloc (.cells #[.int .i64 10, .int .i64 0] 25)) := by
    refine ⟨(ptAt_new w 0 0 25).alloc _, ?_⟩
    have h := ptAt_new (w.alloc (.cells #[.int .i64 0, .int .i64 0] 25)) 10 0 25
    rw [show (w.alloc (.cells #[.int .i64 0, .int .i64 0] 25)).heap.size = w.heap.size + 1 by simp] at h
    exact h
  have X0 := Lib.hid X0
  have B0 := Lib.hid (bel_alloc (bel_alloc (bel_refl w) (.cells #[.int .i64 0, .int .i64 0] 25)) (.cells #[.int .i64 10, .int .i64 0] 25))
  go_enter Try.func13, Try.ntmps13
  go_upto_region 2 with (fail)
  generalize ((w.alloc (.cells #[.int .i64 0, .int .i64 0] 25)).alloc (.cells #[.int .i64 10, .int .i64 0] 25)) = W at *
  obtain ⟨⟨i0, i1, il⟩, ⟨j0, j1, jl⟩⟩ := X0.out
  go_wp2_with fail
  refine (C1.out _).mono ?_; rintro e w1 ⟨rfl, z1⟩
  have X1 := Lib.hid (X0.out.later z1)
  have B1 := Lib.hid (bel_trans B0.out z1)
  clear z1 X0 B0 i0 i1 il j0 j1 jl
  obtain ⟨⟨i0, i1, il⟩, ⟨j0, j1, jl⟩⟩ := X1.out
  go_wp2_with fail
  refine (C2.out _).mono ?_; rintro e w2 ⟨rfl, z2⟩
  have X2 := Lib.hid (X1.out.later z2)
  have B2 := Lib.hid (bel_trans B1.out z2)
  clear z2 X1 B1 i0 i1 il j0 j1 jl
  obtain ⟨⟨i0, i1, il⟩, ⟨j0, j1, jl⟩⟩ := X2.out
  go_wp2_with fail
  refine (C3.out _).mono ?_; rintro e w3 ⟨rfl, z3⟩
  have X3 := Lib.hid (X2.out.later z3)
  have B3 := Lib.hid (bel_trans B2.out z3)
  clear z3 X2 B2 i0 i1 il j0 j1 jl
  obtain ⟨⟨i0, i1, il⟩, ⟨j0, j1, jl⟩⟩ := X3.out
  go_wp2_with fail
  refine (C4.out _).mono ?_; rintro e w4 ⟨rfl, z4⟩
  have X4 := Lib.hid (X3.out.later z4)
  have B4 := Lib.hid (bel_trans B3.out z4)
  clear z4 X3 B3 i0 i1 il j0 j1 jl
  obtain ⟨⟨i0, i1, il⟩, ⟨j0, j1, jl⟩⟩ := X4.out
  go_wp2_with fail
  refine (C5.out _).mono ?_; rintro e w5 ⟨rfl, z5⟩
  have X5 := Lib.hid (X4.out.later z5)
  have B5 := Lib.hid (bel_trans B4.out z5)
  clear z5 X4 B4 i0 i1 il j0 j1 jl
  obtain ⟨⟨i0, i1, il⟩, ⟨j0, j1, jl⟩⟩ := X5.out
  go_wp2_with fail
  refine (C6.out _).mono ?_; rintro e w6 ⟨rfl, z6⟩
  go_wp2
  go_ret
  exact ⟨rfl, bel_trans B5.out z6⟩
end Go.Proofs.Ythdoibknjehdoaa
