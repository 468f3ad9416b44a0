/- Contracts of the laws' helpers of layer 5: a radius that may be, a point of a box, a small box. -/
import Derived.Test.YtoofbbmddddlcaaHeldBox
import Derived.Test.YtoofbbmddddlcaaMask
import Derived.Test.YtoofbbmddddlcaaQuietTail
import Derived.IntWalk
namespace Go.Proofs.Ytoofbbmddddlcaa
open Go.RowKit
open Go.Sort (grow)

/-- A number of 64 bits as a remainder. -/
theorem rem_at (e D : Int) (hD : 1 ≤ D) (hD' : D ≤ 1073741825) : ∃ ux r : Int, IntKind.u64.wrap e = ux ∧ 0 ≤ ux ∧ ux ≤ 18446744073709551615 ∧ ux.tmod D = r ∧ ux % D = r ∧ 0 ≤ r ∧ r < D := by
  have h0 : 0 ≤ IntKind.u64.wrap e ∧ IntKind.u64.wrap e ≤ 18446744073709551615 := by rw [IntKind.wrap_u64]; omega
  refine ⟨_, _, rfl, h0.1, h0.2, Int.tmod_eq_emod_of_nonneg h0.1, rfl, Int.emod_nonneg _ (by omega), Int.emod_lt_of_pos _ (by omega)⟩
theorem r_form (e : Int) : ∃ r : Int, 1 ≤ r ∧ r ≤ 536870912 ∧ ∀ w, Calls Try.prog 11 #[.int .i64 e] w fun e w' => e = .returned (.int .i64 r) ∧ w = w' := by
  obtain ⟨ux, m, h1, h2, h3, h4, h5, h6, h7⟩ := rem_at e 536870912 (by omega) (by omega)
  refine ⟨m + 1, by omega, by omega, fun w => ?_⟩
  have s1 : IntKind.i64.wrap m = m := IntWalk.i64_in _ (by omega)
  go_enter Try.func11, Try.ntmps11
  go_wp2
  go_ret
  exact ⟨rfl, rfl⟩

set_option maxHeartbeats 4000000 in
theorem small_core (a b c d x y u v X Y : Int) (e0 : a.tmod 20 = x) (e1 : b.tmod 20 = y) (e2 : bits .and .i64 c 7 = u) (e3 : bits .and .i64 d 7 = v) (e4 : x + u = X) (e5 : y + v = Y) (hx : -19 ≤ x) (hx' : x ≤ 19) (hy : -19 ≤ y) (hy' : y ≤ 19) (hu : 0 ≤ u) (hu' : u ≤ 7) (hv : 0 ≤ v) (hv' : v ≤ 7) (w : World) :
    Calls Try.prog 9 #[boxV a b c d] w fun e w' => e = .returned (boxV x y X Y) ∧ Below w.heap.size w w' := by
  have B0 := Lib.hid (bel_alloc (bel_alloc (bel_refl w) (.cells #[.int .i64 a, .int .i64 b, .int .i64 c, .int .i64 d] 23)) (.cells #[.int .i64 x, .int .i64 y, .int .i64 X, .int .i64 Y] 23))
  go_enter Try.func9, Try.ntmps9
  go_wp2
  go_region
  go_wp2
  exact bodyPost_ret (v := boxV x y X Y) (by simp [results, Try.results9, go_sem]) rfl ⟨rfl, by first | exact B0.out | exact bel_drew B0.out⟩
theorem small_form (a b c d : Int) : ∃ x y X Y : Int, (-19 ≤ x ∧ x ≤ X ∧ X ≤ x + 7 ∧ x ≤ 19) ∧ (-19 ≤ y ∧ y ≤ Y ∧ Y ≤ y + 7 ∧ y ≤ 19) ∧ ∀ w, Calls Try.prog 9 #[boxV a b c d] w fun e w' => e = .returned (boxV x y X Y) ∧ Below w.heap.size w w' := by
  obtain ⟨x, x0, x1, e0⟩ := tmod_at a 20 (by omega)
  obtain ⟨y, y0, y1, e1⟩ := tmod_at b 20 (by omega)
  obtain ⟨u, u0, u1, e2⟩ := mask_7 c
  obtain ⟨v, v0, v1, e3⟩ := mask_7 d
  exact ⟨x, y, x + u, y + v, by omega, by omega, fun w => small_core a b c d x y u v _ _ e0 e1 e2 e3 rfl rfl (by omega) (by omega) (by omega) (by omega) u0 u1 v0 v1 w⟩

set_option maxHeartbeats 8000000 in
theorem in_core (a b c d e f ux uy rx ry u v : Int) (a0 : -536870912 ≤ a) (ac : a ≤ c) (c1 : c ≤ 536870912) (b0 : -536870912 ≤ b) (bd : b ≤ d) (d1 : d ≤ 536870912)
    (hux : IntKind.u64.wrap e = ux) (_ux0 : 0 ≤ ux) (_ux1 : ux ≤ 18446744073709551615) (hrx : ux.tmod (c - a + 1) = rx) (hrx' : ux % (c - a + 1) = rx) (rx0 : 0 ≤ rx) (rx1 : rx < c - a + 1) (hu : a + rx = u)
    (huy : IntKind.u64.wrap f = uy) (_uy0 : 0 ≤ uy) (_uy1 : uy ≤ 18446744073709551615) (hry : uy.tmod (d - b + 1) = ry) (hry' : uy % (d - b + 1) = ry) (ry0 : 0 ≤ ry) (ry1 : ry < d - b + 1) (hv : b + ry = v) (w : World) :
    Calls Try.prog 26 #[boxV a b c d, .int .i64 e, .int .i64 f] w fun e w' => e = .returned (ptV u v) ∧ Below w.heap.size w w' := by
  have X0 := Lib.hid ((boxAt_new w a b c d 23).alloc (.cells #[.int .i64 0, .int .i64 0] 25))
  have I0 := ptIn_new (w.alloc (.cells #[.int .i64 a, .int .i64 b, .int .i64 c, .int .i64 d] 23)) 0 0 25
  rw [show (w.alloc (.cells #[.int .i64 a, .int .i64 b, .int .i64 c, .int .i64 d] 23)).heap.size = w.heap.size + 1 by simp] at I0
  have I0 := Lib.hid I0
  have B0 := Lib.hid (bel_alloc (bel_alloc (bel_refl w) (.cells #[.int .i64 a, .int .i64 b, .int .i64 c, .int .i64 d] 23)) (.cells #[.int .i64 0, .int .i64 0] 25))
  go_enter Try.func26, Try.ntmps26
  go_wp2_with fail
  generalize (w.alloc (.cells #[.int .i64 a, .int .i64 b, .int .i64 c, .int .i64 d] 23)).alloc (.cells #[.int .i64 0, .int .i64 0] 25) = V at *
  obtain ⟨q0, q1, q2, q3, ql⟩ := X0.out
  have q0 := cell_regrown q0
  have q1 := cell_regrown q1
  have q2 := cell_regrown q2
  have q3 := cell_regrown q3
  have s1 : IntKind.i64.wrap (c - a) = c - a := IntWalk.i64_in _ (by omega)
  have s2 : IntKind.i64.wrap (c - a + 1) = c - a + 1 := IntWalk.i64_in _ (by omega)
  have s3 : IntKind.u64.wrap (c - a + 1) = c - a + 1 := by rw [IntKind.wrap_u64]; omega
  have s4 : IntKind.i64.wrap rx = rx := IntWalk.i64_in _ (by omega)
  have s5 : IntKind.i64.wrap u = u := IntWalk.i64_in _ (by omega)
  have s6 : IntKind.i64.wrap (d - b) = d - b := IntWalk.i64_in _ (by omega)
  have s7 : IntKind.i64.wrap (d - b + 1) = d - b + 1 := IntWalk.i64_in _ (by omega)
  have s8 : IntKind.u64.wrap (d - b + 1) = d - b + 1 := by rw [IntKind.wrap_u64]; omega
  have s9 : IntKind.i64.wrap ry = ry := IntWalk.i64_in _ (by omega)
  have s10 : IntKind.i64.wrap v = v := IntWalk.i64_in _ (by omega)
  have z1 : ¬ c - a + 1 = 0 := by omega
  have z2 : ¬ d - b + 1 = 0 := by omega
  refine region_below_tail 29 (by kernel_rfl) (by kernel_rfl) ?_
  simp only [List.take_succ_cons, List.take_zero]
  repeat (go_big_quiet_step (fail))
  refine wpQuiet_nil ?_
  intro _ hw'
  obtain ⟨⟨dr, osr⟩, hw''⟩ := hw'
  subst hw''
  clear q0 q1 q2 q3 ql X0
  have zz := below_regrown V dr osr
  have I1 := Lib.hid (I0.out.later zz)
  have B1 := Lib.hid (bel_trans B0.out zz)
  clear I0 B0 zz
  generalize grow (redrawn V dr) osr = V1 at *
  simp only [List.drop_succ_cons, List.drop_zero]
  obtain ⟨⟨i0, i1, il⟩, fr⟩ := I1.out
  go_wp2
  have q2 := I1.out.stored u v
  have bB := bel_set (bel_set B1.out (b := w.heap.size + 1) (by omega) 0 (.int .i64 u)) (b := w.heap.size + 1) (by omega) 1 (.int .i64 v)
  clear i0 i1 il fr I1 B1
  generalize (V1.setCell ⟨w.heap.size + 1, 0, none⟩ (.int .i64 u)).setCell ⟨w.heap.size + 1, 1, none⟩ (.int .i64 v) = V2 at *
  obtain ⟨⟨i0, i1, il⟩, fr⟩ := q2
  exact bodyPost_ret (v := ptV u v) (by simp [results, Try.results26, go_sem, i0, i1]) rfl ⟨rfl, bB⟩
theorem in_form (a b c d e f : Int) (a0 : -536870912 ≤ a) (ac : a ≤ c) (c1 : c ≤ 536870912) (b0 : -536870912 ≤ b) (bd : b ≤ d) (d1 : d ≤ 536870912) :
    ∃ u v : Int, (a ≤ u ∧ u ≤ c ∧ b ≤ v ∧ v ≤ d) ∧ ∀ w, Calls Try.prog 26 #[boxV a b c d, .int .i64 e, .int .i64 f] w fun e w' => e = .returned (ptV u v) ∧ Below w.heap.size w w' := by
  obtain ⟨ux, rx, h1, h2, h3, h4, h5, h6, h7⟩ := rem_at e (c - a + 1) (by omega) (by omega)
  obtain ⟨uy, ry, k1, k2, k3, k4, k5, k6, k7⟩ := rem_at f (d - b + 1) (by omega) (by omega)
  exact ⟨a + rx, b + ry, by omega, fun w => in_core a b c d e f ux uy rx ry _ _ a0 ac c1 b0 bd d1 h1 h2 h3 h4 h5 h6 h7 rfl k1 k2 k3 k4 k5 k6 k7 rfl w⟩
end Go.Proofs.Ytoofbbmddddlcaa
