/- Class and Has return what the document says of any bar: for every box, both ends, half width and point that the law makes of any eleven numbers of 64 bits, great and small, and for every half width below 1. No condition. -/
import Derived.Test.YthdoibknjehdoaaRows
import Derived.Test.YthdoibknjehdoaaAwake8
import Derived.Test.YthdoibknjehdoaaLaws7
import Derived.Test.YthdoibknjehdoaaHeld7
import Derived.Test.YthdoibknjehdoaaFloat
import Derived.Test.YthdoibknjehdoaaRefBar
import Derived.ProofKit
import Derived.OpenShut
import Derived.ShutString
import Derived.ChangeOld
import Derived.Below
import Derived.Lib.SmallJoins
import Derived.Lib.QuietBelow
import Derived.BigQuiet
namespace Go.Proofs.Ythdoibknjehdoaa.barTells
open Go.ChangeShapes Go.WideShapes Go.ChangeAt Go.RowKit Go.Joins
open Go.Sort (grow)

/-- What the law compares: a box that may be, points that are not too far, a half width that may be, in their blocks. -/
def Fin (w : World) (s3 : Value) (wc : World) : Prop :=
  ∃ a b c d x y u v s t r : Int, s3 = .int .i64 r ∧ ((-536870912 ≤ a ∧ a ≤ c ∧ c ≤ 536870912) ∧ (-536870912 ≤ b ∧ b ≤ d ∧ d ≤ 536870912) ∧ (-536870912 ≤ x ∧ x ≤ 536870912 ∧ -536870912 ≤ y ∧ y ≤ 536870912) ∧ (-536870912 ≤ u ∧ u ≤ 536870912 ∧ -536870912 ≤ v ∧ v ≤ 536870912) ∧ (-536870912 ≤ s ∧ s ≤ 536870912 ∧ -536870912 ≤ t ∧ t ≤ 536870912) ∧ 1 ≤ r ∧ r ≤ 536870912) ∧
    BPPP w.heap.size a b c d x y u v s t wc ∧ Below w.heap.size w wc

set_option maxRecDepth 100000 in
set_option maxHeartbeats 16000000 in
theorem core (b0 b1 b2 b3 e0 e1 f0 f1 k p0 p1 : Int) (small : Bool) (a b c d x y u v s t r : Int)
    (X1 : ∀ w, Calls Try.prog 14 #[boxV b0 b1 b2 b3] w fun e w' => e = .returned (boxV a b c d) ∧ Below w.heap.size w w')
    (X2 : ∀ w, Calls Try.prog 15 #[ptV e0 e1] w fun e w' => e = .returned (ptV x y) ∧ Below w.heap.size w w')
    (X3 : ∀ w, Calls Try.prog 15 #[ptV f0 f1] w fun e w' => e = .returned (ptV u v) ∧ Below w.heap.size w w')
    (X4 : ∀ w, Calls Try.prog 15 #[ptV p0 p1] w fun e w' => e = .returned (ptV s t) ∧ Below w.heap.size w w')
    (X5 : ∀ w, Calls Try.prog 10 #[.int .i64 k] w fun e w' => e = .returned (.int .i64 r) ∧ w = w')
    (hbd : ((-536870912 ≤ a ∧ a ≤ c ∧ c ≤ 536870912) ∧ (-536870912 ≤ b ∧ b ≤ d ∧ d ≤ 536870912) ∧ (-536870912 ≤ x ∧ x ≤ 536870912 ∧ -536870912 ≤ y ∧ y ≤ 536870912) ∧ (-536870912 ≤ u ∧ u ≤ 536870912 ∧ -536870912 ≤ v ∧ v ≤ 536870912) ∧ (-536870912 ≤ s ∧ s ≤ 536870912 ∧ -536870912 ≤ t ∧ t ≤ 536870912) ∧ 1 ≤ r ∧ r ≤ 536870912)) (w : World) :
    Calls Try.prog 4 #[boxV b0 b1 b2 b3, ptV e0 e1, ptV f0 f1, .int .i64 k, ptV p0 p1, .bool small] w fun e w' => e = .returned (.bool true) ∧ Below w.heap.size w w' := by
  have HX1 := Lib.hid X1
  have HX2 := Lib.hid X2
  have HX3 := Lib.hid X3
  have HX4 := Lib.hid X4
  have HX5 := Lib.hid X5
  have HBD := Lib.hid hbd
  have F0 := bppp_new w b0 b1 b2 b3 e0 e1 f0 f1 p0 p1 23 25
  have B0 := bel_newBPPP w b0 b1 b2 b3 e0 e1 f0 f1 p0 p1 23 25
  unfold newBPPP at F0 B0
  have F0 := Lib.hid F0
  have B0 := Lib.hid B0
  clear X1 X2 X3 X4 X5 hbd
  go_enter Try.func4, Try.ntmps4
  go_wp2_with fail
  generalize ((((w.alloc (.cells #[.int .i64 b0, .int .i64 b1, .int .i64 b2, .int .i64 b3] 23)).alloc (.cells #[.int .i64 e0, .int .i64 e1] 25)).alloc (.cells #[.int .i64 f0, .int .i64 f1] 25)).alloc (.cells #[.int .i64 p0, .int .i64 p1] 25)) = V at *
  obtain ⟨⟨⟨i0, i1, i2, i3, il⟩, fi⟩, ⟨⟨j0, j1, jl⟩, fj⟩, ⟨⟨l0, l1, ll⟩, fl⟩, ⟨⟨n0, n1, nl⟩, fn⟩⟩ := F0.out
  have i0 := cell_regrown i0
  have i1 := cell_regrown i1
  have i2 := cell_regrown i2
  have i3 := cell_regrown i3
  have j0 := cell_regrown j0
  have j1 := cell_regrown j1
  have l0 := cell_regrown l0
  have l1 := cell_regrown l1
  have n0 := cell_regrown n0
  have n1 := cell_regrown n1
  have D1 := Lib.hid (fun p : Regrown => Calls.regrown_of (HX1.out (grow (redrawn V p.d) p.os)))
  have D2 := Lib.hid (fun p : Regrown => Calls.regrown_of (HX2.out (grow (redrawn V p.d) p.os)))
  have D3 := Lib.hid (fun p : Regrown => Calls.regrown_of (HX3.out (grow (redrawn V p.d) p.os)))
  have D4 := Lib.hid (fun p : Regrown => Calls.regrown_of (HX4.out (grow (redrawn V p.d) p.os)))
  clear HX1 HX2 HX3 HX4
  refine region_below_tail 8 (by kernel_rfl) (by kernel_rfl) ?_
  simp only [List.take_succ_cons, List.take_zero]
  repeat (go_big_quiet_step (first | with_reducible exact D1.out _ | with_reducible exact D2.out _ | with_reducible exact D3.out _ | with_reducible exact D4.out _))
  refine wpQuiet_nil ?_
  intro _ hw'
  obtain ⟨⟨dr, osr⟩, hw''⟩ := hw'
  subst hw''
  clear i0 i1 i2 i3 j0 j1 l0 l1 n0 n1 D1 D2 D3 D4 il fi jl fj ll fl nl fn
  have zz := below_regrown V dr osr
  have F1 := Lib.hid (F0.out.later zz)
  have B1 := Lib.hid (bel_trans B0.out zz)
  clear F0 B0 zz
  generalize grow (redrawn V dr) osr = V1 at *
  simp only [List.drop_succ_cons, List.drop_zero]
  obtain ⟨⟨⟨i0, i1, i2, i3, il⟩, fi⟩, ⟨⟨j0, j1, jl⟩, fj⟩, ⟨⟨l0, l1, ll⟩, fl⟩, ⟨⟨n0, n1, nl⟩, fn⟩⟩ := F1.out
  go_upto_region 2 with (fail)
  clear i0 i1 i2 i3 j0 j1 l0 l1 n0 n1 il fi jl fj ll fl nl fn
  have F2 := F1.out.stored a b c d x y u v s t
  have B2 := bel_bppp B1.out (Nat.le_refl _) a b c d x y u v s t
  unfold setBPPP at F2 B2
  have F2 := Lib.hid F2
  have B2 := Lib.hid B2
  clear F1 B1
  generalize ((((((((((V1.setCell ⟨w.heap.size, 0, none⟩ (.int .i64 a)).setCell ⟨w.heap.size, 1, none⟩ (.int .i64 b)).setCell ⟨w.heap.size, 2, none⟩ (.int .i64 c)).setCell ⟨w.heap.size, 3, none⟩ (.int .i64 d)).setCell ⟨w.heap.size + 1, 0, none⟩ (.int .i64 x)).setCell ⟨w.heap.size + 1, 1, none⟩ (.int .i64 y)).setCell ⟨w.heap.size + 1 + 1, 0, none⟩ (.int .i64 u)).setCell ⟨w.heap.size + 1 + 1, 1, none⟩ (.int .i64 v)).setCell ⟨w.heap.size + 1 + 1 + 1, 0, none⟩ (.int .i64 s)).setCell ⟨w.heap.size + 1 + 1 + 1, 1, none⟩ (.int .i64 t)) = V2 at *
  go_upto_if 25 with ((go_at_call 10; (with_reducible refine (HX5.out _).mono ?_); rintro e w' ⟨rfl, rfl⟩))
  clear HX5
  go_cut [3] (fun s3 wc => Fin w s3 wc)
  case first =>
    cases small with
    | false =>
      go_wp2
      go_meet
      exact ⟨a, b, c, d, x, y, u, v, s, t, r, rfl, HBD.out, F2.out, B2.out⟩
    | true =>
      obtain ⟨a', b', c', d', ha, hb, Y1⟩ := small_form a b c d
      obtain ⟨x', y', hx, Y2⟩ := close_form x y 20 21 (by omega) (by omega) rfl
      obtain ⟨u', v', hu, Y3⟩ := close_form u v 20 21 (by omega) (by omega) rfl
      obtain ⟨s', t', hs, Y4⟩ := close_form s t 20 21 (by omega) (by omega) rfl
      obtain ⟨r', r2, r3, er⟩ := r_left (n := 12) HBD.out.2.2.2.2.2.1 (by omega)
      have HB2 := Lib.hid (show ((-536870912 ≤ a' ∧ a' ≤ c' ∧ c' ≤ 536870912) ∧ (-536870912 ≤ b' ∧ b' ≤ d' ∧ d' ≤ 536870912) ∧ (-536870912 ≤ x' ∧ x' ≤ 536870912 ∧ -536870912 ≤ y' ∧ y' ≤ 536870912) ∧ (-536870912 ≤ u' ∧ u' ≤ 536870912 ∧ -536870912 ≤ v' ∧ v' ≤ 536870912) ∧ (-536870912 ≤ s' ∧ s' ≤ 536870912 ∧ -536870912 ≤ t' ∧ t' ≤ 536870912) ∧ 1 ≤ r' + 1 ∧ r' + 1 ≤ 536870912) by omega)
      have HY1 := Lib.hid Y1
      have HY2 := Lib.hid Y2
      have HY3 := Lib.hid Y3
      have HY4 := Lib.hid Y4
      clear Y1 Y2 Y3 Y4 ha hb hx hu hs
      go_wp2_with fail
      obtain ⟨⟨⟨i0, i1, i2, i3, il⟩, fi⟩, ⟨⟨j0, j1, jl⟩, fj⟩, ⟨⟨l0, l1, ll⟩, fl⟩, ⟨⟨n0, n1, nl⟩, fn⟩⟩ := F2.out
      have i0 := cell_regrown i0
      have i1 := cell_regrown i1
      have i2 := cell_regrown i2
      have i3 := cell_regrown i3
      have j0 := cell_regrown j0
      have j1 := cell_regrown j1
      have l0 := cell_regrown l0
      have l1 := cell_regrown l1
      have n0 := cell_regrown n0
      have n1 := cell_regrown n1
      have D1 := Lib.hid (fun p : Regrown => Calls.regrown_of (HY1.out (grow (redrawn V2 p.d) p.os)))
      have D2 := Lib.hid (fun p : Regrown => Calls.regrown_of (HY2.out (grow (redrawn V2 p.d) p.os)))
      have D3 := Lib.hid (fun p : Regrown => Calls.regrown_of (HY3.out (grow (redrawn V2 p.d) p.os)))
      have D4 := Lib.hid (fun p : Regrown => Calls.regrown_of (HY4.out (grow (redrawn V2 p.d) p.os)))
      have s1 : IntKind.i64.wrap (r' + 1) = r' + 1 := IntWalk.i64_in _ (by omega)
      clear HY1 HY2 HY3 HY4
      refine wp_region_any (by kernel_rfl) ?_
      change wpAny _ _ _ _ _ _ _ (World.drew _)
      refine any_take 8 34 (.int .i64 r) rfl rfl (by kernel_rfl) (by kernel_rfl) (by kernel_rfl) (fun _ _ _ h => h) (by rfl) (fun w => by go_simp) ?_
      refine any_take 9 35 (.int .i64 r') rfl rfl (by kernel_rfl) (by kernel_rfl) (by kernel_rfl) (fun _ _ _ h => h) (by rfl) (fun w => by go_simp) ?_
      refine any_take 10 36 (.int .i64 (r' + 1)) rfl rfl (by kernel_rfl) (by kernel_rfl) (by kernel_rfl) (fun _ _ _ h => h) (by rfl) (fun w => by go_simp) ?_
      refine any_heads_below (n := 8) (g := 5) (e := #[true, true, true, true, true, true, true, true, true, true, true, false, false, false, false, false]) (by kernel_rfl) ?_
      simp only [List.take_succ_cons, List.take_zero, Act.put, List.setIfInBounds_toArray, List.set_cons_zero, List.set_cons_succ]
      repeat (go_big_quiet_step (first | with_reducible exact D1.out _ | with_reducible exact D2.out _ | with_reducible exact D3.out _ | with_reducible exact D4.out _))
      refine wpQuiet_nil ?_
      intro _ hw'
      obtain ⟨⟨ds, oss⟩, hw''⟩ := hw'
      subst hw''
      clear i0 i1 i2 i3 j0 j1 l0 l1 n0 n1 D1 D2 D3 D4 il fi jl fj ll fl nl fn
      have zz := below_regrown V2 ds oss
      have F3 := Lib.hid (F2.out.later zz)
      have B3 := Lib.hid (bel_trans B2.out zz)
      clear F2 B2 zz
      generalize grow (redrawn V2 ds) oss = V3 at *
      refine any_tail (n := 11) rfl (by kernel_rfl) ?_
      simp only [List.drop_succ_cons, List.drop_zero]
      obtain ⟨⟨⟨i0, i1, i2, i3, il⟩, fi⟩, ⟨⟨j0, j1, jl⟩, fj⟩, ⟨⟨l0, l1, ll⟩, fl⟩, ⟨⟨n0, n1, nl⟩, fn⟩⟩ := F3.out
      go_wp2
      go_meet
      exact ⟨a', b', c', d', x', y', u', v', s', t', r' + 1, rfl, HB2.out, F3.out.stored a' b' c' d' x' y' u' v' s' t', bel_bppp B3.out (Nat.le_refl _) a' b' c' d' x' y' u' v' s' t'⟩
  case rest =>
    obtain ⟨a, b, c, d, x, y, u, v, s, t, r, rfl, hbd, hF, hB⟩ := hcut
    clear F2 B2 HBD
    obtain ⟨⟨xa, xb, xc⟩, ⟨ya, yb, yc⟩, ⟨ma, mb, mc, md⟩, ⟨oa, ob, oc, od⟩, ⟨na, nb, nc, nd⟩, ra, rb⟩ := hbd
    obtain ⟨q, h1, h2⟩ : ∃ q : Int, (∀ w, Calls Try.prog 12 #[boxV a b c d, ptV x y, ptV u v, .int .i64 r] w fun e w' => e = .returned (.int .i64 q) ∧ Below w.heap.size w w') ∧ (∀ w, Calls Try.prog 16 #[boxV a b c d, ptV x y, ptV u v, .int .i64 r] w fun e w' => e = .returned (.int .i64 q) ∧ Below w.heap.size w w') :=
      ⟨_, fun w => barClass_any a b c d x y u v r xa xb xc ya yb yc ma mb mc md oa ob oc od (by omega) w, fun w => refBar_any a b c d x y u v r xa xb xc ya yb yc ma mb mc md oa ob oc od (by omega) w⟩
    obtain ⟨h, h3, h4⟩ : ∃ h : Bool, (∀ w, Calls Try.prog 11 #[ptV s t, ptV x y, ptV u v, .int .i64 r] w fun e w' => e = .returned (.bool h) ∧ Below w.heap.size w w') ∧ (∀ w, Calls Try.prog 17 #[ptV s t, ptV x y, ptV u v, .int .i64 r] w fun e w' => e = .returned (.bool h) ∧ Below w.heap.size w w') :=
      ⟨_, fun w => barHas_any s t x y u v r na nb nc nd ma mb mc md oa ob oc od (by omega) w, fun w => refBarHas_any s t x y u v r na nb nc nd ma mb mc md oa ob oc od (by omega) w⟩
    obtain ⟨⟨⟨i0, i1, i2, i3, il⟩, fi⟩, ⟨⟨j0, j1, jl⟩, fj⟩, ⟨⟨l0, l1, ll⟩, fl⟩, ⟨⟨n0, n1, nl⟩, fn⟩⟩ := hF
    have i0 := cell_regrown i0
    have i1 := cell_regrown i1
    have i2 := cell_regrown i2
    have i3 := cell_regrown i3
    have j0 := cell_regrown j0
    have j1 := cell_regrown j1
    have l0 := cell_regrown l0
    have l1 := cell_regrown l1
    have n0 := cell_regrown n0
    have n1 := cell_regrown n1
    have B := Lib.hid hB
    have D1 := Lib.hid (fun p : Regrown => Calls.regrown_of (h1 (grow (redrawn wc p.d) p.os)))
    have D2 := Lib.hid (fun p : Regrown => Calls.regrown_of (h2 (grow (redrawn wc p.d) p.os)))
    have D3 := Lib.hid (fun p : Regrown => Calls.regrown_of (h3 (grow (redrawn wc p.d) p.os)))
    have D4 := Lib.hid (fun p : Regrown => Calls.regrown_of (h4 (grow (redrawn wc p.d) p.os)))
    have h7 := fun w => barClass_is (barK_dot a b c d x y r) xa xb xc ya yb yc ma mb mc md ma mb mc md (show r ≤ 1073741824 by omega) w
    have D7 := Lib.hid (fun p : Regrown => Calls.regrown_of (h7 (grow (redrawn wc p.d) p.os)))
    have DA := Lib.hid (fun p : Regrown => Calls.regrown_of (awake_any (grow (redrawn wc p.d) p.os)))
    clear h1 h2 h3 h4 h7 il fi jl fj ll fl nl fn hB
    by_cases hk : 1 ≤ k
    · clear xa xb xc ya yb yc ma mb mc md oa ob oc od na nb nc nd ra rb
      have hk1 : decide (1 ≤ k) = true := decide_eq_true hk
      go_wp2_with fail
      refine wp_region_quiet_below (by kernel_rfl) (by kernel_rfl) ?_
      repeat (go_big_quiet_step (first | with_reducible exact D1.out _ | with_reducible exact D2.out _ | with_reducible exact D3.out _ | with_reducible exact D4.out _ | with_reducible exact D7.out _ | with_reducible exact DA.out _))
      refine wpQuiet_nil ?_
      intro _ hw'
      obtain ⟨⟨dt, ost⟩, hw''⟩ := hw'
      subst hw''
      go_wp2
      go_ret
      exact ⟨rfl, bel_trans B.out (below_regrown wc dt ost)⟩
    · have h5 := fun w => barClass_is (barK_out (show k < 1 by omega) _ _ _ _ _ _ _ _) xa xb xc ya yb yc ma mb mc md oa ob oc od (show k ≤ 1073741824 by omega) w
      have h6 := fun w => barHas_is (barB_none (.inl (show k < 1 by omega))) na nb nc nd ma mb mc md oa ob oc od (show k ≤ 1073741824 by omega) w
      have D5 := Lib.hid (fun p : Regrown => Calls.regrown_of (h5 (grow (redrawn wc p.d) p.os)))
      have D6 := Lib.hid (fun p : Regrown => Calls.regrown_of (h6 (grow (redrawn wc p.d) p.os)))
      clear xa xb xc ya yb yc ma mb mc md oa ob oc od na nb nc nd ra rb h5 h6
      have hk1 : decide (1 ≤ k) = false := decide_eq_false hk
      go_wp2_with fail
      refine wp_region_quiet_below (by kernel_rfl) (by kernel_rfl) ?_
      repeat (go_big_quiet_step (first | with_reducible exact D1.out _ | with_reducible exact D2.out _ | with_reducible exact D3.out _ | with_reducible exact D4.out _ | with_reducible exact D5.out _ | with_reducible exact D6.out _ | with_reducible exact D7.out _ | with_reducible exact DA.out _))
      refine wpQuiet_nil ?_
      intro _ hw'
      obtain ⟨⟨dt, ost⟩, hw''⟩ := hw'
      subst hw''
      go_wp2
      go_ret
      exact ⟨rfl, bel_trans B.out (below_regrown wc dt ost)⟩
theorem walk (b0 b1 b2 b3 e0 e1 f0 f1 k p0 p1 : Int) (small : Bool) (_ : -9223372036854775808 ≤ b0) (_ : b0 ≤ 9223372036854775807) (_ : -9223372036854775808 ≤ b1) (_ : b1 ≤ 9223372036854775807) (_ : -9223372036854775808 ≤ b2) (_ : b2 ≤ 9223372036854775807) (_ : -9223372036854775808 ≤ b3) (_ : b3 ≤ 9223372036854775807) (_ : -9223372036854775808 ≤ e0) (_ : e0 ≤ 9223372036854775807) (_ : -9223372036854775808 ≤ e1) (_ : e1 ≤ 9223372036854775807) (_ : -9223372036854775808 ≤ f0) (_ : f0 ≤ 9223372036854775807) (_ : -9223372036854775808 ≤ f1) (_ : f1 ≤ 9223372036854775807) (_ : -9223372036854775808 ≤ k) (_ : k ≤ 9223372036854775807) (_ : -9223372036854775808 ≤ p0) (_ : p0 ≤ 9223372036854775807) (_ : -9223372036854775808 ≤ p1) (_ : p1 ≤ 9223372036854775807) (w : World) :
    Calls Try.prog 4 #[boxV b0 b1 b2 b3, ptV e0 e1, ptV f0 f1, .int .i64 k, ptV p0 p1, .bool small] w fun e w' => e = .returned (.bool true) ∧ Below w.heap.size w w' := by
  obtain ⟨a, b, c, d, h1, h2, h3, h4, h5, h6, X1⟩ := boxT_form b0 b1 b2 b3
  obtain ⟨x, y, k1, k2, k3, k4, X2⟩ := pt_form e0 e1
  obtain ⟨u, v, l1, l2, l3, l4, X3⟩ := pt_form f0 f1
  obtain ⟨s, t, m1, m2, m3, m4, X4⟩ := pt_form p0 p1
  obtain ⟨r, r1, r2, X5⟩ := r_form k
  exact core b0 b1 b2 b3 e0 e1 f0 f1 k p0 p1 small a b c d x y u v s t r X1 (fun w => pt_low X2 w) (fun w => pt_low X3 w) (fun w => pt_low X4 w) X5 ⟨⟨h1, h2, h3⟩, ⟨h4, h5, h6⟩, ⟨k1, k2, k3, k4⟩, ⟨l1, l2, l3, l4⟩, ⟨m1, m2, m3, m4⟩, r1, r2⟩ w
theorem own : ownKnob Try.prog.godebug = none := by kernel_rfl
set_option maxRecDepth 100000 in
set_option maxHeartbeats 4000000 in
theorem lifted (os : Os) (started : os.Started) (H : Type) (enc : TypeId × Value → H) :
    ReturnsInHanded {} Try.checked os 4 .any (Rows.barTellsSpec.pre6 enc Try.prog Try.f4 Rows.barTellsRow.domain false) (Rows.barTellsSpec.post enc Try.prog Try.f4 false true false false) := by
  refine returnsInHanded_of_change (C := Try.checked) own started (by kernel_rfl) Try.func4
    (ChangeSpec.witness6 (enc := enc) (C := Try.checked) false ⟨#[], #[.agg #[.int .i64 0, .int .i64 0, .int .i64 0, .int .i64 0], .agg #[.int .i64 0, .int .i64 0], .agg #[.int .i64 0, .int .i64 0], .int .i64 0, .agg #[.int .i64 0, .int .i64 0], .bool false], []⟩ 8 (by kernel_rfl) (by kernel_rfl) (by kernel_rfl) (by kernel_rfl)) ?_
  intro W base args ds gs before hval0 hW _ _
  have hval : ∀ (j : Nat) t v, Try.f4.params[j]? = some t → args[j]? = some v → Value.okWide Try.prog W .any base t v := hval0
  have hW' := hW
  obtain ⟨p, q, hA0, hV, rfl, hfz, hnd⟩ := hW
  have hA : DataW.TrodAll enc Try.prog W 0 (fun _ => true) true Try.f4.params.toList args.toList ds p := hA0
  rw [Try.params4] at hA hval
  obtain ⟨v0, vs0, d0, ds0, p0, q0, hargs, rfl, rfl, h0, r0⟩ := trodAll_cons hA
  obtain ⟨v1, vs1, d1, ds1, p1, q1, rfl, rfl, rfl, h1, r1⟩ := trodAll_cons r0
  obtain ⟨v2, vs2, d2, ds2, p2, q2, rfl, rfl, rfl, h2, r2⟩ := trodAll_cons r1
  obtain ⟨v3, vs3, d3, ds3, p3, q3, rfl, rfl, rfl, h3, r3⟩ := trodAll_cons r2
  obtain ⟨v4, vs4, d4, ds4, p4, q4, rfl, rfl, rfl, h4, r4⟩ := trodAll_cons r3
  obtain ⟨v5, vs5, d5, ds5, p5, q5, rfl, rfl, rfl, h5, r5⟩ := trodAll_cons r4
  obtain ⟨rfl, rfl, rfl⟩ := trodAll_nil r5
  obtain rfl : args = #[v0, v1, v2, v3, v4, v5] := by cases args; simp_all
  obtain ⟨rfl, rfl⟩ := trodVars_none hV
  obtain ⟨c0_0, c0_1, c0_2, c0_3, y0_0, y0_1, y0_2, y0_3, m0, rfl, rfl, rfl, k0_0, k0_1, k0_2, k0_3⟩ := open_agg4 Try.underlying23 (by kernel_rfl) (by kernel_rfl) (hval 0 23 v0 rfl rfl) h0
  obtain ⟨a0_0, ea0_0, rfl, wa0_0⟩ := DataW.trod_int Try.underlying2 k0_0
  simp at ea0_0; subst ea0_0
  obtain ⟨a0_1, ea0_1, rfl, wa0_1⟩ := DataW.trod_int Try.underlying2 k0_1
  simp at ea0_1; subst ea0_1
  obtain ⟨a0_2, ea0_2, rfl, wa0_2⟩ := DataW.trod_int Try.underlying2 k0_2
  simp at ea0_2; subst ea0_2
  obtain ⟨a0_3, ea0_3, rfl, wa0_3⟩ := DataW.trod_int Try.underlying2 k0_3
  simp at ea0_3; subst ea0_3
  obtain ⟨c1_0, c1_1, y1_0, y1_1, m1, rfl, rfl, rfl, k1_0, k1_1⟩ := open_agg2 Try.underlying25 (by kernel_rfl) (by kernel_rfl) (hval 1 25 v1 rfl rfl) h1
  obtain ⟨a1_0, ea1_0, rfl, wa1_0⟩ := DataW.trod_int Try.underlying2 k1_0
  simp at ea1_0; subst ea1_0
  obtain ⟨a1_1, ea1_1, rfl, wa1_1⟩ := DataW.trod_int Try.underlying2 k1_1
  simp at ea1_1; subst ea1_1
  obtain ⟨c2_0, c2_1, y2_0, y2_1, m2, rfl, rfl, rfl, k2_0, k2_1⟩ := open_agg2 Try.underlying25 (by kernel_rfl) (by kernel_rfl) (hval 2 25 v2 rfl rfl) h2
  obtain ⟨a2_0, ea2_0, rfl, wa2_0⟩ := DataW.trod_int Try.underlying2 k2_0
  simp at ea2_0; subst ea2_0
  obtain ⟨a2_1, ea2_1, rfl, wa2_1⟩ := DataW.trod_int Try.underlying2 k2_1
  simp at ea2_1; subst ea2_1
  obtain ⟨a3, rfl, rfl, rfl, w3⟩ := open_int Try.underlying2 (hval 3 2 v3 rfl rfl) h3
  obtain ⟨c4_0, c4_1, y4_0, y4_1, m4, rfl, rfl, rfl, k4_0, k4_1⟩ := open_agg2 Try.underlying25 (by kernel_rfl) (by kernel_rfl) (hval 4 25 v4 rfl rfl) h4
  obtain ⟨a4_0, ea4_0, rfl, wa4_0⟩ := DataW.trod_int Try.underlying2 k4_0
  simp at ea4_0; subst ea4_0
  obtain ⟨a4_1, ea4_1, rfl, wa4_1⟩ := DataW.trod_int Try.underlying2 k4_1
  simp at ea4_1; subst ea4_1
  obtain ⟨a5, rfl, rfl, rfl⟩ := open_bool Try.underlying4 (hval 5 4 v5 rfl rfl) h5
  have s0 : ∀ (W' : World) (sp : Nat → Bool), DataW.Trod enc Try.prog W' 0 sp true 23 (.agg #[.int .i64 a0_0, .int .i64 a0_1, .int .i64 a0_2, .int .i64 a0_3]) (.agg [.lit (.int .i64 a0_0), .lit (.int .i64 a0_1), .lit (.int .i64 a0_2), .lit (.int .i64 a0_3)]) [] := fun W' sp =>
    shut_agg4 (y0 := (.lit (.int .i64 a0_0), [])) (y1 := (.lit (.int .i64 a0_1), [])) (y2 := (.lit (.int .i64 a0_2), [])) (y3 := (.lit (.int .i64 a0_3), [])) Try.underlying23 (by kernel_rfl) (by kernel_rfl) ⟨1, by simp [DataW.trod, Try.underlying2, wa0_0]⟩ ⟨1, by simp [DataW.trod, Try.underlying2, wa0_1]⟩ ⟨1, by simp [DataW.trod, Try.underlying2, wa0_2]⟩ ⟨1, by simp [DataW.trod, Try.underlying2, wa0_3]⟩
  have s1 : ∀ (W' : World) (sp : Nat → Bool), DataW.Trod enc Try.prog W' 0 sp true 25 (.agg #[.int .i64 a1_0, .int .i64 a1_1]) (.agg [.lit (.int .i64 a1_0), .lit (.int .i64 a1_1)]) [] := fun W' sp =>
    shut_agg2 (y0 := (.lit (.int .i64 a1_0), [])) (y1 := (.lit (.int .i64 a1_1), [])) Try.underlying25 (by kernel_rfl) (by kernel_rfl) ⟨1, by simp [DataW.trod, Try.underlying2, wa1_0]⟩ ⟨1, by simp [DataW.trod, Try.underlying2, wa1_1]⟩
  have s2 : ∀ (W' : World) (sp : Nat → Bool), DataW.Trod enc Try.prog W' 0 sp true 25 (.agg #[.int .i64 a2_0, .int .i64 a2_1]) (.agg [.lit (.int .i64 a2_0), .lit (.int .i64 a2_1)]) [] := fun W' sp =>
    shut_agg2 (y0 := (.lit (.int .i64 a2_0), [])) (y1 := (.lit (.int .i64 a2_1), [])) Try.underlying25 (by kernel_rfl) (by kernel_rfl) ⟨1, by simp [DataW.trod, Try.underlying2, wa2_0]⟩ ⟨1, by simp [DataW.trod, Try.underlying2, wa2_1]⟩
  have s4 : ∀ (W' : World) (sp : Nat → Bool), DataW.Trod enc Try.prog W' 0 sp true 25 (.agg #[.int .i64 a4_0, .int .i64 a4_1]) (.agg [.lit (.int .i64 a4_0), .lit (.int .i64 a4_1)]) [] := fun W' sp =>
    shut_agg2 (y0 := (.lit (.int .i64 a4_0), [])) (y1 := (.lit (.int .i64 a4_1), [])) Try.underlying25 (by kernel_rfl) (by kernel_rfl) ⟨1, by simp [DataW.trod, Try.underlying2, wa4_0]⟩ ⟨1, by simp [DataW.trod, Try.underlying2, wa4_1]⟩
  clear hA0 hval0
  simp only [List.append_nil] at hW'
  refine (walk a0_0 a0_1 a0_2 a0_3 a1_0 a1_1 a2_0 a2_1 a3 a4_0 a4_1 a5 (bounds_i64 wa0_0).1 (bounds_i64 wa0_0).2 (bounds_i64 wa0_1).1 (bounds_i64 wa0_1).2 (bounds_i64 wa0_2).1 (bounds_i64 wa0_2).2 (bounds_i64 wa0_3).1 (bounds_i64 wa0_3).2 (bounds_i64 wa1_0).1 (bounds_i64 wa1_0).2 (bounds_i64 wa1_1).1 (bounds_i64 wa1_1).2 (bounds_i64 wa2_0).1 (bounds_i64 wa2_0).2 (bounds_i64 wa2_1).1 (bounds_i64 wa2_1).2 (bounds_i64 w3).1 (bounds_i64 w3).2 (bounds_i64 wa4_0).1 (bounds_i64 wa4_0).2 (bounds_i64 wa4_1).1 (bounds_i64 wa4_1).2 W).mono fun e W' ⟨he, bel⟩ => ?_
  subst he
  exact ⟨_, rfl, _, _, _, [], _, [], hW', trodAll_mk1 (shut_bool Try.underlying4 _), (trodAll_cons_mk (s0 _ _) (trodAll_cons_mk (s1 _ _) (trodAll_cons_mk (s2 _ _) (trodAll_cons_mk (shut_int Try.underlying2 w3) (trodAll_cons_mk (s4 _ _) (trodAll_cons_mk (shut_bool Try.underlying4 a5) trodAll_mk0)))))), rfl, bel.frame _, fun h => by cases h⟩
theorem over : Rows.barTellsRow.holds Try.pinned (OpenSpec.ofChange Rows.barTellsSpec) :=
  OpenClaim.holds_of_wide 4 Try.f4 rfl rfl rfl rfl rfl rfl rfl ⟨rfl, rfl, rfl, rfl, rfl⟩ rfl rfl rfl rfl rfl (by kernel_rfl) Try.func4 (by kernel_rfl)
    (of_decide_eq_true (by kernel_rfl)) (by unfold Func.isWrapper; first | (rw [if_pos (by decide +kernel)]; kernel_rfl) | (rw [if_neg (by decide +kernel)]; exact ⟨rfl, rfl⟩))
    (fun os started H enc _ => lifted os started H enc)
theorem proved : Rows.BarTellsSaid := over
#print axioms proved
end Go.Proofs.Ythdoibknjehdoaa.barTells
