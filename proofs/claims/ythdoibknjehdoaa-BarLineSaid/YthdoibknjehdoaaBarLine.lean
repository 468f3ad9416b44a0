/- A bar is a stroke without its ends, and the same from either end: for every segment, half width and point that the law makes of any seven numbers of 64 bits. No condition. -/
import Derived.Test.YthdoibknjehdoaaRows
import Derived.Test.YthdoibknjehdoaaAwake8
import Derived.Test.YthdoibknjehdoaaLaws7
import Derived.Test.YthdoibknjehdoaaHeld8
import Derived.Test.YthdoibknjehdoaaFloat
import Derived.Test.YthdoibknjehdoaaLine
import Derived.Test.YthdoibknjehdoaaBarTally
import Derived.ProofKit
import Derived.OpenShut
import Derived.ShutString
import Derived.ChangeOld
import Derived.Below
import Derived.Lib.SmallJoins
import Derived.Lib.QuietBelow
import Derived.BigQuiet
namespace Go.Proofs.Ythdoibknjehdoaa.barLine
open Go.ChangeShapes Go.WideShapes Go.ChangeAt Go.RowKit Go.Joins
open Go.Sort (grow)

set_option maxRecDepth 100000 in
set_option maxHeartbeats 32000000 in
theorem core (e0 e1 f0 f1 rr p0 p1 : Int) (x y u v s t r1 r' : Int)
    (X1 : ∀ w, Calls Try.prog 9 #[ptV e0 e1, .int .i64 20] w fun e w' => e = .returned (ptV x y) ∧ Below w.heap.size w w')
    (X2 : ∀ w, Calls Try.prog 9 #[ptV f0 f1, .int .i64 20] w fun e w' => e = .returned (ptV u v) ∧ Below w.heap.size w w')
    (X3 : ∀ w, Calls Try.prog 9 #[ptV p0 p1, .int .i64 40] w fun e w' => e = .returned (ptV s t) ∧ Below w.heap.size w w')
    (X4 : ∀ w, Calls Try.prog 10 #[.int .i64 rr] w fun e w' => e = .returned (.int .i64 r1) ∧ Below w.heap.size w w')
    (hx : -20 ≤ x ∧ x ≤ 20 ∧ -20 ≤ y ∧ y ≤ 20) (hu : -20 ≤ u ∧ u ≤ 20 ∧ -20 ≤ v ∧ v ≤ 20) (hs : -40 ≤ s ∧ s ≤ 40 ∧ -40 ≤ t ∧ t ≤ 40)
    (hr : r1.tmod 12 = r') (ra : 0 ≤ r') (rb : r' ≤ 11) (w : World) :
    Calls Try.prog 6 #[ptV e0 e1, ptV f0 f1, .int .i64 rr, ptV p0 p1] w fun e w' => e = .returned (.bool true) ∧ Below w.heap.size w w' := by
  have HX1 := Lib.hid X1
  have HX2 := Lib.hid X2
  have HX3 := Lib.hid X3
  have HX4 := Lib.hid X4
  have HX := Lib.hid hx
  have HU := Lib.hid hu
  have HS := Lib.hid hs
  have HR := Lib.hid hr
  have F0 := ppp_new w e0 e1 f0 f1 p0 p1 25
  have B0 := bel_newPPP w e0 e1 f0 f1 p0 p1 25
  unfold newPPP at F0 B0
  have F0 := Lib.hid F0
  have B0 := Lib.hid B0
  clear X1 X2 X3 X4 hx hu hs hr
  go_enter Try.func6, Try.ntmps6
  go_wp2_with fail
  generalize (((w.alloc (.cells #[.int .i64 e0, .int .i64 e1] 25)).alloc (.cells #[.int .i64 f0, .int .i64 f1] 25)).alloc (.cells #[.int .i64 p0, .int .i64 p1] 25)) = V at *
  obtain ⟨⟨⟨i0, i1, il⟩, fi⟩, ⟨⟨j0, j1, jl⟩, fj⟩, ⟨⟨l0, l1, ll⟩, fl⟩⟩ := F0.out
  have i0 := cell_regrown i0
  have i1 := cell_regrown i1
  have j0 := cell_regrown j0
  have j1 := cell_regrown j1
  have l0 := cell_regrown l0
  have l1 := cell_regrown l1
  have D1 := Lib.hid (fun p : Regrown => Calls.regrown_of (HX1.out (grow (redrawn V p.d) p.os)))
  have D2 := Lib.hid (fun p : Regrown => Calls.regrown_of (HX2.out (grow (redrawn V p.d) p.os)))
  have D3 := Lib.hid (fun p : Regrown => Calls.regrown_of (HX3.out (grow (redrawn V p.d) p.os)))
  have D4 := Lib.hid (fun p : Regrown => Calls.regrown_of (HX4.out (grow (redrawn V p.d) p.os)))
  clear HX1 HX2 HX3 HX4
  refine wp_region_any (by kernel_rfl) ?_
  change wpAny _ _ _ _ 14 _ _ (World.drew _)
  refine any_heads_below (n := 8) (g := 6) (e := #[true, true, true, true, true, true, true, true, false, false, false, false, false, false]) (by kernel_rfl) ?_
  simp only [List.take_succ_cons, List.take_zero]
  repeat (go_big_quiet_step (first | with_reducible exact D1.out _ | with_reducible exact D2.out _ | with_reducible exact D3.out _ | with_reducible exact D4.out _))
  refine wpQuiet_nil ?_
  intro _ hw'
  obtain ⟨⟨dr, osr⟩, hw''⟩ := hw'
  subst hw''
  clear i0 i1 j0 j1 l0 l1 D1 D2 D3 D4 il fi jl fj ll fl
  have zz := below_regrown V dr osr
  have F1 := Lib.hid (F0.out.later zz)
  have B1 := Lib.hid (bel_trans B0.out zz)
  clear F0 B0 zz
  generalize grow (redrawn V dr) osr = V1 at *
  have hr := HR.out
  have s1 : IntKind.i64.wrap (r' + 1) = r' + 1 := IntWalk.i64_in _ (by omega)
  refine any_take 8 20 (.int .i64 r') rfl rfl (by kernel_rfl) (by kernel_rfl) (by kernel_rfl) (fun _ _ _ h => h) (by rfl) (fun w => by go_simp) ?_
  refine any_take 9 21 (.int .i64 (r' + 1)) rfl rfl (by kernel_rfl) (by kernel_rfl) (by kernel_rfl) (fun _ _ _ h => h) (by rfl) (fun w => by go_simp) ?_
  refine any_tail (n := 10) rfl (by kernel_rfl) ?_
  simp only [List.drop_succ_cons, List.drop_zero, Act.put, List.setIfInBounds_toArray, List.set_cons_zero, List.set_cons_succ]
  clear hr s1 HR
  obtain ⟨r, hr⟩ : ∃ r, r' + 1 = r := ⟨_, rfl⟩
  have rc : 1 ≤ r := by omega
  have rd : r ≤ 12 := by omega
  rw [hr]
  clear hr ra rb
  obtain ⟨⟨⟨i0, i1, il⟩, fi⟩, ⟨⟨j0, j1, jl⟩, fj⟩, ⟨⟨l0, l1, ll⟩, fl⟩⟩ := F1.out
  go_upto_region 2 with (fail)
  clear i0 i1 j0 j1 l0 l1 il fi jl fj ll fl
  have F2 := F1.out.stored x y u v s t
  have B2 := bel_ppp B1.out (Nat.le_refl _) x y u v s t
  unfold setPPP at F2 B2
  have F2 := Lib.hid F2
  have B2 := Lib.hid B2
  clear F1 B1
  generalize ((((((V1.setCell ⟨w.heap.size, 0, none⟩ (.int .i64 x)).setCell ⟨w.heap.size, 1, none⟩ (.int .i64 y)).setCell ⟨w.heap.size + 1, 0, none⟩ (.int .i64 u)).setCell ⟨w.heap.size + 1, 1, none⟩ (.int .i64 v)).setCell ⟨w.heap.size + 1 + 1, 0, none⟩ (.int .i64 s)).setCell ⟨w.heap.size + 1 + 1, 1, none⟩ (.int .i64 t)) = V2 at *
  obtain ⟨gi, gj, gk, gl⟩ := HX.out
  obtain ⟨gm, gn, go, gp⟩ := HU.out
  obtain ⟨gq, gr, gs, gt⟩ := HS.out
  obtain ⟨h, hh⟩ : ∃ h, barB x y u v r s t = h := ⟨_, rfl⟩
  obtain ⟨l, hl⟩ : ∃ h, lineB x y u v r s t = h := ⟨_, rfl⟩
  have bl := bar_line (a1 := x) (a2 := y) (c1 := u) (c2 := v) (s := s) (t := t) rc
  have CH := Lib.hid (fun w => barHas_is hh (by omega) (by omega) (by omega) (by omega) (by omega) (by omega) (by omega) (by omega) (by omega) (by omega) (by omega) (by omega) (by omega) w)
  have CS := Lib.hid (fun w => barHas_is (bar_swap.trans hh) (by omega) (by omega) (by omega) (by omega) (by omega) (by omega) (by omega) (by omega) (by omega) (by omega) (by omega) (by omega) (by omega) w)
  have CL := Lib.hid (fun w => lineHas_is hl (by omega) (by omega) (by omega) (by omega) (by omega) (by omega) (by omega) (by omega) (by omega) (by omega) (by omega) (by omega) (by omega) w)
  have ob := dotI_bd (x := x) (y := y) (u := u) (v := v) (s := s) (t := t) (by omega) (by omega) (by omega) (by omega) (by omega) (by omega) (by omega) (by omega) (by omega) (by omega) (by omega) (by omega)
  have Lb := sqI_bd (x := x) (y := y) (u := u) (v := v) (by omega) (by omega) (by omega) (by omega) (by omega) (by omega) (by omega) (by omega)
  have m1 := mul_bd (X := u - x) (Y := s - x) (by omega) (by omega) (by omega) (by omega)
  have m2 := mul_bd (X := v - y) (Y := t - y) (by omega) (by omega) (by omega) (by omega)
  have m3 := mul_bd (X := u - x) (Y := u - x) (by omega) (by omega) (by omega) (by omega)
  have m4 := mul_bd (X := v - y) (Y := v - y) (by omega) (by omega) (by omega) (by omega)
  rw [hh, hl] at bl
  have zero := fun (e : x = u ∧ y = v) => (show sqI x y u v = 0 by rw [e.1, e.2]; unfold sqI; grind)
  have pos := fun (e : ¬ (x = u ∧ y = v)) => (show 0 < sqI x y u v by
    have p1 := sq_nonneg (u - x); have p2 := sq_nonneg (v - y)
    unfold sqI
    rcases Int.lt_trichotomy (u - x) 0 with g | g | g
    · have := Int.mul_pos_of_neg_of_neg g g; omega
    · rcases Int.lt_trichotomy (v - y) 0 with g' | g' | g'
      · have := Int.mul_pos_of_neg_of_neg g' g'; omega
      · omega
      · have := Int.mul_pos g' g'; omega
    · have := Int.mul_pos g g; omega)
  obtain ⟨o, ho⟩ : ∃ o, dotI x y u v s t = o := ⟨_, rfl⟩
  obtain ⟨K, hK⟩ : ∃ K, sqI x y u v = K := ⟨_, rfl⟩
  rw [ho] at bl ob
  rw [hK] at bl Lb zero pos
  have v1 : IntKind.i64.wrap ((u - x) * (s - x) + (v - y) * (t - y)) = o := by rw [← ho]; exact IntWalk.i64_in _ (by omega)
  have v2 : IntKind.i64.wrap ((u - x) * (u - x) + (v - y) * (v - y)) = K := by rw [← hK]; exact IntWalk.i64_in _ (by omega)
  have BLH := Lib.hid bl
  have ZZ := Lib.hid zero
  have PP := Lib.hid pos
  clear hh hl ho hK bl zero pos
  obtain ⟨⟨⟨i0, i1, il⟩, fi⟩, ⟨⟨j0, j1, jl⟩, fj⟩, ⟨⟨l0, l1, ll⟩, fl⟩⟩ := F2.out
  go_upto_region 4 with (fail)
  clear m1 m2 m3 m4 v1 v2 HX HU HS gi gj gk gl gm gn go gp gq gr gs gt
  go_wp2_with fail
  refine (CH.out _).mono ?_; rintro e wD ⟨rfl, z1⟩
  have F3 := Lib.hid (F2.out.later z1)
  have B3 := Lib.hid (bel_trans B2.out z1)
  clear z1 F2 B2 i0 i1 j0 j1 l0 l1 il fi jl fj ll fl CH
  obtain ⟨⟨⟨i0, i1, il⟩, fi⟩, ⟨⟨j0, j1, jl⟩, fj⟩, ⟨⟨l0, l1, ll⟩, fl⟩⟩ := F3.out
  by_cases exy : x = u ∧ y = v
  · have hz := ZZ.out exy
    have hf : h = false := by rw [BLH.out, hz]; rfl
    obtain ⟨rfl, rfl⟩ := exy
    subst hf
    clear ZZ PP BLH hz
    go_wp2_with fail
    refine (CS.out _).mono ?_; rintro e w2 ⟨rfl, z2⟩
    go_wp2_with fail
    refine (awake_any _).mono ?_; rintro e w3 ⟨rfl, z3⟩
    go_wp2
    go_ret
    exact ⟨rfl, bel_trans (bel_trans B3.out z2) z3⟩
  have hz := PP.out exy
  have e0 : decide (0 < K) = true := decide_eq_true hz
  have BLQ := Lib.hid (show h = (true && decide (0 ≤ o) && decide (o ≤ K) && l) by rw [BLH.out, e0])
  have hsp : (¬ x = u) ∨ (x = u ∧ ¬ y = v) := by
    by_cases e : x = u
    · exact .inr ⟨e, fun e' => exy ⟨e, e'⟩⟩
    · exact .inl e
  clear ZZ PP hz e0 BLH exy
  rcases hsp with hx | ⟨rfl, hy⟩
  · have hx' : (x == u) = false := beq_eq_false_iff_ne.2 hx
    by_cases h3 : 0 ≤ o
    case neg =>
      have e3 : decide (0 ≤ o) = false := decide_eq_false h3
      have hf : h = false := by rw [BLQ.out, e3]; rfl
      clear BLQ
      subst hf
      go_wp2_with fail
      refine (CS.out _).mono ?_; rintro e w2 ⟨rfl, z2⟩
      go_wp2_with fail
      refine (awake_any _).mono ?_; rintro e w3 ⟨rfl, z3⟩
      go_wp2
      go_ret
      exact ⟨rfl, bel_trans (bel_trans B3.out z2) z3⟩
    have e3 : decide (0 ≤ o) = true := decide_eq_true h3
    by_cases h4 : o ≤ K
    case neg =>
      have e4 : decide (o ≤ K) = false := decide_eq_false h4
      have hf : h = false := by rw [BLQ.out, e3, e4]; rfl
      clear BLQ
      subst hf
      go_wp2_with fail
      refine (CS.out _).mono ?_; rintro e w2 ⟨rfl, z2⟩
      go_wp2_with fail
      refine (awake_any _).mono ?_; rintro e w3 ⟨rfl, z3⟩
      go_wp2
      go_ret
      exact ⟨rfl, bel_trans (bel_trans B3.out z2) z3⟩
    have e4 : decide (o ≤ K) = true := decide_eq_true h4
    have hf : l = h := by rw [BLQ.out, e3, e4]; rfl
    clear BLQ
    subst hf
    go_wp2_with fail
    refine (CL.out _).mono ?_; rintro e w1 ⟨rfl, z1⟩
    have F4 := Lib.hid (F3.out.later z1)
    have B4 := Lib.hid (bel_trans B3.out z1)
    clear z1 F3 B3 i0 i1 j0 j1 l0 l1 il fi jl fj ll fl
    obtain ⟨⟨⟨i0, i1, il⟩, fi⟩, ⟨⟨j0, j1, jl⟩, fj⟩, ⟨⟨l0, l1, ll⟩, fl⟩⟩ := F4.out
    go_wp2_with fail
    refine (CS.out _).mono ?_; rintro e w2 ⟨rfl, z2⟩
    go_wp2_with fail
    refine (awake_any _).mono ?_; rintro e w3 ⟨rfl, z3⟩
    go_wp2
    go_ret
    exact ⟨rfl, bel_trans (bel_trans B4.out z2) z3⟩
  · have hy' : (y == v) = false := beq_eq_false_iff_ne.2 hy
    by_cases h3 : 0 ≤ o
    case neg =>
      have e3 : decide (0 ≤ o) = false := decide_eq_false h3
      have hf : h = false := by rw [BLQ.out, e3]; rfl
      clear BLQ
      subst hf
      go_wp2_with fail
      refine (CS.out _).mono ?_; rintro e w2 ⟨rfl, z2⟩
      go_wp2_with fail
      refine (awake_any _).mono ?_; rintro e w3 ⟨rfl, z3⟩
      go_wp2
      go_ret
      exact ⟨rfl, bel_trans (bel_trans B3.out z2) z3⟩
    have e3 : decide (0 ≤ o) = true := decide_eq_true h3
    by_cases h4 : o ≤ K
    case neg =>
      have e4 : decide (o ≤ K) = false := decide_eq_false h4
      have hf : h = false := by rw [BLQ.out, e3, e4]; rfl
      clear BLQ
      subst hf
      go_wp2_with fail
      refine (CS.out _).mono ?_; rintro e w2 ⟨rfl, z2⟩
      go_wp2_with fail
      refine (awake_any _).mono ?_; rintro e w3 ⟨rfl, z3⟩
      go_wp2
      go_ret
      exact ⟨rfl, bel_trans (bel_trans B3.out z2) z3⟩
    have e4 : decide (o ≤ K) = true := decide_eq_true h4
    have hf : l = h := by rw [BLQ.out, e3, e4]; rfl
    clear BLQ
    subst hf
    go_wp2_with fail
    refine (CL.out _).mono ?_; rintro e w1 ⟨rfl, z1⟩
    have F4 := Lib.hid (F3.out.later z1)
    have B4 := Lib.hid (bel_trans B3.out z1)
    clear z1 F3 B3 i0 i1 j0 j1 l0 l1 il fi jl fj ll fl
    obtain ⟨⟨⟨i0, i1, il⟩, fi⟩, ⟨⟨j0, j1, jl⟩, fj⟩, ⟨⟨l0, l1, ll⟩, fl⟩⟩ := F4.out
    go_wp2_with fail
    refine (CS.out _).mono ?_; rintro e w2 ⟨rfl, z2⟩
    go_wp2_with fail
    refine (awake_any _).mono ?_; rintro e w3 ⟨rfl, z3⟩
    go_wp2
    go_ret
    exact ⟨rfl, bel_trans (bel_trans B4.out z2) z3⟩
theorem walk (e0 e1 f0 f1 rr p0 p1 : Int) (_ : -9223372036854775808 ≤ e0) (_ : e0 ≤ 9223372036854775807) (_ : -9223372036854775808 ≤ e1) (_ : e1 ≤ 9223372036854775807) (_ : -9223372036854775808 ≤ f0) (_ : f0 ≤ 9223372036854775807) (_ : -9223372036854775808 ≤ f1) (_ : f1 ≤ 9223372036854775807) (_ : -9223372036854775808 ≤ rr) (_ : rr ≤ 9223372036854775807) (_ : -9223372036854775808 ≤ p0) (_ : p0 ≤ 9223372036854775807) (_ : -9223372036854775808 ≤ p1) (_ : p1 ≤ 9223372036854775807) (w : World) :
    Calls Try.prog 6 #[ptV e0 e1, ptV f0 f1, .int .i64 rr, ptV p0 p1] w fun e w' => e = .returned (.bool true) ∧ Below w.heap.size w w' := by
  obtain ⟨x, y, hx, X1⟩ := close_form e0 e1 20 21 (by omega) (by omega) rfl
  obtain ⟨u, v, hu, X2⟩ := close_form f0 f1 20 21 (by omega) (by omega) rfl
  obtain ⟨s, t, hs, X3⟩ := close_form p0 p1 40 41 (by omega) (by omega) rfl
  obtain ⟨r, r1, r2, X4⟩ := r_form rr
  obtain ⟨r', r3, r4, hr⟩ := r_left (n := 12) r1 (by omega)
  exact core e0 e1 f0 f1 rr p0 p1 x y u v s t r r' X1 X2 X3 (fun w => r_low X4 w) hx hu hs hr r3 (by omega) w
theorem own : ownKnob Try.prog.godebug = none := by kernel_rfl
set_option maxRecDepth 100000 in
set_option maxHeartbeats 4000000 in
theorem lifted (os : Os) (started : os.Started) (H : Type) (enc : TypeId × Value → H) :
    ReturnsInHanded {} Try.checked os 6 .any (Rows.barLineSpec.pre6 enc Try.prog Try.f6 Rows.barLineRow.domain false) (Rows.barLineSpec.post enc Try.prog Try.f6 false true false false) := by
  refine returnsInHanded_of_change (C := Try.checked) own started (by kernel_rfl) Try.func6
    (ChangeSpec.witness6 (enc := enc) (C := Try.checked) false ⟨#[], #[.agg #[.int .i64 0, .int .i64 0], .agg #[.int .i64 0, .int .i64 0], .int .i64 0, .agg #[.int .i64 0, .int .i64 0]], []⟩ 8 (by kernel_rfl) (by kernel_rfl) (by kernel_rfl) (by kernel_rfl)) ?_
  intro W base args ds gs before hval0 hW _ _
  have hval : ∀ (j : Nat) t v, Try.f6.params[j]? = some t → args[j]? = some v → Value.okWide Try.prog W .any base t v := hval0
  have hW' := hW
  obtain ⟨p, q, hA0, hV, rfl, hfz, hnd⟩ := hW
  have hA : DataW.TrodAll enc Try.prog W 0 (fun _ => true) true Try.f6.params.toList args.toList ds p := hA0
  rw [Try.params6] at hA hval
  obtain ⟨v0, vs0, d0, ds0, p0, q0, hargs, rfl, rfl, h0, r0⟩ := trodAll_cons hA
  obtain ⟨v1, vs1, d1, ds1, p1, q1, rfl, rfl, rfl, h1, r1⟩ := trodAll_cons r0
  obtain ⟨v2, vs2, d2, ds2, p2, q2, rfl, rfl, rfl, h2, r2⟩ := trodAll_cons r1
  obtain ⟨v3, vs3, d3, ds3, p3, q3, rfl, rfl, rfl, h3, r3⟩ := trodAll_cons r2
  obtain ⟨rfl, rfl, rfl⟩ := trodAll_nil r3
  obtain rfl : args = #[v0, v1, v2, v3] := by cases args; simp_all
  obtain ⟨rfl, rfl⟩ := trodVars_none hV
  obtain ⟨c0_0, c0_1, y0_0, y0_1, m0, rfl, rfl, rfl, k0_0, k0_1⟩ := open_agg2 Try.underlying25 (by kernel_rfl) (by kernel_rfl) (hval 0 25 v0 rfl rfl) h0
  obtain ⟨a0_0, ea0_0, rfl, wa0_0⟩ := DataW.trod_int Try.underlying2 k0_0
  simp at ea0_0; subst ea0_0
  obtain ⟨a0_1, ea0_1, rfl, wa0_1⟩ := DataW.trod_int Try.underlying2 k0_1
  simp at ea0_1; subst ea0_1
  obtain ⟨c1_0, c1_1, y1_0, y1_1, m1, rfl, rfl, rfl, k1_0, k1_1⟩ := open_agg2 Try.underlying25 (by kernel_rfl) (by kernel_rfl) (hval 1 25 v1 rfl rfl) h1
  obtain ⟨a1_0, ea1_0, rfl, wa1_0⟩ := DataW.trod_int Try.underlying2 k1_0
  simp at ea1_0; subst ea1_0
  obtain ⟨a1_1, ea1_1, rfl, wa1_1⟩ := DataW.trod_int Try.underlying2 k1_1
  simp at ea1_1; subst ea1_1
  obtain ⟨a2, rfl, rfl, rfl, w2⟩ := open_int Try.underlying2 (hval 2 2 v2 rfl rfl) h2
  obtain ⟨c3_0, c3_1, y3_0, y3_1, m3, rfl, rfl, rfl, k3_0, k3_1⟩ := open_agg2 Try.underlying25 (by kernel_rfl) (by kernel_rfl) (hval 3 25 v3 rfl rfl) h3
  obtain ⟨a3_0, ea3_0, rfl, wa3_0⟩ := DataW.trod_int Try.underlying2 k3_0
  simp at ea3_0; subst ea3_0
  obtain ⟨a3_1, ea3_1, rfl, wa3_1⟩ := DataW.trod_int Try.underlying2 k3_1
  simp at ea3_1; subst ea3_1
  have s0 : ∀ (W' : World) (sp : Nat → Bool), DataW.Trod enc Try.prog W' 0 sp true 25 (.agg #[.int .i64 a0_0, .int .i64 a0_1]) (.agg [.lit (.int .i64 a0_0), .lit (.int .i64 a0_1)]) [] := fun W' sp =>
    shut_agg2 (y0 := (.lit (.int .i64 a0_0), [])) (y1 := (.lit (.int .i64 a0_1), [])) Try.underlying25 (by kernel_rfl) (by kernel_rfl) ⟨1, by simp [DataW.trod, Try.underlying2, wa0_0]⟩ ⟨1, by simp [DataW.trod, Try.underlying2, wa0_1]⟩
  have s1 : ∀ (W' : World) (sp : Nat → Bool), DataW.Trod enc Try.prog W' 0 sp true 25 (.agg #[.int .i64 a1_0, .int .i64 a1_1]) (.agg [.lit (.int .i64 a1_0), .lit (.int .i64 a1_1)]) [] := fun W' sp =>
    shut_agg2 (y0 := (.lit (.int .i64 a1_0), [])) (y1 := (.lit (.int .i64 a1_1), [])) Try.underlying25 (by kernel_rfl) (by kernel_rfl) ⟨1, by simp [DataW.trod, Try.underlying2, wa1_0]⟩ ⟨1, by simp [DataW.trod, Try.underlying2, wa1_1]⟩
  have s3 : ∀ (W' : World) (sp : Nat → Bool), DataW.Trod enc Try.prog W' 0 sp true 25 (.agg #[.int .i64 a3_0, .int .i64 a3_1]) (.agg [.lit (.int .i64 a3_0), .lit (.int .i64 a3_1)]) [] := fun W' sp =>
    shut_agg2 (y0 := (.lit (.int .i64 a3_0), [])) (y1 := (.lit (.int .i64 a3_1), [])) Try.underlying25 (by kernel_rfl) (by kernel_rfl) ⟨1, by simp [DataW.trod, Try.underlying2, wa3_0]⟩ ⟨1, by simp [DataW.trod, Try.underlying2, wa3_1]⟩
  clear hA0 hval0
  simp only [List.append_nil] at hW'
  refine (walk a0_0 a0_1 a1_0 a1_1 a2 a3_0 a3_1 (bounds_i64 wa0_0).1 (bounds_i64 wa0_0).2 (bounds_i64 wa0_1).1 (bounds_i64 wa0_1).2 (bounds_i64 wa1_0).1 (bounds_i64 wa1_0).2 (bounds_i64 wa1_1).1 (bounds_i64 wa1_1).2 (bounds_i64 w2).1 (bounds_i64 w2).2 (bounds_i64 wa3_0).1 (bounds_i64 wa3_0).2 (bounds_i64 wa3_1).1 (bounds_i64 wa3_1).2 W).mono fun e W' ⟨he, bel⟩ => ?_
  subst he
  exact ⟨_, rfl, _, _, _, [], _, [], hW', trodAll_mk1 (shut_bool Try.underlying4 _), (trodAll_cons_mk (s0 _ _) (trodAll_cons_mk (s1 _ _) (trodAll_cons_mk (shut_int Try.underlying2 w2) (trodAll_cons_mk (s3 _ _) trodAll_mk0)))), rfl, bel.frame _, fun h => by cases h⟩
theorem over : Rows.barLineRow.holds Try.pinned (OpenSpec.ofChange Rows.barLineSpec) :=
  OpenClaim.holds_of_wide 6 Try.f6 rfl rfl rfl rfl rfl rfl rfl ⟨rfl, rfl, rfl, rfl, rfl⟩ rfl rfl rfl rfl rfl (by kernel_rfl) Try.func6 (by kernel_rfl)
    (of_decide_eq_true (by kernel_rfl)) (by unfold Func.isWrapper; first | (rw [if_pos (by decide +kernel)]; kernel_rfl) | (rw [if_neg (by decide +kernel)]; exact ⟨rfl, rfl⟩))
    (fun os started H enc _ => lifted os started H enc)
theorem proved : Rows.BarLineSaid := over
#print axioms proved
end Go.Proofs.Ythdoibknjehdoaa.barLine
