/- In and Out are sure: a box is In a bar just if its four corners are in it; a point of the box is in the bar where the box is In, and where it is Out neither it nor a corner is: for every box, both ends, half width and point of the box that the law makes of any eleven numbers of 64 bits, great and small. No condition. -/
import Derived.Test.YthdoibknjehdoaaRows
import Derived.Test.YthdoibknjehdoaaAwake8
import Derived.Test.YthdoibknjehdoaaLaws7
import Derived.Test.YthdoibknjehdoaaHeld5
import Derived.Test.YthdoibknjehdoaaFloat
import Derived.Test.YthdoibknjehdoaaRefBar
import Derived.Test.YthdoibknjehdoaaRefLineC
import Derived.ProofKit
import Derived.OpenShut
import Derived.ShutString
import Derived.ChangeOld
import Derived.Below
import Derived.Lib.SmallJoins
import Derived.Lib.QuietBelow
import Derived.BigQuiet
namespace Go.Proofs.Ythdoibknjehdoaa.barSure
open Go.ChangeShapes Go.WideShapes Go.ChangeAt Go.RowKit Go.Joins
open Go.Sort (grow)

/-- A box that may be, ends that are not too far, a half width that may be, in their blocks. -/
def Fin (w : World) (s3 : Value) (wc : World) : Prop :=
  ∃ a b c d x y u v r : Int, s3 = .int .i64 r ∧ ((-536870912 ≤ a ∧ a ≤ c ∧ c ≤ 536870912) ∧ (-536870912 ≤ b ∧ b ≤ d ∧ d ≤ 536870912) ∧ (-536870912 ≤ x ∧ x ≤ 536870912 ∧ -536870912 ≤ y ∧ y ≤ 536870912) ∧ (-536870912 ≤ u ∧ u ≤ 536870912 ∧ -536870912 ≤ v ∧ v ≤ 536870912) ∧ 1 ≤ r ∧ r ≤ 536870912) ∧
    BPP w.heap.size a b c d x y u v wc ∧ Below w.heap.size w wc

set_option maxRecDepth 100000 in
set_option maxHeartbeats 32000000 in
theorem core (b0 b1 b2 b3 e0 e1 f0 f1 rr xx yy : Int) (small : Bool) (a b c d x y u v r : Int)
    (X1 : ∀ w, Calls Try.prog 14 #[boxV b0 b1 b2 b3] w fun e w' => e = .returned (boxV a b c d) ∧ Below w.heap.size w w')
    (X2 : ∀ w, Calls Try.prog 15 #[ptV e0 e1] w fun e w' => e = .returned (ptV x y) ∧ Below w.heap.size w w')
    (X3 : ∀ w, Calls Try.prog 15 #[ptV f0 f1] w fun e w' => e = .returned (ptV u v) ∧ Below w.heap.size w w')
    (X4 : ∀ w, Calls Try.prog 10 #[.int .i64 rr] w fun e w' => e = .returned (.int .i64 r) ∧ Below w.heap.size w w')
    (hbd : ((-536870912 ≤ a ∧ a ≤ c ∧ c ≤ 536870912) ∧ (-536870912 ≤ b ∧ b ≤ d ∧ d ≤ 536870912) ∧ (-536870912 ≤ x ∧ x ≤ 536870912 ∧ -536870912 ≤ y ∧ y ≤ 536870912) ∧ (-536870912 ≤ u ∧ u ≤ 536870912 ∧ -536870912 ≤ v ∧ v ≤ 536870912) ∧ 1 ≤ r ∧ r ≤ 536870912)) (w : World) :
    Calls Try.prog 5 #[boxV b0 b1 b2 b3, ptV e0 e1, ptV f0 f1, .int .i64 rr, .int .i64 xx, .int .i64 yy, .bool small] w fun e w' => e = .returned (.bool true) ∧ Below w.heap.size w w' := by
  have HX1 := Lib.hid X1
  have HX2 := Lib.hid X2
  have HX3 := Lib.hid X3
  have HX4 := Lib.hid X4
  have HBD := Lib.hid hbd
  have F0 := bpp_new w b0 b1 b2 b3 e0 e1 f0 f1 23 25
  have B0 := bel_newBPP w b0 b1 b2 b3 e0 e1 f0 f1 23 25
  unfold newBPP at F0 B0
  have F0 := Lib.hid F0
  have B0 := Lib.hid B0
  clear X1 X2 X3 X4 hbd
  go_enter Try.func5, Try.ntmps5
  go_wp2_with fail
  generalize (((w.alloc (.cells #[.int .i64 b0, .int .i64 b1, .int .i64 b2, .int .i64 b3] 23)).alloc (.cells #[.int .i64 e0, .int .i64 e1] 25)).alloc (.cells #[.int .i64 f0, .int .i64 f1] 25)) = V at *
  obtain ⟨⟨⟨i0, i1, i2, i3, il⟩, fi⟩, ⟨⟨j0, j1, jl⟩, fj⟩, ⟨⟨l0, l1, ll⟩, fl⟩⟩ := F0.out
  have i0 := cell_regrown i0
  have i1 := cell_regrown i1
  have i2 := cell_regrown i2
  have i3 := cell_regrown i3
  have j0 := cell_regrown j0
  have j1 := cell_regrown j1
  have l0 := cell_regrown l0
  have l1 := cell_regrown l1
  have D1 := Lib.hid (fun p : Regrown => Calls.regrown_of (HX1.out (grow (redrawn V p.d) p.os)))
  have D2 := Lib.hid (fun p : Regrown => Calls.regrown_of (HX2.out (grow (redrawn V p.d) p.os)))
  have D3 := Lib.hid (fun p : Regrown => Calls.regrown_of (HX3.out (grow (redrawn V p.d) p.os)))
  have D4 := Lib.hid (fun p : Regrown => Calls.regrown_of (HX4.out (grow (redrawn V p.d) p.os)))
  clear HX1 HX2 HX3 HX4
  refine region_below_tail 8 (by kernel_rfl) (by kernel_rfl) ?_
  simp only [List.take_succ_cons, List.take_zero]
  repeat (go_big_quiet_step (first | with_reducible exact D1.out _ | with_reducible exact D2.out _ | with_reducible exact D3.out _ | with_reducible exact D4.out _))
  refine wpQuiet_nil ?_
  intro _ hw'
  obtain ⟨⟨dr, osr⟩, hw''⟩ := hw'
  subst hw''
  clear i0 i1 i2 i3 j0 j1 l0 l1 D1 D2 D3 D4 il fi jl fj ll fl
  have zz := below_regrown V dr osr
  have F1 := Lib.hid (F0.out.later zz)
  have B1 := Lib.hid (bel_trans B0.out zz)
  clear F0 B0 zz
  generalize grow (redrawn V dr) osr = V1 at *
  simp only [List.drop_succ_cons, List.drop_zero]
  obtain ⟨⟨⟨i0, i1, i2, i3, il⟩, fi⟩, ⟨⟨j0, j1, jl⟩, fj⟩, ⟨⟨l0, l1, ll⟩, fl⟩⟩ := F1.out
  go_upto_if 28 with (fail)
  clear i0 i1 i2 i3 j0 j1 l0 l1 il fi jl fj ll fl
  have F2 := F1.out.stored a b c d x y u v
  have B2 := bel_bpp B1.out (Nat.le_refl _) a b c d x y u v
  unfold setBPP setBP at F2 B2
  have F2 := Lib.hid F2
  have B2 := Lib.hid B2
  clear F1 B1
  generalize ((((((((V1.setCell ⟨w.heap.size, 0, none⟩ (.int .i64 a)).setCell ⟨w.heap.size, 1, none⟩ (.int .i64 b)).setCell ⟨w.heap.size, 2, none⟩ (.int .i64 c)).setCell ⟨w.heap.size, 3, none⟩ (.int .i64 d)).setCell ⟨w.heap.size + 1, 0, none⟩ (.int .i64 x)).setCell ⟨w.heap.size + 1, 1, none⟩ (.int .i64 y)).setCell ⟨w.heap.size + 1 + 1, 0, none⟩ (.int .i64 u)).setCell ⟨w.heap.size + 1 + 1, 1, none⟩ (.int .i64 v)) = V2 at *
  go_cut [3] (fun s3 wc => Fin w s3 wc)
  case first =>
    cases small with
    | false =>
      go_wp2
      go_meet
      exact ⟨a, b, c, d, x, y, u, v, r, rfl, HBD.out, F2.out, B2.out⟩
    | true =>
      obtain ⟨a', b', c', d', ha, hb, Y1⟩ := small_form a b c d
      obtain ⟨x', y', hx, Y2⟩ := close_form x y 20 21 (by omega) (by omega) rfl
      obtain ⟨u', v', hu, Y3⟩ := close_form u v 20 21 (by omega) (by omega) rfl
      obtain ⟨r', r2, r3, er⟩ := r_left (n := 12) HBD.out.2.2.2.2.1 (by omega)
      have HB2 := Lib.hid (show ((-536870912 ≤ a' ∧ a' ≤ c' ∧ c' ≤ 536870912) ∧ (-536870912 ≤ b' ∧ b' ≤ d' ∧ d' ≤ 536870912) ∧ (-536870912 ≤ x' ∧ x' ≤ 536870912 ∧ -536870912 ≤ y' ∧ y' ≤ 536870912) ∧ (-536870912 ≤ u' ∧ u' ≤ 536870912 ∧ -536870912 ≤ v' ∧ v' ≤ 536870912) ∧ 1 ≤ r' + 1 ∧ r' + 1 ≤ 536870912) by omega)
      have HY1 := Lib.hid Y1
      have HY2 := Lib.hid Y2
      have HY3 := Lib.hid Y3
      clear Y1 Y2 Y3 ha hb hx hu
      go_wp2_with fail
      obtain ⟨⟨⟨i0, i1, i2, i3, il⟩, fi⟩, ⟨⟨j0, j1, jl⟩, fj⟩, ⟨⟨l0, l1, ll⟩, fl⟩⟩ := F2.out
      have i0 := cell_regrown i0
      have i1 := cell_regrown i1
      have i2 := cell_regrown i2
      have i3 := cell_regrown i3
      have j0 := cell_regrown j0
      have j1 := cell_regrown j1
      have l0 := cell_regrown l0
      have l1 := cell_regrown l1
      have D1 := Lib.hid (fun p : Regrown => Calls.regrown_of (HY1.out (grow (redrawn V2 p.d) p.os)))
      have D2 := Lib.hid (fun p : Regrown => Calls.regrown_of (HY2.out (grow (redrawn V2 p.d) p.os)))
      have D3 := Lib.hid (fun p : Regrown => Calls.regrown_of (HY3.out (grow (redrawn V2 p.d) p.os)))
      have s1 : IntKind.i64.wrap (r' + 1) = r' + 1 := IntWalk.i64_in _ (by omega)
      clear HY1 HY2 HY3
      refine wp_region_any (by kernel_rfl) ?_
      change wpAny _ _ _ _ _ _ _ (World.drew _)
      refine any_take 6 35 (.int .i64 r) rfl rfl (by kernel_rfl) (by kernel_rfl) (by kernel_rfl) (fun _ _ _ h => h) (by rfl) (fun w => by go_simp) ?_
      refine any_take 7 36 (.int .i64 r') rfl rfl (by kernel_rfl) (by kernel_rfl) (by kernel_rfl) (fun _ _ _ h => h) (by rfl) (fun w => by go_simp) ?_
      refine any_take 8 37 (.int .i64 (r' + 1)) rfl rfl (by kernel_rfl) (by kernel_rfl) (by kernel_rfl) (fun _ _ _ h => h) (by rfl) (fun w => by go_simp) ?_
      refine any_heads_below (n := 6) (g := 4) (e := #[true, true, true, true, true, true, true, true, true, false, false, false, false]) (by kernel_rfl) ?_
      simp only [List.take_succ_cons, List.take_zero, Act.put, List.setIfInBounds_toArray, List.set_cons_zero, List.set_cons_succ]
      repeat (go_big_quiet_step (first | with_reducible exact D1.out _ | with_reducible exact D2.out _ | with_reducible exact D3.out _))
      refine wpQuiet_nil ?_
      intro _ hw'
      obtain ⟨⟨ds, oss⟩, hw''⟩ := hw'
      subst hw''
      clear i0 i1 i2 i3 j0 j1 l0 l1 D1 D2 D3 il fi jl fj ll fl
      have zz := below_regrown V2 ds oss
      have F3 := Lib.hid (F2.out.later zz)
      have B3 := Lib.hid (bel_trans B2.out zz)
      clear F2 B2 zz
      generalize grow (redrawn V2 ds) oss = V3 at *
      refine any_tail (n := 9) rfl (by kernel_rfl) ?_
      simp only [List.drop_succ_cons, List.drop_zero]
      obtain ⟨⟨⟨i0, i1, i2, i3, il⟩, fi⟩, ⟨⟨j0, j1, jl⟩, fj⟩, ⟨⟨l0, l1, ll⟩, fl⟩⟩ := F3.out
      go_wp2
      go_meet
      exact ⟨a', b', c', d', x', y', u', v', r' + 1, rfl, HB2.out, F3.out.stored a' b' c' d' x' y' u' v', bel_bpp B3.out (Nat.le_refl _) a' b' c' d' x' y' u' v'⟩
  case rest =>
    obtain ⟨a, b, c, d, x, y, u, v, r, rfl, hbd, hF, hB⟩ := hcut
    clear F2 B2 HBD
    obtain ⟨⟨xa, xb, xc⟩, ⟨ya, yb, yc⟩, ⟨ma, mb, mc, md⟩, ⟨oa, ob, oc, od⟩, ra, rb⟩ := hbd
    obtain ⟨s, t, ⟨sa, sc, bt, td⟩, hI⟩ := in_form a b c d xx yy xa xb xc ya yb yc
    obtain ⟨k, hk⟩ : ∃ k, barK a b c d x y u v r = k := ⟨_, rfl⟩
    obtain ⟨h0, he0⟩ : ∃ h, barB x y u v r a b = h := ⟨_, rfl⟩
    obtain ⟨h1, he1⟩ : ∃ h, barB x y u v r c b = h := ⟨_, rfl⟩
    obtain ⟨h2, he2⟩ : ∃ h, barB x y u v r a d = h := ⟨_, rfl⟩
    obtain ⟨h3, he3⟩ : ∃ h, barB x y u v r c d = h := ⟨_, rfl⟩
    obtain ⟨hp, hep⟩ : ∃ h, barB x y u v r s t = h := ⟨_, rfl⟩
    have SC := Lib.hid (fun n hf => bar_sure (n := n) sa sc bt td hk he0 he1 he2 he3 hep hf)
    have CK := Lib.hid (fun w => barClass_is hk xa xb xc ya yb yc ma mb mc md oa ob oc od (by omega) w)
    have CI := Lib.hid hI
    have CC := Lib.hid (fun w => refCorners_any a b c d w)
    have CH0 := Lib.hid (fun w => barHas_is he0 (by omega) (by omega) (by omega) (by omega) ma mb mc md oa ob oc od (by omega) w)
    have CH1 := Lib.hid (fun w => barHas_is he1 (by omega) (by omega) (by omega) (by omega) ma mb mc md oa ob oc od (by omega) w)
    have CH2 := Lib.hid (fun w => barHas_is he2 (by omega) (by omega) (by omega) (by omega) ma mb mc md oa ob oc od (by omega) w)
    have CH3 := Lib.hid (fun w => barHas_is he3 (by omega) (by omega) (by omega) (by omega) ma mb mc md oa ob oc od (by omega) w)
    have CP := Lib.hid (fun w => barHas_is hep (by omega) (by omega) (by omega) (by omega) ma mb mc md oa ob oc od (by omega) w)
    clear hk he0 he1 he2 he3 hep hI sa sc bt td xa xb xc ya yb yc ma mb mc md oa ob oc od ra rb
    have X := Lib.hid (BxPP.mk hF.b.at_ hF.c.at_ hF.p.at_)
    have B := Lib.hid hB
    clear hF hB
    obtain ⟨⟨i0, i1, i2, i3, il⟩, ⟨j0, j1, jl⟩, ⟨l0, l1, ll⟩⟩ := X.out
    go_wp2_with fail
    refine (CK.out _).mono ?_; rintro e w1 ⟨rfl, z1⟩
    have X1 := Lib.hid (X.out.later z1)
    have B1 := Lib.hid (bel_trans B.out z1)
    clear z1 i0 i1 i2 i3 il j0 j1 jl l0 l1 ll X B CK
    obtain ⟨⟨i0, i1, i2, i3, il⟩, ⟨j0, j1, jl⟩, ⟨l0, l1, ll⟩⟩ := X1.out
    go_upto_region 5 with (fail)
    have i0 := cell_regrown i0
    have i1 := cell_regrown i1
    have i2 := cell_regrown i2
    have i3 := cell_regrown i3
    have j0 := cell_regrown j0
    have j1 := cell_regrown j1
    have l0 := cell_regrown l0
    have l1 := cell_regrown l1
    have D1 := Lib.hid (fun p : Regrown => Calls.regrown_of (CI.out (grow (redrawn w1 p.d) p.os)))
    have D2 := Lib.hid (fun p : Regrown => Calls.regrown_of (CP.out (grow (redrawn w1 p.d) p.os)))
    go_wp2_with fail
    refine wp_region_quiet_below (by kernel_rfl) (by kernel_rfl) ?_
    repeat (go_big_quiet_step (first | with_reducible exact D1.out _ | with_reducible exact D2.out _))
    refine wpQuiet_nil ?_
    intro _ hw'
    obtain ⟨⟨dt, ost⟩, hw''⟩ := hw'
    subst hw''
    have zz := below_regrown w1 dt ost
    have X2 := Lib.hid (X1.out.later zz)
    have B2 := Lib.hid (bel_trans B1.out zz)
    clear zz i0 i1 i2 i3 il j0 j1 jl l0 l1 ll X1 B1 D1 D2 CI CP
    generalize grow (redrawn w1 dt) ost = U at *
    obtain ⟨⟨i0, i1, i2, i3, il⟩, _, _⟩ := X2.out
    go_wp2_with fail
    refine (CC.out _).mono ?_; rintro e w3 ⟨rfl, z3⟩
    have X3 := Lib.hid ((X2.out.later z3).alloc (.cells #[.int .i64 a, .int .i64 b, .int .i64 c, .int .i64 b, .int .i64 a, .int .i64 d, .int .i64 c, .int .i64 d] 36))
    have B3 := Lib.hid (bel_alloc (bel_trans B2.out z3) (.cells #[.int .i64 a, .int .i64 b, .int .i64 c, .int .i64 b, .int .i64 a, .int .i64 d, .int .i64 c, .int .i64 d] 36))
    have E3 := eightAt_new w3 a b c d 36
    clear z3 i0 i1 i2 i3 il X2 B2 CC
    obtain ⟨g, hg⟩ : ∃ g, w3.heap.size = g := ⟨_, rfl⟩
    rw [hg] at E3
    have E3 := Lib.hid E3
    go_upto_region 7 with (fail)
    generalize w3.alloc (.cells #[.int .i64 a, .int .i64 b, .int .i64 c, .int .i64 b, .int .i64 a, .int .i64 d, .int .i64 c, .int .i64 d] 36) = W3 at *
    try rw [hg]
    clear hg
    go_wp2_with fail
    go_loopw [18, 19] (fun sn si wr => TallyE w.heap.size g w a b c d x y u v h0 h1 h2 h3 sn si wr) (fun _ si _ => (4 - intOf si).toNat)
    case atStart => exact ⟨E3.out, 0, rfl, .inl ⟨rfl, ⟨rfl⟩⟩, X3.out, B3.out⟩
    case round =>
      obtain ⟨hE, n, rfl, hc, hS, hB⟩ := hrel
      clear X3 B3 E3
      have E := Lib.hid hE
      have S := Lib.hid hS
      have B := Lib.hid hB
      clear hS hB hE
      rcases hc with ⟨rfl, hF⟩ | ⟨rfl, hF⟩ | ⟨rfl, hF⟩ | ⟨rfl, hF⟩ | ⟨rfl, hF⟩
      · obtain ⟨n0, n4⟩ : 0 ≤ n ∧ n ≤ 4 := by rw [hF.eq]; exact found_bd h0 h1 h2 h3 0
        obtain ⟨n', hn'⟩ : ∃ n' : Int, n' = if h0 then n + 1 else n := ⟨_, rfl⟩
        have hF2 := Lib.hid (tally0 hF hn')
        have hn' := Lib.hid hn'
        clear hF
        obtain ⟨_, ⟨j0, j1, jl⟩, ⟨l0, l1, ll⟩⟩ := S.out
        obtain ⟨g0, g1, g2, g3, g4, g5, g6, g7, gl⟩ := E.out
        go_wp2_with fail
        have j0 := cell_regrown j0
        have j1 := cell_regrown j1
        have l0 := cell_regrown l0
        have l1 := cell_regrown l1
        have r0 := cell_regrown g0
        have r1 := cell_regrown g1
        clear jl ll g0 g1 g2 g3 g4 g5 g6 g7 gl
        have D1 := Lib.hid (fun p : Regrown => Calls.regrown_of (CH0.out (grow (redrawn wr p.d) p.os)))
        refine wp_region_quiet_below (by kernel_rfl) (by kernel_rfl) ?_
        repeat (go_big_quiet_step (with_reducible exact D1.out _))
        refine wpQuiet_nil ?_
        intro _ hw'
        obtain ⟨⟨dt, ost⟩, hw''⟩ := hw'
        subst hw''
        clear r0 r1 j0 j1 l0 l1 D1
        have zz := below_regrown wr dt ost
        have S2 := Lib.hid (S.out.later zz)
        have E2 := Lib.hid (E.out.later zz)
        have B2 := Lib.hid (bel_trans B.out zz)
        clear S B E zz
        generalize grow (redrawn wr dt) ost = U at *
        cases h0
        all_goals
          go_wp2_with fail
          go_roundw
          case rel => exact ⟨E2.out, n', by rw [hn'.out]; rfl, .inr (.inl (⟨rfl, hF2.out⟩)), S2.out, B2.out⟩
          case measure => simp [intOf]
      · obtain ⟨n0, n4⟩ : 0 ≤ n ∧ n ≤ 4 := by rw [hF.eq]; exact found_bd h0 h1 h2 h3 1
        obtain ⟨n', hn'⟩ : ∃ n' : Int, n' = if h1 then n + 1 else n := ⟨_, rfl⟩
        have hF2 := Lib.hid (tally1 hF hn')
        have hn' := Lib.hid hn'
        clear hF
        obtain ⟨_, ⟨j0, j1, jl⟩, ⟨l0, l1, ll⟩⟩ := S.out
        obtain ⟨g0, g1, g2, g3, g4, g5, g6, g7, gl⟩ := E.out
        go_wp2_with fail
        have j0 := cell_regrown j0
        have j1 := cell_regrown j1
        have l0 := cell_regrown l0
        have l1 := cell_regrown l1
        have r0 := cell_regrown g2
        have r1 := cell_regrown g3
        clear jl ll g0 g1 g2 g3 g4 g5 g6 g7 gl
        have D1 := Lib.hid (fun p : Regrown => Calls.regrown_of (CH1.out (grow (redrawn wr p.d) p.os)))
        refine wp_region_quiet_below (by kernel_rfl) (by kernel_rfl) ?_
        repeat (go_big_quiet_step (with_reducible exact D1.out _))
        refine wpQuiet_nil ?_
        intro _ hw'
        obtain ⟨⟨dt, ost⟩, hw''⟩ := hw'
        subst hw''
        clear r0 r1 j0 j1 l0 l1 D1
        have zz := below_regrown wr dt ost
        have S2 := Lib.hid (S.out.later zz)
        have E2 := Lib.hid (E.out.later zz)
        have B2 := Lib.hid (bel_trans B.out zz)
        clear S B E zz
        generalize grow (redrawn wr dt) ost = U at *
        cases h1
        all_goals
          go_wp2_with fail
          go_roundw
          case rel => exact ⟨E2.out, n', by rw [hn'.out]; rfl, .inr (.inr (.inl (⟨rfl, hF2.out⟩))), S2.out, B2.out⟩
          case measure => simp [intOf]
      · obtain ⟨n0, n4⟩ : 0 ≤ n ∧ n ≤ 4 := by rw [hF.eq]; exact found_bd h0 h1 h2 h3 2
        obtain ⟨n', hn'⟩ : ∃ n' : Int, n' = if h2 then n + 1 else n := ⟨_, rfl⟩
        have hF2 := Lib.hid (tally2 hF hn')
        have hn' := Lib.hid hn'
        clear hF
        obtain ⟨_, ⟨j0, j1, jl⟩, ⟨l0, l1, ll⟩⟩ := S.out
        obtain ⟨g0, g1, g2, g3, g4, g5, g6, g7, gl⟩ := E.out
        go_wp2_with fail
        have j0 := cell_regrown j0
        have j1 := cell_regrown j1
        have l0 := cell_regrown l0
        have l1 := cell_regrown l1
        have r0 := cell_regrown g4
        have r1 := cell_regrown g5
        clear jl ll g0 g1 g2 g3 g4 g5 g6 g7 gl
        have D1 := Lib.hid (fun p : Regrown => Calls.regrown_of (CH2.out (grow (redrawn wr p.d) p.os)))
        refine wp_region_quiet_below (by kernel_rfl) (by kernel_rfl) ?_
        repeat (go_big_quiet_step (with_reducible exact D1.out _))
        refine wpQuiet_nil ?_
        intro _ hw'
        obtain ⟨⟨dt, ost⟩, hw''⟩ := hw'
        subst hw''
        clear r0 r1 j0 j1 l0 l1 D1
        have zz := below_regrown wr dt ost
        have S2 := Lib.hid (S.out.later zz)
        have E2 := Lib.hid (E.out.later zz)
        have B2 := Lib.hid (bel_trans B.out zz)
        clear S B E zz
        generalize grow (redrawn wr dt) ost = U at *
        cases h2
        all_goals
          go_wp2_with fail
          go_roundw
          case rel => exact ⟨E2.out, n', by rw [hn'.out]; rfl, .inr (.inr (.inr (.inl (⟨rfl, hF2.out⟩)))), S2.out, B2.out⟩
          case measure => simp [intOf]
      · obtain ⟨n0, n4⟩ : 0 ≤ n ∧ n ≤ 4 := by rw [hF.eq]; exact found_bd h0 h1 h2 h3 3
        obtain ⟨n', hn'⟩ : ∃ n' : Int, n' = if h3 then n + 1 else n := ⟨_, rfl⟩
        have hF2 := Lib.hid (tally3 hF hn')
        have hn' := Lib.hid hn'
        clear hF
        obtain ⟨_, ⟨j0, j1, jl⟩, ⟨l0, l1, ll⟩⟩ := S.out
        obtain ⟨g0, g1, g2, g3, g4, g5, g6, g7, gl⟩ := E.out
        go_wp2_with fail
        have j0 := cell_regrown j0
        have j1 := cell_regrown j1
        have l0 := cell_regrown l0
        have l1 := cell_regrown l1
        have r0 := cell_regrown g6
        have r1 := cell_regrown g7
        clear jl ll g0 g1 g2 g3 g4 g5 g6 g7 gl
        have D1 := Lib.hid (fun p : Regrown => Calls.regrown_of (CH3.out (grow (redrawn wr p.d) p.os)))
        refine wp_region_quiet_below (by kernel_rfl) (by kernel_rfl) ?_
        repeat (go_big_quiet_step (with_reducible exact D1.out _))
        refine wpQuiet_nil ?_
        intro _ hw'
        obtain ⟨⟨dt, ost⟩, hw''⟩ := hw'
        subst hw''
        clear r0 r1 j0 j1 l0 l1 D1
        have zz := below_regrown wr dt ost
        have S2 := Lib.hid (S.out.later zz)
        have E2 := Lib.hid (E.out.later zz)
        have B2 := Lib.hid (bel_trans B.out zz)
        clear S B E zz
        generalize grow (redrawn wr dt) ost = U at *
        cases h3
        all_goals
          go_wp2_with fail
          go_roundw
          case rel => exact ⟨E2.out, n', by rw [hn'.out]; rfl, .inr (.inr (.inr (.inr ((⟨rfl, hF2.out⟩))))), S2.out, B2.out⟩
          case measure => simp [intOf]
      · have hcase := SC.out n hF.eq
        clear hF SC CH0 CH1 CH2 CH3 E
        obtain ⟨⟨i0, i1, i2, i3, il⟩, ⟨j0, j1, jl⟩, ⟨l0, l1, ll⟩⟩ := S.out
        rcases hcase with ⟨rfl, hn4, rfl, hn0⟩ | ⟨rfl, hn4, rfl⟩ | ⟨rfl, hn4⟩
        · go_wp2_with fail
          refine (awake_any _).mono ?_; rintro e w4 ⟨rfl, z4⟩
          go_wp2
          go_ret
          exact ⟨rfl, bel_trans B.out z4⟩
        · go_wp2_with fail
          refine (awake_any _).mono ?_; rintro e w4 ⟨rfl, z4⟩
          go_wp2
          go_ret
          exact ⟨rfl, bel_trans B.out z4⟩
        · go_wp2_with fail
          refine (awake_any _).mono ?_; rintro e w4 ⟨rfl, z4⟩
          go_wp2
          go_ret
          exact ⟨rfl, bel_trans B.out z4⟩
theorem walk (b0 b1 b2 b3 e0 e1 f0 f1 rr xx yy : Int) (small : Bool) (_ : -9223372036854775808 ≤ b0) (_ : b0 ≤ 9223372036854775807) (_ : -9223372036854775808 ≤ b1) (_ : b1 ≤ 9223372036854775807) (_ : -9223372036854775808 ≤ b2) (_ : b2 ≤ 9223372036854775807) (_ : -9223372036854775808 ≤ b3) (_ : b3 ≤ 9223372036854775807) (_ : -9223372036854775808 ≤ e0) (_ : e0 ≤ 9223372036854775807) (_ : -9223372036854775808 ≤ e1) (_ : e1 ≤ 9223372036854775807) (_ : -9223372036854775808 ≤ f0) (_ : f0 ≤ 9223372036854775807) (_ : -9223372036854775808 ≤ f1) (_ : f1 ≤ 9223372036854775807) (_ : -9223372036854775808 ≤ rr) (_ : rr ≤ 9223372036854775807) (_ : -9223372036854775808 ≤ xx) (_ : xx ≤ 9223372036854775807) (_ : -9223372036854775808 ≤ yy) (_ : yy ≤ 9223372036854775807) (w : World) :
    Calls Try.prog 5 #[boxV b0 b1 b2 b3, ptV e0 e1, ptV f0 f1, .int .i64 rr, .int .i64 xx, .int .i64 yy, .bool small] w fun e w' => e = .returned (.bool true) ∧ Below w.heap.size w w' := by
  obtain ⟨a, b, c, d, h1, h2, h3, h4, h5, h6, X1⟩ := boxT_form b0 b1 b2 b3
  obtain ⟨x, y, k1, k2, k3, k4, X2⟩ := pt_form e0 e1
  obtain ⟨u, v, l1, l2, l3, l4, X3⟩ := pt_form f0 f1
  obtain ⟨r, r1, r2, X4⟩ := r_form rr
  exact core b0 b1 b2 b3 e0 e1 f0 f1 rr xx yy small a b c d x y u v r X1 (fun w => pt_low X2 w) (fun w => pt_low X3 w) (fun w => r_low X4 w) ⟨⟨h1, h2, h3⟩, ⟨h4, h5, h6⟩, ⟨k1, k2, k3, k4⟩, ⟨l1, l2, l3, l4⟩, r1, r2⟩ w
theorem own : ownKnob Try.prog.godebug = none := by kernel_rfl
set_option maxRecDepth 100000 in
set_option maxHeartbeats 4000000 in
theorem lifted (os : Os) (started : os.Started) (H : Type) (enc : TypeId × Value → H) :
    ReturnsInHanded {} Try.checked os 5 .any (Rows.barSureSpec.pre6 enc Try.prog Try.f5 Rows.barSureRow.domain false) (Rows.barSureSpec.post enc Try.prog Try.f5 false true false false) := by
  refine returnsInHanded_of_change (C := Try.checked) own started (by kernel_rfl) Try.func5
    (ChangeSpec.witness6 (enc := enc) (C := Try.checked) false ⟨#[], #[.agg #[.int .i64 0, .int .i64 0, .int .i64 0, .int .i64 0], .agg #[.int .i64 0, .int .i64 0], .agg #[.int .i64 0, .int .i64 0], .int .i64 0, .int .i64 0, .int .i64 0, .bool false], []⟩ 8 (by kernel_rfl) (by kernel_rfl) (by kernel_rfl) (by kernel_rfl)) ?_
  intro W base args ds gs before hval0 hW _ _
  have hval : ∀ (j : Nat) t v, Try.f5.params[j]? = some t → args[j]? = some v → Value.okWide Try.prog W .any base t v := hval0
  have hW' := hW
  obtain ⟨p, q, hA0, hV, rfl, hfz, hnd⟩ := hW
  have hA : DataW.TrodAll enc Try.prog W 0 (fun _ => true) true Try.f5.params.toList args.toList ds p := hA0
  rw [Try.params5] at hA hval
  obtain ⟨v0, vs0, d0, ds0, p0, q0, hargs, rfl, rfl, h0, r0⟩ := trodAll_cons hA
  obtain ⟨v1, vs1, d1, ds1, p1, q1, rfl, rfl, rfl, h1, r1⟩ := trodAll_cons r0
  obtain ⟨v2, vs2, d2, ds2, p2, q2, rfl, rfl, rfl, h2, r2⟩ := trodAll_cons r1
  obtain ⟨v3, vs3, d3, ds3, p3, q3, rfl, rfl, rfl, h3, r3⟩ := trodAll_cons r2
  obtain ⟨v4, vs4, d4, ds4, p4, q4, rfl, rfl, rfl, h4, r4⟩ := trodAll_cons r3
  obtain ⟨v5, vs5, d5, ds5, p5, q5, rfl, rfl, rfl, h5, r5⟩ := trodAll_cons r4
  obtain ⟨v6, vs6, d6, ds6, p6, q6, rfl, rfl, rfl, h6, r6⟩ := trodAll_cons r5
  obtain ⟨rfl, rfl, rfl⟩ := trodAll_nil r6
  obtain rfl : args = #[v0, v1, v2, v3, v4, v5, v6] := by cases args; simp_all
  obtain ⟨rfl, rfl⟩ := trodVars_none hV
  obtain ⟨c0_0, c0_1, c0_2, c0_3, y0_0, y0_1, y0_2, y0_3, m0, rfl, rfl, rfl, k0_0, k0_1, k0_2, k0_3⟩ := open_agg4 Try.underlying23 (by kernel_rfl) (by kernel_rfl) (hval 0 23 v0 rfl rfl) h0
  obtain ⟨a0_0, ea0_0, rfl, wa0_0⟩ := DataW.trod_int Try.underlying2 k0_0
  simp at ea0_0; subst ea0_0
  obtain ⟨a0_1, ea0_1, rfl, wa0_1⟩ := DataW.trod_int Try.underlying2 k0_1
  simp at ea0_1; subst ea0_1
  obtain ⟨a0_2, ea0_2, rfl, wa0_2⟩ := DataW.trod_int Try.underlying2 k0_2
  simp at ea0_2; subst ea0_2
  obtain ⟨a0_3, ea0_3, rfl, wa0_3⟩ := DataW.trod_int Try.underlying2 k0_3
  simp at ea0_3; subst ea0_3
  obtain ⟨c1_0, c1_1, y1_0, y1_1, m1, rfl, rfl, rfl, k1_0, k1_1⟩ := open_agg2 Try.underlying25 (by kernel_rfl) (by kernel_rfl) (hval 1 25 v1 rfl rfl) h1
  obtain ⟨a1_0, ea1_0, rfl, wa1_0⟩ := DataW.trod_int Try.underlying2 k1_0
  simp at ea1_0; subst ea1_0
  obtain ⟨a1_1, ea1_1, rfl, wa1_1⟩ := DataW.trod_int Try.underlying2 k1_1
  simp at ea1_1; subst ea1_1
  obtain ⟨c2_0, c2_1, y2_0, y2_1, m2, rfl, rfl, rfl, k2_0, k2_1⟩ := open_agg2 Try.underlying25 (by kernel_rfl) (by kernel_rfl) (hval 2 25 v2 rfl rfl) h2
  obtain ⟨a2_0, ea2_0, rfl, wa2_0⟩ := DataW.trod_int Try.underlying2 k2_0
  simp at ea2_0; subst ea2_0
  obtain ⟨a2_1, ea2_1, rfl, wa2_1⟩ := DataW.trod_int Try.underlying2 k2_1
  simp at ea2_1; subst ea2_1
  obtain ⟨a3, rfl, rfl, rfl, w3⟩ := open_int Try.underlying2 (hval 3 2 v3 rfl rfl) h3
  obtain ⟨a4, rfl, rfl, rfl, w4⟩ := open_int Try.underlying2 (hval 4 2 v4 rfl rfl) h4
  obtain ⟨a5, rfl, rfl, rfl, w5⟩ := open_int Try.underlying2 (hval 5 2 v5 rfl rfl) h5
  obtain ⟨a6, rfl, rfl, rfl⟩ := open_bool Try.underlying4 (hval 6 4 v6 rfl rfl) h6
  have s0 : ∀ (W' : World) (sp : Nat → Bool), DataW.Trod enc Try.prog W' 0 sp true 23 (.agg #[.int .i64 a0_0, .int .i64 a0_1, .int .i64 a0_2, .int .i64 a0_3]) (.agg [.lit (.int .i64 a0_0), .lit (.int .i64 a0_1), .lit (.int .i64 a0_2), .lit (.int .i64 a0_3)]) [] := fun W' sp =>
    shut_agg4 (y0 := (.lit (.int .i64 a0_0), [])) (y1 := (.lit (.int .i64 a0_1), [])) (y2 := (.lit (.int .i64 a0_2), [])) (y3 := (.lit (.int .i64 a0_3), [])) Try.underlying23 (by kernel_rfl) (by kernel_rfl) ⟨1, by simp [DataW.trod, Try.underlying2, wa0_0]⟩ ⟨1, by simp [DataW.trod, Try.underlying2, wa0_1]⟩ ⟨1, by simp [DataW.trod, Try.underlying2, wa0_2]⟩ ⟨1, by simp [DataW.trod, Try.underlying2, wa0_3]⟩
  have s1 : ∀ (W' : World) (sp : Nat → Bool), DataW.Trod enc Try.prog W' 0 sp true 25 (.agg #[.int .i64 a1_0, .int .i64 a1_1]) (.agg [.lit (.int .i64 a1_0), .lit (.int .i64 a1_1)]) [] := fun W' sp =>
    shut_agg2 (y0 := (.lit (.int .i64 a1_0), [])) (y1 := (.lit (.int .i64 a1_1), [])) Try.underlying25 (by kernel_rfl) (by kernel_rfl) ⟨1, by simp [DataW.trod, Try.underlying2, wa1_0]⟩ ⟨1, by simp [DataW.trod, Try.underlying2, wa1_1]⟩
  have s2 : ∀ (W' : World) (sp : Nat → Bool), DataW.Trod enc Try.prog W' 0 sp true 25 (.agg #[.int .i64 a2_0, .int .i64 a2_1]) (.agg [.lit (.int .i64 a2_0), .lit (.int .i64 a2_1)]) [] := fun W' sp =>
    shut_agg2 (y0 := (.lit (.int .i64 a2_0), [])) (y1 := (.lit (.int .i64 a2_1), [])) Try.underlying25 (by kernel_rfl) (by kernel_rfl) ⟨1, by simp [DataW.trod, Try.underlying2, wa2_0]⟩ ⟨1, by simp [DataW.trod, Try.underlying2, wa2_1]⟩
  clear hA0 hval0
  simp only [List.append_nil] at hW'
  refine (walk a0_0 a0_1 a0_2 a0_3 a1_0 a1_1 a2_0 a2_1 a3 a4 a5 a6 (bounds_i64 wa0_0).1 (bounds_i64 wa0_0).2 (bounds_i64 wa0_1).1 (bounds_i64 wa0_1).2 (bounds_i64 wa0_2).1 (bounds_i64 wa0_2).2 (bounds_i64 wa0_3).1 (bounds_i64 wa0_3).2 (bounds_i64 wa1_0).1 (bounds_i64 wa1_0).2 (bounds_i64 wa1_1).1 (bounds_i64 wa1_1).2 (bounds_i64 wa2_0).1 (bounds_i64 wa2_0).2 (bounds_i64 wa2_1).1 (bounds_i64 wa2_1).2 (bounds_i64 w3).1 (bounds_i64 w3).2 (bounds_i64 w4).1 (bounds_i64 w4).2 (bounds_i64 w5).1 (bounds_i64 w5).2 W).mono fun e W' ⟨he, bel⟩ => ?_
  subst he
  exact ⟨_, rfl, _, _, _, [], _, [], hW', trodAll_mk1 (shut_bool Try.underlying4 _), (trodAll_cons_mk (s0 _ _) (trodAll_cons_mk (s1 _ _) (trodAll_cons_mk (s2 _ _) (trodAll_cons_mk (shut_int Try.underlying2 w3) (trodAll_cons_mk (shut_int Try.underlying2 w4) (trodAll_cons_mk (shut_int Try.underlying2 w5) (trodAll_cons_mk (shut_bool Try.underlying4 a6) trodAll_mk0))))))), rfl, bel.frame _, fun h => by cases h⟩
theorem over : Rows.barSureRow.holds Try.pinned (OpenSpec.ofChange Rows.barSureSpec) :=
  OpenClaim.holds_of_wide 5 Try.f5 rfl rfl rfl rfl rfl rfl rfl ⟨rfl, rfl, rfl, rfl, rfl⟩ rfl rfl rfl rfl rfl (by kernel_rfl) Try.func5 (by kernel_rfl)
    (of_decide_eq_true (by kernel_rfl)) (by unfold Func.isWrapper; first | (rw [if_pos (by decide +kernel)]; kernel_rfl) | (rw [if_neg (by decide +kernel)]; exact ⟨rfl, rfl⟩))
    (fun os started H enc _ => lifted os started H enc)
theorem proved : Rows.BarSureSaid := over
#print axioms proved
end Go.Proofs.Ythdoibknjehdoaa.barSure
