/- Any contours have the points, and any box the class in them, that the document says: for every list of contours, box and point that the law makes of any numbers of 64 bits, great and small. No condition. -/
import Derived.Test.YtcpnfafhekgabaaRows
import Derived.Test.YtcpnfafhekgabaaAwake6
import Derived.Test.YtcpnfafhekgabaaTame6
import Derived.Test.YtcpnfafhekgabaaTame5
import Derived.Test.YtcpnfafhekgabaaHeld6
import Derived.Test.YtcpnfafhekgabaaHeld5
import Derived.Test.YtcpnfafhekgabaaRefPolyC
import Derived.Test.YtcpnfafhekgabaaQuietTail
import Derived.ProofKit
import Derived.OpenShut
import Derived.ShutString
import Derived.ChangeOld
import Derived.Below
import Derived.Carry
import Derived.Lib.SmallJoins
import Derived.Lib.QuietBelow
import Derived.BigQuiet
import Derived.Deep.DeepCutAuto
namespace Go.Proofs.Ytcpnfafhekgabaa.polyTells
open Go.ChangeShapes Go.WideShapes Go.ChangeAt Go.RowKit Go.Joins
open Go.Sort (grow)

theorem refPoly_is {L : List (List P2)} (hF : Fine L) {a b c d k : Int} (h : clsE (edgesL L) a b c d = k) (a0 : -536870912 ≤ a) (ac : a ≤ c) (c1 : c ≤ 536870912) (b0 : -536870912 ≤ b) (bd : b ≤ d) (d1 : d ≤ 536870912) {w : World} {v : Value} (hR : RowsAt w w.heap.size v L) :
    Calls Try.prog 17 #[boxV a b c d, v] w fun e w' => e = .returned (.int .i64 k) ∧ Below w.heap.size w w' := h ▸ refPoly_at hF a0 ac c1 b0 bd d1 hR
/-- The box and the point in their blocks, the contours in blocks of the call's own. -/
def Mid (w : World) (T : List (List P2)) (z : Value) (a b c d x y : Int) (s1 : Value) (wc : World) : Prop :=
  s1 = z ∧ BP w.heap.size a b c d x y wc ∧ RowsAt wc wc.heap.size z T ∧ Below w.heap.size w wc
set_option maxRecDepth 100000 in
set_option maxHeartbeats 16000000 in
theorem core (b0 b1 b2 b3 e0 e1 : Int) (small : Bool) (a b c d x y a' b' c' d' x' y' : Int) (hsm : small = false → a' = a ∧ b' = b ∧ c' = c ∧ d' = d ∧ x' = x ∧ y' = y) (G : (-536870912 ≤ a' ∧ a' ≤ c' ∧ c' ≤ 536870912) ∧ (-536870912 ≤ b' ∧ b' ≤ d' ∧ d' ≤ 536870912) ∧ (-536870912 ≤ x' ∧ x' ≤ 536870912) ∧ -536870912 ≤ y' ∧ y' ≤ 536870912)
    (X1 : ∀ w, Calls Try.prog 13 #[boxV b0 b1 b2 b3] w fun e w' => e = .returned (boxV a b c d) ∧ Below w.heap.size w w')
    (Y1 : ∀ w, Calls Try.prog 8 #[ptV e0 e1] w fun e w' => e = .returned (ptV x y) ∧ Below w.heap.size w w')
    (X2 : small = true → ∀ w, Calls Try.prog 15 #[boxV a b c d] w fun e w' => e = .returned (boxV a' b' c' d') ∧ Below w.heap.size w w')
    (Y2 : small = true → ∀ w, Calls Try.prog 9 #[ptV x y, .int .i64 20] w fun e w' => e = .returned (ptV x' y') ∧ Below w.heap.size w w')
    (v : Value) (L : List (List P2)) (w : World) (hR : RowsAt w w.heap.size v L) :
    Calls Try.prog 4 #[boxV b0 b1 b2 b3, v, ptV e0 e1, .bool small] w fun e w' => e = .returned (.bool true) ∧ Below w.heap.size w w' := by
  obtain ⟨k, hk⟩ : ∃ k, clsE (edgesL (tameL small L)) a' b' c' d' = k := ⟨_, rfl⟩
  obtain ⟨h, hh⟩ : ∃ h, hasE (edgesL (tameL small L)) (x', y') = h := ⟨_, rfl⟩
  have HF := Lib.hid (tame_fine small L)
  have HX1 := Lib.hid X1
  have HX2 := Lib.hid X2
  have HY1 := Lib.hid Y1
  have HY2 := Lib.hid Y2
  have KC := Lib.hid (fun w v (hR : RowsAt w w.heap.size v (tameL small L)) => class_is HF.out hk G.1.1 G.1.2.1 G.1.2.2 G.2.1.1 G.2.1.2.1 G.2.1.2.2 hR)
  have KD := Lib.hid (fun w v (hR : RowsAt w w.heap.size v (tameL small L)) => refPoly_is HF.out hk G.1.1 G.1.2.1 G.1.2.2 G.2.1.1 G.2.1.2.1 G.2.1.2.2 hR)
  have KH := Lib.hid (fun w v (hR : RowsAt w w.heap.size v (tameL small L)) => polyHas_is HF.out hh G.2.2.1.1 G.2.2.1.2 G.2.2.2.1 G.2.2.2.2 hR)
  have KI := Lib.hid (fun w v (hR : RowsAt w w.heap.size v (tameL small L)) => refPolyHas_is HF.out hh G.2.2.1.1 G.2.2.1.2 G.2.2.2.1 G.2.2.2.2 hR)
  have F0 := bp_new w b0 b1 b2 b3 e0 e1 33 23
  have B0 := bel_newBP w b0 b1 b2 b3 e0 e1 33 23
  unfold newBP at F0 B0
  have F0 := Lib.hid F0
  have B0 := Lib.hid B0
  have RR := Lib.hid hR
  have HS := Lib.hid hsm
  clear X1 X2 Y1 Y2 hR hk hh G hsm
  obtain ⟨LA, lcap, rfl, _⟩ := RR.out
  go_enter Try.func4, Try.ntmps4
  go_wp2_with fail
  generalize ((w.alloc (.cells #[.int .i64 b0, .int .i64 b1, .int .i64 b2, .int .i64 b3] 33)).alloc (.cells #[.int .i64 e0, .int .i64 e1] 23)) = V at *
  obtain ⟨⟨⟨i0, i1, i2, i3, il⟩, fr⟩, ⟨⟨j0, j1, jl⟩, fs⟩⟩ := F0.out
  have i0 := cell_regrown i0
  have i1 := cell_regrown i1
  have i2 := cell_regrown i2
  have i3 := cell_regrown i3
  have j0 := cell_regrown j0
  have j1 := cell_regrown j1
  have D1 := Lib.hid (fun p : Regrown => Calls.regrown_of (HX1.out (grow (redrawn V p.d) p.os)))
  have D2 := Lib.hid (fun p : Regrown => Calls.regrown_of (HY1.out (grow (redrawn V p.d) p.os)))
  clear HX1 HY1
  refine region_below_tail 6 (by kernel_rfl) (by kernel_rfl) ?_
  simp only [List.take_succ_cons, List.take_zero]
  repeat (go_big_quiet_step (first | with_reducible exact D1.out _ | with_reducible exact D2.out _))
  refine wpQuiet_nil ?_
  intro _ hw'
  obtain ⟨⟨dr, osr⟩, hw''⟩ := hw'
  subst hw''
  clear i0 i1 i2 i3 j0 j1 D1 D2 il fr jl fs
  have zz := below_regrown V dr osr
  have F1 := Lib.hid (F0.out.later zz)
  have B1 := Lib.hid (bel_trans B0.out zz)
  clear F0 B0 zz
  generalize grow (redrawn V dr) osr = V1 at *
  simp only [List.drop_succ_cons, List.drop_zero]
  have KT := Lib.hid (tame_at small (RR.out.on B1.out))
  go_wp2_with fail
  refine KT.out.mono ?_; rintro e w2 ⟨z, rfl, hz, b2⟩
  have R2 := Lib.hid hz
  have F2 := Lib.hid (F1.out.later b2)
  have B2 := Lib.hid (bel_trans B1.out b2)
  have HM := Lib.hid (show w.heap.size < V1.heap.size from F1.out.b.at_.lt)
  have HN := Lib.hid (show w.heap.size + 1 < V1.heap.size from F1.out.c.at_.lt)
  clear hz b2 F1 B1 KT RR
  obtain ⟨⟨⟨i0, i1, i2, i3, il⟩, fr⟩, ⟨⟨j0, j1, jl⟩, fs⟩⟩ := F2.out
  go_upto_if 16 with (fail)
  clear i0 i1 i2 i3 il fr j0 j1 jl fs
  have F3 := F2.out.stored a b c d x y
  have B3 := bel_bp B2.out (Nat.le_refl _) a b c d x y
  have R3 := ((R2.out.setBox HM.out a b c d).set HN.out 0 (.int .i64 x)).set HN.out 1 (.int .i64 y)
  unfold setBP at F3 B3
  have F3 := Lib.hid F3
  have B3 := Lib.hid B3
  have R3 := Lib.hid R3
  clear F2 B2 R2
  generalize ((((((w2.setCell ⟨w.heap.size, 0, none⟩ (.int .i64 a)).setCell ⟨w.heap.size, 1, none⟩ (.int .i64 b)).setCell ⟨w.heap.size, 2, none⟩ (.int .i64 c)).setCell ⟨w.heap.size, 3, none⟩ (.int .i64 d)).setCell ⟨w.heap.size + 1, 0, none⟩ (.int .i64 x)).setCell ⟨w.heap.size + 1, 1, none⟩ (.int .i64 y)) = w3 at *
  go_cut [1] (fun s1 wc => Mid w (tameL small L) z a' b' c' d' x' y' s1 wc)
  case first =>
    cases small with
    | false =>
      obtain ⟨rfl, rfl, rfl, rfl, rfl, rfl⟩ := HS.out rfl
      go_wp2
      go_meet
      exact ⟨rfl, F3.out, R3.out.rows, B3.out⟩
    | true =>
      go_wp2_with fail
      obtain ⟨⟨⟨i0, i1, i2, i3, il⟩, fr⟩, ⟨⟨j0, j1, jl⟩, fs⟩⟩ := F3.out
      have i0 := cell_regrown i0
      have i1 := cell_regrown i1
      have i2 := cell_regrown i2
      have i3 := cell_regrown i3
      have j0 := cell_regrown j0
      have j1 := cell_regrown j1
      have D1 := Lib.hid (fun p : Regrown => Calls.regrown_of (HX2.out trivial (grow (redrawn w3 p.d) p.os)))
      have D2 := Lib.hid (fun p : Regrown => Calls.regrown_of (HY2.out trivial (grow (redrawn w3 p.d) p.os)))
      clear HX2 HY2
      refine region_below_tail 4 (by kernel_rfl) (by kernel_rfl) ?_
      simp only [List.take_succ_cons, List.take_zero]
      repeat (go_big_quiet_step (first | with_reducible exact D1.out _ | with_reducible exact D2.out _))
      refine wpQuiet_nil ?_
      intro _ hw'
      obtain ⟨⟨dr, osr⟩, hw''⟩ := hw'
      subst hw''
      clear i0 i1 i2 i3 j0 j1 D1 D2 il fr jl fs
      have zz := below_regrown w3 dr osr
      have F4 := Lib.hid (F3.out.later zz)
      have B4 := Lib.hid (bel_trans B3.out zz)
      have R4 := Lib.hid (R3.out.later zz)
      clear F3 B3 R3 zz
      generalize grow (redrawn w3 dr) osr = w4 at *
      simp only [List.drop_succ_cons, List.drop_zero]
      obtain ⟨⟨⟨i0, i1, i2, i3, il⟩, fr⟩, ⟨⟨j0, j1, jl⟩, fs⟩⟩ := F4.out
      go_wp2_with fail
      go_meet
      exact ⟨rfl, F4.out.stored a' b' c' d' x' y', (((R4.out.setBox HM.out a' b' c' d').set HN.out 0 (.int .i64 x')).set HN.out 1 (.int .i64 y')).rows, bel_bp B4.out (Nat.le_refl _) a' b' c' d' x' y'⟩
  case rest =>
    obtain ⟨rfl, hX, hR, hB⟩ := hcut
    clear F3 R3 B3 HX2 HY2 HS HM HN
    have F := Lib.hid hX
    have R := Lib.hid hR
    have B := Lib.hid hB
    clear hX hR hB
    obtain ⟨ZA, zcap, rfl, _⟩ := R.out
    go_wp2_with fail
    obtain ⟨⟨⟨i0, i1, i2, i3, il⟩, fr⟩, ⟨⟨j0, j1, jl⟩, fs⟩⟩ := F.out
    have i0 := cell_regrown i0
    have i1 := cell_regrown i1
    have i2 := cell_regrown i2
    have i3 := cell_regrown i3
    have j0 := cell_regrown j0
    have j1 := cell_regrown j1
    have D1 := Lib.hid (fun p : Regrown => Calls.regrown_of (KC.out _ _ (R.out.on (below_regrown wc p.d p.os))))
    have D2 := Lib.hid (fun p : Regrown => Calls.regrown_of (KD.out _ _ (R.out.on (below_regrown wc p.d p.os))))
    have D3 := Lib.hid (fun p : Regrown => Calls.regrown_of (KH.out _ _ (R.out.on (below_regrown wc p.d p.os))))
    have D4 := Lib.hid (fun p : Regrown => Calls.regrown_of (KI.out _ _ (R.out.on (below_regrown wc p.d p.os))))
    have AW := Lib.hid (fun p : Regrown => Calls.regrown_of (awake_any (grow (redrawn wc p.d) p.os)))
    refine wp_region_quiet_below (by kernel_rfl) (by kernel_rfl) ?_
    repeat (go_big_quiet_step (first | with_reducible exact D1.out _ | with_reducible exact D2.out _ | with_reducible exact D3.out _ | with_reducible exact D4.out _ | with_reducible exact AW.out _))
    refine wpQuiet_nil ?_
    intro _ hw'
    obtain ⟨⟨dr, osr⟩, hw''⟩ := hw'
    subst hw''
    have zz := below_regrown wc dr osr
    go_wp2
    go_ret
    exact ⟨rfl, bel_trans B.out zz⟩
theorem walk (b0 b1 b2 b3 : Int) (v : Value) (L : List (List P2)) (e0 e1 : Int) (small : Bool) (_ : -9223372036854775808 ≤ b0) (_ : b0 ≤ 9223372036854775807) (_ : -9223372036854775808 ≤ b1) (_ : b1 ≤ 9223372036854775807) (_ : -9223372036854775808 ≤ b2) (_ : b2 ≤ 9223372036854775807) (_ : -9223372036854775808 ≤ b3) (_ : b3 ≤ 9223372036854775807) (_ : -9223372036854775808 ≤ e0) (_ : e0 ≤ 9223372036854775807) (_ : -9223372036854775808 ≤ e1) (_ : e1 ≤ 9223372036854775807) (w : World) (hR : RowsAt w w.heap.size v L) :
    Calls Try.prog 4 #[boxV b0 b1 b2 b3, v, ptV e0 e1, .bool small] w fun e w' => e = .returned (.bool true) ∧ Below w.heap.size w w' := by
  obtain ⟨a, b, c, d, h1, h2, h3, h4, h5, h6, X1⟩ := boxT_form b0 b1 b2 b3
  obtain ⟨x, x0, x1, ex⟩ := tmod_at e0 536870913 (by omega)
  obtain ⟨y, y0, y1, ey⟩ := tmod_at e1 536870913 (by omega)
  cases small with
  | false => exact core b0 b1 b2 b3 e0 e1 false a b c d x y a b c d x y (fun _ => ⟨rfl, rfl, rfl, rfl, rfl, rfl⟩) ⟨⟨h1, h2, h3⟩, ⟨h4, h5, h6⟩, by omega⟩ X1 (fun w => pt_below ex ey w) (fun h => by cases h) (fun h => by cases h) v L w hR
  | true =>
    obtain ⟨a', b', c', d', g1, g2, X2⟩ := small_form a b c d
    obtain ⟨x', x2, x3, ex'⟩ := tmod_at x 21 (by omega)
    obtain ⟨y', y2, y3, ey'⟩ := tmod_at y 21 (by omega)
    exact core b0 b1 b2 b3 e0 e1 true a b c d x y a' b' c' d' x' y' (fun h => by cases h) (by omega) X1 (fun w => pt_below ex ey w) (fun _ => X2) (fun _ w => close_below ex' ey' w) v L w hR

theorem own : ownKnob Try.prog.godebug = none := by kernel_rfl
theorem laidOut : laidOutB Try.prog = true := by kernel_rfl
set_option maxRecDepth 100000 in
set_option maxHeartbeats 4000000 in
theorem lifted (os : Os) (started : os.Started) (H : Type) (enc : TypeId × Value → H) :
    ReturnsInHanded {} Try.checked os 4 .any (Rows.polyTellsSpec.pre6 enc Try.prog Try.f4 Rows.polyTellsRow.domain false) (Rows.polyTellsSpec.post enc Try.prog Try.f4 false true false false) := by
  refine returnsInHanded_of_change (C := Try.checked) own started (by kernel_rfl) Try.func4
    (ChangeSpec.witness6 (enc := enc) (C := Try.checked) false ⟨#[], #[.agg #[.int .i64 0, .int .i64 0, .int .i64 0, .int .i64 0], .slice none 0 0, .agg #[.int .i64 0, .int .i64 0], .bool false], []⟩ 8 (by kernel_rfl) (by kernel_rfl) (by kernel_rfl) (by kernel_rfl)) ?_
  intro W base args ds gs before hval0 hW _ _
  have hval : ∀ (j : Nat) t v, Try.f4.params[j]? = some t → args[j]? = some v → Value.okWide Try.prog W .any base t v := hval0
  have hW' := hW
  obtain ⟨p, q, hA0, hV, rfl, hfz, hnd⟩ := hW
  have hA : DataW.TrodAll enc Try.prog W 0 (fun _ => true) true Try.f4.params.toList args.toList ds p := hA0
  rw [Try.params4] at hA hval
  obtain ⟨v0, vs0, d0, ds0, p0, q0, hargs, rfl, rfl, h0, r0⟩ := trodAll_cons hA
  obtain ⟨v1, vs1, d1, ds1, p1, q1, rfl, rfl, rfl, h1, r1⟩ := trodAll_cons r0
  obtain ⟨v2, vs2, d2, ds2, p2, q2, rfl, rfl, rfl, h2, r2⟩ := trodAll_cons r1
  obtain ⟨v3, vs3, d3, ds3, p3, q3, rfl, rfl, rfl, h3, r3⟩ := trodAll_cons r2
  obtain ⟨rfl, rfl, rfl⟩ := trodAll_nil r3
  obtain rfl : args = #[v0, v1, v2, v3] := by cases args; simp_all
  obtain ⟨rfl, rfl⟩ := trodVars_none hV
  obtain ⟨c0_0, c0_1, c0_2, c0_3, y0_0, y0_1, y0_2, y0_3, m0, rfl, rfl, rfl, k0_0, k0_1, k0_2, k0_3⟩ := open_agg4 Try.underlying33 (by kernel_rfl) (by kernel_rfl) (hval 0 33 v0 rfl rfl) h0
  obtain ⟨a0_0, ea0_0, rfl, wa0_0⟩ := DataW.trod_int Try.underlying2 k0_0
  simp at ea0_0; subst ea0_0
  obtain ⟨a0_1, ea0_1, rfl, wa0_1⟩ := DataW.trod_int Try.underlying2 k0_1
  simp at ea0_1; subst ea0_1
  obtain ⟨a0_2, ea0_2, rfl, wa0_2⟩ := DataW.trod_int Try.underlying2 k0_2
  simp at ea0_2; subst ea0_2
  obtain ⟨a0_3, ea0_3, rfl, wa0_3⟩ := DataW.trod_int Try.underlying2 k0_3
  simp at ea0_3; subst ea0_3
  obtain ⟨ra1, rl1, rc1, rfl⟩ := okWide_slice Try.underlying30 (hval 1 30 v1 rfl rfl)
  have hk1 := h1
  obtain ⟨fu1, hf1⟩ := h1
  obtain ⟨L1, hR1, _⟩ := open_rows (v := .slice ra1 rl1 rc1) Try.underlying30 Try.underlying29 Try.underlying23 (by kernel_rfl) (by kernel_rfl) (by kernel_rfl) Try.underlying2 Try.underlying2 hf1
  obtain ⟨c2_0, c2_1, y2_0, y2_1, m2, rfl, rfl, rfl, k2_0, k2_1⟩ := open_agg2 Try.underlying23 (by kernel_rfl) (by kernel_rfl) (hval 2 23 v2 rfl rfl) h2
  obtain ⟨a2_0, ea2_0, rfl, wa2_0⟩ := DataW.trod_int Try.underlying2 k2_0
  simp at ea2_0; subst ea2_0
  obtain ⟨a2_1, ea2_1, rfl, wa2_1⟩ := DataW.trod_int Try.underlying2 k2_1
  simp at ea2_1; subst ea2_1
  obtain ⟨a3, rfl, rfl, rfl⟩ := open_bool Try.underlying4 (hval 3 4 v3 rfl rfl) h3
  have s0 : ∀ (W' : World) (sp : Nat → Bool), DataW.Trod enc Try.prog W' 0 sp true 33 (.agg #[.int .i64 a0_0, .int .i64 a0_1, .int .i64 a0_2, .int .i64 a0_3]) (.agg [.lit (.int .i64 a0_0), .lit (.int .i64 a0_1), .lit (.int .i64 a0_2), .lit (.int .i64 a0_3)]) [] := fun W' sp =>
    shut_agg4 (y0 := (.lit (.int .i64 a0_0), [])) (y1 := (.lit (.int .i64 a0_1), [])) (y2 := (.lit (.int .i64 a0_2), [])) (y3 := (.lit (.int .i64 a0_3), [])) Try.underlying33 (by kernel_rfl) (by kernel_rfl) ⟨1, by simp [DataW.trod, Try.underlying2, wa0_0]⟩ ⟨1, by simp [DataW.trod, Try.underlying2, wa0_1]⟩ ⟨1, by simp [DataW.trod, Try.underlying2, wa0_2]⟩ ⟨1, by simp [DataW.trod, Try.underlying2, wa0_3]⟩
  have s2 : ∀ (W' : World) (sp : Nat → Bool), DataW.Trod enc Try.prog W' 0 sp true 23 (.agg #[.int .i64 a2_0, .int .i64 a2_1]) (.agg [.lit (.int .i64 a2_0), .lit (.int .i64 a2_1)]) [] := fun W' sp =>
    shut_agg2 (y0 := (.lit (.int .i64 a2_0), [])) (y1 := (.lit (.int .i64 a2_1), [])) Try.underlying23 (by kernel_rfl) (by kernel_rfl) ⟨1, by simp [DataW.trod, Try.underlying2, wa2_0]⟩ ⟨1, by simp [DataW.trod, Try.underlying2, wa2_1]⟩
  clear hA0 hval0
  simp only [List.append_nil, List.nil_append] at hW'
  have hlt1 : ∀ x ∈ p1, x.block < W.heap.size := fun x hx => hW'.lt x (by simp [hx])
  refine (walk a0_0 a0_1 a0_2 a0_3 (.slice ra1 rl1 rc1) L1 a2_0 a2_1 a3 (bounds_i64 wa0_0).1 (bounds_i64 wa0_0).2 (bounds_i64 wa0_1).1 (bounds_i64 wa0_1).2 (bounds_i64 wa0_2).1 (bounds_i64 wa0_2).2 (bounds_i64 wa0_3).1 (bounds_i64 wa0_3).2 (bounds_i64 wa2_0).1 (bounds_i64 wa2_0).2 (bounds_i64 wa2_1).1 (bounds_i64 wa2_1).2 W hR1).mono fun e W' ⟨he, bel⟩ => ?_
  subst he
  have hargs := (trodAll_cons_mk (s0 _ _) (trodAll_cons_mk (Below.trod laidOut (by kernel_rfl) (of_decide_eq_true (by kernel_rfl)) hk1 bel hlt1) (trodAll_cons_mk (s2 _ _) (trodAll_cons_mk (shut_bool Try.underlying4 a3) trodAll_mk0))))
  simp only [List.append_nil, List.nil_append] at hargs
  exact ⟨_, rfl, _, _, _, [], _, [], hW', trodAll_mk1 (shut_bool Try.underlying4 _), hargs, rfl, bel.frame _, fun h => by cases h⟩
theorem over : Rows.polyTellsRow.holds Try.pinned (OpenSpec.ofChange Rows.polyTellsSpec) :=
  OpenClaim.holds_of_wide 4 Try.f4 rfl rfl rfl rfl rfl rfl rfl ⟨rfl, rfl, rfl, rfl, rfl⟩ rfl rfl rfl rfl rfl (by kernel_rfl) Try.func4 (by kernel_rfl)
    (of_decide_eq_true (by kernel_rfl)) (by unfold Func.isWrapper; first | (rw [if_pos (by decide +kernel)]; kernel_rfl) | (rw [if_neg (by decide +kernel)]; exact ⟨rfl, rfl⟩))
    (fun os started H enc _ => lifted os started H enc)
theorem proved : Rows.PolyTellsSaid := over
#print axioms proved
end Go.Proofs.Ytcpnfafhekgabaa.polyTells
