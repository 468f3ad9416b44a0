/- In and Out are sure of each point of the box: for every list of contours, box and point of it that the law makes of any numbers of 64 bits, great and small. No condition. -/
import Derived.Test.YtcpnfafhekgabaaRows
import Derived.Test.YtcpnfafhekgabaaAwake6
import Derived.Test.YtcpnfafhekgabaaTame6
import Derived.Test.YtcpnfafhekgabaaTame5
import Derived.Test.YtcpnfafhekgabaaSureP
import Derived.Test.YtcpnfafhekgabaaHeld6
import Derived.ProofKit
import Derived.OpenShut
import Derived.ShutString
import Derived.ChangeOld
import Derived.Below
import Derived.Carry
import Derived.Deep.DeepCutAuto
import Derived.Lib.SmallJoins
namespace Go.Proofs.Ytcpnfafhekgabaa.polySure
open Go.ChangeShapes Go.WideShapes Go.ChangeAt Go.RowKit Go.Joins

/-- The box in its block, the contours in blocks of the call's own. -/
def Mid (w : World) (T : List (List P2)) (z : Value) (a b c d : Int) (s1 : Value) (wc : World) : Prop :=
  s1 = z ∧ BoxIn wc w.heap.size a b c d ∧ RowsAt wc wc.heap.size z T ∧ Below w.heap.size w wc
set_option maxRecDepth 100000 in
set_option maxHeartbeats 16000000 in
theorem core (b0 b1 b2 b3 xx yy : Int) (small : Bool) (a b c d a' b' c' d' : Int) (hsm : small = false → a' = a ∧ b' = b ∧ c' = c ∧ d' = d) (G : (-536870912 ≤ a' ∧ a' ≤ c' ∧ c' ≤ 536870912) ∧ -536870912 ≤ b' ∧ b' ≤ d' ∧ d' ≤ 536870912)
    (X1 : ∀ w, Calls Try.prog 13 #[boxV b0 b1 b2 b3] w fun e w' => e = .returned (boxV a b c d) ∧ Below w.heap.size w w')
    (X2 : small = true → ∀ w, Calls Try.prog 15 #[boxV a b c d] w fun e w' => e = .returned (boxV a' b' c' d') ∧ Below w.heap.size w w')
    (v : Value) (L : List (List P2)) (w : World) (hR : RowsAt w w.heap.size v L) :
    Calls Try.prog 5 #[boxV b0 b1 b2 b3, v, .int .i64 xx, .int .i64 yy, .bool small] w fun e w' => e = .returned (.bool true) ∧ Below w.heap.size w w' := by
  obtain ⟨u, t, hut, Y3⟩ := in_form a' b' c' d' xx yy G.1.1 G.1.2.1 G.1.2.2 G.2.1 G.2.2.1 G.2.2.2
  obtain ⟨k, hk⟩ : ∃ k, clsE (edgesL (tameL small L)) a' b' c' d' = k := ⟨_, rfl⟩
  obtain ⟨h, hh⟩ : ∃ h, hasE (edgesL (tameL small L)) (u, t) = h := ⟨_, rfl⟩
  have SURE := Lib.hid (sure_way (tameL small L) G.1.2.1 G.2.2.1 hut hk hh)
  have HF := Lib.hid (tame_fine small L)
  have HX1 := Lib.hid X1
  have HX2 := Lib.hid X2
  have HY3 := Lib.hid Y3
  have KC := Lib.hid (fun w v (hR : RowsAt w w.heap.size v (tameL small L)) => class_is HF.out hk G.1.1 G.1.2.1 G.1.2.2 G.2.1 G.2.2.1 G.2.2.2 hR)
  have KH := Lib.hid (fun w v (hR : RowsAt w w.heap.size v (tameL small L)) => polyHas_is HF.out hh (show -536870912 ≤ u by omega) (show u ≤ 536870912 by omega) (show -536870912 ≤ t by omega) (show t ≤ 536870912 by omega) hR)
  have X0 := Lib.hid (boxIn_new w b0 b1 b2 b3 33)
  have B0 := Lib.hid (bel_alloc (bel_refl w) (.cells #[.int .i64 b0, .int .i64 b1, .int .i64 b2, .int .i64 b3] 33))
  have RR := Lib.hid hR
  have HS := Lib.hid hsm
  clear X1 X2 Y3 hR hk hh hut G hsm
  obtain ⟨LA, lcap, rfl, _⟩ := RR.out
  go_enter Try.func5, Try.ntmps5
  go_wp2_with fail
  refine (HX1.out _).mono ?_; rintro e w1 ⟨rfl, b1⟩
  have X1 := Lib.hid (X0.out.later b1)
  have B1 := Lib.hid (bel_trans B0.out b1)
  clear b1 X0 B0 HX1
  have KT := Lib.hid (tame_at small ((RR.out.later B1.out).more B1.out.size))
  go_wp2_with fail
  refine KT.out.mono ?_; rintro e w2 ⟨z, rfl, hz, b2⟩
  have R2 := Lib.hid hz
  have X2 := Lib.hid (X1.out.later b2)
  have B2 := Lib.hid (bel_trans B1.out b2)
  have hm : w.heap.size < w1.heap.size := X1.out.at_.lt
  have HM := Lib.hid hm
  clear hz hm b2 X1 B1 KT RR
  obtain ⟨⟨i0, i1, i2, i3, il⟩, fr⟩ := X2.out
  go_upto_if 18 with (fail)
  have X3 := Lib.hid (X2.out.stored a b c d)
  have B3 := Lib.hid (bel_box B2.out (Nat.le_refl _) a b c d)
  have R3 := Lib.hid (R2.out.setBox HM.out a b c d)
  clear i0 i1 i2 i3 il fr X2 B2 R2
  generalize ((((w2.setCell ⟨w.heap.size, 0, none⟩ (.int .i64 a)).setCell ⟨w.heap.size, 1, none⟩ (.int .i64 b)).setCell ⟨w.heap.size, 2, none⟩ (.int .i64 c)).setCell ⟨w.heap.size, 3, none⟩ (.int .i64 d)) = w3 at *
  go_cut [1] (fun s1 wc => Mid w (tameL small L) z a' b' c' d' s1 wc)
  case first =>
    cases small with
    | false =>
      obtain ⟨rfl, rfl, rfl, rfl⟩ := HS.out rfl
      go_wp2
      go_meet
      exact ⟨rfl, X3.out, R3.out.rows, B3.out⟩
    | true =>
      obtain ⟨⟨i0, i1, i2, i3, il⟩, fr⟩ := X3.out
      go_wp2_with fail
      refine (HX2.out trivial _).mono ?_; rintro e w4 ⟨rfl, b4⟩
      have X4 := Lib.hid (X3.out.later b4)
      have B4 := Lib.hid (bel_trans B3.out b4)
      have R4 := Lib.hid (R3.out.later b4)
      clear i0 i1 i2 i3 il fr X3 B3 R3 b4
      obtain ⟨⟨i0, i1, i2, i3, il⟩, fr⟩ := X4.out
      go_wp2_with fail
      go_meet
      exact ⟨rfl, X4.out.stored a' b' c' d', (R4.out.setBox HM.out a' b' c' d').rows, bel_box B4.out (Nat.le_refl _) a' b' c' d'⟩
  case rest =>
    obtain ⟨rfl, hX, hR, hB⟩ := hcut
    clear X3 R3 B3 HX2 HS HM
    have X := Lib.hid hX
    have R := Lib.hid hR
    have B := Lib.hid hB
    clear hX hR hB
    have K1 := Lib.hid (KC.out _ _ R.out)
    obtain ⟨⟨i0, i1, i2, i3, il⟩, fr⟩ := X.out
    go_wp2_with fail
    refine K1.out.mono ?_; rintro e w5 ⟨rfl, b5⟩
    have X5 := Lib.hid (X.out.later b5)
    have R5 := Lib.hid (R.out.on b5)
    have B5 := Lib.hid (bel_trans B.out b5)
    clear i0 i1 i2 i3 il fr b5 X R B K1 KC
    obtain ⟨⟨i0, i1, i2, i3, il⟩, fr⟩ := X5.out
    go_wp2_with fail
    refine (HY3.out _).mono ?_; rintro e w6 ⟨rfl, b6⟩
    have R6 := Lib.hid (R5.out.on b6)
    have B6 := Lib.hid (bel_trans B5.out b6)
    clear i0 i1 i2 i3 il fr b6 X5 R5 B5 HY3
    have K2 := Lib.hid (KH.out _ _ R6.out)
    go_wp2_with fail
    refine K2.out.mono ?_; rintro e w7 ⟨rfl, b7⟩
    have B7 := Lib.hid (bel_trans B6.out b7)
    clear b7 R6 B6 K2 KH
    have AW := Lib.hid (awake_any w7)
    rcases SURE.out with rfl | ⟨rfl, rfl⟩ | ⟨rfl, rfl⟩
    · go_wp2_with fail
      refine AW.out.mono ?_; rintro e w8 ⟨rfl, b8⟩
      go_wp2
      go_ret
      exact ⟨rfl, bel_trans B7.out b8⟩
    · go_wp2_with fail
      refine AW.out.mono ?_; rintro e w8 ⟨rfl, b8⟩
      go_wp2
      go_ret
      exact ⟨rfl, bel_trans B7.out b8⟩
    · go_wp2_with fail
      refine AW.out.mono ?_; rintro e w8 ⟨rfl, b8⟩
      go_wp2
      go_ret
      exact ⟨rfl, bel_trans B7.out b8⟩
theorem walk (b0 b1 b2 b3 : Int) (v : Value) (L : List (List P2)) (xx yy : Int) (small : Bool) (_ : -9223372036854775808 ≤ b0) (_ : b0 ≤ 9223372036854775807) (_ : -9223372036854775808 ≤ b1) (_ : b1 ≤ 9223372036854775807) (_ : -9223372036854775808 ≤ b2) (_ : b2 ≤ 9223372036854775807) (_ : -9223372036854775808 ≤ b3) (_ : b3 ≤ 9223372036854775807) (_ : -9223372036854775808 ≤ xx) (_ : xx ≤ 9223372036854775807) (_ : -9223372036854775808 ≤ yy) (_ : yy ≤ 9223372036854775807) (w : World) (hR : RowsAt w w.heap.size v L) :
    Calls Try.prog 5 #[boxV b0 b1 b2 b3, v, .int .i64 xx, .int .i64 yy, .bool small] w fun e w' => e = .returned (.bool true) ∧ Below w.heap.size w w' := by
  obtain ⟨a, b, c, d, h1, h2, h3, h4, h5, h6, X1⟩ := boxT_form b0 b1 b2 b3
  cases small with
  | false => exact core b0 b1 b2 b3 xx yy false a b c d a b c d (fun _ => ⟨rfl, rfl, rfl, rfl⟩) ⟨⟨h1, h2, h3⟩, h4, h5, h6⟩ X1 (fun h => by cases h) v L w hR
  | true =>
    obtain ⟨a', b', c', d', g1, g2, X2⟩ := small_form a b c d
    exact core b0 b1 b2 b3 xx yy true a b c d a' b' c' d' (fun h => by cases h) (by omega) X1 (fun _ => X2) v L w hR

theorem own : ownKnob Try.prog.godebug = none := by kernel_rfl
theorem laidOut : laidOutB Try.prog = true := by kernel_rfl
set_option maxRecDepth 100000 in
set_option maxHeartbeats 4000000 in
theorem lifted (os : Os) (started : os.Started) (H : Type) (enc : TypeId × Value → H) :
    ReturnsInHanded {} Try.checked os 5 .any (Rows.polySureSpec.pre6 enc Try.prog Try.f5 Rows.polySureRow.domain false) (Rows.polySureSpec.post enc Try.prog Try.f5 false true false false) := by
  refine returnsInHanded_of_change (C := Try.checked) own started (by kernel_rfl) Try.func5
    (ChangeSpec.witness6 (enc := enc) (C := Try.checked) false ⟨#[], #[.agg #[.int .i64 0, .int .i64 0, .int .i64 0, .int .i64 0], .slice none 0 0, .int .i64 0, .int .i64 0, .bool false], []⟩ 8 (by kernel_rfl) (by kernel_rfl) (by kernel_rfl) (by kernel_rfl)) ?_
  intro W base args ds gs before hval0 hW _ _
  have hval : ∀ (j : Nat) t v, Try.f5.params[j]? = some t → args[j]? = some v → Value.okWide Try.prog W .any base t v := hval0
  have hW' := hW
  obtain ⟨p, q, hA0, hV, rfl, hfz, hnd⟩ := hW
  have hA : DataW.TrodAll enc Try.prog W 0 (fun _ => true) true Try.f5.params.toList args.toList ds p := hA0
  rw [Try.params5] at hA hval
  obtain ⟨v0, vs0, d0, ds0, p0, q0, hargs, rfl, rfl, h0, r0⟩ := trodAll_cons hA
  obtain ⟨v1, vs1, d1, ds1, p1, q1, rfl, rfl, rfl, h1, r1⟩ := trodAll_cons r0
  obtain ⟨v2, vs2, d2, ds2, p2, q2, rfl, rfl, rfl, h2, r2⟩ := trodAll_cons r1
  obtain ⟨v3, vs3, d3, ds3, p3, q3, rfl, rfl, rfl, h3, r3⟩ := trodAll_cons r2
  obtain ⟨v4, vs4, d4, ds4, p4, q4, rfl, rfl, rfl, h4, r4⟩ := trodAll_cons r3
  obtain ⟨rfl, rfl, rfl⟩ := trodAll_nil r4
  obtain rfl : args = #[v0, v1, v2, v3, v4] := by cases args; simp_all
  obtain ⟨rfl, rfl⟩ := trodVars_none hV
  obtain ⟨c0_0, c0_1, c0_2, c0_3, y0_0, y0_1, y0_2, y0_3, m0, rfl, rfl, rfl, k0_0, k0_1, k0_2, k0_3⟩ := open_agg4 Try.underlying33 (by kernel_rfl) (by kernel_rfl) (hval 0 33 v0 rfl rfl) h0
  obtain ⟨a0_0, ea0_0, rfl, wa0_0⟩ := DataW.trod_int Try.underlying2 k0_0
  simp at ea0_0; subst ea0_0
  obtain ⟨a0_1, ea0_1, rfl, wa0_1⟩ := DataW.trod_int Try.underlying2 k0_1
  simp at ea0_1; subst ea0_1
  obtain ⟨a0_2, ea0_2, rfl, wa0_2⟩ := DataW.trod_int Try.underlying2 k0_2
  simp at ea0_2; subst ea0_2
  obtain ⟨a0_3, ea0_3, rfl, wa0_3⟩ := DataW.trod_int Try.underlying2 k0_3
  simp at ea0_3; subst ea0_3
  obtain ⟨ra1, rl1, rc1, rfl⟩ := okWide_slice Try.underlying30 (hval 1 30 v1 rfl rfl)
  have hk1 := h1
  obtain ⟨fu1, hf1⟩ := h1
  obtain ⟨L1, hR1, _⟩ := open_rows (v := .slice ra1 rl1 rc1) Try.underlying30 Try.underlying29 Try.underlying23 (by kernel_rfl) (by kernel_rfl) (by kernel_rfl) Try.underlying2 Try.underlying2 hf1
  obtain ⟨a2, rfl, rfl, rfl, w2⟩ := open_int Try.underlying2 (hval 2 2 v2 rfl rfl) h2
  obtain ⟨a3, rfl, rfl, rfl, w3⟩ := open_int Try.underlying2 (hval 3 2 v3 rfl rfl) h3
  obtain ⟨a4, rfl, rfl, rfl⟩ := open_bool Try.underlying4 (hval 4 4 v4 rfl rfl) h4
  have s0 : ∀ (W' : World) (sp : Nat → Bool), DataW.Trod enc Try.prog W' 0 sp true 33 (.agg #[.int .i64 a0_0, .int .i64 a0_1, .int .i64 a0_2, .int .i64 a0_3]) (.agg [.lit (.int .i64 a0_0), .lit (.int .i64 a0_1), .lit (.int .i64 a0_2), .lit (.int .i64 a0_3)]) [] := fun W' sp =>
    shut_agg4 (y0 := (.lit (.int .i64 a0_0), [])) (y1 := (.lit (.int .i64 a0_1), [])) (y2 := (.lit (.int .i64 a0_2), [])) (y3 := (.lit (.int .i64 a0_3), [])) Try.underlying33 (by kernel_rfl) (by kernel_rfl) ⟨1, by simp [DataW.trod, Try.underlying2, wa0_0]⟩ ⟨1, by simp [DataW.trod, Try.underlying2, wa0_1]⟩ ⟨1, by simp [DataW.trod, Try.underlying2, wa0_2]⟩ ⟨1, by simp [DataW.trod, Try.underlying2, wa0_3]⟩
  clear hA0 hval0
  simp only [List.append_nil, List.nil_append] at hW'
  have hlt1 : ∀ x ∈ p1, x.block < W.heap.size := fun x hx => hW'.lt x (by simp [hx])
  refine (walk a0_0 a0_1 a0_2 a0_3 (.slice ra1 rl1 rc1) L1 a2 a3 a4 (bounds_i64 wa0_0).1 (bounds_i64 wa0_0).2 (bounds_i64 wa0_1).1 (bounds_i64 wa0_1).2 (bounds_i64 wa0_2).1 (bounds_i64 wa0_2).2 (bounds_i64 wa0_3).1 (bounds_i64 wa0_3).2 (bounds_i64 w2).1 (bounds_i64 w2).2 (bounds_i64 w3).1 (bounds_i64 w3).2 W hR1).mono fun e W' ⟨he, bel⟩ => ?_
  subst he
  have hargs := (trodAll_cons_mk (s0 _ _) (trodAll_cons_mk (Below.trod laidOut (by kernel_rfl) (of_decide_eq_true (by kernel_rfl)) hk1 bel hlt1) (trodAll_cons_mk (shut_int Try.underlying2 w2) (trodAll_cons_mk (shut_int Try.underlying2 w3) (trodAll_cons_mk (shut_bool Try.underlying4 a4) trodAll_mk0)))))
  simp only [List.append_nil, List.nil_append] at hargs
  exact ⟨_, rfl, _, _, _, [], _, [], hW', trodAll_mk1 (shut_bool Try.underlying4 _), hargs, rfl, bel.frame _, fun h => by cases h⟩
theorem over : Rows.polySureRow.holds Try.pinned (OpenSpec.ofChange Rows.polySureSpec) :=
  OpenClaim.holds_of_wide 5 Try.f5 rfl rfl rfl rfl rfl rfl rfl ⟨rfl, rfl, rfl, rfl, rfl⟩ rfl rfl rfl rfl rfl (by kernel_rfl) Try.func5 (by kernel_rfl)
    (of_decide_eq_true (by kernel_rfl)) (by unfold Func.isWrapper; first | (rw [if_pos (by decide +kernel)]; kernel_rfl) | (rw [if_neg (by decide +kernel)]; exact ⟨rfl, rfl⟩))
    (fun os started H enc _ => lifted os started H enc)
theorem proved : Rows.PolySureSaid := over
#print axioms proved
end Go.Proofs.Ytcpnfafhekgabaa.polySure
