/- Two boxes are apart just if no whole point of the one lies in the other, whichever is asked first; a box is never apart from itself: for all boxes that the law makes of any eight numbers of 64 bits. No condition. -/
import Derived.Test.YtimoekgnockhdaaRows
import Derived.Test.YtimoekgnockhdaaAwake4
import Derived.Test.YtimoekgnockhdaaHeldBox
import Derived.Test.YtimoekgnockhdaaMask
import Derived.Test.YtimoekgnockhdaaSeen
import Derived.ProofKit
import Derived.OpenShut
import Derived.ShutString
import Derived.ChangeOld
import Derived.Below
import Derived.Lib.SmallJoins
namespace Go.Proofs.Ytimoekgnockhdaa.boxApart
open Go.ChangeShapes Go.WideShapes Go.ChangeAt Go.RowKit Go.Joins

/-- The head of a round of the inner loop, and of the outer one. -/
def InAt (W : World) (x0 y0 x1 y1 p0 q0 p1 q1 x : Int) (ss sy : Value) (wr : World) : Prop :=
  ∃ (s : Bool) (y : Int), ss = .bool s ∧ sy = .int .i64 y ∧ y0 ≤ y ∧ y ≤ y1 + 1 ∧ Seen p0 q0 p1 q1 x0 y0 y1 x y s ∧ BoxAt wr W.heap.size x0 y0 x1 y1 ∧ BoxAt wr (W.heap.size + 1) p0 q0 p1 q1 ∧ Below W.heap.size W wr
def OutAt (W : World) (x0 y0 x1 y1 p0 q0 p1 q1 : Int) (ss sx : Value) (wr : World) : Prop :=
  ∃ (s : Bool) (x : Int), ss = .bool s ∧ sx = .int .i64 x ∧ x0 ≤ x ∧ x ≤ x1 + 1 ∧ Seen p0 q0 p1 q1 x0 y0 y1 x y0 s ∧ BoxAt wr W.heap.size x0 y0 x1 y1 ∧ BoxAt wr (W.heap.size + 1) p0 q0 p1 q1 ∧ Below W.heap.size W wr
theorem has_is {a b c d x y : Int} {r : Bool} (h : hasB a b c d x y = r) (w : World) :
    Calls Try.prog 8 #[boxV a b c d, ptV x y] w fun e w' => e = .returned (.bool r) ∧ Below w.heap.size w w' := h ▸ has_any a b c d x y w

set_option maxRecDepth 100000 in
set_option maxHeartbeats 8000000 in
theorem core (a0 a1 a2 a3 b0 b1 b2 b3 x0 y0 u0 v0 x1 y1 p0 q0 r0 s0 p1 q1 : Int)
    (e0 : a0.tmod 6 = x0) (e1 : a1.tmod 6 = y0) (e2 : bits .and .i64 a2 7 = u0) (e3 : bits .and .i64 a3 7 = v0) (e4 : x0 + u0 = x1) (e5 : y0 + v0 = y1)
    (f0 : b0.tmod 6 = p0) (f1 : b1.tmod 6 = q0) (f2 : bits .and .i64 b2 7 = r0) (f3 : bits .and .i64 b3 7 = s0) (f4 : p0 + r0 = p1) (f5 : q0 + s0 = q1)
    (hx : -5 ≤ x0) (hx' : x0 ≤ 5) (hy : -5 ≤ y0) (hy' : y0 ≤ 5) (hu : 0 ≤ u0) (hu' : u0 ≤ 7) (hv : 0 ≤ v0) (hv' : v0 ≤ 7)
    (hp : -5 ≤ p0) (hp' : p0 ≤ 5) (hq : -5 ≤ q0) (hq' : q0 ≤ 5) (hr : 0 ≤ r0) (hr' : r0 ≤ 7) (hs : 0 ≤ s0) (hs' : s0 ≤ 7) (w : World) :
    Calls Try.prog 3 #[boxV a0 a1 a2 a3, boxV b0 b1 b2 b3] w fun e w' => e = .returned (.bool true) ∧ Below w.heap.size w w' := by
  have X0 := Lib.hid ((boxAt_new w x0 y0 x1 y1 23).alloc (.cells #[.int .i64 p0, .int .i64 q0, .int .i64 p1, .int .i64 q1] 23))
  have Y0 := boxAt_new (w.alloc (.cells #[.int .i64 x0, .int .i64 y0, .int .i64 x1, .int .i64 y1] 23)) p0 q0 p1 q1 23
  rw [show (w.alloc (.cells #[.int .i64 x0, .int .i64 y0, .int .i64 x1, .int .i64 y1] 23)).heap.size = w.heap.size + 1 by simp] at Y0
  have Y0 := Lib.hid Y0
  have B0 := Lib.hid (bel_alloc (bel_alloc (bel_refl w) (.cells #[.int .i64 x0, .int .i64 y0, .int .i64 x1, .int .i64 y1] 23)) (.cells #[.int .i64 p0, .int .i64 q0, .int .i64 p1, .int .i64 q1] 23))
  have hx1 : x0 ≤ x1 := by omega
  have hy1 : y0 ≤ y1 := by omega
  have hp1 : p0 ≤ p1 := by omega
  have hq1 : q0 ≤ q1 := by omega
  have hx2 : x1 ≤ 12 := by omega
  have hy2 : y1 ≤ 12 := by omega
  have S0 := Lib.hid (seen_start p0 q0 p1 q1 x0 y0 y1)
  go_enter Try.func3, Try.ntmps3
  go_wp2_with fail
  clear e0 e1 e2 e3 e4 e5 f0 f1 f2 f3 f4 f5
  go_loopw [5, 6] (fun ss sx wr => OutAt w x0 y0 x1 y1 p0 q0 p1 q1 ss sx wr) (fun _ sx _ => (x1 + 1 - intOf sx).toNat)
  case atStart => exact ⟨false, x0, rfl, rfl, by omega, by omega, S0.out, X0.out, Y0.out, B0.out⟩
  case round =>
    obtain ⟨s, x, rfl, rfl, hxa, hxb, hS, hX, hY, hB⟩ := hrel
    clear X0 Y0 B0 S0
    have S := Lib.hid hS
    have X := Lib.hid hX
    have Y := Lib.hid hY
    have B := Lib.hid hB
    clear hS hX hY hB
    obtain ⟨c0, c1, c2, c3, cl⟩ := X.out
    by_cases hlt : x ≤ x1
    · go_wp2_with fail
      clear c0 c1 c2 c3 cl
      go_loopw [5, 7] (fun ss sy wr => InAt w x0 y0 x1 y1 p0 q0 p1 q1 x ss sy wr) (fun _ sy _ => (y1 + 1 - intOf sy).toNat)
      case atStart => exact ⟨s, y0, rfl, rfl, by omega, by omega, S.out, X.out, Y.out, B.out⟩
      case round =>
        obtain ⟨s, y, rfl, rfl, hya, hyb, hS, hX, hY, hB⟩ := hrel
        clear X Y B S
        have S := Lib.hid hS
        have X := Lib.hid hX
        have Y := Lib.hid hY
        have B := Lib.hid hB
        clear hS hX hY hB
        obtain ⟨c0, c1, c2, c3, cl⟩ := X.out
        by_cases hlt2 : y ≤ y1
        · have S2 := Lib.hid (seen_step S.out hya)
          cases s with
          | true =>
            go_wp2_with fail
            go_roundw
            case rel => exact ⟨true, y + 1, rfl, rfl, by omega, by omega, S2.out, X.out, Y.out, B.out⟩
            case measure => simp [intOf]; omega
          | false =>
            obtain ⟨r, hr⟩ : ∃ r, hasB p0 q0 p1 q1 x y = r := ⟨_, rfl⟩
            rw [hr] at S2
            have H := Lib.hid (fun w => has_is hr w)
            clear hr
            obtain ⟨d0, d1, d2, d3, dl⟩ := Y.out
            go_wp2_with fail
            refine (H.out _).mono ?_; rintro e w2 ⟨rfl, b2⟩
            have X2 := Lib.hid (X.out.later b2)
            have Y2 := Lib.hid (Y.out.later b2)
            have B2 := Lib.hid (bel_trans B.out b2)
            clear b2 c0 c1 c2 c3 cl d0 d1 d2 d3 dl X Y B
            go_wp2_with fail
            go_roundw
            case rel => exact ⟨r, y + 1, rfl, rfl, by omega, by omega, S2.out, X2.out, Y2.out, B2.out⟩
            case measure => simp [intOf]; omega
        · have S2 := Lib.hid (seen_col S.out hxa (by omega) (by omega))
          go_wp2_with fail
          go_roundw
          case rel => exact ⟨s, x + 1, rfl, rfl, by omega, by omega, S2.out, X.out, Y.out, B.out⟩
          case measure => simp [intOf]; omega
    · have k1 := seen_end S.out (by omega) (by omega) hx1 hy1 hp1 hq1
      have k2 := (apB_comm x0 y0 x1 y1 p0 q0 p1 q1).trans k1
      have H1 := Lib.hid (fun w => apart_is k1 w)
      have H2 := Lib.hid (fun w => apart_is k2 w)
      have H3 := Lib.hid (fun w => apart_is (apB_self hx1 hy1) w)
      clear k1 k2
      obtain ⟨d0, d1, d2, d3, dl⟩ := Y.out
      cases s
      · go_wp2_with fail
        refine (H1.out _).mono ?_; rintro e w2 ⟨rfl, b2⟩
        have X2 := Lib.hid (X.out.later b2)
        have Y2 := Lib.hid (Y.out.later b2)
        have B2 := Lib.hid (bel_trans B.out b2)
        clear b2 c0 c1 c2 c3 cl d0 d1 d2 d3 dl X Y B
        obtain ⟨c0, c1, c2, c3, cl⟩ := X2.out
        obtain ⟨d0, d1, d2, d3, dl⟩ := Y2.out
        go_wp2_with fail
        refine (H2.out _).mono ?_; rintro e w3 ⟨rfl, b3⟩
        have X3 := Lib.hid (X2.out.later b3)
        have B3 := Lib.hid (bel_trans B2.out b3)
        clear b3 c0 c1 c2 c3 cl d0 d1 d2 d3 dl X2 Y2 B2
        obtain ⟨c0, c1, c2, c3, cl⟩ := X3.out
        go_wp2_with fail
        refine (H3.out _).mono ?_; rintro e w4 ⟨rfl, b4⟩
        have B4 := Lib.hid (bel_trans B3.out b4)
        clear b4 c0 c1 c2 c3 cl X3 B3
        go_wp2_with fail
        refine (awake_any _).mono ?_; rintro e w5 ⟨rfl, b5⟩
        go_wp2
        go_ret
        exact ⟨rfl, bel_trans B4.out b5⟩
      · go_wp2_with fail
        refine (H1.out _).mono ?_; rintro e w2 ⟨rfl, b2⟩
        have X2 := Lib.hid (X.out.later b2)
        have Y2 := Lib.hid (Y.out.later b2)
        have B2 := Lib.hid (bel_trans B.out b2)
        clear b2 c0 c1 c2 c3 cl d0 d1 d2 d3 dl X Y B
        obtain ⟨c0, c1, c2, c3, cl⟩ := X2.out
        obtain ⟨d0, d1, d2, d3, dl⟩ := Y2.out
        go_wp2_with fail
        refine (H2.out _).mono ?_; rintro e w3 ⟨rfl, b3⟩
        have X3 := Lib.hid (X2.out.later b3)
        have B3 := Lib.hid (bel_trans B2.out b3)
        clear b3 c0 c1 c2 c3 cl d0 d1 d2 d3 dl X2 Y2 B2
        obtain ⟨c0, c1, c2, c3, cl⟩ := X3.out
        go_wp2_with fail
        refine (H3.out _).mono ?_; rintro e w4 ⟨rfl, b4⟩
        have B4 := Lib.hid (bel_trans B3.out b4)
        clear b4 c0 c1 c2 c3 cl X3 B3
        go_wp2_with fail
        refine (awake_any _).mono ?_; rintro e w5 ⟨rfl, b5⟩
        go_wp2
        go_ret
        exact ⟨rfl, bel_trans B4.out b5⟩
theorem walk (a0 a1 a2 a3 b0 b1 b2 b3 : Int) (_ : -9223372036854775808 ≤ a0) (_ : a0 ≤ 9223372036854775807) (_ : -9223372036854775808 ≤ a1) (_ : a1 ≤ 9223372036854775807) (_ : -9223372036854775808 ≤ a2) (_ : a2 ≤ 9223372036854775807) (_ : -9223372036854775808 ≤ a3) (_ : a3 ≤ 9223372036854775807)
    (_ : -9223372036854775808 ≤ b0) (_ : b0 ≤ 9223372036854775807) (_ : -9223372036854775808 ≤ b1) (_ : b1 ≤ 9223372036854775807) (_ : -9223372036854775808 ≤ b2) (_ : b2 ≤ 9223372036854775807) (_ : -9223372036854775808 ≤ b3) (_ : b3 ≤ 9223372036854775807) (w : World) :
    Calls Try.prog 3 #[boxV a0 a1 a2 a3, boxV b0 b1 b2 b3] w fun e w' => e = .returned (.bool true) ∧ Below w.heap.size w w' := by
  obtain ⟨x0, _, _, e0⟩ := tmod_at a0 6 (by omega)
  obtain ⟨y0, _, _, e1⟩ := tmod_at a1 6 (by omega)
  obtain ⟨u0, _, _, e2⟩ := mask_7 a2
  obtain ⟨v0, _, _, e3⟩ := mask_7 a3
  obtain ⟨p0, _, _, f0⟩ := tmod_at b0 6 (by omega)
  obtain ⟨q0, _, _, f1⟩ := tmod_at b1 6 (by omega)
  obtain ⟨r0, _, _, f2⟩ := mask_7 b2
  obtain ⟨s0, _, _, f3⟩ := mask_7 b3
  exact core a0 a1 a2 a3 b0 b1 b2 b3 x0 y0 u0 v0 _ _ p0 q0 r0 s0 _ _ e0 e1 e2 e3 rfl rfl f0 f1 f2 f3 rfl rfl (by omega) (by omega) (by omega) (by omega) (by omega) (by omega) (by omega) (by omega) (by omega) (by omega) (by omega) (by omega) (by omega) (by omega) (by omega) (by omega) w
theorem own : ownKnob Try.prog.godebug = none := by kernel_rfl
set_option maxRecDepth 100000 in
theorem lifted (os : Os) (started : os.Started) (H : Type) (enc : TypeId × Value → H) :
    ReturnsInHanded {} Try.checked os 3 .any (Rows.boxApartSpec.pre6 enc Try.prog Try.f3 Rows.boxApartRow.domain false) (Rows.boxApartSpec.post enc Try.prog Try.f3 false true false false) := by
  refine returnsInHanded_of_change (C := Try.checked) own started (by kernel_rfl) Try.func3
    (ChangeSpec.witness6 (enc := enc) (C := Try.checked) false ⟨#[], #[.agg #[.int .i64 0, .int .i64 0, .int .i64 0, .int .i64 0], .agg #[.int .i64 0, .int .i64 0, .int .i64 0, .int .i64 0]], []⟩ 8 (by kernel_rfl) (by kernel_rfl) (by kernel_rfl) (by kernel_rfl)) ?_
  intro W base args ds gs before hval0 hW _ _
  have hval : ∀ (j : Nat) t v, Try.f3.params[j]? = some t → args[j]? = some v → Value.okWide Try.prog W .any base t v := hval0
  have hW' := hW
  obtain ⟨p, q, hA0, hV, rfl, hfz, hnd⟩ := hW
  have hA : DataW.TrodAll enc Try.prog W 0 (fun _ => true) true Try.f3.params.toList args.toList ds p := hA0
  rw [Try.params3] at hA hval
  obtain ⟨v0, vs0, d0, ds0, p0, q0, hargs, rfl, rfl, h0, r0⟩ := trodAll_cons hA
  obtain ⟨v1, vs1, d1, ds1, p1, q1, rfl, rfl, rfl, h1, r1⟩ := trodAll_cons r0
  obtain ⟨rfl, rfl, rfl⟩ := trodAll_nil r1
  obtain rfl : args = #[v0, v1] := by cases args; simp_all
  obtain ⟨rfl, rfl⟩ := trodVars_none hV
  obtain ⟨c0_0, c0_1, c0_2, c0_3, y0_0, y0_1, y0_2, y0_3, m0, rfl, rfl, rfl, k0_0, k0_1, k0_2, k0_3⟩ := open_agg4 Try.underlying23 (by kernel_rfl) (by kernel_rfl) (hval 0 23 v0 rfl rfl) h0
  obtain ⟨a0_0, ea0_0, rfl, wa0_0⟩ := DataW.trod_int Try.underlying2 k0_0
  simp at ea0_0; subst ea0_0
  obtain ⟨a0_1, ea0_1, rfl, wa0_1⟩ := DataW.trod_int Try.underlying2 k0_1
  simp at ea0_1; subst ea0_1
  obtain ⟨a0_2, ea0_2, rfl, wa0_2⟩ := DataW.trod_int Try.underlying2 k0_2
  simp at ea0_2; subst ea0_2
  obtain ⟨a0_3, ea0_3, rfl, wa0_3⟩ := DataW.trod_int Try.underlying2 k0_3
  simp at ea0_3; subst ea0_3
  obtain ⟨c1_0, c1_1, c1_2, c1_3, y1_0, y1_1, y1_2, y1_3, m1, rfl, rfl, rfl, k1_0, k1_1, k1_2, k1_3⟩ := open_agg4 Try.underlying23 (by kernel_rfl) (by kernel_rfl) (hval 1 23 v1 rfl rfl) h1
  obtain ⟨a1_0, ea1_0, rfl, wa1_0⟩ := DataW.trod_int Try.underlying2 k1_0
  simp at ea1_0; subst ea1_0
  obtain ⟨a1_1, ea1_1, rfl, wa1_1⟩ := DataW.trod_int Try.underlying2 k1_1
  simp at ea1_1; subst ea1_1
  obtain ⟨a1_2, ea1_2, rfl, wa1_2⟩ := DataW.trod_int Try.underlying2 k1_2
  simp at ea1_2; subst ea1_2
  obtain ⟨a1_3, ea1_3, rfl, wa1_3⟩ := DataW.trod_int Try.underlying2 k1_3
  simp at ea1_3; subst ea1_3
  have s0 : ∀ (W' : World) (sp : Nat → Bool), DataW.Trod enc Try.prog W' 0 sp true 23 (.agg #[.int .i64 a0_0, .int .i64 a0_1, .int .i64 a0_2, .int .i64 a0_3]) (.agg [.lit (.int .i64 a0_0), .lit (.int .i64 a0_1), .lit (.int .i64 a0_2), .lit (.int .i64 a0_3)]) [] := fun W' sp =>
    shut_agg4 (y0 := (.lit (.int .i64 a0_0), [])) (y1 := (.lit (.int .i64 a0_1), [])) (y2 := (.lit (.int .i64 a0_2), [])) (y3 := (.lit (.int .i64 a0_3), [])) Try.underlying23 (by kernel_rfl) (by kernel_rfl) ⟨1, by simp [DataW.trod, Try.underlying2, wa0_0]⟩ ⟨1, by simp [DataW.trod, Try.underlying2, wa0_1]⟩ ⟨1, by simp [DataW.trod, Try.underlying2, wa0_2]⟩ ⟨1, by simp [DataW.trod, Try.underlying2, wa0_3]⟩
  have s1 : ∀ (W' : World) (sp : Nat → Bool), DataW.Trod enc Try.prog W' 0 sp true 23 (.agg #[.int .i64 a1_0, .int .i64 a1_1, .int .i64 a1_2, .int .i64 a1_3]) (.agg [.lit (.int .i64 a1_0), .lit (.int .i64 a1_1), .lit (.int .i64 a1_2), .lit (.int .i64 a1_3)]) [] := fun W' sp =>
    shut_agg4 (y0 := (.lit (.int .i64 a1_0), [])) (y1 := (.lit (.int .i64 a1_1), [])) (y2 := (.lit (.int .i64 a1_2), [])) (y3 := (.lit (.int .i64 a1_3), [])) Try.underlying23 (by kernel_rfl) (by kernel_rfl) ⟨1, by simp [DataW.trod, Try.underlying2, wa1_0]⟩ ⟨1, by simp [DataW.trod, Try.underlying2, wa1_1]⟩ ⟨1, by simp [DataW.trod, Try.underlying2, wa1_2]⟩ ⟨1, by simp [DataW.trod, Try.underlying2, wa1_3]⟩
  clear hA0 hval0
  simp only [List.append_nil] at hW'
  refine (walk a0_0 a0_1 a0_2 a0_3 a1_0 a1_1 a1_2 a1_3 (bounds_i64 wa0_0).1 (bounds_i64 wa0_0).2 (bounds_i64 wa0_1).1 (bounds_i64 wa0_1).2 (bounds_i64 wa0_2).1 (bounds_i64 wa0_2).2 (bounds_i64 wa0_3).1 (bounds_i64 wa0_3).2 (bounds_i64 wa1_0).1 (bounds_i64 wa1_0).2 (bounds_i64 wa1_1).1 (bounds_i64 wa1_1).2 (bounds_i64 wa1_2).1 (bounds_i64 wa1_2).2 (bounds_i64 wa1_3).1 (bounds_i64 wa1_3).2 W).mono fun e W' ⟨he, bel⟩ => ?_
  subst he
  exact ⟨_, rfl, _, _, _, [], _, [], hW', trodAll_mk1 (shut_bool Try.underlying4 _), (trodAll_cons_mk (s0 _ _) (trodAll_cons_mk (s1 _ _) trodAll_mk0)), rfl, bel.frame _, fun h => by cases h⟩
theorem over : Rows.boxApartRow.holds Try.pinned (OpenSpec.ofChange Rows.boxApartSpec) :=
  OpenClaim.holds_of_wide 3 Try.f3 rfl rfl rfl rfl rfl rfl rfl ⟨rfl, rfl, rfl, rfl, rfl⟩ rfl rfl rfl rfl rfl (by kernel_rfl) Try.func3 (by kernel_rfl)
    (of_decide_eq_true (by kernel_rfl)) (by unfold Func.isWrapper; first | (rw [if_pos (by decide +kernel)]; kernel_rfl) | (rw [if_neg (by decide +kernel)]; exact ⟨rfl, rfl⟩))
    (fun os started H enc _ => lifted os started H enc)
theorem proved : Rows.BoxApartSaid := over
#print axioms proved
end Go.Proofs.Ytimoekgnockhdaa.boxApart
