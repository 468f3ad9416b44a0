/- What is asked of boxes as great as may be is exact: Ok, Split, Near, Most, Meets and Cross at the greatest box, for any two points that the law makes of any four numbers of 64 bits. No condition. -/
import Derived.Test.YtimoekgnockhdaaRows
import Derived.Test.YtimoekgnockhdaaAwake4
import Derived.Test.YtimoekgnockhdaaTame4
import Derived.Test.YtimoekgnockhdaaMeetMath
import Derived.ProofKit
import Derived.OpenShut
import Derived.ShutString
import Derived.ChangeOld
import Derived.Below
import Derived.Lib.SmallJoins
import Derived.Deep.RegionWith
import Derived.Lib.QuietBelow
import Derived.BigQuiet
import Derived.IntWalk
namespace Go.Proofs.Ytimoekgnockhdaa.boxGreat
open Go.ChangeShapes Go.WideShapes Go.ChangeAt Go.RowKit Go.Joins
open Go.Sort (grow)

/-- Both points in their blocks. -/
def Two (w : World) (x y u v : Int) (wc : World) : Prop := PtAt wc w.heap.size x y ∧ PtAt wc (w.heap.size + 1) u v ∧ Below w.heap.size w wc
theorem great_split : splV (-536870912) (-536870912) 536870912 536870912 = .tuple #[.agg #[.int .i64 (-536870912), .int .i64 (-536870912), .int .i64 0, .int .i64 0, .int .i64 0, .int .i64 (-536870912), .int .i64 536870912, .int .i64 0, .int .i64 (-536870912), .int .i64 0, .int .i64 0, .int .i64 536870912, .int .i64 0, .int .i64 0, .int .i64 536870912, .int .i64 536870912], .bool true] := by rw [splV_yes (by decide)]; rfl
theorem great_ok : okX (-536870912) (-536870912) 536870912 536870912 = true := by decide
theorem great_no : okX (-536870913) 0 536870912 0 = false := by decide

set_option maxRecDepth 100000 in
set_option maxHeartbeats 8000000 in
theorem core (a b c d x y u v X Y : Int) (x0 : -536870912 ≤ x) (x1 : x ≤ 536870912) (y0 : -536870912 ≤ y) (y1 : y ≤ 536870912) (u0 : -536870912 ≤ u) (u1 : u ≤ 536870912) (v0 : -536870912 ≤ v) (v1 : v ≤ 536870912)
    (p1 : ∀ w, Calls Try.prog 11 #[ptV a b] w fun e w' => e = .returned (ptV x y) ∧ (w.alloc (.cells #[.int .i64 a, .int .i64 b] 26)).alloc (.cells #[.int .i64 x, .int .i64 y] 26) = w')
    (p2 : ∀ w, Calls Try.prog 11 #[ptV c d] w fun e w' => e = .returned (ptV u v) ∧ (w.alloc (.cells #[.int .i64 c, .int .i64 d] 26)).alloc (.cells #[.int .i64 u, .int .i64 v] 26) = w')
    (hX : (0 ≤ x ∧ X = x) ∨ (x ≤ 0 ∧ X = -x)) (hY : (0 ≤ y ∧ Y = y) ∨ (y ≤ 0 ∧ Y = -y)) (w : World) :
    Calls Try.prog 4 #[ptV a b, ptV c d] w fun e w' => e = .returned (.bool true) ∧ Below w.heap.size w w' := by
  have P1 := Lib.hid p1
  have P2 := Lib.hid p2
  have C1 := Lib.hid (fun w => great_split ▸ split_any (-536870912) (-536870912) 536870912 536870912 w)
  have C2 := Lib.hid (fun w => ok_is great_ok w)
  have C3 := Lib.hid (fun w => near_in x0 x1 y0 y1 ▸ near_any (-536870912) (-536870912) 536870912 536870912 x y (by omega) (by omega) (by omega) (by omega) (by omega) (by omega) x0 x1 y0 y1 w)
  have C4 := Lib.hid (fun w => most_great hX hY ▸ most_any (-536870912) (-536870912) 536870912 536870912 x y (by omega) (by omega) (by omega) (by omega) (by omega) (by omega) x0 x1 y0 y1 w)
  have C5 := Lib.hid (fun w => meet_in (u := u) (v := v) x0 x1 y0 y1 ▸ meets_any (-536870912) (-536870912) 536870912 536870912 x y u v (by omega) (by omega) (by omega) (by omega) (by omega) (by omega) x0 x1 y0 y1 u0 u1 v0 v1 w)
  have C6 := Lib.hid (fun w => cross_is (cross_great x y) (by omega) (by omega) (by omega) (by omega) (by omega) (by omega) (by omega) (by omega) x0 x1 y0 y1 w)
  have C7 := Lib.hid (fun w => ok_is great_no w)
  have X0 : 0 ≤ X ∧ X ≤ 536870912 := by omega
  have Y0 : 0 ≤ Y ∧ Y ≤ 536870912 := by omega
  obtain ⟨X0, X1⟩ := X0
  obtain ⟨Y0, Y1⟩ := Y0
  have m1 := mul_bd (X := X + 536870912) (Y := X + 536870912) (by omega) (by omega) (by omega) (by omega)
  have m2 := mul_bd (X := Y + 536870912) (Y := Y + 536870912) (by omega) (by omega) (by omega) (by omega)
  have HX := Lib.hid hX
  have HY := Lib.hid hY
  clear p1 p2 hX hY
  have B0 := Lib.hid (bel_alloc (bel_alloc (bel_refl w) (.cells #[.int .i64 x, .int .i64 y] 26)) (.cells #[.int .i64 u, .int .i64 v] 26))
  go_enter Try.func4, Try.ntmps4
  go_wp2_with fail
  go_cut [] (fun wc => Two w x y u v wc)
  case first =>
    clear m1 m2
    go_region_with (first | (go_at_call 11; (with_reducible refine (P1.out _).mono ?_); rintro e w' ⟨rfl, rfl⟩) | (go_at_call 11; (with_reducible refine (P2.out _).mono ?_); rintro e w' ⟨rfl, rfl⟩))
    all_goals go_wp2
    all_goals go_meet
    all_goals
      refine ⟨?_, ?_, ?_⟩
      · repeat (first | (refine ptAt_at ?_; simp; done) | refine PtAt.alloc ?_ _ | refine PtAt.drew ?_)
      · repeat (first | (refine ptAt_at ?_; simp; done) | refine PtAt.alloc ?_ _ | refine PtAt.drew ?_)
      · repeat (first | exact bel_refl _ | refine bel_alloc ?_ _ | refine bel_drew ?_)
  case rest =>
    obtain ⟨hp, hq, hB⟩ := hcut
    have P := Lib.hid (hp.alloc (.cells #[.int .i64 (-536870912), .int .i64 (-536870912), .int .i64 536870912, .int .i64 536870912] 23))
    have Q := Lib.hid (hq.alloc (.cells #[.int .i64 (-536870912), .int .i64 (-536870912), .int .i64 536870912, .int .i64 536870912] 23))
    have X := Lib.hid (boxAt_new wc (-536870912) (-536870912) 536870912 536870912 23)
    have B := Lib.hid (bel_alloc hB (.cells #[.int .i64 (-536870912), .int .i64 (-536870912), .int .i64 536870912, .int .i64 536870912] 23))
    clear hp hq hB P1 P2 m1 m2 B0
    go_wp2_with fail
    refine (C1.out _).mono ?_; rintro e w1 ⟨rfl, b1⟩
    have P1 := Lib.hid (P.out.later b1)
    have Q1 := Lib.hid (Q.out.later b1)
    have X1' := Lib.hid (X.out.later b1)
    have B1 := Lib.hid (bel_trans B.out b1)
    clear b1 P Q X B C1
    obtain ⟨c0, c1, cl⟩ := P1.out
    go_wp2_with ((with_reducible (refine wpList_store_row ?a1 30 (.tmp 7) (.tmp 25) ?a2 w1.heap.size #[.int .i64 (-536870912), .int .i64 (-536870912), .int .i64 0, .int .i64 0, .int .i64 0, .int .i64 (-536870912), .int .i64 536870912, .int .i64 0, .int .i64 (-536870912), .int .i64 0, .int .i64 0, .int .i64 536870912, .int .i64 0, .int .i64 0, .int .i64 536870912, .int .i64 536870912] ?h1 ?h2 _ _ (row_new _ _ _) ?h3 ?h4 ?h5 ?h6)); (case a1 => rfl); (case a2 => rfl); (case h1 => rfl); (case h2 => rfl); (case h3 => kernel_rfl); (case h4 => rfl); (case h5 => kernel_rfl); rw [setRow_new])
    go_region
    have P := (P1.out.alloc (.cells #[.int .i64 (-536870912), .int .i64 (-536870912), .int .i64 0, .int .i64 0, .int .i64 0, .int .i64 (-536870912), .int .i64 536870912, .int .i64 0, .int .i64 (-536870912), .int .i64 0, .int .i64 0, .int .i64 536870912, .int .i64 0, .int .i64 0, .int .i64 536870912, .int .i64 536870912] 30)).drew
    have Q := (Q1.out.alloc (.cells #[.int .i64 (-536870912), .int .i64 (-536870912), .int .i64 0, .int .i64 0, .int .i64 0, .int .i64 (-536870912), .int .i64 536870912, .int .i64 0, .int .i64 (-536870912), .int .i64 0, .int .i64 0, .int .i64 536870912, .int .i64 0, .int .i64 0, .int .i64 536870912, .int .i64 536870912] 30)).drew
    have X' := (X1'.out.alloc (.cells #[.int .i64 (-536870912), .int .i64 (-536870912), .int .i64 0, .int .i64 0, .int .i64 0, .int .i64 (-536870912), .int .i64 536870912, .int .i64 0, .int .i64 (-536870912), .int .i64 0, .int .i64 0, .int .i64 536870912, .int .i64 0, .int .i64 0, .int .i64 536870912, .int .i64 536870912] 30)).drew
    have B := bel_drew (bel_alloc B1.out (.cells #[.int .i64 (-536870912), .int .i64 (-536870912), .int .i64 0, .int .i64 0, .int .i64 0, .int .i64 (-536870912), .int .i64 536870912, .int .i64 0, .int .i64 (-536870912), .int .i64 0, .int .i64 0, .int .i64 536870912, .int .i64 0, .int .i64 0, .int .i64 536870912, .int .i64 536870912] 30))
    have hr : (w1.alloc (.cells #[.int .i64 (-536870912), .int .i64 (-536870912), .int .i64 0, .int .i64 0, .int .i64 0, .int .i64 (-536870912), .int .i64 536870912, .int .i64 0, .int .i64 (-536870912), .int .i64 0, .int .i64 0, .int .i64 536870912, .int .i64 0, .int .i64 0, .int .i64 536870912, .int .i64 536870912] 30)).drew.heap[w1.heap.size]? = some (.cells #[.int .i64 (-536870912), .int .i64 (-536870912), .int .i64 0, .int .i64 0, .int .i64 0, .int .i64 (-536870912), .int .i64 536870912, .int .i64 0, .int .i64 (-536870912), .int .i64 0, .int .i64 0, .int .i64 536870912, .int .i64 0, .int .i64 0, .int .i64 536870912, .int .i64 536870912] 30 (0, 0)) := row_new w1 #[.int .i64 (-536870912), .int .i64 (-536870912), .int .i64 0, .int .i64 0, .int .i64 0, .int .i64 (-536870912), .int .i64 536870912, .int .i64 0, .int .i64 (-536870912), .int .i64 0, .int .i64 0, .int .i64 536870912, .int .i64 0, .int .i64 0, .int .i64 536870912, .int .i64 536870912] 30
    clear P1 Q1 X1' B1 c0 c1 cl
    generalize (w1.alloc (.cells #[.int .i64 (-536870912), .int .i64 (-536870912), .int .i64 0, .int .i64 0, .int .i64 0, .int .i64 (-536870912), .int .i64 536870912, .int .i64 0, .int .i64 (-536870912), .int .i64 0, .int .i64 0, .int .i64 536870912, .int .i64 0, .int .i64 0, .int .i64 536870912, .int .i64 536870912] 30)).drew = W at *
    have g2 := Lib.hid (cell_of_row _ w1.heap.size 2 _ _ _ hr)
    have g13 := Lib.hid (cell_of_row _ w1.heap.size 13 _ _ _ hr)
    have P := Lib.hid P
    have Q := Lib.hid Q
    have X' := Lib.hid X'
    have B := Lib.hid B
    clear hr
    go_upto_if 32 with (fail)
    go_cut [9] (fun s9 wx => s9 = .int .i64 X ∧ W = wx)
    case first =>
      rcases HX.out with ⟨h1, h2⟩ | ⟨h1, h2⟩
      · have h2 := Lib.hid h2
        go_wp2
        go_meet
        exact ⟨by rw [h2.out], rfl⟩
      · by_cases h3 : x < 0
        · have h2 := Lib.hid h2
          go_wp2
          go_meet
          exact ⟨by rw [h2.out], rfl⟩
        · have h2 := Lib.hid (show X = x by omega)
          go_wp2
          go_meet
          exact ⟨by rw [h2.out], rfl⟩
    case rest =>
      obtain ⟨rfl, rfl⟩ := hcut
      go_upto_if 36 with (fail)
      go_cut [10] (fun s10 wx => s10 = .int .i64 Y ∧ W = wx)
      case first =>
        rcases HY.out with ⟨h1, h2⟩ | ⟨h1, h2⟩
        · have h2 := Lib.hid h2
          go_wp2
          go_meet
          exact ⟨by rw [h2.out], rfl⟩
        · by_cases h3 : y < 0
          · have h2 := Lib.hid h2
            go_wp2
            go_meet
            exact ⟨by rw [h2.out], rfl⟩
          · have h2 := Lib.hid (show Y = y by omega)
            go_wp2
            go_meet
            exact ⟨by rw [h2.out], rfl⟩
      case rest =>
        obtain ⟨rfl, rfl⟩ := hcut
        go_wp2_with fail
        have m1 := mul_bd (X := X + 536870912) (Y := X + 536870912) (by omega) (by omega) (by omega) (by omega)
        have m2 := mul_bd (X := Y + 536870912) (Y := Y + 536870912) (by omega) (by omega) (by omega) (by omega)
        have r1 : IntKind.i64.wrap (X + 536870912) = X + 536870912 := IntWalk.i64_in _ (by omega)
        have r2 : IntKind.i64.wrap (Y + 536870912) = Y + 536870912 := IntWalk.i64_in _ (by omega)
        have r3 : IntKind.i64.wrap ((X + 536870912) * (X + 536870912)) = (X + 536870912) * (X + 536870912) := IntWalk.i64_in _ (by omega)
        have r4 : IntKind.i64.wrap ((Y + 536870912) * (Y + 536870912)) = (Y + 536870912) * (Y + 536870912) := IntWalk.i64_in _ (by omega)
        have r5 : IntKind.i64.wrap ((X + 536870912) * (X + 536870912) + (Y + 536870912) * (Y + 536870912)) = (X + 536870912) * (X + 536870912) + (Y + 536870912) * (Y + 536870912) := IntWalk.i64_in _ (by omega)
        have r6 : IntKind.i64.wrap (y + 536870912) = y + 536870912 := IntWalk.i64_in _ (by omega)
        have r7 : IntKind.i64.wrap (1073741824 * (y + 536870912)) = 1073741824 * (y + 536870912) := IntWalk.i64_in _ (by omega)
        have r8 : IntKind.i64.wrap (-536870912) = -536870912 := IntWalk.i64_in _ (by omega)
        have r9 : IntKind.i64.wrap (2 * 536870912) = 1073741824 := IntWalk.i64_in _ (by omega)
        have r10 : IntKind.i64.wrap (-536870912 - 1) = -536870913 := IntWalk.i64_in _ (by omega)
        obtain ⟨q0, q1, q2, q3, ql⟩ := X'.out
        obtain ⟨c0, c1, cl⟩ := P.out
        obtain ⟨d0, d1, dl⟩ := Q.out
        have q0 := cell_regrown q0
        have q1 := cell_regrown q1
        have q2 := cell_regrown q2
        have q3 := cell_regrown q3
        have c0 := cell_regrown c0
        have c1 := cell_regrown c1
        have d0 := cell_regrown d0
        have d1 := cell_regrown d1
        have e2 := cell_regrown g2.out
        have e13 := cell_regrown g13.out
        clear m1 m2 ql cl dl HX HY g2 g13
        have D2 := Lib.hid (fun p : Regrown => Calls.regrown_of (C2.out (grow (redrawn W p.d) p.os)))
        have D3 := Lib.hid (fun p : Regrown => Calls.regrown_of (C3.out (grow (redrawn W p.d) p.os)))
        have D4 := Lib.hid (fun p : Regrown => Calls.regrown_of (C4.out (grow (redrawn W p.d) p.os)))
        have D5 := Lib.hid (fun p : Regrown => Calls.regrown_of (C5.out (grow (redrawn W p.d) p.os)))
        have D6 := Lib.hid (fun p : Regrown => Calls.regrown_of (C6.out (grow (redrawn W p.d) p.os)))
        have D7 := Lib.hid (fun p : Regrown => Calls.regrown_of (C7.out (grow (redrawn W p.d) p.os)))
        have DA := Lib.hid (fun p : Regrown => Calls.regrown_of (awake_any (grow (redrawn W p.d) p.os)))
        clear C2 C3 C4 C5 C6 C7
        simp only [List.append]
        refine wp_region_quiet_below (by kernel_rfl) (by kernel_rfl) ?_
        repeat (go_big_quiet_step (first | with_reducible exact D2.out _ | with_reducible exact D3.out _ | with_reducible exact D4.out _ | with_reducible exact D5.out _ | with_reducible exact D6.out _ | with_reducible exact D7.out _ | with_reducible exact DA.out _))
        refine wpQuiet_nil ?_
        intro _ hw'
        obtain ⟨⟨dq, osq⟩, hw''⟩ := hw'
        subst hw''
        go_wp2
        go_ret
        exact ⟨rfl, bel_trans B.out (below_regrown W dq osq)⟩
theorem abs_at (x : Int) : ∃ X : Int, (0 ≤ x ∧ X = x) ∨ (x ≤ 0 ∧ X = -x) := by
  by_cases h : 0 ≤ x
  · exact ⟨x, .inl ⟨h, rfl⟩⟩
  · exact ⟨-x, .inr ⟨by omega, rfl⟩⟩
theorem walk (a b c d : Int) (_ : -9223372036854775808 ≤ a) (_ : a ≤ 9223372036854775807) (_ : -9223372036854775808 ≤ b) (_ : b ≤ 9223372036854775807) (_ : -9223372036854775808 ≤ c) (_ : c ≤ 9223372036854775807) (_ : -9223372036854775808 ≤ d) (_ : d ≤ 9223372036854775807) (w : World) :
    Calls Try.prog 4 #[ptV a b, ptV c d] w fun e w' => e = .returned (.bool true) ∧ Below w.heap.size w w' := by
  obtain ⟨x, y, x0, x1, y0, y1, p1⟩ := pt_form a b
  obtain ⟨u, v, u0, u1, v0, v1, p2⟩ := pt_form c d
  obtain ⟨X, hX⟩ := abs_at x
  obtain ⟨Y, hY⟩ := abs_at y
  exact core a b c d x y u v X Y x0 x1 y0 y1 u0 u1 v0 v1 p1 p2 hX hY w
theorem own : ownKnob Try.prog.godebug = none := by kernel_rfl
set_option maxRecDepth 100000 in
theorem lifted (os : Os) (started : os.Started) (H : Type) (enc : TypeId × Value → H) :
    ReturnsInHanded {} Try.checked os 4 .any (Rows.boxGreatSpec.pre6 enc Try.prog Try.f4 Rows.boxGreatRow.domain false) (Rows.boxGreatSpec.post enc Try.prog Try.f4 false true false false) := by
  refine returnsInHanded_of_change (C := Try.checked) own started (by kernel_rfl) Try.func4
    (ChangeSpec.witness6 (enc := enc) (C := Try.checked) false ⟨#[], #[.agg #[.int .i64 0, .int .i64 0], .agg #[.int .i64 0, .int .i64 0]], []⟩ 8 (by kernel_rfl) (by kernel_rfl) (by kernel_rfl) (by kernel_rfl)) ?_
  intro W base args ds gs before hval0 hW _ _
  have hval : ∀ (j : Nat) t v, Try.f4.params[j]? = some t → args[j]? = some v → Value.okWide Try.prog W .any base t v := hval0
  have hW' := hW
  obtain ⟨p, q, hA0, hV, rfl, hfz, hnd⟩ := hW
  have hA : DataW.TrodAll enc Try.prog W 0 (fun _ => true) true Try.f4.params.toList args.toList ds p := hA0
  rw [Try.params4] at hA hval
  obtain ⟨v0, vs0, d0, ds0, p0, q0, hargs, rfl, rfl, h0, r0⟩ := trodAll_cons hA
  obtain ⟨v1, vs1, d1, ds1, p1, q1, rfl, rfl, rfl, h1, r1⟩ := trodAll_cons r0
  obtain ⟨rfl, rfl, rfl⟩ := trodAll_nil r1
  obtain rfl : args = #[v0, v1] := by cases args; simp_all
  obtain ⟨rfl, rfl⟩ := trodVars_none hV
  obtain ⟨c0_0, c0_1, y0_0, y0_1, m0, rfl, rfl, rfl, k0_0, k0_1⟩ := open_agg2 Try.underlying26 (by kernel_rfl) (by kernel_rfl) (hval 0 26 v0 rfl rfl) h0
  obtain ⟨a0_0, ea0_0, rfl, wa0_0⟩ := DataW.trod_int Try.underlying2 k0_0
  simp at ea0_0; subst ea0_0
  obtain ⟨a0_1, ea0_1, rfl, wa0_1⟩ := DataW.trod_int Try.underlying2 k0_1
  simp at ea0_1; subst ea0_1
  obtain ⟨c1_0, c1_1, y1_0, y1_1, m1, rfl, rfl, rfl, k1_0, k1_1⟩ := open_agg2 Try.underlying26 (by kernel_rfl) (by kernel_rfl) (hval 1 26 v1 rfl rfl) h1
  obtain ⟨a1_0, ea1_0, rfl, wa1_0⟩ := DataW.trod_int Try.underlying2 k1_0
  simp at ea1_0; subst ea1_0
  obtain ⟨a1_1, ea1_1, rfl, wa1_1⟩ := DataW.trod_int Try.underlying2 k1_1
  simp at ea1_1; subst ea1_1
  have s0 : ∀ (W' : World) (sp : Nat → Bool), DataW.Trod enc Try.prog W' 0 sp true 26 (.agg #[.int .i64 a0_0, .int .i64 a0_1]) (.agg [.lit (.int .i64 a0_0), .lit (.int .i64 a0_1)]) [] := fun W' sp =>
    shut_agg2 (y0 := (.lit (.int .i64 a0_0), [])) (y1 := (.lit (.int .i64 a0_1), [])) Try.underlying26 (by kernel_rfl) (by kernel_rfl) ⟨1, by simp [DataW.trod, Try.underlying2, wa0_0]⟩ ⟨1, by simp [DataW.trod, Try.underlying2, wa0_1]⟩
  have s1 : ∀ (W' : World) (sp : Nat → Bool), DataW.Trod enc Try.prog W' 0 sp true 26 (.agg #[.int .i64 a1_0, .int .i64 a1_1]) (.agg [.lit (.int .i64 a1_0), .lit (.int .i64 a1_1)]) [] := fun W' sp =>
    shut_agg2 (y0 := (.lit (.int .i64 a1_0), [])) (y1 := (.lit (.int .i64 a1_1), [])) Try.underlying26 (by kernel_rfl) (by kernel_rfl) ⟨1, by simp [DataW.trod, Try.underlying2, wa1_0]⟩ ⟨1, by simp [DataW.trod, Try.underlying2, wa1_1]⟩
  clear hA0 hval0
  simp only [List.append_nil] at hW'
  refine (walk a0_0 a0_1 a1_0 a1_1 (bounds_i64 wa0_0).1 (bounds_i64 wa0_0).2 (bounds_i64 wa0_1).1 (bounds_i64 wa0_1).2 (bounds_i64 wa1_0).1 (bounds_i64 wa1_0).2 (bounds_i64 wa1_1).1 (bounds_i64 wa1_1).2 W).mono fun e W' ⟨he, bel⟩ => ?_
  subst he
  exact ⟨_, rfl, _, _, _, [], _, [], hW', trodAll_mk1 (shut_bool Try.underlying4 _), (trodAll_cons_mk (s0 _ _) (trodAll_cons_mk (s1 _ _) trodAll_mk0)), rfl, bel.frame _, fun h => by cases h⟩
theorem over : Rows.boxGreatRow.holds Try.pinned (OpenSpec.ofChange Rows.boxGreatSpec) :=
  OpenClaim.holds_of_wide 4 Try.f4 rfl rfl rfl rfl rfl rfl rfl ⟨rfl, rfl, rfl, rfl, rfl⟩ rfl rfl rfl rfl rfl (by kernel_rfl) Try.func4 (by kernel_rfl)
    (of_decide_eq_true (by kernel_rfl)) (by unfold Func.isWrapper; first | (rw [if_pos (by decide +kernel)]; kernel_rfl) | (rw [if_neg (by decide +kernel)]; exact ⟨rfl, rfl⟩))
    (fun os started H enc _ => lifted os started H enc)
theorem proved : Rows.BoxGreatSaid := over
#print axioms proved
end Go.Proofs.Ytimoekgnockhdaa.boxGreat
