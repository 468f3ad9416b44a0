/- The greatest discs around each of the four farthest centres have just the points whose distance is at most their radius, and a box of one point is In or Out as that point is: for every point that the law makes of any two numbers of 64 bits, every centre and every radius that it makes of one number each. No condition. -/
import Derived.Test.YtmbegglkinlgdaaRows
import Derived.Test.YtmbegglkinlgdaaAwake5
import Derived.Test.YtmbegglkinlgdaaTame5
import Derived.Test.YtmbegglkinlgdaaTame4
import Derived.ProofKit
import Derived.OpenShut
import Derived.ShutString
import Derived.ChangeOld
import Derived.Below
import Derived.Lib.SmallJoins
namespace Go.Proofs.Ytmbegglkinlgdaa.discFar
open Go.ChangeShapes Go.WideShapes Go.ChangeAt Go.RowKit Go.Joins

theorem pt_below {a b x y : Int} (h : ∀ w, Calls Try.prog 7 #[ptV a b] w fun e w' => e = .returned (ptV x y) ∧ (w.alloc (.cells #[.int .i64 a, .int .i64 b] 23)).alloc (.cells #[.int .i64 x, .int .i64 y] 23) = w') (w : World) :
    Calls Try.prog 7 #[ptV a b] w fun e w' => e = .returned (ptV x y) ∧ Below w.heap.size w w' := (h w).mono fun _ _ k => ⟨k.1, k.2 ▸ bel_alloc (bel_alloc (bel_refl w) _) _⟩
/-- The centre, in a block of its own; the point in the first one. -/
def Centre (w : World) (p0 p1 : Int) (s8 : Value) (wc : World) : Prop :=
  ∃ (q : Nat) (x y : Int), s8 = .pointer (some ⟨q, 0, none⟩) ∧ ((x = 536870912 ∨ x = -536870912) ∧ (y = 536870912 ∨ y = -536870912)) ∧ PtAt wc q x y ∧ PtIn wc w.heap.size p0 p1 ∧ w.heap.size ≠ q ∧ Below w.heap.size w wc
theorem most_dot (x y u v : Int) : mostS x y x y u v = sqI u v x y := by
  have e (v a : Int) : farI v a a = a := by unfold farI; split <;> rfl
  unfold mostS; rw [e, e]

set_option maxRecDepth 100000 in
set_option maxHeartbeats 16000000 in
theorem core (p0 p1 at' less u x y rr m r : Int) (hu : bits .and .i64 at' 3 = u) (u0 : 0 ≤ u) (u3 : u ≤ 3)
    (X1 : ∀ w, Calls Try.prog 7 #[ptV p0 p1] w fun e w' => e = .returned (ptV x y) ∧ Below w.heap.size w w')
    (X2 : ∀ w, Calls Try.prog 8 #[.int .i64 less] w fun e w' => e = .returned (.int .i64 rr) ∧ w = w')
    (x0 : -536870912 ≤ x) (x1 : x ≤ 536870912) (y0 : -536870912 ≤ y) (y1 : y ≤ 536870912) (hm : rr.tmod 1000 = m) (m0 : 0 ≤ m) (m1 : m ≤ 999) (hr : 536870912 - m = r) (w : World) :
    Calls Try.prog 3 #[ptV p0 p1, .int .i64 at', .int .i64 less] w fun e w' => e = .returned (.bool true) ∧ Below w.heap.size w w' := by
  have HX1 := Lib.hid X1
  have HX2 := Lib.hid X2
  have HR := Lib.hid hr
  have HM := Lib.hid hm
  have P0 := Lib.hid (ptIn_new w p0 p1 23)
  have B0 := Lib.hid (bel_alloc (bel_refl w) (.cells #[.int .i64 p0, .int .i64 p1] 23))
  clear X1 X2 hr hm
  go_enter Try.func3, Try.ntmps3
  go_upto_region 2 with (fail)
  go_cut [8] (fun s8 wc => Centre w p0 p1 s8 wc)
  case first =>
    have hcase : u = 0 ∨ u = 1 ∨ u = 2 ∨ u = 3 := by omega
    rcases hcase with rfl | rfl | rfl | rfl
    all_goals
      go_wp2
      go_meet
      refine ⟨_, _, _, rfl, ?_, ptAt_at (by simp), ?_, ?_, ?_⟩
      · exact ⟨by omega, by omega⟩
      · repeat (first | exact P0.out | refine PtIn.alloc ?_ _ | refine PtIn.drew ?_)
      · simp; try omega
      · repeat (first | exact B0.out | refine bel_alloc ?_ _ | refine bel_drew ?_)
  case rest =>
    obtain ⟨q, cx, cy, rfl, hc, hQ, hP, hne, hB⟩ := hcut
    clear P0 B0 hu u0 u3
    have Q1 := Lib.hid hQ
    have P1 := Lib.hid hP
    have B1 := Lib.hid hB
    have HC := Lib.hid hc
    clear hQ hP hB hc
    obtain ⟨⟨p0', p1', pl⟩, fr⟩ := P1.out
    go_wp2_with fail
    refine (HX1.out _).mono ?_; rintro e w1 ⟨rfl, z1⟩
    have Q2 := Lib.hid (Q1.out.later z1)
    have P2 := Lib.hid (P1.out.later z1)
    have B2 := Lib.hid (bel_trans B1.out z1)
    clear z1 p0' p1' pl fr Q1 P1 B1 HX1
    obtain ⟨⟨p0', p1', pl⟩, fr⟩ := P2.out
    go_upto_region 4 with (fail)
    have P3 := Lib.hid (P2.out.stored x y)
    have Q3 := Lib.hid ((Q2.out.far hne 0 (.int .i64 x)).far hne 1 (.int .i64 y))
    have B3 := Lib.hid (bel_set (bel_set B2.out (b := w.heap.size) (Nat.le_refl _) 0 (.int .i64 x)) (b := w.heap.size) (Nat.le_refl _) 1 (.int .i64 y))
    clear p0' p1' pl fr P2 Q2 B2
    generalize (w1.setCell ⟨w.heap.size, 0, none⟩ (.int .i64 x)).setCell ⟨w.heap.size, 1, none⟩ (.int .i64 y) = W at *
    have hm := HM.out
    have hr := HR.out
    have hr' : IntKind.i64.wrap (536870912 - m) = r := by rw [IntWalk.i64_in _ (by omega)]; exact hr
    go_upto_region 5 with ((go_at_call 8; (with_reducible refine (HX2.out _).mono ?_); rintro e w' ⟨rfl, rfl⟩))
    have r0 : 536869913 ≤ r := by omega
    have r1 : r ≤ 536870912 := by omega
    (try rw [hr])
    clear HX2 hm HM hr hr' HR m0 m1
    have cx0 : -536870912 ≤ cx := by have := HC.out; omega
    have cx1 : cx ≤ 536870912 := by have := HC.out; omega
    have cy0 : -536870912 ≤ cy := by have := HC.out; omega
    have cy1 : cy ≤ 536870912 := by have := HC.out; omega
    clear HC
    obtain ⟨⟨p0', p1', pl⟩, fr⟩ := P3.out
    obtain ⟨q0, q1, ql⟩ := Q3.out
    have m1 := mul_bd (X := x - cx) (Y := x - cx) (by omega) (by omega) (by omega) (by omega)
    have m2 := mul_bd (X := y - cy) (Y := y - cy) (by omega) (by omega) (by omega) (by omega)
    have m3 := mul_bd (X := r) (Y := r) (by omega) (by omega) (by omega) (by omega)
    obtain ⟨d, hd⟩ : ∃ d, (x - cx) * (x - cx) + (y - cy) * (y - cy) = d := ⟨_, rfl⟩
    obtain ⟨g, hg⟩ : ∃ g, r * r = g := ⟨_, rfl⟩
    have sq : sqI cx cy x y = d := hd
    go_upto_region 7 with (fail)
    have X4 := Lib.hid (boxAt_new W x y x y 28)
    have P4 := Lib.hid (P3.out.at_.alloc (.cells #[.int .i64 x, .int .i64 y, .int .i64 x, .int .i64 y] 28))
    have Q4 := Lib.hid (Q3.out.alloc (.cells #[.int .i64 x, .int .i64 y, .int .i64 x, .int .i64 y] 28))
    have B4 := Lib.hid (bel_alloc B3.out (.cells #[.int .i64 x, .int .i64 y, .int .i64 x, .int .i64 y] 28))
    clear p0' p1' pl fr q0 q1 ql P3 Q3 B3 hd m1 m2
    have hZ : ∃ z, W.heap.size = z := ⟨_, rfl⟩
    obtain ⟨z, hz⟩ := hZ
    rw [hz] at X4
    generalize W.alloc (.cells #[.int .i64 x, .int .i64 y, .int .i64 x, .int .i64 y] 28) = V at *
    rw [hz]
    clear hz
    by_cases hdg : d ≤ g
    · have C1 := Lib.hid (fun w => class_is (r := r) (k := 2) (by rw [near_dot, most_dot, sq]; unfold discK; rw [if_neg (by omega), hg, if_neg (by omega), if_pos hdg]) x0 (Int.le_refl x) x1 y0 (Int.le_refl y) y1 cx0 cx1 cy0 cy1 (by omega) w)
      have C2 := Lib.hid (fun w => discHas_is (r := r) (h := true) (by rw [sq]; unfold discB; rw [hg]; exact decide_eq_true ⟨by omega, hdg⟩) x0 x1 y0 y1 cx0 cx1 cy0 cy1 (by omega) w)
      have t1 : decide (g < d) = false := decide_eq_false (by omega)
      obtain ⟨c0, c1, c2, c3, cl⟩ := X4.out
      obtain ⟨q0, q1, ql⟩ := Q4.out
      go_wp2_with fail
      refine (C1.out _).mono ?_; rintro e w4 ⟨rfl, z4⟩
      have P5 := Lib.hid (P4.out.later z4)
      have Q5 := Lib.hid (Q4.out.later z4)
      have B5 := Lib.hid (bel_trans B4.out z4)
      clear z4 c0 c1 c2 c3 cl q0 q1 ql P4 Q4 B4 X4
      obtain ⟨p0', p1', pl⟩ := P5.out
      obtain ⟨q0, q1, ql⟩ := Q5.out
      go_wp2_with fail
      refine (C2.out _).mono ?_; rintro e w5 ⟨rfl, z5⟩
      have B6 := Lib.hid (bel_trans B5.out z5)
      clear z5 p0' p1' pl q0 q1 ql P5 Q5 B5
      go_wp2_with fail
      refine (awake_any _).mono ?_; rintro e w6 ⟨rfl, z6⟩
      go_wp2
      go_ret
      exact ⟨rfl, bel_trans B6.out z6⟩
    · have C1 := Lib.hid (fun w => class_is (r := r) (k := 0) (by rw [near_dot, most_dot, sq]; unfold discK; rw [if_neg (by omega), hg, if_pos (by omega)]) x0 (Int.le_refl x) x1 y0 (Int.le_refl y) y1 cx0 cx1 cy0 cy1 (by omega) w)
      have C2 := Lib.hid (fun w => discHas_is (r := r) (h := false) (by rw [sq]; unfold discB; rw [hg]; exact decide_eq_false (by omega)) x0 x1 y0 y1 cx0 cx1 cy0 cy1 (by omega) w)
      have t1 : g < d := by omega
      have t2 : decide (d ≤ g) = false := decide_eq_false hdg
      clear hdg
      obtain ⟨c0, c1, c2, c3, cl⟩ := X4.out
      obtain ⟨q0, q1, ql⟩ := Q4.out
      go_wp2_with fail
      refine (C1.out _).mono ?_; rintro e w4 ⟨rfl, z4⟩
      have P5 := Lib.hid (P4.out.later z4)
      have Q5 := Lib.hid (Q4.out.later z4)
      have B5 := Lib.hid (bel_trans B4.out z4)
      clear z4 c0 c1 c2 c3 cl q0 q1 ql P4 Q4 B4 X4
      obtain ⟨p0', p1', pl⟩ := P5.out
      obtain ⟨q0, q1, ql⟩ := Q5.out
      go_wp2_with fail
      refine (C2.out _).mono ?_; rintro e w5 ⟨rfl, z5⟩
      have B6 := Lib.hid (bel_trans B5.out z5)
      clear z5 p0' p1' pl q0 q1 ql P5 Q5 B5
      go_wp2_with fail
      refine (awake_any _).mono ?_; rintro e w6 ⟨rfl, z6⟩
      go_wp2
      go_ret
      exact ⟨rfl, bel_trans B6.out z6⟩
theorem walk (p0 p1 at' less : Int) (_ : -9223372036854775808 ≤ p0) (_ : p0 ≤ 9223372036854775807) (_ : -9223372036854775808 ≤ p1) (_ : p1 ≤ 9223372036854775807) (_ : -9223372036854775808 ≤ at') (_ : at' ≤ 9223372036854775807) (_ : -9223372036854775808 ≤ less) (_ : less ≤ 9223372036854775807) (w : World) :
    Calls Try.prog 3 #[ptV p0 p1, .int .i64 at', .int .i64 less] w fun e w' => e = .returned (.bool true) ∧ Below w.heap.size w w' := by
  obtain ⟨u, u0, u3, hu⟩ := mask_3 at'
  obtain ⟨x, y, k1, k2, k3, k4, X1⟩ := pt_form p0 p1
  obtain ⟨rr, r1, r2, X2⟩ := r_form less
  obtain ⟨m, m0, m1, hm⟩ := tmod_at rr 1000 (by omega)
  have m2 : 0 ≤ m := by rw [← hm, Int.tmod_eq_emod_of_nonneg (by omega)]; omega
  exact core p0 p1 at' less u x y rr m _ hu u0 u3 (fun w => pt_below X1 w) X2 k1 k2 k3 k4 hm m2 (by omega) rfl w
theorem own : ownKnob Try.prog.godebug = none := by kernel_rfl
set_option maxRecDepth 100000 in
set_option maxHeartbeats 4000000 in
theorem lifted (os : Os) (started : os.Started) (H : Type) (enc : TypeId × Value → H) :
    ReturnsInHanded {} Try.checked os 3 .any (Rows.discFarSpec.pre6 enc Try.prog Try.f3 Rows.discFarRow.domain false) (Rows.discFarSpec.post enc Try.prog Try.f3 false true false false) := by
  refine returnsInHanded_of_change (C := Try.checked) own started (by kernel_rfl) Try.func3
    (ChangeSpec.witness6 (enc := enc) (C := Try.checked) false ⟨#[], #[.agg #[.int .i64 0, .int .i64 0], .int .i64 0, .int .i64 0], []⟩ 8 (by kernel_rfl) (by kernel_rfl) (by kernel_rfl) (by kernel_rfl)) ?_
  intro W base args ds gs before hval0 hW _ _
  have hval : ∀ (j : Nat) t v, Try.f3.params[j]? = some t → args[j]? = some v → Value.okWide Try.prog W .any base t v := hval0
  have hW' := hW
  obtain ⟨p, q, hA0, hV, rfl, hfz, hnd⟩ := hW
  have hA : DataW.TrodAll enc Try.prog W 0 (fun _ => true) true Try.f3.params.toList args.toList ds p := hA0
  rw [Try.params3] at hA hval
  obtain ⟨v0, vs0, d0, ds0, p0, q0, hargs, rfl, rfl, h0, r0⟩ := trodAll_cons hA
  obtain ⟨v1, vs1, d1, ds1, p1, q1, rfl, rfl, rfl, h1, r1⟩ := trodAll_cons r0
  obtain ⟨v2, vs2, d2, ds2, p2, q2, rfl, rfl, rfl, h2, r2⟩ := trodAll_cons r1
  obtain ⟨rfl, rfl, rfl⟩ := trodAll_nil r2
  obtain rfl : args = #[v0, v1, v2] := by cases args; simp_all
  obtain ⟨rfl, rfl⟩ := trodVars_none hV
  obtain ⟨c0_0, c0_1, y0_0, y0_1, m0, rfl, rfl, rfl, k0_0, k0_1⟩ := open_agg2 Try.underlying23 (by kernel_rfl) (by kernel_rfl) (hval 0 23 v0 rfl rfl) h0
  obtain ⟨a0_0, ea0_0, rfl, wa0_0⟩ := DataW.trod_int Try.underlying2 k0_0
  simp at ea0_0; subst ea0_0
  obtain ⟨a0_1, ea0_1, rfl, wa0_1⟩ := DataW.trod_int Try.underlying2 k0_1
  simp at ea0_1; subst ea0_1
  obtain ⟨a1, rfl, rfl, rfl, w1⟩ := open_int Try.underlying3 (hval 1 3 v1 rfl rfl) h1
  obtain ⟨a2, rfl, rfl, rfl, w2⟩ := open_int Try.underlying2 (hval 2 2 v2 rfl rfl) h2
  have s0 : ∀ (W' : World) (sp : Nat → Bool), DataW.Trod enc Try.prog W' 0 sp true 23 (.agg #[.int .i64 a0_0, .int .i64 a0_1]) (.agg [.lit (.int .i64 a0_0), .lit (.int .i64 a0_1)]) [] := fun W' sp =>
    shut_agg2 (y0 := (.lit (.int .i64 a0_0), [])) (y1 := (.lit (.int .i64 a0_1), [])) Try.underlying23 (by kernel_rfl) (by kernel_rfl) ⟨1, by simp [DataW.trod, Try.underlying2, wa0_0]⟩ ⟨1, by simp [DataW.trod, Try.underlying2, wa0_1]⟩
  clear hA0 hval0
  simp only [List.append_nil] at hW'
  refine (walk a0_0 a0_1 a1 a2 (bounds_i64 wa0_0).1 (bounds_i64 wa0_0).2 (bounds_i64 wa0_1).1 (bounds_i64 wa0_1).2 (bounds_i64 w1).1 (bounds_i64 w1).2 (bounds_i64 w2).1 (bounds_i64 w2).2 W).mono fun e W' ⟨he, bel⟩ => ?_
  subst he
  exact ⟨_, rfl, _, _, _, [], _, [], hW', trodAll_mk1 (shut_bool Try.underlying4 _), (trodAll_cons_mk (s0 _ _) (trodAll_cons_mk (shut_int Try.underlying3 w1) (trodAll_cons_mk (shut_int Try.underlying2 w2) trodAll_mk0))), rfl, bel.frame _, fun h => by cases h⟩
theorem over : Rows.discFarRow.holds Try.pinned (OpenSpec.ofChange Rows.discFarSpec) :=
  OpenClaim.holds_of_wide 3 Try.f3 rfl rfl rfl rfl rfl rfl rfl ⟨rfl, rfl, rfl, rfl, rfl⟩ rfl rfl rfl rfl rfl (by kernel_rfl) Try.func3 (by kernel_rfl)
    (of_decide_eq_true (by kernel_rfl)) (by unfold Func.isWrapper; first | (rw [if_pos (by decide +kernel)]; kernel_rfl) | (rw [if_neg (by decide +kernel)]; exact ⟨rfl, rfl⟩))
    (fun os started H enc _ => lifted os started H enc)
theorem proved : Rows.DiscFarSaid := over
#print axioms proved
end Go.Proofs.Ytmbegglkinlgdaa.discFar
