/- A stroke along an axis is a box with two half discs: for every length, radius and point that the law makes of any four numbers of 64 bits, along either axis. No condition. -/
import Derived.Test.YtfknddjclkjhoaaRows
import Derived.Test.YtfknddjclkjhoaaAwake7
import Derived.Test.YtfknddjclkjhoaaLaws7
import Derived.Test.YtfknddjclkjhoaaHeld5
import Derived.Test.YtfknddjclkjhoaaDiscIs
import Derived.Test.YtfknddjclkjhoaaBarMath
import Derived.ProofKit
import Derived.OpenShut
import Derived.ShutString
import Derived.ChangeOld
import Derived.Below
import Derived.Lib.SmallJoins
import Derived.Lib.QuietBelow
import Derived.BigQuiet
namespace Go.Proofs.Ytfknddjclkjhoaa.lineStraight
open Go.ChangeShapes Go.WideShapes Go.ChangeAt Go.RowKit Go.Joins
open Go.Sort (grow)

/-- A length, a radius and a point, tamed. -/
def Mid (w : World) (l r p q : Int) (s0 s1 : Value) (wc : World) : Prop := s0 = .int .i64 l ∧ s1 = .int .i64 r ∧ PtIn wc w.heap.size p q ∧ Below w.heap.size w wc
/-- The point, the far end and the point to look at, in blocks of their own. -/
def Two (w : World) (p q x y u v : Int) (s9 s10 : Value) (wc : World) : Prop :=
  ∃ m n : Nat, s9 = .pointer (some ⟨m, 0, none⟩) ∧ s10 = .pointer (some ⟨n, 0, none⟩) ∧ w.heap.size < m ∧ w.heap.size < n ∧ m ≠ n ∧ PtIn wc w.heap.size p q ∧ PtIn wc m x y ∧ PtIn wc n u v ∧ Below w.heap.size w wc
def Thr (w : World) (m n : Nat) (p q x y u v : Int) (wc : World) : Prop := PtAt wc w.heap.size p q ∧ PtAt wc m x y ∧ PtAt wc n u v ∧ Below w.heap.size w wc
def Want (w : World) (m : Nat) (p q x y : Int) (h : Bool) (s11 : Value) (wc : World) : Prop := s11 = .bool h ∧ PtAt wc w.heap.size p q ∧ PtAt wc m x y ∧ Below w.heap.size w wc
theorem straight_up {l r p q : Int} (hl : 0 ≤ l) (hr : 1 ≤ r) : lineB 0 0 0 l r p q = ((decide (0 ≤ q) && decide (q ≤ l) && decide (-r ≤ p) && decide (p ≤ r)) || discB r (sqI 0 0 p q) || discB r (sqI 0 l p q)) := by
  rw [← lineB_flip, line_straight hl hr]
  have e1 : sqI 0 0 q p = sqI 0 0 p q := by unfold sqI; grind
  have e2 : sqI l 0 q p = sqI 0 l p q := by unfold sqI; grind
  rw [e1, e2]

set_option maxRecDepth 100000 in
set_option maxHeartbeats 16000000 in
theorem core (g rr p0 p1 : Int) (up : Bool) (ul l r1 r' p q x y u v : Int) (h h1 h2 : Bool) (hg : IntKind.u64.wrap g = ul) (_u0 : 0 ≤ ul) (_u1 : ul ≤ 18446744073709551615) (hl1 : ul.tmod 50 = l) (_hl2 : ul % 50 = l) (l0 : 0 ≤ l) (l1 : l < 50)
    (X1 : ∀ w, Calls Try.prog 10 #[.int .i64 rr] w fun e w' => e = .returned (.int .i64 r1) ∧ w = w') (hr1 : r1.tmod 12 = r') (ra : 0 ≤ r') (rb : r' ≤ 11)
    (X2 : ∀ w, Calls Try.prog 9 #[ptV p0 p1, .int .i64 70] w fun e w' => e = .returned (ptV p q) ∧ Below w.heap.size w w') (hp : -70 ≤ p ∧ p ≤ 70 ∧ -70 ≤ q ∧ q ≤ 70)
    (hc : (up = false ∧ x = l ∧ y = 0 ∧ u = p ∧ v = q) ∨ (up = true ∧ x = 0 ∧ y = l ∧ u = q ∧ v = p)) (hh : lineB 0 0 x y (r' + 1) p q = h) (he1 : discB (r' + 1) (sqI 0 0 p q) = h1) (he2 : discB (r' + 1) (sqI x y p q) = h2) (hw : h = ((decide (0 ≤ u) && decide (u ≤ l) && decide (-(r' + 1) ≤ v) && decide (v ≤ r' + 1)) || h1 || h2)) (w : World) :
    Calls Try.prog 7 #[.int .i64 g, .int .i64 rr, ptV p0 p1, .bool up] w fun e w' => e = .returned (.bool true) ∧ Below w.heap.size w w' := by
  have HX1 := Lib.hid X1
  have HX2 := Lib.hid X2
  have HP := Lib.hid hp
  have P0 := Lib.hid (ptIn_new w p0 p1 25)
  have B0 := Lib.hid (bel_alloc (bel_refl w) (.cells #[.int .i64 p0, .int .i64 p1] 25))
  have w1 : IntKind.i64.wrap l = l := IntWalk.i64_in _ (by omega)
  have w2 : IntKind.i64.wrap (r' + 1) = r' + 1 := IntWalk.i64_in _ (by omega)
  have HC := Lib.hid hc
  have HW := Lib.hid hw
  have CL := Lib.hid (fun w => lineHas_is hh (by omega) (by omega) (by omega) (by omega) (by omega) (by omega) (by omega) (by omega) (by omega) (by omega) (by omega) (by omega) (by omega) w)
  have CD1 := Lib.hid (fun w => discHad_is he1 (by omega) (by omega) (by omega) (by omega) (by omega) (by omega) (by omega) (by omega) (by omega) w)
  have CD2 := Lib.hid (fun w => discHad_is he2 (by omega) (by omega) (by omega) (by omega) (by omega) (by omega) (by omega) (by omega) (by omega) w)
  clear X1 X2 hp hc hw hh he1 he2
  go_enter Try.func7, Try.ntmps7
  go_upto_region 1 with (fail)
  generalize w.alloc (.cells #[.int .i64 p0, .int .i64 p1] 25) = V at *
  go_cut [0, 1] (fun s0 s1 wc => Mid w l (r' + 1) p q s0 s1 wc)
  case first =>
    obtain ⟨⟨i0, i1, il⟩, fi⟩ := P0.out
    go_region_with (first
      | (go_at_call 10; ((with_reducible refine (HX1.out _).mono ?_); rintro e wA ⟨rfl, rfl⟩))
      | (go_at_call 9; ((with_reducible refine (HX2.out _).mono ?_); rintro e wB ⟨rfl, bB⟩; have FB := Lib.hid ((P0.out.drew).later bB); have BB := Lib.hid (bel_trans (bel_drew B0.out) bB); obtain ⟨⟨k0, k1, kl⟩, fk⟩ := FB.out)))
    all_goals go_wp2_with fail
    all_goals go_meet
    all_goals exact ⟨rfl, rfl, FB.out.stored p q, bel_set (bel_set BB.out (b := w.heap.size) (Nat.le_refl _) 0 (.int .i64 p)) (b := w.heap.size) (Nat.le_refl _) 1 (.int .i64 q)⟩
  case rest =>
    obtain ⟨rfl, rfl, hF, hB⟩ := hcut
    clear P0 B0 HX1 HX2 w1 w2 hg hl1 _hl2 _u0 _u1 hr1
    obtain ⟨r, hr⟩ : ∃ r, r' + 1 = r := ⟨_, rfl⟩
    have rc : 1 ≤ r := by omega
    have rd : r ≤ 12 := by omega
    rw [hr] at CL CD1 CD2 HW ⊢
    clear hr ra rb
    have F := Lib.hid hF
    have B := Lib.hid hB
    clear hF hB
    have hlt := F.out.at_.lt
    go_upto_region 2 with (fail)
    go_cut [9, 10] (fun s9 s10 wd => Two w p q l 0 p q s9 s10 wd)
    case first =>
      go_region_held3 (fun w' => w'.cell? ⟨w.heap.size, 0, none⟩ = some (.int .i64 p) ∧ w'.cell? ⟨w.heap.size, 1, none⟩ = some (.int .i64 q)) (simp (maxDischargeDepth := 40) [F.out.at_.c0, F.out.at_.c1, World.cell?_alloc_some])
        (first | fail)
      all_goals go_wp2
      all_goals go_meet
      all_goals
        refine ⟨_, _, rfl, rfl, by omega, by omega, by omega, ?_, ?_, ?_, ?_⟩
        · repeat (first | exact F.out | refine PtIn.alloc ?_ _ | refine PtIn.drew ?_)
        · repeat (first | (refine ptIn_at ?_; simp; done) | refine PtIn.alloc ?_ _ | refine PtIn.drew ?_)
        · repeat (first | (refine ptIn_at ?_; simp; done) | refine PtIn.alloc ?_ _ | refine PtIn.drew ?_)
        · repeat (first | exact B.out | refine bel_alloc ?_ _ | refine bel_drew ?_)
    case rest =>
      obtain ⟨m, n, rfl, rfl, hm, hn, hmn, hP, hM, hN, hB⟩ := hcut
      clear F B hlt
      have P := Lib.hid hP
      have M := Lib.hid hM
      have N := Lib.hid hN
      have B := Lib.hid hB
      clear hP hM hN hB
      go_upto_if 25 with (fail)
      go_cut [] (fun we => Thr w m n p q x y u v we)
      case first =>
        rcases HC.out with ⟨rfl, rfl, rfl, rfl, rfl⟩ | ⟨rfl, rfl, rfl, rfl, rfl⟩
        · go_wp2
          go_meet
          exact ⟨P.out.at_, M.out.at_, N.out.at_, B.out⟩
        · obtain ⟨⟨p0', p1', pl⟩, fp⟩ := P.out
          obtain ⟨⟨m0, m1, ml⟩, fm⟩ := M.out
          obtain ⟨⟨n0, n1, nl⟩, fn⟩ := N.out
          go_wp2_with fail
          go_region
          all_goals go_wp2
          all_goals go_meet
          all_goals exact ⟨((((P.out.far (c := m) (by omega) 0 _).far (c := m) (by omega) 1 _).far (c := n) (by omega) 0 _).far (c := n) (by omega) 1 _).drew.at_,
            (((M.out.stored 0 y).far (c := n) (by omega) 0 _).far (c := n) (by omega) 1 _).drew.at_,
            ((((N.out.far (c := m) (by omega) 0 _).far (c := m) (by omega) 1 _)).stored u v).drew.at_,
            bel_drew (bel_set (bel_set (bel_set (bel_set B.out (b := m) (by omega) 0 _) (b := m) (by omega) 1 _) (b := n) (by omega) 0 _) (b := n) (by omega) 1 _)⟩
      case rest =>
        obtain ⟨hP, hM, hN, hB⟩ := hcut
        clear P M N B HC hm hn hmn
        have P := Lib.hid hP
        have M := Lib.hid hM
        have N := Lib.hid hN
        have B := Lib.hid hB
        clear hP hM hN hB
        have w3 : IntKind.i64.wrap (-r) = -r := IntWalk.i64_in _ (by omega)
        go_upto_region 5 with (fail)
        go_cut [11] (fun s11 wf => Want w m p q x y h s11 wf)
        case first =>
          obtain ⟨p0', p1', pl⟩ := P.out
          obtain ⟨m0, m1, ml⟩ := M.out
          obtain ⟨n0, n1, nl⟩ := N.out
          have hw := HW.out
          by_cases k1 : 0 ≤ u
          case neg =>
            have d1 : decide (0 ≤ u) = false := decide_eq_false k1
            have e : h = (h1 || h2) := by rw [hw, d1]; simp
            clear hw
            have E := Lib.hid e
            clear e
            go_wp2_with fail
            refine (CD1.out _).mono ?_; rintro e wD ⟨rfl, z1⟩
            have P2 := Lib.hid (P.out.later z1)
            have M2 := Lib.hid (M.out.later z1)
            have B2 := Lib.hid (bel_trans B.out z1)
            clear z1 p0' p1' pl m0 m1 ml n0 n1 nl P M N B
            cases h1 with
            | true =>
              go_wp2
              go_meet
              exact ⟨by rw [E.out]; rfl, P2.out, M2.out, B2.out⟩
            | false =>
              obtain ⟨p0', p1', pl⟩ := P2.out
              obtain ⟨m0, m1, ml⟩ := M2.out
              go_wp2_with fail
              refine (CD2.out _).mono ?_; rintro e wE ⟨rfl, z2⟩
              go_wp2
              go_meet
              exact ⟨by rw [E.out]; rfl, P2.out.later z2, M2.out.later z2, bel_trans B2.out z2⟩
          by_cases k2 : u ≤ l
          case neg =>
            have d1 : decide (0 ≤ u) = true := decide_eq_true k1
            have d2 : decide (u ≤ l) = false := decide_eq_false k2
            have e : h = (h1 || h2) := by rw [hw, d1, d2]; simp
            clear hw
            have E := Lib.hid e
            clear e
            go_wp2_with fail
            refine (CD1.out _).mono ?_; rintro e wD ⟨rfl, z1⟩
            have P2 := Lib.hid (P.out.later z1)
            have M2 := Lib.hid (M.out.later z1)
            have B2 := Lib.hid (bel_trans B.out z1)
            clear z1 p0' p1' pl m0 m1 ml n0 n1 nl P M N B
            cases h1 with
            | true =>
              go_wp2
              go_meet
              exact ⟨by rw [E.out]; rfl, P2.out, M2.out, B2.out⟩
            | false =>
              obtain ⟨p0', p1', pl⟩ := P2.out
              obtain ⟨m0, m1, ml⟩ := M2.out
              go_wp2_with fail
              refine (CD2.out _).mono ?_; rintro e wE ⟨rfl, z2⟩
              go_wp2
              go_meet
              exact ⟨by rw [E.out]; rfl, P2.out.later z2, M2.out.later z2, bel_trans B2.out z2⟩
          by_cases k3 : -r ≤ v
          case neg =>
            have d1 : decide (0 ≤ u) = true := decide_eq_true k1
            have d2 : decide (u ≤ l) = true := decide_eq_true k2
            have d3 : decide (-r ≤ v) = false := decide_eq_false k3
            have e : h = (h1 || h2) := by rw [hw, d1, d2, d3]; simp
            clear hw
            have E := Lib.hid e
            clear e
            go_wp2_with fail
            refine (CD1.out _).mono ?_; rintro e wD ⟨rfl, z1⟩
            have P2 := Lib.hid (P.out.later z1)
            have M2 := Lib.hid (M.out.later z1)
            have B2 := Lib.hid (bel_trans B.out z1)
            clear z1 p0' p1' pl m0 m1 ml n0 n1 nl P M N B
            cases h1 with
            | true =>
              go_wp2
              go_meet
              exact ⟨by rw [E.out]; rfl, P2.out, M2.out, B2.out⟩
            | false =>
              obtain ⟨p0', p1', pl⟩ := P2.out
              obtain ⟨m0, m1, ml⟩ := M2.out
              go_wp2_with fail
              refine (CD2.out _).mono ?_; rintro e wE ⟨rfl, z2⟩
              go_wp2
              go_meet
              exact ⟨by rw [E.out]; rfl, P2.out.later z2, M2.out.later z2, bel_trans B2.out z2⟩
          by_cases k4 : v ≤ r
          case neg =>
            have d1 : decide (0 ≤ u) = true := decide_eq_true k1
            have d2 : decide (u ≤ l) = true := decide_eq_true k2
            have d3 : decide (-r ≤ v) = true := decide_eq_true k3
            have d4 : decide (v ≤ r) = false := decide_eq_false k4
            have e : h = (h1 || h2) := by rw [hw, d1, d2, d3, d4]; simp
            clear hw
            have E := Lib.hid e
            clear e
            go_wp2_with fail
            refine (CD1.out _).mono ?_; rintro e wD ⟨rfl, z1⟩
            have P2 := Lib.hid (P.out.later z1)
            have M2 := Lib.hid (M.out.later z1)
            have B2 := Lib.hid (bel_trans B.out z1)
            clear z1 p0' p1' pl m0 m1 ml n0 n1 nl P M N B
            cases h1 with
            | true =>
              go_wp2
              go_meet
              exact ⟨by rw [E.out]; rfl, P2.out, M2.out, B2.out⟩
            | false =>
              obtain ⟨p0', p1', pl⟩ := P2.out
              obtain ⟨m0, m1, ml⟩ := M2.out
              go_wp2_with fail
              refine (CD2.out _).mono ?_; rintro e wE ⟨rfl, z2⟩
              go_wp2
              go_meet
              exact ⟨by rw [E.out]; rfl, P2.out.later z2, M2.out.later z2, bel_trans B2.out z2⟩
          have d1 : decide (0 ≤ u) = true := decide_eq_true k1
          have d2 : decide (u ≤ l) = true := decide_eq_true k2
          have d3 : decide (-r ≤ v) = true := decide_eq_true k3
          have d4 : decide (v ≤ r) = true := decide_eq_true k4
          have e : h = true := by rw [hw, d1, d2, d3, d4]; simp
          clear hw
          have E := Lib.hid e
          clear e
          go_wp2
          go_meet
          exact ⟨by rw [E.out], P.out, M.out, B.out⟩
        case rest =>
          obtain ⟨rfl, hP, hM, hB⟩ := hcut
          clear P M N B HW CD1 CD2
          have B := Lib.hid hB
          clear hB
          obtain ⟨p0', p1', pl⟩ := hP
          obtain ⟨m0, m1, ml⟩ := hM
          go_wp2_with fail
          refine (CL.out _).mono ?_; rintro e wD ⟨rfl, z1⟩
          go_wp2_with fail
          refine (awake_any _).mono ?_; rintro e wE ⟨rfl, z2⟩
          go_wp2
          go_ret
          exact ⟨rfl, bel_trans (bel_trans B.out z1) z2⟩
theorem walk (g rr p0 p1 : Int) (up : Bool) (_ : -9223372036854775808 ≤ g) (_ : g ≤ 9223372036854775807) (_ : -9223372036854775808 ≤ rr) (_ : rr ≤ 9223372036854775807) (_ : -9223372036854775808 ≤ p0) (_ : p0 ≤ 9223372036854775807) (_ : -9223372036854775808 ≤ p1) (_ : p1 ≤ 9223372036854775807) (w : World) :
    Calls Try.prog 7 #[.int .i64 g, .int .i64 rr, ptV p0 p1, .bool up] w fun e w' => e = .returned (.bool true) ∧ Below w.heap.size w w' := by
  obtain ⟨ul, l, h1, h2, h3, h4, h5, h6, h7⟩ := rem_at g 50 (by omega) (by omega)
  obtain ⟨r, r1, r2, X1⟩ := r_form rr
  obtain ⟨r', r3, r4, hr⟩ := r_left (n := 12) r1 (by omega)
  obtain ⟨p, q, hp, X2⟩ := close_form p0 p1 70 71 (by omega) (by omega) rfl
  cases up with
  | false => exact core g rr p0 p1 false ul l r r' p q l 0 p q _ _ _ h1 h2 h3 h4 h5 h6 h7 X1 hr r3 (by omega) X2 hp (.inl ⟨rfl, rfl, rfl, rfl, rfl⟩) rfl rfl rfl (line_straight h6 (by omega)) w
  | true => exact core g rr p0 p1 true ul l r r' p q 0 l q p _ _ _ h1 h2 h3 h4 h5 h6 h7 X1 hr r3 (by omega) X2 hp (.inr ⟨rfl, rfl, rfl, rfl, rfl⟩) rfl rfl rfl (straight_up h6 (by omega)) w
theorem own : ownKnob Try.prog.godebug = none := by kernel_rfl
set_option maxRecDepth 100000 in
set_option maxHeartbeats 4000000 in
theorem lifted (os : Os) (started : os.Started) (H : Type) (enc : TypeId × Value → H) :
    ReturnsInHanded {} Try.checked os 7 .any (Rows.lineStraightSpec.pre6 enc Try.prog Try.f7 Rows.lineStraightRow.domain false) (Rows.lineStraightSpec.post enc Try.prog Try.f7 false true false false) := by
  refine returnsInHanded_of_change (C := Try.checked) own started (by kernel_rfl) Try.func7
    (ChangeSpec.witness6 (enc := enc) (C := Try.checked) false ⟨#[], #[.int .i64 0, .int .i64 0, .agg #[.int .i64 0, .int .i64 0], .bool false], []⟩ 8 (by kernel_rfl) (by kernel_rfl) (by kernel_rfl) (by kernel_rfl)) ?_
  intro W base args ds gs before hval0 hW _ _
  have hval : ∀ (j : Nat) t v, Try.f7.params[j]? = some t → args[j]? = some v → Value.okWide Try.prog W .any base t v := hval0
  have hW' := hW
  obtain ⟨p, q, hA0, hV, rfl, hfz, hnd⟩ := hW
  have hA : DataW.TrodAll enc Try.prog W 0 (fun _ => true) true Try.f7.params.toList args.toList ds p := hA0
  rw [Try.params7] at hA hval
  obtain ⟨v0, vs0, d0, ds0, p0, q0, hargs, rfl, rfl, h0, r0⟩ := trodAll_cons hA
  obtain ⟨v1, vs1, d1, ds1, p1, q1, rfl, rfl, rfl, h1, r1⟩ := trodAll_cons r0
  obtain ⟨v2, vs2, d2, ds2, p2, q2, rfl, rfl, rfl, h2, r2⟩ := trodAll_cons r1
  obtain ⟨v3, vs3, d3, ds3, p3, q3, rfl, rfl, rfl, h3, r3⟩ := trodAll_cons r2
  obtain ⟨rfl, rfl, rfl⟩ := trodAll_nil r3
  obtain rfl : args = #[v0, v1, v2, v3] := by cases args; simp_all
  obtain ⟨rfl, rfl⟩ := trodVars_none hV
  obtain ⟨a0, rfl, rfl, rfl, w0⟩ := open_int Try.underlying2 (hval 0 2 v0 rfl rfl) h0
  obtain ⟨a1, rfl, rfl, rfl, w1⟩ := open_int Try.underlying2 (hval 1 2 v1 rfl rfl) h1
  obtain ⟨c2_0, c2_1, y2_0, y2_1, m2, rfl, rfl, rfl, k2_0, k2_1⟩ := open_agg2 Try.underlying25 (by kernel_rfl) (by kernel_rfl) (hval 2 25 v2 rfl rfl) h2
  obtain ⟨a2_0, ea2_0, rfl, wa2_0⟩ := DataW.trod_int Try.underlying2 k2_0
  simp at ea2_0; subst ea2_0
  obtain ⟨a2_1, ea2_1, rfl, wa2_1⟩ := DataW.trod_int Try.underlying2 k2_1
  simp at ea2_1; subst ea2_1
  obtain ⟨a3, rfl, rfl, rfl⟩ := open_bool Try.underlying4 (hval 3 4 v3 rfl rfl) h3
  have s2 : ∀ (W' : World) (sp : Nat → Bool), DataW.Trod enc Try.prog W' 0 sp true 25 (.agg #[.int .i64 a2_0, .int .i64 a2_1]) (.agg [.lit (.int .i64 a2_0), .lit (.int .i64 a2_1)]) [] := fun W' sp =>
    shut_agg2 (y0 := (.lit (.int .i64 a2_0), [])) (y1 := (.lit (.int .i64 a2_1), [])) Try.underlying25 (by kernel_rfl) (by kernel_rfl) ⟨1, by simp [DataW.trod, Try.underlying2, wa2_0]⟩ ⟨1, by simp [DataW.trod, Try.underlying2, wa2_1]⟩
  clear hA0 hval0
  simp only [List.append_nil] at hW'
  refine (walk a0 a1 a2_0 a2_1 a3 (bounds_i64 w0).1 (bounds_i64 w0).2 (bounds_i64 w1).1 (bounds_i64 w1).2 (bounds_i64 wa2_0).1 (bounds_i64 wa2_0).2 (bounds_i64 wa2_1).1 (bounds_i64 wa2_1).2 W).mono fun e W' ⟨he, bel⟩ => ?_
  subst he
  exact ⟨_, rfl, _, _, _, [], _, [], hW', trodAll_mk1 (shut_bool Try.underlying4 _), (trodAll_cons_mk (shut_int Try.underlying2 w0) (trodAll_cons_mk (shut_int Try.underlying2 w1) (trodAll_cons_mk (s2 _ _) (trodAll_cons_mk (shut_bool Try.underlying4 a3) trodAll_mk0)))), rfl, bel.frame _, fun h => by cases h⟩
theorem over : Rows.lineStraightRow.holds Try.pinned (OpenSpec.ofChange Rows.lineStraightSpec) :=
  OpenClaim.holds_of_wide 7 Try.f7 rfl rfl rfl rfl rfl rfl rfl ⟨rfl, rfl, rfl, rfl, rfl⟩ rfl rfl rfl rfl rfl (by kernel_rfl) Try.func7 (by kernel_rfl)
    (of_decide_eq_true (by kernel_rfl)) (by unfold Func.isWrapper; first | (rw [if_pos (by decide +kernel)]; kernel_rfl) | (rw [if_neg (by decide +kernel)]; exact ⟨rfl, rfl⟩))
    (fun os started H enc _ => lifted os started H enc)
theorem proved : Rows.LineStraightSaid := over
#print axioms proved
end Go.Proofs.Ytfknddjclkjhoaa.lineStraight
