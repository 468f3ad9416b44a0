/- Whether a segment meets a box hangs on no order of its ends and on no mirror; a box meets a segment of one point that lies in it; and where a whole point of the box lies on the segment, Meets says so: for all boxes and points that the law makes of any eight numbers of 64 bits. No condition. -/
import Derived.Test.YtimoekgnockhdaaRows
import Derived.Test.YtimoekgnockhdaaAwake4
import Derived.Test.YtimoekgnockhdaaClose4
import Derived.Test.YtimoekgnockhdaaCrossMath
import Derived.ProofKit
import Derived.OpenShut
import Derived.ShutString
import Derived.ChangeOld
import Derived.Below
import Derived.Lib.SmallJoins
import Derived.Deep.RegionWith
namespace Go.Proofs.Ytimoekgnockhdaa.boxCrosses
open Go.ChangeShapes Go.WideShapes Go.ChangeAt Go.RowKit Go.Joins

/-- The box and both points in their blocks. -/
structure Three (W : World) (x0 y0 x1 y1 px py qx qy : Int) (wr : World) : Prop where
  b : BoxAt wr W.heap.size x0 y0 x1 y1
  p : PtAt wr (W.heap.size + 1) px py
  q : PtAt wr (W.heap.size + 1 + 1) qx qy
  old : Below W.heap.size W wr
theorem Three.later {W w w1 : World} {x0 y0 x1 y1 px py qx qy : Int} (h : Three W x0 y0 x1 y1 px py qx qy w) (k : Below w.heap.size w w1) : Three W x0 y0 x1 y1 px py qx qy w1 :=
  ⟨h.b.later k, h.p.later k, h.q.later k, bel_trans h.old k⟩
theorem Three.alloc {W w : World} {x0 y0 x1 y1 px py qx qy : Int} (h : Three W x0 y0 x1 y1 px py qx qy w) (o : Obj) : Three W x0 y0 x1 y1 px py qx qy (w.alloc o) := h.later (bel_alloc (bel_refl w) o)
def First (W : World) (b0 b1 b2 b3 px py qx qy : Int) (wr : World) : Prop :=
  BoxIn wr W.heap.size b0 b1 b2 b3 ∧ PtAt wr (W.heap.size + 1) px py ∧ PtAt wr (W.heap.size + 1 + 1) qx qy ∧ Below W.heap.size W wr
def Five (W : World) (x0 y0 x1 y1 px py qx qy : Int) (s87 : Value) (wr : World) : Prop := s87 = .bool false ∧ Three W x0 y0 x1 y1 px py qx qy wr
/-- The head of a round of the inner loop, and of the outer one. -/
def InAt (W : World) (x0 y0 x1 y1 px py qx qy : Int) (sy : Value) (wr : World) : Prop := ∃ y : Int, sy = .int .i64 y ∧ y0 ≤ y ∧ y ≤ y1 + 1 ∧ Three W x0 y0 x1 y1 px py qx qy wr
def OutAt (W : World) (x0 y0 x1 y1 px py qx qy : Int) (sx : Value) (wr : World) : Prop := ∃ x : Int, sx = .int .i64 x ∧ x0 ≤ x ∧ x ≤ x1 + 1 ∧ Three W x0 y0 x1 y1 px py qx qy wr
theorem has_is {a b c d x y : Int} {r : Bool} (h : hasB a b c d x y = r) (w : World) :
    Calls Try.prog 8 #[boxV a b c d, ptV x y] w fun e w' => e = .returned (.bool r) ∧ Below w.heap.size w w' := h ▸ has_any a b c d x y w
theorem meets_is {a b c d x y u v : Int} {r : Bool} (h : meetB a b c d x y u v = r) (a0 : -536870912 ≤ a) (ac : a ≤ c) (c1 : c ≤ 536870912) (b0 : -536870912 ≤ b) (bd : b ≤ d) (d1 : d ≤ 536870912) (x0 : -536870912 ≤ x) (x1 : x ≤ 536870912) (y0 : -536870912 ≤ y) (y1 : y ≤ 536870912) (u0 : -536870912 ≤ u) (u1 : u ≤ 536870912) (v0 : -536870912 ≤ v) (v1 : v ≤ 536870912) (w : World) :
    Calls Try.prog 16 #[boxV a b c d, ptV x y, ptV u v] w fun e w' => e = .returned (.bool r) ∧ Below w.heap.size w w' := h ▸ meets_any a b c d x y u v a0 ac c1 b0 bd d1 x0 x1 y0 y1 u0 u1 v0 v1 w

set_option maxRecDepth 100000 in
set_option maxHeartbeats 8000000 in
theorem core (b0 b1 b2 b3 a0 a1 c0 c1 x0 y0 r s x1 y1 px py qx qy k1 k2 k3 k4 : Int) (m t h : Bool)
    (e0 : b0.tmod 6 = x0) (e1 : b1.tmod 6 = y0) (e2 : bits .and .i64 b2 3 = r) (e3 : bits .and .i64 b3 3 = s) (e4 : x0 + r = x1) (e5 : y0 + s = y1)
    (f0 : a0.tmod 10 = px) (f1 : a1.tmod 10 = py) (f2 : c0.tmod 10 = qx) (f3 : c1.tmod 10 = qy)
    (g1 : (if qx < px then qx else px) = k1) (g2 : (if px < qx then qx else px) = k2) (g3 : (if qy < py then qy else py) = k3) (g4 : (if py < qy then qy else py) = k4)
    (hx : -5 ≤ x0) (hx' : x0 ≤ 5) (hy : -5 ≤ y0) (hy' : y0 ≤ 5) (hr : 0 ≤ r) (hr' : r ≤ 3) (hs : 0 ≤ s) (hs' : s ≤ 3)
    (hp : -9 ≤ px) (hp' : px ≤ 9) (hq : -9 ≤ py) (hq' : py ≤ 9) (hu : -9 ≤ qx) (hu' : qx ≤ 9) (hv : -9 ≤ qy) (hv' : qy ≤ 9)
    (hm : meetB x0 y0 x1 y1 px py qx qy = m) (ht : meetB x0 y0 x1 y1 px py px py = t) (hh : hasB x0 y0 x1 y1 px py = h) (w : World) :
    Calls Try.prog 7 #[boxV b0 b1 b2 b3, ptV a0 a1, ptV c0 c1] w fun e w' => e = .returned (.bool true) ∧ Below w.heap.size w w' := by
  have hx1 : x0 ≤ x1 := by omega
  have hy1 : y0 ≤ y1 := by omega
  have hx2 : x1 ≤ 8 := by omega
  have hy2 : y1 ≤ 8 := by omega
  have P1 := Lib.hid (fun w => close9 f0 f1 w)
  have P2 := Lib.hid (fun w => close9 f2 f3 w)
  have M1 := Lib.hid (fun w => meets_is hm (by omega) hx1 (by omega) (by omega) hy1 (by omega) (by omega) (by omega) (by omega) (by omega) (by omega) (by omega) (by omega) (by omega) w)
  have M2 := Lib.hid (fun w => meets_is ((meet_swap x0 y0 x1 y1 px py qx qy).trans hm) (by omega) hx1 (by omega) (by omega) hy1 (by omega) (by omega) (by omega) (by omega) (by omega) (by omega) (by omega) (by omega) (by omega) w)
  have M3 := Lib.hid (fun w => meets_is ((meet_mirror x0 y0 x1 y1 px py qx qy).trans hm) (by omega) (by omega) (by omega) (by omega) hy1 (by omega) (by omega) (by omega) (by omega) (by omega) (by omega) (by omega) (by omega) (by omega) w)
  have M4 := Lib.hid (fun w => meets_is ht (by omega) hx1 (by omega) (by omega) hy1 (by omega) (by omega) (by omega) (by omega) (by omega) (by omega) (by omega) (by omega) (by omega) w)
  have H5 := Lib.hid (fun w => has_is hh w)
  have hth : t = false → h = false := by
    intro k
    cases h with
    | false => rfl
    | true =>
      have hb := of_decide_eq_true hh
      rw [meet_in hb.1 hb.2.1 hb.2.2.1 hb.2.2.2] at ht
      rw [k] at ht
      simp at ht
  have hth := Lib.hid hth
  have hm := Lib.hid hm
  have G1 := Lib.hid g1
  have G2 := Lib.hid g2
  have G3 := Lib.hid g3
  have G4 := Lib.hid g4
  have E0 := Lib.hid e0
  have E1 := Lib.hid e1
  have E2 := Lib.hid e2
  have E3 := Lib.hid e3
  have E4 := Lib.hid e4
  have E5 := Lib.hid e5
  clear ht hh f0 f1 f2 f3 g1 g2 g3 g4 e0 e1 e2 e3 e4 e5
  go_enter Try.func7, Try.ntmps7
  go_wp2_with fail
  go_cut [] (fun wc => First w b0 b1 b2 b3 px py qx qy wc)
  case first =>
    go_region_with (first | (go_at_call 21; (with_reducible refine (P1.out _).mono ?_); rintro e w' ⟨rfl, rfl⟩) | (go_at_call 21; (with_reducible refine (P2.out _).mono ?_); rintro e w' ⟨rfl, rfl⟩))
    all_goals go_wp2
    all_goals go_meet
    all_goals
      refine ⟨?_, ?_, ?_, ?_⟩
      · repeat (first | (refine boxIn_at ?_; simp; done) | refine BoxIn.alloc ?_ _ | refine BoxIn.drew ?_)
      · repeat (first | (refine ptAt_at ?_; simp; done) | refine PtAt.alloc ?_ _ | refine PtAt.drew ?_)
      · repeat (first | (refine ptAt_at ?_; simp; done) | refine PtAt.alloc ?_ _ | refine PtAt.drew ?_)
      · repeat (first | exact bel_refl _ | refine bel_alloc ?_ _ | refine bel_drew ?_)
  case rest =>
    obtain ⟨hI, hP, hQ, hB⟩ := hcut
    clear P1 P2
    have T := Lib.hid (Three.mk (W := w) (hI.stored x0 y0 x1 y1).at_ ((((hP.far (c := w.heap.size) (by omega) 0 (.int .i64 x0)).far (c := w.heap.size) (by omega) 1 (.int .i64 y0)).far (c := w.heap.size) (by omega) 2 (.int .i64 x1)).far (c := w.heap.size) (by omega) 3 (.int .i64 y1))
      ((((hQ.far (c := w.heap.size) (by omega) 0 (.int .i64 x0)).far (c := w.heap.size) (by omega) 1 (.int .i64 y0)).far (c := w.heap.size) (by omega) 2 (.int .i64 x1)).far (c := w.heap.size) (by omega) 3 (.int .i64 y1))
      (bel_set (bel_set (bel_set (bel_set hB (b := w.heap.size) (by omega) 0 (.int .i64 x0)) (b := w.heap.size) (by omega) 1 (.int .i64 y0)) (b := w.heap.size) (by omega) 2 (.int .i64 x1)) (b := w.heap.size) (by omega) 3 (.int .i64 y1)))
    obtain ⟨⟨i0, i1, i2, i3, il⟩, fr⟩ := hI
    have e0 := E0.out
    have e1 := E1.out
    have e2 := E2.out
    have e3 := E3.out
    have e4 := E4.out
    have e5 := E5.out
    clear hP hQ hB
    go_upto_region 3 with (fail)
    clear e0 e1 e2 e3 e4 e5 E0 E1 E2 E3 E4 E5 i0 i1 i2 i3 il fr
    generalize (((wc.setCell ⟨w.heap.size, 0, none⟩ (.int .i64 x0)).setCell ⟨w.heap.size, 1, none⟩ (.int .i64 y0)).setCell ⟨w.heap.size, 2, none⟩ (.int .i64 x1)).setCell ⟨w.heap.size, 3, none⟩ (.int .i64 y1) = W at *
    obtain ⟨⟨c0, c1, c2, c3, cl⟩, ⟨p0, p1, pl⟩, ⟨q0, q1, ql⟩, _⟩ := T.out
    go_wp2_with fail
    refine (M1.out _).mono ?_; rintro e w1 ⟨rfl, b1⟩
    have T1 := Lib.hid (T.out.later b1)
    clear b1 c0 c1 c2 c3 cl p0 p1 pl q0 q1 ql T M1
    obtain ⟨⟨c0, c1, c2, c3, cl⟩, ⟨p0, p1, pl⟩, ⟨q0, q1, ql⟩, _⟩ := T1.out
    go_upto_region 5 with (fail)
    have T2 := Lib.hid (T1.out.alloc (.cells #[.int .i64 (-x1), .int .i64 y0, .int .i64 (-x0), .int .i64 y1] 23))
    have X2 := Lib.hid (boxAt_new w1 (-x1) y0 (-x0) y1 23)
    clear c0 c1 c2 c3 cl p0 p1 pl q0 q1 ql
    generalize w1.alloc (.cells #[.int .i64 (-x1), .int .i64 y0, .int .i64 (-x0), .int .i64 y1] 23) = V at *
    clear T1
    go_cut [87] (fun s87 wc => Five w x0 y0 x1 y1 px py qx qy s87 wc)
    case first =>
      obtain ⟨⟨c0, c1, c2, c3, cl⟩, ⟨p0, p1, pl⟩, ⟨q0, q1, ql⟩, _⟩ := T2.out
      go_wp2_with fail
      refine (M2.out _).mono ?_; rintro e w2 ⟨rfl, b2⟩
      have T3 := Lib.hid (T2.out.later b2)
      have X3 := Lib.hid (X2.out.later b2)
      clear b2 c0 c1 c2 c3 cl p0 p1 pl q0 q1 ql T2 X2 M2
      obtain ⟨⟨c0, c1, c2, c3, cl⟩, ⟨p0, p1, pl⟩, ⟨q0, q1, ql⟩, _⟩ := T3.out
      obtain ⟨d0, d1, d2, d3, dl⟩ := X3.out
      go_wp2_with fail
      refine (M3.out _).mono ?_; rintro e w3 ⟨rfl, b3⟩
      have T4 := Lib.hid (T3.out.later b3)
      clear b3 c0 c1 c2 c3 cl p0 p1 pl q0 q1 ql T3 X3 M3 d0 d1 d2 d3 dl
      obtain ⟨⟨c0, c1, c2, c3, cl⟩, ⟨p0, p1, pl⟩, ⟨q0, q1, ql⟩, _⟩ := T4.out
      go_wp2_with fail
      refine (M4.out _).mono ?_; rintro e w4 ⟨rfl, b4⟩
      have T5 := Lib.hid (T4.out.later b4)
      clear b4 c0 c1 c2 c3 cl p0 p1 pl q0 q1 ql T4 M4
      cases t with
      | true =>
        go_wp2
        go_meet
        exact ⟨rfl, T5.out⟩
      | false =>
        obtain rfl : h = false := hth.out rfl
        obtain ⟨⟨c0, c1, c2, c3, cl⟩, ⟨p0, p1, pl⟩, ⟨q0, q1, ql⟩, _⟩ := T5.out
        go_wp2_with fail
        refine (H5.out _).mono ?_; rintro e w5 ⟨rfl, b5⟩
        have T6 := Lib.hid (T5.out.later b5)
        clear b5 c0 c1 c2 c3 cl p0 p1 pl q0 q1 ql T5
        go_wp2
        go_meet
        exact ⟨rfl, T6.out⟩
    case rest =>
      obtain ⟨rfl, hT⟩ := hcut
      clear T2 X2 M2 M3 M4 H5 hth
      have T := Lib.hid hT
      obtain ⟨⟨c0, c1, c2, c3, cl⟩, ⟨p0, p1, pl⟩, ⟨q0, q1, ql⟩, _⟩ := hT
      go_wp2_with fail
      clear c0 c1 c2 c3 cl p0 p1 pl q0 q1 ql
      go_loopw [9] (fun sx wr => OutAt w x0 y0 x1 y1 px py qx qy sx wr) (fun sx _ => (x1 + 1 - intOf sx).toNat)
      case atStart => exact ⟨x0, rfl, by omega, by omega, T.out⟩
      case round =>
        obtain ⟨x, rfl, hxa, hxb, hT⟩ := hrel
        clear T
        have T := Lib.hid hT
        obtain ⟨⟨c0, c1, c2, c3, cl⟩, ⟨p0, p1, pl⟩, ⟨q0, q1, ql⟩, _⟩ := hT
        by_cases hlt : x ≤ x1
        · go_wp2_with fail
          clear c0 c1 c2 c3 cl p0 p1 pl q0 q1 ql
          go_loopw [10] (fun sy wr => InAt w x0 y0 x1 y1 px py qx qy sy wr) (fun sy _ => (y1 + 1 - intOf sy).toNat)
          case atStart => exact ⟨y0, rfl, by omega, by omega, T.out⟩
          case round =>
            obtain ⟨y, rfl, hya, hyb, hT⟩ := hrel
            clear T
            have T := Lib.hid hT
            obtain ⟨⟨c0, c1, c2, c3, cl⟩, ⟨p0, p1, pl⟩, ⟨q0, q1, ql⟩, _⟩ := hT
            by_cases hlt2 : y ≤ y1
            · obtain ⟨k, hk⟩ : ∃ k, crI px py qx qy x y = k := ⟨_, rfl⟩
              have C := Lib.hid (fun w => cross_is hk (by omega) (by omega) (by omega) (by omega) (by omega) (by omega) (by omega) (by omega) (by omega) (by omega) (by omega) (by omega) w)
              have hk := Lib.hid hk
              go_wp2_with fail
              refine (C.out _).mono ?_; rintro e w2 ⟨rfl, b2⟩
              have T2 := Lib.hid ((T.out.alloc _).later b2)
              clear b2 c0 c1 c2 c3 cl p0 p1 pl q0 q1 ql T C
              obtain ⟨⟨c0, c1, c2, c3, cl⟩, ⟨p0, p1, pl⟩, ⟨q0, q1, ql⟩, _⟩ := T2.out
              have g1 := G1.out
              have g2 := G2.out
              have g3 := G3.out
              have g4 := G4.out
              by_cases h0 : k = 0
              · subst h0
                by_cases t1 : k1 ≤ x
                · by_cases t2 : x ≤ k2
                  · by_cases t3 : k3 ≤ y
                    · by_cases t4 : y ≤ k4
                      · have hm' : m = true := by
                          rw [← hm.out]
                          exact meet_through hk.out hxa hlt hya hlt2 (by unfold mnI; omega) (by unfold mxI; omega) (by unfold mnI; omega) (by unfold mxI; omega)
                        subst hm'
                        go_wp2
                        go_roundw
                        case rel => exact ⟨y + 1, rfl, by omega, by omega, T2.out⟩
                        case measure => simp [intOf]; omega
                      · go_wp2
                        go_roundw
                        case rel => exact ⟨y + 1, rfl, by omega, by omega, T2.out⟩
                        case measure => simp [intOf]; omega
                    · go_wp2
                      go_roundw
                      case rel => exact ⟨y + 1, rfl, by omega, by omega, T2.out⟩
                      case measure => simp [intOf]; omega
                  · go_wp2
                    go_roundw
                    case rel => exact ⟨y + 1, rfl, by omega, by omega, T2.out⟩
                    case measure => simp [intOf]; omega
                · go_wp2
                  go_roundw
                  case rel => exact ⟨y + 1, rfl, by omega, by omega, T2.out⟩
                  case measure => simp [intOf]; omega
              · have h0b : (k == 0) = false := beq_eq_false_iff_ne.2 h0
                clear h0
                go_wp2
                go_roundw
                case rel => exact ⟨y + 1, rfl, by omega, by omega, T2.out⟩
                case measure => simp [intOf]; omega
            · go_wp2_with fail
              go_roundw
              case rel => exact ⟨x + 1, rfl, by omega, by omega, T.out⟩
              case measure => simp [intOf]; omega
        · go_wp2_with fail
          refine (awake_any _).mono ?_; rintro e w5 ⟨rfl, b5⟩
          go_wp2
          go_ret
          exact ⟨rfl, bel_trans T.out.old b5⟩
theorem walk (b0 b1 b2 b3 a0 a1 c0 c1 : Int) (_ : -9223372036854775808 ≤ b0) (_ : b0 ≤ 9223372036854775807) (_ : -9223372036854775808 ≤ b1) (_ : b1 ≤ 9223372036854775807) (_ : -9223372036854775808 ≤ b2) (_ : b2 ≤ 9223372036854775807) (_ : -9223372036854775808 ≤ b3) (_ : b3 ≤ 9223372036854775807)
    (_ : -9223372036854775808 ≤ a0) (_ : a0 ≤ 9223372036854775807) (_ : -9223372036854775808 ≤ a1) (_ : a1 ≤ 9223372036854775807) (_ : -9223372036854775808 ≤ c0) (_ : c0 ≤ 9223372036854775807) (_ : -9223372036854775808 ≤ c1) (_ : c1 ≤ 9223372036854775807) (w : World) :
    Calls Try.prog 7 #[boxV b0 b1 b2 b3, ptV a0 a1, ptV c0 c1] w fun e w' => e = .returned (.bool true) ∧ Below w.heap.size w w' := by
  obtain ⟨x0, _, _, e0⟩ := tmod_at b0 6 (by omega)
  obtain ⟨y0, _, _, e1⟩ := tmod_at b1 6 (by omega)
  obtain ⟨r, _, _, e2⟩ := mask_3 b2
  obtain ⟨s, _, _, e3⟩ := mask_3 b3
  obtain ⟨px, _, _, f0⟩ := tmod_at a0 10 (by omega)
  obtain ⟨py, _, _, f1⟩ := tmod_at a1 10 (by omega)
  obtain ⟨qx, _, _, f2⟩ := tmod_at c0 10 (by omega)
  obtain ⟨qy, _, _, f3⟩ := tmod_at c1 10 (by omega)
  exact core b0 b1 b2 b3 a0 a1 c0 c1 x0 y0 r s _ _ px py qx qy _ _ _ _ _ _ _ e0 e1 e2 e3 rfl rfl f0 f1 f2 f3 rfl rfl rfl rfl (by omega) (by omega) (by omega) (by omega) (by omega) (by omega) (by omega) (by omega) (by omega) (by omega) (by omega) (by omega) (by omega) (by omega) (by omega) (by omega) rfl rfl rfl w
theorem own : ownKnob Try.prog.godebug = none := by kernel_rfl
set_option maxRecDepth 100000 in
theorem lifted (os : Os) (started : os.Started) (H : Type) (enc : TypeId × Value → H) :
    ReturnsInHanded {} Try.checked os 7 .any (Rows.boxCrossesSpec.pre6 enc Try.prog Try.f7 Rows.boxCrossesRow.domain false) (Rows.boxCrossesSpec.post enc Try.prog Try.f7 false true false false) := by
  refine returnsInHanded_of_change (C := Try.checked) own started (by kernel_rfl) Try.func7
    (ChangeSpec.witness6 (enc := enc) (C := Try.checked) false ⟨#[], #[.agg #[.int .i64 0, .int .i64 0, .int .i64 0, .int .i64 0], .agg #[.int .i64 0, .int .i64 0], .agg #[.int .i64 0, .int .i64 0]], []⟩ 8 (by kernel_rfl) (by kernel_rfl) (by kernel_rfl) (by kernel_rfl)) ?_
  intro W base args ds gs before hval0 hW _ _
  have hval : ∀ (j : Nat) t v, Try.f7.params[j]? = some t → args[j]? = some v → Value.okWide Try.prog W .any base t v := hval0
  have hW' := hW
  obtain ⟨p, q, hA0, hV, rfl, hfz, hnd⟩ := hW
  have hA : DataW.TrodAll enc Try.prog W 0 (fun _ => true) true Try.f7.params.toList args.toList ds p := hA0
  rw [Try.params7] at hA hval
  obtain ⟨v0, vs0, d0, ds0, p0, q0, hargs, rfl, rfl, h0, r0⟩ := trodAll_cons hA
  obtain ⟨v1, vs1, d1, ds1, p1, q1, rfl, rfl, rfl, h1, r1⟩ := trodAll_cons r0
  obtain ⟨v2, vs2, d2, ds2, p2, q2, rfl, rfl, rfl, h2, r2⟩ := trodAll_cons r1
  obtain ⟨rfl, rfl, rfl⟩ := trodAll_nil r2
  obtain rfl : args = #[v0, v1, v2] := by cases args; simp_all
  obtain ⟨rfl, rfl⟩ := trodVars_none hV
  obtain ⟨c0_0, c0_1, c0_2, c0_3, y0_0, y0_1, y0_2, y0_3, m0, rfl, rfl, rfl, k0_0, k0_1, k0_2, k0_3⟩ := open_agg4 Try.underlying23 (by kernel_rfl) (by kernel_rfl) (hval 0 23 v0 rfl rfl) h0
  obtain ⟨a0_0, ea0_0, rfl, wa0_0⟩ := DataW.trod_int Try.underlying2 k0_0
  simp at ea0_0; subst ea0_0
  obtain ⟨a0_1, ea0_1, rfl, wa0_1⟩ := DataW.trod_int Try.underlying2 k0_1
  simp at ea0_1; subst ea0_1
  obtain ⟨a0_2, ea0_2, rfl, wa0_2⟩ := DataW.trod_int Try.underlying2 k0_2
  simp at ea0_2; subst ea0_2
  obtain ⟨a0_3, ea0_3, rfl, wa0_3⟩ := DataW.trod_int Try.underlying2 k0_3
  simp at ea0_3; subst ea0_3
  obtain ⟨c1_0, c1_1, y1_0, y1_1, m1, rfl, rfl, rfl, k1_0, k1_1⟩ := open_agg2 Try.underlying26 (by kernel_rfl) (by kernel_rfl) (hval 1 26 v1 rfl rfl) h1
  obtain ⟨a1_0, ea1_0, rfl, wa1_0⟩ := DataW.trod_int Try.underlying2 k1_0
  simp at ea1_0; subst ea1_0
  obtain ⟨a1_1, ea1_1, rfl, wa1_1⟩ := DataW.trod_int Try.underlying2 k1_1
  simp at ea1_1; subst ea1_1
  obtain ⟨c2_0, c2_1, y2_0, y2_1, m2, rfl, rfl, rfl, k2_0, k2_1⟩ := open_agg2 Try.underlying26 (by kernel_rfl) (by kernel_rfl) (hval 2 26 v2 rfl rfl) h2
  obtain ⟨a2_0, ea2_0, rfl, wa2_0⟩ := DataW.trod_int Try.underlying2 k2_0
  simp at ea2_0; subst ea2_0
  obtain ⟨a2_1, ea2_1, rfl, wa2_1⟩ := DataW.trod_int Try.underlying2 k2_1
  simp at ea2_1; subst ea2_1
  have s0 : ∀ (W' : World) (sp : Nat → Bool), DataW.Trod enc Try.prog W' 0 sp true 23 (.agg #[.int .i64 a0_0, .int .i64 a0_1, .int .i64 a0_2, .int .i64 a0_3]) (.agg [.lit (.int .i64 a0_0), .lit (.int .i64 a0_1), .lit (.int .i64 a0_2), .lit (.int .i64 a0_3)]) [] := fun W' sp =>
    shut_agg4 (y0 := (.lit (.int .i64 a0_0), [])) (y1 := (.lit (.int .i64 a0_1), [])) (y2 := (.lit (.int .i64 a0_2), [])) (y3 := (.lit (.int .i64 a0_3), [])) Try.underlying23 (by kernel_rfl) (by kernel_rfl) ⟨1, by simp [DataW.trod, Try.underlying2, wa0_0]⟩ ⟨1, by simp [DataW.trod, Try.underlying2, wa0_1]⟩ ⟨1, by simp [DataW.trod, Try.underlying2, wa0_2]⟩ ⟨1, by simp [DataW.trod, Try.underlying2, wa0_3]⟩
  have s1 : ∀ (W' : World) (sp : Nat → Bool), DataW.Trod enc Try.prog W' 0 sp true 26 (.agg #[.int .i64 a1_0, .int .i64 a1_1]) (.agg [.lit (.int .i64 a1_0), .lit (.int .i64 a1_1)]) [] := fun W' sp =>
    shut_agg2 (y0 := (.lit (.int .i64 a1_0), [])) (y1 := (.lit (.int .i64 a1_1), [])) Try.underlying26 (by kernel_rfl) (by kernel_rfl) ⟨1, by simp [DataW.trod, Try.underlying2, wa1_0]⟩ ⟨1, by simp [DataW.trod, Try.underlying2, wa1_1]⟩
  have s2 : ∀ (W' : World) (sp : Nat → Bool), DataW.Trod enc Try.prog W' 0 sp true 26 (.agg #[.int .i64 a2_0, .int .i64 a2_1]) (.agg [.lit (.int .i64 a2_0), .lit (.int .i64 a2_1)]) [] := fun W' sp =>
    shut_agg2 (y0 := (.lit (.int .i64 a2_0), [])) (y1 := (.lit (.int .i64 a2_1), [])) Try.underlying26 (by kernel_rfl) (by kernel_rfl) ⟨1, by simp [DataW.trod, Try.underlying2, wa2_0]⟩ ⟨1, by simp [DataW.trod, Try.underlying2, wa2_1]⟩
  clear hA0 hval0
  simp only [List.append_nil] at hW'
  refine (walk a0_0 a0_1 a0_2 a0_3 a1_0 a1_1 a2_0 a2_1 (bounds_i64 wa0_0).1 (bounds_i64 wa0_0).2 (bounds_i64 wa0_1).1 (bounds_i64 wa0_1).2 (bounds_i64 wa0_2).1 (bounds_i64 wa0_2).2 (bounds_i64 wa0_3).1 (bounds_i64 wa0_3).2 (bounds_i64 wa1_0).1 (bounds_i64 wa1_0).2 (bounds_i64 wa1_1).1 (bounds_i64 wa1_1).2 (bounds_i64 wa2_0).1 (bounds_i64 wa2_0).2 (bounds_i64 wa2_1).1 (bounds_i64 wa2_1).2 W).mono fun e W' ⟨he, bel⟩ => ?_
  subst he
  exact ⟨_, rfl, _, _, _, [], _, [], hW', trodAll_mk1 (shut_bool Try.underlying4 _), (trodAll_cons_mk (s0 _ _) (trodAll_cons_mk (s1 _ _) (trodAll_cons_mk (s2 _ _) trodAll_mk0))), rfl, bel.frame _, fun h => by cases h⟩
theorem over : Rows.boxCrossesRow.holds Try.pinned (OpenSpec.ofChange Rows.boxCrossesSpec) :=
  OpenClaim.holds_of_wide 7 Try.f7 rfl rfl rfl rfl rfl rfl rfl ⟨rfl, rfl, rfl, rfl, rfl⟩ rfl rfl rfl rfl rfl (by kernel_rfl) Try.func7 (by kernel_rfl)
    (of_decide_eq_true (by kernel_rfl)) (by unfold Func.isWrapper; first | (rw [if_pos (by decide +kernel)]; kernel_rfl) | (rw [if_neg (by decide +kernel)]; exact ⟨rfl, rfl⟩))
    (fun os started H enc _ => lifted os started H enc)
theorem proved : Rows.BoxCrossesSaid := over
#print axioms proved
end Go.Proofs.Ytimoekgnockhdaa.boxCrosses
