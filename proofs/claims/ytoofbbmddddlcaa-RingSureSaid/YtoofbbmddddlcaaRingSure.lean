/- In and Out are sure of each point of the box: for every box, arc, radius and point of it that the law makes of any numbers of 64 bits, great and small. No condition. -/
import Derived.Test.YtoofbbmddddlcaaRows
import Derived.Test.YtoofbbmddddlcaaAwake9
import Derived.Test.YtoofbbmddddlcaaArcFacts
import Derived.Test.YtoofbbmddddlcaaRingSureM
import Derived.Test.YtoofbbmddddlcaaLaws7
import Derived.Test.YtoofbbmddddlcaaHeld5
import Derived.ProofKit
import Derived.OpenShut
import Derived.ShutString
import Derived.ChangeOld
import Derived.Below
import Derived.Lib.SmallJoins
import Derived.Lib.QuietBelow
import Derived.BigQuiet
namespace Go.Proofs.Ytoofbbmddddlcaa.ringSure
open Go.ChangeShapes Go.WideShapes Go.ChangeAt Go.RowKit Go.Joins
open Go.Sort (grow)

/-- What lies in memory: the box and the centre side by side, both ends behind them. -/
structure Lay (N g : Nat) (a b c d cx cy ax ay ex ey : Int) (w : World) : Prop where
  b : BoxIn w N a b c d
  c : PtIn w (N + 1) cx cy
  a : PtAt w g ax ay
  e : PtAt w (g + 1) ex ey
  lt : N + 1 < g
theorem Lay.later {N g : Nat} {a b c d cx cy ax ay ex ey : Int} {w w1 : World} (h : Lay N g a b c d cx cy ax ay ex ey w) (k : Below w.heap.size w w1) : Lay N g a b c d cx cy ax ay ex ey w1 := ⟨h.b.later k, h.c.later k, h.a.later k, h.e.later k, h.lt⟩
theorem lay_new {N : Nat} {a b c d p q : Int} {w : World} (h : BP N a b c d p q w) (cx cy ax ay ex ey : Int) (n : TypeId) : Lay N w.heap.size a b c d cx cy ax ay ex ey ((((w.setCell ⟨N + 1, 0, none⟩ (.int .i64 cx)).setCell ⟨N + 1, 1, none⟩ (.int .i64 cy)).alloc (.cells #[.int .i64 ax, .int .i64 ay] n)).alloc (.cells #[.int .i64 ex, .int .i64 ey] n)) := by
  have hz : ((w.setCell ⟨N + 1, 0, none⟩ (.int .i64 cx)).setCell ⟨N + 1, 1, none⟩ (.int .i64 cy)).heap.size = w.heap.size := by simp
  have g1 := ptAt_new ((w.setCell ⟨N + 1, 0, none⟩ (.int .i64 cx)).setCell ⟨N + 1, 1, none⟩ (.int .i64 cy)) ax ay n
  have g2 := ptAt_new (((w.setCell ⟨N + 1, 0, none⟩ (.int .i64 cx)).setCell ⟨N + 1, 1, none⟩ (.int .i64 cy)).alloc (.cells #[.int .i64 ax, .int .i64 ay] n)) ex ey n
  rw [hz] at g1
  rw [show (((w.setCell ⟨N + 1, 0, none⟩ (.int .i64 cx)).setCell ⟨N + 1, 1, none⟩ (.int .i64 cy)).alloc (.cells #[.int .i64 ax, .int .i64 ay] n)).heap.size = w.heap.size + 1 by simp] at g2
  have hl := h.c.at_.lt
  exact ⟨(((h.b.far (c := N + 1) (by omega) 0 (.int .i64 cx)).far (c := N + 1) (by omega) 1 (.int .i64 cy)).alloc _).alloc _, ((h.c.stored cx cy).alloc _).alloc _, g1.alloc _, g2, hl⟩
theorem BP.boxed {N : Nat} {a b c d p q : Int} {w : World} (h : BP N a b c d p q w) (a' b' c' d' : Int) : BP N a' b' c' d' p q ((((w.setCell ⟨N, 0, none⟩ (.int .i64 a')).setCell ⟨N, 1, none⟩ (.int .i64 b')).setCell ⟨N, 2, none⟩ (.int .i64 c')).setCell ⟨N, 3, none⟩ (.int .i64 d')) :=
  ⟨h.b.stored a' b' c' d', (((h.c.far (c := N) (by omega) 0 (.int .i64 a')).far (c := N) (by omega) 1 (.int .i64 b')).far (c := N) (by omega) 2 (.int .i64 c')).far (c := N) (by omega) 3 (.int .i64 d')⟩
theorem PtAt.boxed {N p : Nat} {x y : Int} {w : World} (h : PtAt w p x y) (hn : N ≠ p) (a' b' c' d' : Int) : PtAt ((((w.setCell ⟨N, 0, none⟩ (.int .i64 a')).setCell ⟨N, 1, none⟩ (.int .i64 b')).setCell ⟨N, 2, none⟩ (.int .i64 c')).setCell ⟨N, 3, none⟩ (.int .i64 d')) p x y :=
  (((h.far hn 0 _).far hn 1 _).far hn 2 _).far hn 3 _
theorem Lay.boxed {N g : Nat} {a b c d cx cy ax ay ex ey : Int} {w : World} (h : Lay N g a b c d cx cy ax ay ex ey w) (a' b' c' d' : Int) : Lay N g a' b' c' d' cx cy ax ay ex ey ((((w.setCell ⟨N, 0, none⟩ (.int .i64 a')).setCell ⟨N, 1, none⟩ (.int .i64 b')).setCell ⟨N, 2, none⟩ (.int .i64 c')).setCell ⟨N, 3, none⟩ (.int .i64 d')) := by
  have hl := h.lt
  exact ⟨h.b.stored a' b' c' d', (((h.c.far (c := N) (by omega) 0 (.int .i64 a')).far (c := N) (by omega) 1 (.int .i64 b')).far (c := N) (by omega) 2 (.int .i64 c')).far (c := N) (by omega) 3 (.int .i64 d'), PtAt.boxed h.a (by omega) a' b' c' d', PtAt.boxed h.e (by omega) a' b' c' d', hl⟩
theorem bel_boxed {W w : World} {b : Nat} (h : Below W.heap.size W w) (hb : W.heap.size ≤ b) (a' b' c' d' : Int) : Below W.heap.size W ((((w.setCell ⟨b, 0, none⟩ (.int .i64 a')).setCell ⟨b, 1, none⟩ (.int .i64 b')).setCell ⟨b, 2, none⟩ (.int .i64 c')).setCell ⟨b, 3, none⟩ (.int .i64 d')) := bel_set (bel_set (bel_set (bel_set h hb 0 _) hb 1 _) hb 2 _) hb 3 _
/-- A box that may be and a radius that may be. -/
def Fin (w : World) (g : Nat) (cx cy ax ay ex ey : Int) (s2 : Value) (wc : World) : Prop :=
  ∃ a b c d r : Int, s2 = .int .i64 r ∧ ((-536870912 ≤ a ∧ a ≤ c ∧ c ≤ 536870912) ∧ (-536870912 ≤ b ∧ b ≤ d ∧ d ≤ 536870912) ∧ 1 ≤ r ∧ r ≤ 536870912) ∧ Lay w.heap.size g a b c d cx cy ax ay ex ey wc ∧ Below w.heap.size w wc

set_option maxRecDepth 100000 in
set_option maxHeartbeats 32000000 in
theorem core (b0 b1 b2 b3 c0 c1 rr i j z xx yy : Int) (small : Bool) (a b c d cx cy ax ay ex ey r : Int)
    (X1 : ∀ w, Calls Try.prog 18 #[boxV b0 b1 b2 b3] w fun e w' => e = .returned (boxV a b c d) ∧ Below w.heap.size w w')
    (XA : ∀ w, Calls Try.prog 8 #[ptV c0 c1, .int .i64 i, .int .i64 j, .int .i64 z, .bool small] w fun e w' => e = .returned (.tuple #[ptV cx cy, ptV ax ay, ptV ex ey]) ∧ Below w.heap.size w w')
    (XR : ∀ w, Calls Try.prog 11 #[.int .i64 rr] w fun e w' => e = .returned (.int .i64 r) ∧ w = w')
    (hbd : (-536870912 ≤ a ∧ a ≤ c ∧ c ≤ 536870912) ∧ (-536870912 ≤ b ∧ b ≤ d ∧ d ≤ 536870912) ∧ 1 ≤ r ∧ r ≤ 536870912)
    (hc : -400000000 ≤ cx ∧ cx ≤ 400000000 ∧ -400000000 ≤ cy ∧ cy ≤ 400000000) (ha : -500000000 ≤ ax ∧ ax ≤ 500000000 ∧ -500000000 ≤ ay ∧ ay ≤ 500000000) (he : -500000000 ≤ ex ∧ ex ≤ 500000000 ∧ -500000000 ≤ ey ∧ ey ≤ 500000000) (w : World) :
    Calls Try.prog 5 #[boxV b0 b1 b2 b3, ptV c0 c1, .int .i64 rr, .int .i64 i, .int .i64 j, .int .i64 z, .int .i64 xx, .int .i64 yy, .bool small] w fun e w' => e = .returned (.bool true) ∧ Below w.heap.size w w' := by
  have HX1 := Lib.hid X1
  have HA := Lib.hid XA
  have HX := Lib.hid XR
  have HBD := Lib.hid hbd
  have HC := Lib.hid (And.intro hc (And.intro ha he))
  have F0' := bp_new w b0 b1 b2 b3 c0 c1 23 25
  have B0' := bel_newBP w b0 b1 b2 b3 c0 c1 23 25
  unfold newBP at F0' B0'
  have F0 := Lib.hid F0'
  have B0 := Lib.hid B0'
  clear X1 XA XR hbd hc ha he F0' B0'
  go_enter Try.func5, Try.ntmps5
  go_upto_region 1 with (fail)
  generalize (w.alloc (.cells #[.int .i64 b0, .int .i64 b1, .int .i64 b2, .int .i64 b3] 23)).alloc (.cells #[.int .i64 c0, .int .i64 c1] 25) = V at *
  obtain ⟨⟨⟨i0, i1, i2, i3, il⟩, fi⟩, _⟩ := F0.out
  go_wp2_with fail
  refine (HX1.out _).mono ?_; rintro e' w1 ⟨rfl, z1⟩
  have F1 := Lib.hid (F0.out.later z1)
  have B1 := Lib.hid (bel_trans B0.out z1)
  clear F0 B0 z1 i0 i1 i2 i3 il fi HX1
  go_wp2_with fail
  refine (HX.out _).mono ?_; rintro e' w1 ⟨rfl, rfl⟩
  clear HX
  obtain ⟨⟨⟨i0, i1, i2, i3, il⟩, fi⟩, _⟩ := F1.out
  go_upto_region 2 with (fail)
  clear i0 i1 i2 i3 il fi
  have F2 := Lib.hid (BP.boxed F1.out a b c d)
  have B2 := Lib.hid (bel_boxed B1.out (Nat.le_refl _) a b c d)
  clear F1 B1
  generalize (((w1.setCell ⟨w.heap.size, 0, none⟩ (.int .i64 a)).setCell ⟨w.heap.size, 1, none⟩ (.int .i64 b)).setCell ⟨w.heap.size, 2, none⟩ (.int .i64 c)).setCell ⟨w.heap.size, 3, none⟩ (.int .i64 d) = W1 at *
  obtain ⟨_, ⟨⟨j0, j1, jl⟩, fj⟩⟩ := F2.out
  go_wp2_with fail
  refine (HA.out _).mono ?_; rintro e' w3 ⟨rfl, z3⟩
  have F3 := Lib.hid (F2.out.later z3)
  have B3 := Lib.hid (bel_trans B2.out z3)
  clear F2 B2 z3 j0 j1 jl fj HA
  have G1 := Lib.hid (lay_new F3.out cx cy ax ay ex ey 25)
  have D1 := Lib.hid (bel_alloc (bel_alloc (bel_two B3.out (b := w.heap.size + 1) (by omega) cx cy) (.cells #[.int .i64 ax, .int .i64 ay] 25)) (.cells #[.int .i64 ex, .int .i64 ey] 25))
  obtain ⟨_, ⟨⟨j0, j1, jl⟩, fj⟩⟩ := F3.out
  obtain ⟨m, hm⟩ : ∃ m, w.heap.size + 1 = m := ⟨_, rfl⟩
  rw [hm] at j0 j1 jl
  simp only [hm] at fj
  rw [hm]
  have Hm := Lib.hid hm
  clear hm
  go_upto_if 37 with (fail)
  have hm := Hm.out
  subst hm
  clear j0 j1 jl fj F3 B3 Hm
  generalize (((w3.setCell ⟨w.heap.size + 1, 0, none⟩ (.int .i64 cx)).setCell ⟨w.heap.size + 1, 1, none⟩ (.int .i64 cy)).alloc (.cells #[.int .i64 ax, .int .i64 ay] 25)).alloc (.cells #[.int .i64 ex, .int .i64 ey] 25) = W3 at *
  generalize w3.heap.size = g at *
  go_cut [2] (fun s2 wc => Fin w g cx cy ax ay ex ey s2 wc)
  case first =>
    cases small with
    | false =>
      go_wp2
      go_meet
      exact ⟨a, b, c, d, r, rfl, HBD.out, G1.out, D1.out⟩
    | true =>
      obtain ⟨a', b', c', d', ha, hb, Y1⟩ := small_form a b c d
      obtain ⟨r', r2, r3, er⟩ := r_left (n := 30) HBD.out.2.2.1 (by omega)
      have HB2 := Lib.hid (show (-536870912 ≤ a' ∧ a' ≤ c' ∧ c' ≤ 536870912) ∧ (-536870912 ≤ b' ∧ b' ≤ d' ∧ d' ≤ 536870912) ∧ 1 ≤ r' + 1 ∧ r' + 1 ≤ 536870912 by omega)
      have HY1 := Lib.hid Y1
      clear Y1 ha hb
      have s1 : IntKind.i64.wrap (r' + 1) = r' + 1 := IntWalk.i64_in _ (by omega)
      obtain ⟨⟨⟨i0, i1, i2, i3, il⟩, fi⟩, ⟨⟨j0, j1, jl⟩, fj⟩, ⟨l0, l1, ll⟩, ⟨n0, n1, nl⟩, hlt⟩ := G1.out
      go_wp2_with fail
      refine (HY1.out _).mono ?_; rintro e' w4 ⟨rfl, z4⟩
      have G2 := Lib.hid (G1.out.later z4)
      have D2 := Lib.hid (bel_trans D1.out z4)
      clear G1 D1 z4 i0 i1 i2 i3 il fi j0 j1 jl fj l0 l1 ll n0 n1 nl hlt
      obtain ⟨⟨⟨i0, i1, i2, i3, il⟩, fi⟩, ⟨⟨j0, j1, jl⟩, fj⟩, ⟨l0, l1, ll⟩, ⟨n0, n1, nl⟩, hlt⟩ := G2.out
      go_wp2
      go_meet
      exact ⟨a', b', c', d', r' + 1, rfl, HB2.out, G2.out.boxed a' b' c' d', bel_boxed D2.out (Nat.le_refl _) a' b' c' d'⟩
  case rest =>
    obtain ⟨a, b, c, d, r, rfl, hbd, hF, hB⟩ := hcut
    clear G1 D1 HBD
    have F := Lib.hid hF
    have B := Lib.hid hB
    clear hF hB
    obtain ⟨⟨xa, xb, xc⟩, ⟨ya, yb, yc⟩, ra, rb⟩ := hbd
    obtain ⟨⟨ca, cb, cc, cd⟩, ⟨aa, ab, ac, ad⟩, ⟨ea, eb, ec, ed⟩⟩ := HC.out
    obtain ⟨s, t, ⟨sa, sb, sc, sd⟩, XI⟩ := in_form a b c d xx yy xa xb xc ya yb yc
    obtain ⟨k, hk⟩ : ∃ k, ringC a b c d cx cy ax ay ex ey r = k := ⟨_, rfl⟩
    obtain ⟨h, hh⟩ : ∃ h, ringP s t cx cy ax ay ex ey r = h := ⟨_, rfl⟩
    have sure := ringC_sure xb yb sa sb sc sd hk hh
    have KC := Lib.hid (fun w => ringClass_is hk xa xb xc ya yb yc (by omega) (by omega) (by omega) (by omega) (by omega) (by omega) (by omega) (by omega) (by omega) (by omega) (by omega) (by omega) (show r ≤ 1073741824 by omega) w)
    have KH := Lib.hid (fun w => ringHas_is hh (by omega) (by omega) (by omega) (by omega) (by omega) (by omega) (by omega) (by omega) (by omega) (by omega) (by omega) (by omega) (by omega) (by omega) (by omega) (by omega) (show r ≤ 1073741824 by omega) w)
    have KI := Lib.hid XI
    have HS := Lib.hid sure
    clear XI sure hk hh xa xb xc ya yb yc ra rb ca cb cc cd aa ab ac ad ea eb ec ed sa sb sc sd HC
    obtain ⟨⟨⟨i0, i1, i2, i3, il⟩, fi⟩, ⟨⟨j0, j1, jl⟩, fj⟩, ⟨l0, l1, ll⟩, ⟨n0, n1, nl⟩, hlt⟩ := F.out
    go_wp2_with fail
    refine (KC.out _).mono ?_; rintro e' w4 ⟨rfl, z4⟩
    have F1 := Lib.hid (F.out.later z4)
    have B1 := Lib.hid (bel_trans B.out z4)
    clear F B z4 i0 i1 i2 i3 il fi j0 j1 jl fj l0 l1 ll n0 n1 nl hlt KC
    obtain ⟨⟨⟨i0, i1, i2, i3, il⟩, fi⟩, ⟨⟨j0, j1, jl⟩, fj⟩, ⟨l0, l1, ll⟩, ⟨n0, n1, nl⟩, hlt⟩ := F1.out
    go_upto_region 6 with (fail)
    have i0 := cell_regrown i0
    have i1 := cell_regrown i1
    have i2 := cell_regrown i2
    have i3 := cell_regrown i3
    have j0 := cell_regrown j0
    have j1 := cell_regrown j1
    have l0 := cell_regrown l0
    have l1 := cell_regrown l1
    have n0 := cell_regrown n0
    have n1 := cell_regrown n1
    have D1 := Lib.hid (fun p : Regrown => Calls.regrown_of (KI.out (grow (redrawn w4 p.d) p.os)))
    have D2 := Lib.hid (fun p : Regrown => Calls.regrown_of (KH.out (grow (redrawn w4 p.d) p.os)))
    clear KI KH
    refine wp_region_quiet_below (by kernel_rfl) (by kernel_rfl) ?_
    repeat (go_big_quiet_step (first | with_reducible exact D1.out _ | with_reducible exact D2.out _))
    refine wpQuiet_nil ?_
    intro _ hw'
    obtain ⟨⟨dr, osr⟩, hw''⟩ := hw'
    subst hw''
    clear i0 i1 i2 i3 il fi j0 j1 jl fj l0 l1 ll n0 n1 nl hlt D1 D2
    have zz := below_regrown w4 dr osr
    have B2 := Lib.hid (bel_trans B1.out zz)
    clear F1 B1 zz
    generalize grow (redrawn w4 dr) osr = V1 at *
    rcases HS.out with rfl | ⟨rfl, rfl⟩ | ⟨rfl, rfl⟩
    · cases h
      all_goals
        go_wp2_with fail
        refine (awake_any _).mono ?_; rintro e' w5 ⟨rfl, z5⟩
        go_wp2
        go_ret
        exact ⟨rfl, bel_trans B2.out z5⟩
    all_goals
      go_wp2_with fail
      refine (awake_any _).mono ?_; rintro e' w5 ⟨rfl, z5⟩
      go_wp2
      go_ret
      exact ⟨rfl, bel_trans B2.out z5⟩
theorem walk (b0 b1 b2 b3 c0 c1 rr i j z xx yy : Int) (small : Bool) (_ : -9223372036854775808 ≤ b0) (_ : b0 ≤ 9223372036854775807) (_ : -9223372036854775808 ≤ b1) (_ : b1 ≤ 9223372036854775807) (_ : -9223372036854775808 ≤ b2) (_ : b2 ≤ 9223372036854775807) (_ : -9223372036854775808 ≤ b3) (_ : b3 ≤ 9223372036854775807) (_ : -9223372036854775808 ≤ c0) (_ : c0 ≤ 9223372036854775807) (_ : -9223372036854775808 ≤ c1) (_ : c1 ≤ 9223372036854775807) (_ : -9223372036854775808 ≤ rr) (_ : rr ≤ 9223372036854775807) (_ : -9223372036854775808 ≤ i) (_ : i ≤ 9223372036854775807) (_ : -9223372036854775808 ≤ j) (_ : j ≤ 9223372036854775807) (_ : -9223372036854775808 ≤ z) (_ : z ≤ 9223372036854775807) (_ : -9223372036854775808 ≤ xx) (_ : xx ≤ 9223372036854775807) (_ : -9223372036854775808 ≤ yy) (_ : yy ≤ 9223372036854775807) (w : World) :
    Calls Try.prog 5 #[boxV b0 b1 b2 b3, ptV c0 c1, .int .i64 rr, .int .i64 i, .int .i64 j, .int .i64 z, .int .i64 xx, .int .i64 yy, .bool small] w fun e w' => e = .returned (.bool true) ∧ Below w.heap.size w w' := by
  obtain ⟨a, b, c, d, h1, h2, h3, h4, h5, h6, X1⟩ := boxT_form b0 b1 b2 b3
  obtain ⟨cx, cy, ax, ay, ex, ey, k1, k2, k3, _, _, XA⟩ := arc_at c0 c1 i j z small
  obtain ⟨r, r1, r2, XR⟩ := r_form rr
  exact core b0 b1 b2 b3 c0 c1 rr i j z xx yy small a b c d cx cy ax ay ex ey r X1 XA XR ⟨⟨h1, h2, h3⟩, ⟨h4, h5, h6⟩, r1, r2⟩ k1 k2 k3 w
theorem own : ownKnob Try.prog.godebug = none := by kernel_rfl
set_option maxRecDepth 100000 in
set_option maxHeartbeats 4000000 in
theorem lifted (os : Os) (started : os.Started) (H : Type) (enc : TypeId × Value → H) :
    ReturnsInHanded {} Try.checked os 5 .any (Rows.ringSureSpec.pre6 enc Try.prog Try.f5 Rows.ringSureRow.domain false) (Rows.ringSureSpec.post enc Try.prog Try.f5 false true false false) := by
  refine returnsInHanded_of_change (C := Try.checked) own started (by kernel_rfl) Try.func5
    (ChangeSpec.witness6 (enc := enc) (C := Try.checked) false ⟨#[], #[.agg #[.int .i64 0, .int .i64 0, .int .i64 0, .int .i64 0], .agg #[.int .i64 0, .int .i64 0], .int .i64 0, .int .i64 0, .int .i64 0, .int .i64 0, .int .i64 0, .int .i64 0, .bool false], []⟩ 8 (by kernel_rfl) (by kernel_rfl) (by kernel_rfl) (by kernel_rfl)) ?_
  intro W base args ds gs before hval0 hW _ _
  have hval : ∀ (j : Nat) t v, Try.f5.params[j]? = some t → args[j]? = some v → Value.okWide Try.prog W .any base t v := hval0
  have hW' := hW
  obtain ⟨p, q, hA0, hV, rfl, hfz, hnd⟩ := hW
  have hA : DataW.TrodAll enc Try.prog W 0 (fun _ => true) true Try.f5.params.toList args.toList ds p := hA0
  rw [Try.params5] at hA hval
  obtain ⟨v0, vs0, d0, ds0, p0, q0, hargs, rfl, rfl, h0, r0⟩ := trodAll_cons hA
  obtain ⟨v1, vs1, d1, ds1, p1, q1, rfl, rfl, rfl, h1, r1⟩ := trodAll_cons r0
  obtain ⟨v2, vs2, d2, ds2, p2, q2, rfl, rfl, rfl, h2, r2⟩ := trodAll_cons r1
  obtain ⟨v3, vs3, d3, ds3, p3, q3, rfl, rfl, rfl, h3, r3⟩ := trodAll_cons r2
  obtain ⟨v4, vs4, d4, ds4, p4, q4, rfl, rfl, rfl, h4, r4⟩ := trodAll_cons r3
  obtain ⟨v5, vs5, d5, ds5, p5, q5, rfl, rfl, rfl, h5, r5⟩ := trodAll_cons r4
  obtain ⟨v6, vs6, d6, ds6, p6, q6, rfl, rfl, rfl, h6, r6⟩ := trodAll_cons r5
  obtain ⟨v7, vs7, d7, ds7, p7, q7, rfl, rfl, rfl, h7, r7⟩ := trodAll_cons r6
  obtain ⟨v8, vs8, d8, ds8, p8, q8, rfl, rfl, rfl, h8, r8⟩ := trodAll_cons r7
  obtain ⟨rfl, rfl, rfl⟩ := trodAll_nil r8
  obtain rfl : args = #[v0, v1, v2, v3, v4, v5, v6, v7, v8] := by cases args; simp_all
  obtain ⟨rfl, rfl⟩ := trodVars_none hV
  obtain ⟨c0_0, c0_1, c0_2, c0_3, y0_0, y0_1, y0_2, y0_3, m0, rfl, rfl, rfl, k0_0, k0_1, k0_2, k0_3⟩ := open_agg4 Try.underlying23 (by kernel_rfl) (by kernel_rfl) (hval 0 23 v0 rfl rfl) h0
  obtain ⟨a0_0, ea0_0, rfl, wa0_0⟩ := DataW.trod_int Try.underlying2 k0_0
  simp at ea0_0; subst ea0_0
  obtain ⟨a0_1, ea0_1, rfl, wa0_1⟩ := DataW.trod_int Try.underlying2 k0_1
  simp at ea0_1; subst ea0_1
  obtain ⟨a0_2, ea0_2, rfl, wa0_2⟩ := DataW.trod_int Try.underlying2 k0_2
  simp at ea0_2; subst ea0_2
  obtain ⟨a0_3, ea0_3, rfl, wa0_3⟩ := DataW.trod_int Try.underlying2 k0_3
  simp at ea0_3; subst ea0_3
  obtain ⟨c1_0, c1_1, y1_0, y1_1, m1, rfl, rfl, rfl, k1_0, k1_1⟩ := open_agg2 Try.underlying25 (by kernel_rfl) (by kernel_rfl) (hval 1 25 v1 rfl rfl) h1
  obtain ⟨a1_0, ea1_0, rfl, wa1_0⟩ := DataW.trod_int Try.underlying2 k1_0
  simp at ea1_0; subst ea1_0
  obtain ⟨a1_1, ea1_1, rfl, wa1_1⟩ := DataW.trod_int Try.underlying2 k1_1
  simp at ea1_1; subst ea1_1
  obtain ⟨a2, rfl, rfl, rfl, w2⟩ := open_int Try.underlying2 (hval 2 2 v2 rfl rfl) h2
  obtain ⟨a3, rfl, rfl, rfl, w3⟩ := open_int Try.underlying3 (hval 3 3 v3 rfl rfl) h3
  obtain ⟨a4, rfl, rfl, rfl, w4⟩ := open_int Try.underlying3 (hval 4 3 v4 rfl rfl) h4
  obtain ⟨a5, rfl, rfl, rfl, w5⟩ := open_int Try.underlying2 (hval 5 2 v5 rfl rfl) h5
  obtain ⟨a6, rfl, rfl, rfl, w6⟩ := open_int Try.underlying2 (hval 6 2 v6 rfl rfl) h6
  obtain ⟨a7, rfl, rfl, rfl, w7⟩ := open_int Try.underlying2 (hval 7 2 v7 rfl rfl) h7
  obtain ⟨a8, rfl, rfl, rfl⟩ := open_bool Try.underlying4 (hval 8 4 v8 rfl rfl) h8
  have s0 : ∀ (W' : World) (sp : Nat → Bool), DataW.Trod enc Try.prog W' 0 sp true 23 (.agg #[.int .i64 a0_0, .int .i64 a0_1, .int .i64 a0_2, .int .i64 a0_3]) (.agg [.lit (.int .i64 a0_0), .lit (.int .i64 a0_1), .lit (.int .i64 a0_2), .lit (.int .i64 a0_3)]) [] := fun W' sp =>
    shut_agg4 (y0 := (.lit (.int .i64 a0_0), [])) (y1 := (.lit (.int .i64 a0_1), [])) (y2 := (.lit (.int .i64 a0_2), [])) (y3 := (.lit (.int .i64 a0_3), [])) Try.underlying23 (by kernel_rfl) (by kernel_rfl) ⟨1, by simp [DataW.trod, Try.underlying2, wa0_0]⟩ ⟨1, by simp [DataW.trod, Try.underlying2, wa0_1]⟩ ⟨1, by simp [DataW.trod, Try.underlying2, wa0_2]⟩ ⟨1, by simp [DataW.trod, Try.underlying2, wa0_3]⟩
  have s1 : ∀ (W' : World) (sp : Nat → Bool), DataW.Trod enc Try.prog W' 0 sp true 25 (.agg #[.int .i64 a1_0, .int .i64 a1_1]) (.agg [.lit (.int .i64 a1_0), .lit (.int .i64 a1_1)]) [] := fun W' sp =>
    shut_agg2 (y0 := (.lit (.int .i64 a1_0), [])) (y1 := (.lit (.int .i64 a1_1), [])) Try.underlying25 (by kernel_rfl) (by kernel_rfl) ⟨1, by simp [DataW.trod, Try.underlying2, wa1_0]⟩ ⟨1, by simp [DataW.trod, Try.underlying2, wa1_1]⟩
  clear hA0 hval0
  simp only [List.append_nil] at hW'
  refine (walk a0_0 a0_1 a0_2 a0_3 a1_0 a1_1 a2 a3 a4 a5 a6 a7 a8 (bounds_i64 wa0_0).1 (bounds_i64 wa0_0).2 (bounds_i64 wa0_1).1 (bounds_i64 wa0_1).2 (bounds_i64 wa0_2).1 (bounds_i64 wa0_2).2 (bounds_i64 wa0_3).1 (bounds_i64 wa0_3).2 (bounds_i64 wa1_0).1 (bounds_i64 wa1_0).2 (bounds_i64 wa1_1).1 (bounds_i64 wa1_1).2 (bounds_i64 w2).1 (bounds_i64 w2).2 (bounds_i64 w3).1 (bounds_i64 w3).2 (bounds_i64 w4).1 (bounds_i64 w4).2 (bounds_i64 w5).1 (bounds_i64 w5).2 (bounds_i64 w6).1 (bounds_i64 w6).2 (bounds_i64 w7).1 (bounds_i64 w7).2 W).mono fun e W' ⟨he, bel⟩ => ?_
  subst he
  exact ⟨_, rfl, _, _, _, [], _, [], hW', trodAll_mk1 (shut_bool Try.underlying4 _), (trodAll_cons_mk (s0 _ _) (trodAll_cons_mk (s1 _ _) (trodAll_cons_mk (shut_int Try.underlying2 w2) (trodAll_cons_mk (shut_int Try.underlying3 w3) (trodAll_cons_mk (shut_int Try.underlying3 w4) (trodAll_cons_mk (shut_int Try.underlying2 w5) (trodAll_cons_mk (shut_int Try.underlying2 w6) (trodAll_cons_mk (shut_int Try.underlying2 w7) (trodAll_cons_mk (shut_bool Try.underlying4 a8) trodAll_mk0))))))))), rfl, bel.frame _, fun h => by cases h⟩
theorem over : Rows.ringSureRow.holds Try.pinned (OpenSpec.ofChange Rows.ringSureSpec) :=
  OpenClaim.holds_of_wide 5 Try.f5 rfl rfl rfl rfl rfl rfl rfl ⟨rfl, rfl, rfl, rfl, rfl⟩ rfl rfl rfl rfl rfl (by kernel_rfl) Try.func5 (by kernel_rfl)
    (of_decide_eq_true (by kernel_rfl)) (by unfold Func.isWrapper; first | (rw [if_pos (by decide +kernel)]; kernel_rfl) | (rw [if_neg (by decide +kernel)]; exact ⟨rfl, rfl⟩))
    (fun os started H enc _ => lifted os started H enc)
theorem proved : Rows.RingSureSaid := over
#print axioms proved
end Go.Proofs.Ytoofbbmddddlcaa.ringSure
