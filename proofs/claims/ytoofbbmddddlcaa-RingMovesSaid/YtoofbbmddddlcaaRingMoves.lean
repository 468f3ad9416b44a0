/- Moved, turned and mirrored together, ring and box have the same class, ring and point the same answer; a thicker ring has all of a thinner one: for every box, arc, radius, point and move that the law makes of any numbers of 64 bits. No condition. -/
import Derived.Test.YtoofbbmddddlcaaRows
import Derived.Test.YtoofbbmddddlcaaAwake9
import Derived.Test.YtoofbbmddddlcaaArcFacts
import Derived.Test.YtoofbbmddddlcaaRingFacts
import Derived.Test.YtoofbbmddddlcaaLaws7
import Derived.Test.YtoofbbmddddlcaaHeld7
import Derived.Test.YtoofbbmddddlcaaFloat
import Derived.ProofKit
import Derived.OpenShut
import Derived.ShutString
import Derived.ChangeOld
import Derived.Below
import Derived.Lib.SmallJoins
import Derived.Lib.QuietBelow
import Derived.BigQuiet
namespace Go.Proofs.Ytoofbbmddddlcaa.ringMoves
open Go.ChangeShapes Go.WideShapes Go.ChangeAt Go.RowKit Go.Joins
open Go.Sort (grow)

theorem ringP_wider {px py cx cy ax ay ex ey r r' : Int} (hr : 1 ≤ r) (hrr : r ≤ r') (h : ringP px py cx cy ax ay ex ey r = true) : ringP px py cx cy ax ay ex ey r' = true := by
  have ho : okR cx cy ax ay ex ey = true := by
    cases e : okR cx cy ax ay ex ey with
    | true => rfl
    | false => unfold ringP at h; rw [e] at h; cases h
  have hW : r * r ≤ r' * r' := Int.mul_le_mul hrr hrr (by omega) (by omega)
  rw [ringP_at ho hr] at h
  rw [ringP_at ho (by omega)]
  refine ring_thick (Int.mul_nonneg (by omega) (by omega)) hW (by unfold sqI; exact Int.add_nonneg (sq_nonneg _) (sq_nonneg _)) (fun k => ?_) (fun k => ?_) h
  · exact discB_of (by omega) (Int.le_trans (discB_le k) hW)
  · exact discB_of (by omega) (Int.le_trans (discB_le k) hW)
/-- What lies in memory. -/
structure Lay (N g : Nat) (a b c d cx cy s t e f ax ay ex ey : Int) (w : World) : Prop where
  b : BoxIn w N a b c d
  c : PtIn w (N + 1) cx cy
  p : PtIn w (N + 1 + 1) s t
  y : PtIn w (N + 1 + 1 + 1) e f
  a : PtAt w g ax ay
  e : PtAt w (g + 1) ex ey
  lt : N + 1 + 1 + 1 < g
theorem Lay.later {N g : Nat} {a b c d cx cy s t e f ax ay ex ey : Int} {w w1 : World} (h : Lay N g a b c d cx cy s t e f ax ay ex ey w) (k : Below w.heap.size w w1) : Lay N g a b c d cx cy s t e f ax ay ex ey w1 := ⟨h.b.later k, h.c.later k, h.p.later k, h.y.later k, h.a.later k, h.e.later k, h.lt⟩
theorem boxIn_two {w : World} {b c : Nat} {x0 y0 x1 y1 : Int} (h : BoxIn w b x0 y0 x1 y1) (hc : c ≠ b) (u v : Int) : BoxIn ((w.setCell ⟨c, 0, none⟩ (.int .i64 u)).setCell ⟨c, 1, none⟩ (.int .i64 v)) b x0 y0 x1 y1 := (h.far hc 0 _).far hc 1 _
theorem ptIn_boxed {w : World} {b c : Nat} {x y : Int} (h : PtIn w b x y) (hc : c ≠ b) (p q r s : Int) : PtIn ((((w.setCell ⟨c, 0, none⟩ (.int .i64 p)).setCell ⟨c, 1, none⟩ (.int .i64 q)).setCell ⟨c, 2, none⟩ (.int .i64 r)).setCell ⟨c, 3, none⟩ (.int .i64 s)) b x y := (((h.far hc 0 _).far hc 1 _).far hc 2 _).far hc 3 _
theorem ptAt_boxed {w : World} {b c : Nat} {x y : Int} (h : PtAt w b x y) (hc : c ≠ b) (p q r s : Int) : PtAt ((((w.setCell ⟨c, 0, none⟩ (.int .i64 p)).setCell ⟨c, 1, none⟩ (.int .i64 q)).setCell ⟨c, 2, none⟩ (.int .i64 r)).setCell ⟨c, 3, none⟩ (.int .i64 s)) b x y := (((h.far hc 0 _).far hc 1 _).far hc 2 _).far hc 3 _
theorem lay_new {N : Nat} {a b c d x y s t e f : Int} {w : World} (h : BPPP N a b c d x y s t e f w) (cx cy ax ay ex ey : Int) (n : TypeId) : Lay N w.heap.size a b c d cx cy s t e f ax ay ex ey ((((w.setCell ⟨N + 1, 0, none⟩ (.int .i64 cx)).setCell ⟨N + 1, 1, none⟩ (.int .i64 cy)).alloc (.cells #[.int .i64 ax, .int .i64 ay] n)).alloc (.cells #[.int .i64 ex, .int .i64 ey] n)) := by
  have hz : ((w.setCell ⟨N + 1, 0, none⟩ (.int .i64 cx)).setCell ⟨N + 1, 1, none⟩ (.int .i64 cy)).heap.size = w.heap.size := by simp
  have g1 := ptAt_new ((w.setCell ⟨N + 1, 0, none⟩ (.int .i64 cx)).setCell ⟨N + 1, 1, none⟩ (.int .i64 cy)) ax ay n
  have g2 := ptAt_new (((w.setCell ⟨N + 1, 0, none⟩ (.int .i64 cx)).setCell ⟨N + 1, 1, none⟩ (.int .i64 cy)).alloc (.cells #[.int .i64 ax, .int .i64 ay] n)) ex ey n
  rw [hz] at g1
  rw [show (((w.setCell ⟨N + 1, 0, none⟩ (.int .i64 cx)).setCell ⟨N + 1, 1, none⟩ (.int .i64 cy)).alloc (.cells #[.int .i64 ax, .int .i64 ay] n)).heap.size = w.heap.size + 1 by simp] at g2
  have hl := h.f3.at_.lt
  exact ⟨((boxIn_two h.f0 (c := N + 1) (by omega) cx cy).alloc _).alloc _, ((h.f1.stored cx cy).alloc _).alloc _, ((h.f2.two (c := N + 1) (by omega) _ _).alloc _).alloc _, ((h.f3.two (c := N + 1) (by omega) _ _).alloc _).alloc _, g1.alloc _, g2, hl⟩
theorem Lay.set {N g : Nat} {a b c d cx cy s t e f ax ay ex ey : Int} {w : World} (h : Lay N g a b c d cx cy s t e f ax ay ex ey w) (a' b' c' d' s' t' e' f' : Int) : Lay N g a' b' c' d' cx cy s' t' e' f' ax ay ex ey ((((((((w.setCell ⟨N, 0, none⟩ (.int .i64 a')).setCell ⟨N, 1, none⟩ (.int .i64 b')).setCell ⟨N, 2, none⟩ (.int .i64 c')).setCell ⟨N, 3, none⟩ (.int .i64 d')).setCell ⟨N + 1 + 1, 0, none⟩ (.int .i64 s')).setCell ⟨N + 1 + 1, 1, none⟩ (.int .i64 t')).setCell ⟨N + 1 + 1 + 1, 0, none⟩ (.int .i64 e')).setCell ⟨N + 1 + 1 + 1, 1, none⟩ (.int .i64 f')) := by
  have hl := h.lt
  exact ⟨boxIn_two (boxIn_two (h.b.stored a' b' c' d') (c := N + 1 + 1) (by omega) _ _) (c := N + 1 + 1 + 1) (by omega) _ _, ((ptIn_boxed h.c (c := N) (by omega) _ _ _ _).two (c := N + 1 + 1) (by omega) _ _).two (c := N + 1 + 1 + 1) (by omega) _ _,
    ((ptIn_boxed h.p (c := N) (by omega) _ _ _ _).stored s' t').two (c := N + 1 + 1 + 1) (by omega) _ _, ((ptIn_boxed h.y (c := N) (by omega) _ _ _ _).two (c := N + 1 + 1) (by omega) _ _).stored e' f',
    ((ptAt_boxed h.a (c := N) (by omega) _ _ _ _).two (c := N + 1 + 1) (by omega) _ _).two (c := N + 1 + 1 + 1) (by omega) _ _, ((ptAt_boxed h.e (c := N) (by omega) _ _ _ _).two (c := N + 1 + 1) (by omega) _ _).two (c := N + 1 + 1 + 1) (by omega) _ _, hl⟩
theorem bel_layset {W w : World} {N : Nat} (h : Below W.heap.size W w) (hn : W.heap.size ≤ N) (a' b' c' d' s' t' e' f' : Int) : Below W.heap.size W ((((((((w.setCell ⟨N, 0, none⟩ (.int .i64 a')).setCell ⟨N, 1, none⟩ (.int .i64 b')).setCell ⟨N, 2, none⟩ (.int .i64 c')).setCell ⟨N, 3, none⟩ (.int .i64 d')).setCell ⟨N + 1 + 1, 0, none⟩ (.int .i64 s')).setCell ⟨N + 1 + 1, 1, none⟩ (.int .i64 t')).setCell ⟨N + 1 + 1 + 1, 0, none⟩ (.int .i64 e')).setCell ⟨N + 1 + 1 + 1, 1, none⟩ (.int .i64 f')) :=
  bel_two (bel_two (bel_set (bel_set (bel_set (bel_set h hn 0 _) hn 1 _) hn 2 _) hn 3 _) (by omega) _ _) (by omega) _ _
theorem boxes_new (w : World) (a b c d a' b' c' d' x y u v : Int) (n : TypeId) : BoxAt (((w.alloc (.cells #[.int .i64 a, .int .i64 b, .int .i64 c, .int .i64 d] n)).alloc (.cells #[.int .i64 a', .int .i64 b', .int .i64 c', .int .i64 d'] n)).alloc (.cells #[.int .i64 x, .int .i64 y, .int .i64 u, .int .i64 v] n)) w.heap.size a b c d ∧
    BoxAt (((w.alloc (.cells #[.int .i64 a, .int .i64 b, .int .i64 c, .int .i64 d] n)).alloc (.cells #[.int .i64 a', .int .i64 b', .int .i64 c', .int .i64 d'] n)).alloc (.cells #[.int .i64 x, .int .i64 y, .int .i64 u, .int .i64 v] n)) (w.heap.size + 1) a' b' c' d' ∧
    BoxAt (((w.alloc (.cells #[.int .i64 a, .int .i64 b, .int .i64 c, .int .i64 d] n)).alloc (.cells #[.int .i64 a', .int .i64 b', .int .i64 c', .int .i64 d'] n)).alloc (.cells #[.int .i64 x, .int .i64 y, .int .i64 u, .int .i64 v] n)) (w.heap.size + 1 + 1) x y u v := by
  have hz : ∀ (w : World) (o : Obj), (w.alloc o).heap.size = w.heap.size + 1 := by intro w o; simp
  refine ⟨((boxAt_new w a b c d n).alloc _).alloc _, ?_, ?_⟩
  · have g := (boxAt_new (w.alloc (.cells #[.int .i64 a, .int .i64 b, .int .i64 c, .int .i64 d] n)) a' b' c' d' n).alloc (.cells #[.int .i64 x, .int .i64 y, .int .i64 u, .int .i64 v] n)
    rw [hz] at g; exact g
  · have g := boxAt_new ((w.alloc (.cells #[.int .i64 a, .int .i64 b, .int .i64 c, .int .i64 d] n)).alloc (.cells #[.int .i64 a', .int .i64 b', .int .i64 c', .int .i64 d'] n)) x y u v n
    rw [hz, hz] at g; exact g
set_option maxHeartbeats 2000000 in
theorem move_any (x y u v : Int) (b : Nat) (w : World) (hb : PtAt w b u v) (x0 : -2000000000 ≤ x) (x1 : x ≤ 2000000000) (y0 : -2000000000 ≤ y) (y1 : y ≤ 2000000000) (u0 : -2000000000 ≤ u) (u1 : u ≤ 2000000000) (v0 : -2000000000 ≤ v) (v1 : v ≤ 2000000000) :
    Calls Try.prog 12 #[ptV x y, .pointer (some ⟨b, 0, none⟩)] w fun e w' => e = .returned (ptV (x + u) (y + v)) ∧ Below w.heap.size w w' := by
  obtain ⟨c0, c1, cl⟩ := hb
  have B0 := bel_alloc (bel_alloc (bel_refl w) (.cells #[.int .i64 x, .int .i64 y] 25)) (.cells #[.int .i64 (x + u), .int .i64 (y + v)] 25)
  go_enter Try.func12, Try.ntmps12
  go_wp2
  exact bodyPost_ret (v := ptV (x + u) (y + v)) (by simp [results, Try.results12, go_sem]) rfl ⟨rfl, B0⟩
set_option maxHeartbeats 2000000 in
theorem turn_any (x y : Int) (w : World) (y0 : -2000000000 ≤ y) (y1 : y ≤ 2000000000) :
    Calls Try.prog 13 #[ptV x y] w fun e w' => e = .returned (ptV (-y) x) ∧ Below w.heap.size w w' := by
  have B0 := bel_alloc (bel_alloc (bel_refl w) (.cells #[.int .i64 x, .int .i64 y] 25)) (.cells #[.int .i64 (-y), .int .i64 x] 25)
  go_enter Try.func13, Try.ntmps13
  go_wp2
  exact bodyPost_ret (v := ptV (-y) x) (by simp [results, Try.results13, go_sem]) rfl ⟨rfl, B0⟩
set_option maxHeartbeats 2000000 in
theorem mirror_any (x y : Int) (w : World) (x0 : -2000000000 ≤ x) (x1 : x ≤ 2000000000) :
    Calls Try.prog 14 #[ptV x y] w fun e w' => e = .returned (ptV (-x) y) ∧ Below w.heap.size w w' := by
  have B0 := bel_alloc (bel_alloc (bel_refl w) (.cells #[.int .i64 x, .int .i64 y] 25)) (.cells #[.int .i64 (-x), .int .i64 y] 25)
  go_enter Try.func14, Try.ntmps14
  go_wp2
  exact bodyPost_ret (v := ptV (-x) y) (by simp [results, Try.results14, go_sem]) rfl ⟨rfl, B0⟩

set_option maxRecDepth 100000 in
set_option maxHeartbeats 64000000 in
theorem core (b0 b1 b2 b3 c0 c1 rr i j z p0 p1 o0 o1 mm a b c d cx cy ax ay ex ey s t e f r1 r' m1 m' : Int)
    (XA : ∀ w, Calls Try.prog 8 #[ptV c0 c1, .int .i64 i, .int .i64 j, .int .i64 z, .bool true] w fun e w' => e = .returned (.tuple #[ptV cx cy, ptV ax ay, ptV ex ey]) ∧ Below w.heap.size w w')
    (X1 : ∀ w, Calls Try.prog 9 #[boxV b0 b1 b2 b3] w fun e w' => e = .returned (boxV a b c d) ∧ Below w.heap.size w w')
    (X2 : ∀ w, Calls Try.prog 10 #[ptV p0 p1, .int .i64 40] w fun e w' => e = .returned (ptV s t) ∧ Below w.heap.size w w')
    (X3 : ∀ w, Calls Try.prog 10 #[ptV o0 o1, .int .i64 100000000] w fun e' w' => e' = .returned (ptV e f) ∧ Below w.heap.size w w')
    (X4 : ∀ w, Calls Try.prog 11 #[.int .i64 rr] w fun e w' => e = .returned (.int .i64 r1) ∧ Below w.heap.size w w')
    (X5 : ∀ w, Calls Try.prog 11 #[.int .i64 mm] w fun e w' => e = .returned (.int .i64 m1) ∧ Below w.heap.size w w')
    (hr : r1.tmod 30 = r') (ra : 0 ≤ r') (rb : r' ≤ 29) (hm : m1.tmod 9 = m') (ma : 0 ≤ m') (mb : m' ≤ 8)
    (hb : (-19 ≤ a ∧ a ≤ c ∧ c ≤ a + 7 ∧ a ≤ 19) ∧ (-19 ≤ b ∧ b ≤ d ∧ d ≤ b + 7 ∧ b ≤ 19))
    (hc : -15 ≤ cx ∧ cx ≤ 15 ∧ -15 ≤ cy ∧ cy ≤ 15) (ha : -35 ≤ ax ∧ ax ≤ 35 ∧ -35 ≤ ay ∧ ay ≤ 35) (he : -35 ≤ ex ∧ ex ≤ 35 ∧ -35 ≤ ey ∧ ey ≤ 35) (hs : -40 ≤ s ∧ s ≤ 40 ∧ -40 ≤ t ∧ t ≤ 40) (hf : -100000000 ≤ e ∧ e ≤ 100000000 ∧ -100000000 ≤ f ∧ f ≤ 100000000) (w : World) :
    Calls Try.prog 3 #[boxV b0 b1 b2 b3, ptV c0 c1, .int .i64 rr, .int .i64 i, .int .i64 j, .int .i64 z, ptV p0 p1, ptV o0 o1, .int .i64 mm] w fun e w' => e = .returned (.bool true) ∧ Below w.heap.size w w' := by
  have HA := Lib.hid XA
  have HX1 := Lib.hid X1
  have HX2 := Lib.hid X2
  have HX3 := Lib.hid X3
  have HX4 := Lib.hid X4
  have HX5 := Lib.hid X5
  have HR := Lib.hid hr
  have HMM := Lib.hid hm
  have HC := Lib.hid (And.intro hb (And.intro hc (And.intro ha (And.intro he (And.intro hs hf)))))
  have F0' := bppp_new w b0 b1 b2 b3 c0 c1 p0 p1 o0 o1 23 25
  have B0' := bel_newBPPP w b0 b1 b2 b3 c0 c1 p0 p1 o0 o1 23 25
  unfold newBPPP at F0' B0'
  have F0 := Lib.hid F0'
  have B0 := Lib.hid B0'
  clear hr hm XA X1 X2 X3 X4 X5 hb hc ha he hs hf F0' B0'
  go_enter Try.func3, Try.ntmps3
  go_upto_region 1 with (fail)
  generalize ((((w.alloc (.cells #[.int .i64 b0, .int .i64 b1, .int .i64 b2, .int .i64 b3] 23)).alloc (.cells #[.int .i64 c0, .int .i64 c1] 25)).alloc (.cells #[.int .i64 p0, .int .i64 p1] 25)).alloc (.cells #[.int .i64 o0, .int .i64 o1] 25)) = V at *
  obtain ⟨_, ⟨⟨j0, j1, jl⟩, fj⟩, _, _⟩ := F0.out
  go_wp2_with fail
  refine (HA.out _).mono ?_; rintro e' w1 ⟨rfl, z1⟩
  have F1 := Lib.hid (F0.out.later z1)
  have B1 := Lib.hid (bel_trans B0.out z1)
  clear F0 B0 z1 j0 j1 jl fj HA
  have G1 := Lib.hid (lay_new F1.out cx cy ax ay ex ey 25)
  have D1 := Lib.hid (bel_alloc (bel_alloc (bel_two B1.out (b := w.heap.size + 1) (by omega) cx cy) (.cells #[.int .i64 ax, .int .i64 ay] 25)) (.cells #[.int .i64 ex, .int .i64 ey] 25))
  obtain ⟨_, ⟨⟨j0, j1, jl⟩, fj⟩, _, _⟩ := F1.out
  obtain ⟨m, hm⟩ : ∃ m, w.heap.size + 1 = m := ⟨_, rfl⟩
  rw [hm] at j0 j1 jl
  simp only [hm] at fj
  rw [hm]
  have Hm := Lib.hid hm
  clear hm
  go_upto_region 2 with (fail)
  have hm := Hm.out
  subst hm
  clear j0 j1 jl fj F1 B1 Hm
  generalize ((((w1.setCell ⟨w.heap.size + 1, 0, none⟩ (.int .i64 cx)).setCell ⟨w.heap.size + 1, 1, none⟩ (.int .i64 cy)).alloc (.cells #[.int .i64 ax, .int .i64 ay] 25)).alloc (.cells #[.int .i64 ex, .int .i64 ey] 25)) = W1 at *
  generalize w1.heap.size = g at *
  obtain ⟨⟨⟨i0, i1, i2, i3, il⟩, fi⟩, ⟨⟨j0, j1, jl⟩, fj⟩, ⟨⟨l0, l1, ll⟩, fl⟩, ⟨⟨n0, n1, nl⟩, fn⟩, ⟨q0, q1, ql⟩, ⟨u0, u1, ul⟩, hlt⟩ := G1.out
  have i0 := cell_regrown i0
  have i1 := cell_regrown i1
  have i2 := cell_regrown i2
  have i3 := cell_regrown i3
  have j0 := cell_regrown j0
  have j1 := cell_regrown j1
  have l0 := cell_regrown l0
  have l1 := cell_regrown l1
  have n0 := cell_regrown n0
  have n1 := cell_regrown n1
  have q0 := cell_regrown q0
  have q1 := cell_regrown q1
  have u0 := cell_regrown u0
  have u1 := cell_regrown u1
  have D2 := Lib.hid (fun p : Regrown => Calls.regrown_of (HX1.out (grow (redrawn W1 p.d) p.os)))
  have D3 := Lib.hid (fun p : Regrown => Calls.regrown_of (HX2.out (grow (redrawn W1 p.d) p.os)))
  have D4 := Lib.hid (fun p : Regrown => Calls.regrown_of (HX3.out (grow (redrawn W1 p.d) p.os)))
  have D5 := Lib.hid (fun p : Regrown => Calls.regrown_of (HX4.out (grow (redrawn W1 p.d) p.os)))
  clear HX1 HX2 HX3 HX4
  refine wp_region_any (by kernel_rfl) ?_
  change wpAny _ _ _ _ 14 _ _ (World.drew _)
  refine any_heads_below (n := 8) (g := 6) (e := #[true, true, true, true, true, true, true, true, false, false, false, false, false, false]) (by kernel_rfl) ?_
  simp only [List.take_succ_cons, List.take_zero]
  repeat (go_big_quiet_step (first | with_reducible exact D2.out _ | with_reducible exact D3.out _ | with_reducible exact D4.out _ | with_reducible exact D5.out _))
  refine wpQuiet_nil ?_
  intro _ hw'
  obtain ⟨⟨dr, osr⟩, hw''⟩ := hw'
  subst hw''
  clear i0 i1 i2 i3 il fi j0 j1 jl fj l0 l1 ll fl n0 n1 nl fn q0 q1 ql u0 u1 ul hlt D2 D3 D4 D5
  have zz := below_regrown W1 dr osr
  have F1 := Lib.hid (G1.out.later zz)
  have B1 := Lib.hid (bel_trans D1.out zz)
  clear G1 D1 zz
  generalize grow (redrawn W1 dr) osr = V1 at *
  have hr := HR.out
  have s1 : IntKind.i64.wrap (r' + 1) = r' + 1 := IntWalk.i64_in _ (by omega)
  refine any_take 8 46 (.int .i64 r') rfl rfl (by kernel_rfl) (by kernel_rfl) (by kernel_rfl) (fun _ _ _ h => h) (by rfl) (fun w => by go_simp) ?_
  refine any_take 9 47 (.int .i64 (r' + 1)) rfl rfl (by kernel_rfl) (by kernel_rfl) (by kernel_rfl) (fun _ _ _ h => h) (by rfl) (fun w => by go_simp) ?_
  refine any_tail (n := 10) rfl (by kernel_rfl) ?_
  simp only [List.drop_succ_cons, List.drop_zero, Act.put, List.setIfInBounds_toArray, List.set_cons_zero, List.set_cons_succ]
  clear hr s1 HR
  obtain ⟨r, hr⟩ : ∃ r, r' + 1 = r := ⟨_, rfl⟩
  have rc : 1 ≤ r := by omega
  have rd : r ≤ 30 := by omega
  rw [hr]
  clear hr ra rb
  obtain ⟨⟨⟨i0, i1, i2, i3, il⟩, fi⟩, ⟨⟨j0, j1, jl⟩, fj⟩, ⟨⟨l0, l1, ll⟩, fl⟩, ⟨⟨n0, n1, nl⟩, fn⟩, ⟨q0, q1, ql⟩, ⟨u0, u1, ul⟩, hlt⟩ := F1.out
  have hmf : ∀ (fn : Fn) (first cap : Array Value) (w : World), (Instr.makeFunc fn first cap).run Try.prog w = .ok (.func fn first cap) w := fun _ _ _ _ => rfl
  go_upto_region 6 with (fail)
  clear i0 i1 i2 i3 il fi j0 j1 jl fj l0 l1 ll fl n0 n1 nl fn q0 q1 ql u0 u1 ul hlt
  have F2 := Lib.hid (F1.out.set a b c d s t e f)
  have B2 := Lib.hid (bel_layset B1.out (Nat.le_refl _) a b c d s t e f)
  clear F1 B1
  generalize ((((((((V1.setCell ⟨w.heap.size, 0, none⟩ (.int .i64 a)).setCell ⟨w.heap.size, 1, none⟩ (.int .i64 b)).setCell ⟨w.heap.size, 2, none⟩ (.int .i64 c)).setCell ⟨w.heap.size, 3, none⟩ (.int .i64 d)).setCell ⟨w.heap.size + 1 + 1, 0, none⟩ (.int .i64 s)).setCell ⟨w.heap.size + 1 + 1, 1, none⟩ (.int .i64 t)).setCell ⟨w.heap.size + 1 + 1 + 1, 0, none⟩ (.int .i64 e)).setCell ⟨w.heap.size + 1 + 1 + 1, 1, none⟩ (.int .i64 f)) = V2 at *

  obtain ⟨⟨⟨ba, bb, bc, bd⟩, ⟨be, bf, bg, bh⟩⟩, ⟨ca, cb, cc, cd⟩, ⟨aa, ab, ac, ad⟩, ⟨ea, eb, ec, ed⟩, ⟨sa, sb, sc, sd⟩, ⟨ta, tb, tc, td⟩⟩ := HC.out
  obtain ⟨k, hk⟩ : ∃ k, ringC a b c d cx cy ax ay ex ey r = k := ⟨_, rfl⟩
  obtain ⟨h, hh⟩ : ∃ k, ringP s t cx cy ax ay ex ey r = k := ⟨_, rfl⟩
  have K1 := Lib.hid (fun w => ringClass_is hk (by omega) bb (by omega) (by omega) bf (by omega) (by omega) (by omega) (by omega) (by omega) (by omega) (by omega) (by omega) (by omega) (by omega) (by omega) (by omega) (by omega) (show r ≤ 1073741824 by omega) w)
  have K2 := Lib.hid (fun w => ringHas_is hh (by omega) (by omega) (by omega) (by omega) (by omega) (by omega) (by omega) (by omega) (by omega) (by omega) (by omega) (by omega) (by omega) (by omega) (by omega) (by omega) (show r ≤ 1073741824 by omega) w)
  have K3 := Lib.hid (fun w => ringClass_is ((ringC_mv a b c d cx cy ax ay ex ey r e f).trans hk) (by omega) (by omega) (by omega) (by omega) (by omega) (by omega) (by omega) (by omega) (by omega) (by omega) (by omega) (by omega) (by omega) (by omega) (by omega) (by omega) (by omega) (by omega) (show r ≤ 1073741824 by omega) w)
  have K4 := Lib.hid (fun w => ringClass_is ((ringC_tu bf cx cy ax ay ex ey r).trans hk) (by omega) (by omega) (by omega) (by omega) (by omega) (by omega) (by omega) (by omega) (by omega) (by omega) (by omega) (by omega) (by omega) (by omega) (by omega) (by omega) (by omega) (by omega) (show r ≤ 1073741824 by omega) w)
  have K5 := Lib.hid (fun w => ringClass_is ((ringC_mi bb cx cy ax ay ex ey r).trans hk) (by omega) (by omega) (by omega) (by omega) (by omega) (by omega) (by omega) (by omega) (by omega) (by omega) (by omega) (by omega) (by omega) (by omega) (by omega) (by omega) (by omega) (by omega) (show r ≤ 1073741824 by omega) w)
  have K6 := Lib.hid (fun w => ringHas_is ((ringP_mv s t cx cy ax ay ex ey r e f).trans hh) (by omega) (by omega) (by omega) (by omega) (by omega) (by omega) (by omega) (by omega) (by omega) (by omega) (by omega) (by omega) (by omega) (by omega) (by omega) (by omega) (show r ≤ 1073741824 by omega) w)
  have K7 := Lib.hid (fun w => ringHas_is ((ringP_tu s t cx cy ax ay ex ey r).trans hh) (by omega) (by omega) (by omega) (by omega) (by omega) (by omega) (by omega) (by omega) (by omega) (by omega) (by omega) (by omega) (by omega) (by omega) (by omega) (by omega) (show r ≤ 1073741824 by omega) w)
  have K8 := Lib.hid (fun w => ringHas_is ((ringP_mi s t cx cy ax ay ex ey r).trans hh) (by omega) (by omega) (by omega) (by omega) (by omega) (by omega) (by omega) (by omega) (by omega) (by omega) (by omega) (by omega) (by omega) (by omega) (by omega) (by omega) (show r ≤ 1073741824 by omega) w)
  have K9 := Lib.hid (fun (e1 : h = true) w => ringHas_is (ringP_wider rc (show r ≤ r + m' by omega) (hh.trans e1)) (by omega) (by omega) (by omega) (by omega) (by omega) (by omega) (by omega) (by omega) (by omega) (by omega) (by omega) (by omega) (by omega) (by omega) (by omega) (by omega) (show r + m' ≤ 1073741824 by omega) w)
  have HB := Lib.hid (show (-536870912 ≤ r + m' ∧ r + m' ≤ 536870912) by omega)
  clear hk hh
  obtain ⟨⟨⟨i0, i1, i2, i3, il⟩, fi⟩, ⟨⟨j0, j1, jl⟩, fj⟩, ⟨⟨l0, l1, ll⟩, fl⟩, ⟨⟨n0, n1, nl⟩, fn⟩, ⟨q0, q1, ql⟩, ⟨u0, u1, ul⟩, hlt⟩ := F2.out
  have i0 := cell_regrown i0
  have i1 := cell_regrown i1
  have i2 := cell_regrown i2
  have i3 := cell_regrown i3
  have j0 := cell_regrown j0
  have j1 := cell_regrown j1
  have l0 := cell_regrown l0
  have l1 := cell_regrown l1
  have n0 := cell_regrown n0
  have n1 := cell_regrown n1
  have q0 := cell_regrown q0
  have q1 := cell_regrown q1
  have u0 := cell_regrown u0
  have u1 := cell_regrown u1
  clear il fi jl fj ll fl nl fn ql ul hlt
  have D1 := Lib.hid (fun p : Regrown => Calls.regrown_of (K1.out (grow (redrawn V2 p.d) p.os)))
  have D2 := Lib.hid (fun p : Regrown => Calls.regrown_of (K2.out (grow (redrawn V2 p.d) p.os)))
  clear K1 K2
  refine wp_region_quiet_below (by kernel_rfl) (by kernel_rfl) ?_
  repeat (go_big_quiet_step (first | with_reducible exact D1.out _ | with_reducible exact D2.out _))
  refine wpQuiet_nil ?_
  intro _ hw'
  obtain ⟨⟨ds, oss⟩, hw''⟩ := hw'
  subst hw''
  clear i0 i1 i2 i3 j0 j1 l0 l1 n0 n1 q0 q1 u0 u1 D1 D2
  have zz := below_regrown V2 ds oss
  have F3 := Lib.hid (F2.out.later zz)
  have B3 := Lib.hid (bel_trans B2.out zz)
  clear F2 B2 zz
  generalize grow (redrawn V2 ds) oss = V3 at *
  have zk := bel_alloc (bel_alloc (bel_alloc (bel_refl V3) (.cells #[.int .i64 (a + e), .int .i64 (b + f), .int .i64 (c + e), .int .i64 (d + f)] 23)) (.cells #[.int .i64 (-d), .int .i64 a, .int .i64 (-b), .int .i64 c] 23)) (.cells #[.int .i64 (-c), .int .i64 b, .int .i64 (-a), .int .i64 d] 23)
  have F4 := Lib.hid (F3.out.later zk)
  have B4 := Lib.hid (bel_trans B3.out zk)
  have Q4 := Lib.hid (boxes_new V3 (a + e) (b + f) (c + e) (d + f) (-d) a (-b) c (-c) b (-a) d 23)
  obtain ⟨⟨⟨i0, i1, i2, i3, il⟩, fi⟩, ⟨⟨j0, j1, jl⟩, fj⟩, ⟨⟨l0, l1, ll⟩, fl⟩, ⟨⟨n0, n1, nl⟩, fn⟩, ⟨q0, q1, ql⟩, ⟨u0, u1, ul⟩, hlt⟩ := F3.out
  clear zk
  go_upto_region 10 with (fail)
  clear i0 i1 i2 i3 il fi j0 j1 jl fj l0 l1 ll fl n0 n1 nl fn q0 q1 ql u0 u1 ul hlt F3 B3
  generalize ((V3.alloc (.cells #[.int .i64 (a + e), .int .i64 (b + f), .int .i64 (c + e), .int .i64 (d + f)] 23)).alloc (.cells #[.int .i64 (-d), .int .i64 a, .int .i64 (-b), .int .i64 c] 23)).alloc (.cells #[.int .i64 (-c), .int .i64 b, .int .i64 (-a), .int .i64 d] 23) = V4 at *
  obtain ⟨X, hX⟩ : ∃ X, V3.heap.size = X := ⟨_, rfl⟩
  have Q4' := Q4.out
  rw [hX] at Q4'
  rw [hX]
  have Q4 := Lib.hid Q4'
  clear Q4' hX

  have Mc := Lib.hid (fun p : Regrown => Calls.regrown_of (move_any cx cy e f _ (grow (redrawn V4 p.d) p.os) (F4.out.y.at_.later (below_regrown V4 p.d p.os)) (by omega) (by omega) (by omega) (by omega) (by omega) (by omega) (by omega) (by omega)))
  have Tc := Lib.hid (fun p : Regrown => Calls.regrown_of (turn_any cx cy (grow (redrawn V4 p.d) p.os) (by omega) (by omega)))
  have Wc := Lib.hid (fun p : Regrown => Calls.regrown_of (mirror_any cx cy (grow (redrawn V4 p.d) p.os) (by omega) (by omega)))
  have Ma := Lib.hid (fun p : Regrown => Calls.regrown_of (move_any ax ay e f _ (grow (redrawn V4 p.d) p.os) (F4.out.y.at_.later (below_regrown V4 p.d p.os)) (by omega) (by omega) (by omega) (by omega) (by omega) (by omega) (by omega) (by omega)))
  have Ta := Lib.hid (fun p : Regrown => Calls.regrown_of (turn_any ax ay (grow (redrawn V4 p.d) p.os) (by omega) (by omega)))
  have Wa := Lib.hid (fun p : Regrown => Calls.regrown_of (mirror_any ax ay (grow (redrawn V4 p.d) p.os) (by omega) (by omega)))
  have Me := Lib.hid (fun p : Regrown => Calls.regrown_of (move_any ex ey e f _ (grow (redrawn V4 p.d) p.os) (F4.out.y.at_.later (below_regrown V4 p.d p.os)) (by omega) (by omega) (by omega) (by omega) (by omega) (by omega) (by omega) (by omega)))
  have Te := Lib.hid (fun p : Regrown => Calls.regrown_of (turn_any ex ey (grow (redrawn V4 p.d) p.os) (by omega) (by omega)))
  have We := Lib.hid (fun p : Regrown => Calls.regrown_of (mirror_any ex ey (grow (redrawn V4 p.d) p.os) (by omega) (by omega)))
  have D1 := Lib.hid (fun p : Regrown => Calls.regrown_of (K3.out (grow (redrawn V4 p.d) p.os)))
  have D2 := Lib.hid (fun p : Regrown => Calls.regrown_of (K4.out (grow (redrawn V4 p.d) p.os)))
  have D3 := Lib.hid (fun p : Regrown => Calls.regrown_of (K5.out (grow (redrawn V4 p.d) p.os)))
  clear K3 K4 K5
  obtain ⟨⟨x0, x1, x2, x3, xl⟩, ⟨y0, y1, y2, y3, yl⟩, ⟨z0, z1, z2, z3, zl⟩⟩ := Q4.out
  obtain ⟨⟨⟨i0, i1, i2, i3, il⟩, fi⟩, ⟨⟨j0, j1, jl⟩, fj⟩, ⟨⟨l0, l1, ll⟩, fl⟩, ⟨⟨n0, n1, nl⟩, fn⟩, ⟨q0, q1, ql⟩, ⟨u0, u1, ul⟩, hlt⟩ := F4.out
  have i0 := cell_regrown i0
  have i1 := cell_regrown i1
  have i2 := cell_regrown i2
  have i3 := cell_regrown i3
  have j0 := cell_regrown j0
  have j1 := cell_regrown j1
  have l0 := cell_regrown l0
  have l1 := cell_regrown l1
  have n0 := cell_regrown n0
  have n1 := cell_regrown n1
  have q0 := cell_regrown q0
  have q1 := cell_regrown q1
  have u0 := cell_regrown u0
  have u1 := cell_regrown u1
  have x0 := cell_regrown x0
  have x1 := cell_regrown x1
  have x2 := cell_regrown x2
  have x3 := cell_regrown x3
  have y0 := cell_regrown y0
  have y1 := cell_regrown y1
  have y2 := cell_regrown y2
  have y3 := cell_regrown y3
  have z0 := cell_regrown z0
  have z1 := cell_regrown z1
  have z2 := cell_regrown z2
  have z3 := cell_regrown z3
  clear il fi jl fj ll fl nl fn ql ul hlt xl yl zl
  as_aux_lemma =>
  refine wp_region_quiet_below (by kernel_rfl) (by kernel_rfl) ?_
  repeat (go_big_quiet_step (first | with_reducible exact D1.out _ | with_reducible exact D2.out _ | with_reducible exact D3.out _ | with_reducible exact Mc.out _ | with_reducible exact Tc.out _ | with_reducible exact Wc.out _ | with_reducible exact Ma.out _ | with_reducible exact Ta.out _ | with_reducible exact Wa.out _ | with_reducible exact Me.out _ | with_reducible exact Te.out _ | with_reducible exact We.out _))
  refine wpQuiet_nil ?_
  intro _ hw'
  obtain ⟨⟨dt, ost⟩, hw''⟩ := hw'
  subst hw''
  clear i0 i1 i2 i3 j0 j1 l0 l1 n0 n1 q0 q1 u0 u1 x0 x1 x2 x3 y0 y1 y2 y3 z0 z1 z2 z3 Mc Tc Wc Ma Ta Wa Me Te We D1 D2 D3
  have zz := below_regrown V4 dt ost
  have F5 := Lib.hid (F4.out.later zz)
  have B5 := Lib.hid (bel_trans B4.out zz)
  clear F4 B4 zz Q4
  generalize grow (redrawn V4 dt) ost = V5 at *
  go_upto_region 12 with (fail)

  have Mc := Lib.hid (fun p : Regrown => Calls.regrown_of (move_any cx cy e f _ (grow (redrawn V5 p.d) p.os) (F5.out.y.at_.later (below_regrown V5 p.d p.os)) (by omega) (by omega) (by omega) (by omega) (by omega) (by omega) (by omega) (by omega)))
  have Tc := Lib.hid (fun p : Regrown => Calls.regrown_of (turn_any cx cy (grow (redrawn V5 p.d) p.os) (by omega) (by omega)))
  have Wc := Lib.hid (fun p : Regrown => Calls.regrown_of (mirror_any cx cy (grow (redrawn V5 p.d) p.os) (by omega) (by omega)))
  have Ma := Lib.hid (fun p : Regrown => Calls.regrown_of (move_any ax ay e f _ (grow (redrawn V5 p.d) p.os) (F5.out.y.at_.later (below_regrown V5 p.d p.os)) (by omega) (by omega) (by omega) (by omega) (by omega) (by omega) (by omega) (by omega)))
  have Ta := Lib.hid (fun p : Regrown => Calls.regrown_of (turn_any ax ay (grow (redrawn V5 p.d) p.os) (by omega) (by omega)))
  have Wa := Lib.hid (fun p : Regrown => Calls.regrown_of (mirror_any ax ay (grow (redrawn V5 p.d) p.os) (by omega) (by omega)))
  have Me := Lib.hid (fun p : Regrown => Calls.regrown_of (move_any ex ey e f _ (grow (redrawn V5 p.d) p.os) (F5.out.y.at_.later (below_regrown V5 p.d p.os)) (by omega) (by omega) (by omega) (by omega) (by omega) (by omega) (by omega) (by omega)))
  have Te := Lib.hid (fun p : Regrown => Calls.regrown_of (turn_any ex ey (grow (redrawn V5 p.d) p.os) (by omega) (by omega)))
  have We := Lib.hid (fun p : Regrown => Calls.regrown_of (mirror_any ex ey (grow (redrawn V5 p.d) p.os) (by omega) (by omega)))
  have Mp := Lib.hid (fun p : Regrown => Calls.regrown_of (move_any s t e f _ (grow (redrawn V5 p.d) p.os) (F5.out.y.at_.later (below_regrown V5 p.d p.os)) (by omega) (by omega) (by omega) (by omega) (by omega) (by omega) (by omega) (by omega)))
  have Tp := Lib.hid (fun p : Regrown => Calls.regrown_of (turn_any s t (grow (redrawn V5 p.d) p.os) (by omega) (by omega)))
  have Wp := Lib.hid (fun p : Regrown => Calls.regrown_of (mirror_any s t (grow (redrawn V5 p.d) p.os) (by omega) (by omega)))
  have D1 := Lib.hid (fun p : Regrown => Calls.regrown_of (K6.out (grow (redrawn V5 p.d) p.os)))
  have D2 := Lib.hid (fun p : Regrown => Calls.regrown_of (K7.out (grow (redrawn V5 p.d) p.os)))
  have D3 := Lib.hid (fun p : Regrown => Calls.regrown_of (K8.out (grow (redrawn V5 p.d) p.os)))
  clear K6 K7 K8 ba bb bc bd be bf bg bh ca cb cc cd aa ab ac ad ea eb ec ed sa sb sc sd ta tb tc td HC
  obtain ⟨⟨⟨i0, i1, i2, i3, il⟩, fi⟩, ⟨⟨j0, j1, jl⟩, fj⟩, ⟨⟨l0, l1, ll⟩, fl⟩, ⟨⟨n0, n1, nl⟩, fn⟩, ⟨q0, q1, ql⟩, ⟨u0, u1, ul⟩, hlt⟩ := F5.out
  have i0 := cell_regrown i0
  have i1 := cell_regrown i1
  have i2 := cell_regrown i2
  have i3 := cell_regrown i3
  have j0 := cell_regrown j0
  have j1 := cell_regrown j1
  have l0 := cell_regrown l0
  have l1 := cell_regrown l1
  have n0 := cell_regrown n0
  have n1 := cell_regrown n1
  have q0 := cell_regrown q0
  have q1 := cell_regrown q1
  have u0 := cell_regrown u0
  have u1 := cell_regrown u1
  clear il fi jl fj ll fl nl fn ql ul hlt
  as_aux_lemma =>
  refine wp_region_quiet_below (by kernel_rfl) (by kernel_rfl) ?_
  repeat (go_big_quiet_step (first | with_reducible exact D1.out _ | with_reducible exact D2.out _ | with_reducible exact D3.out _ | with_reducible exact Mc.out _ | with_reducible exact Tc.out _ | with_reducible exact Wc.out _ | with_reducible exact Ma.out _ | with_reducible exact Ta.out _ | with_reducible exact Wa.out _ | with_reducible exact Me.out _ | with_reducible exact Te.out _ | with_reducible exact We.out _ | with_reducible exact Mp.out _ | with_reducible exact Tp.out _ | with_reducible exact Wp.out _))
  refine wpQuiet_nil ?_
  intro _ hw'
  obtain ⟨⟨du, osu⟩, hw''⟩ := hw'
  subst hw''
  clear i0 i1 i2 i3 j0 j1 l0 l1 n0 n1 q0 q1 u0 u1 Mc Tc Wc Ma Ta Wa Me Te We Mp Tp Wp D1 D2 D3
  have zz := below_regrown V5 du osu
  have F6 := Lib.hid (F5.out.later zz)
  have B6 := Lib.hid (bel_trans B5.out zz)
  clear F5 B5 zz
  generalize grow (redrawn V5 du) osu = V6 at *
  go_upto_region 14 with (fail)
  obtain ⟨⟨⟨i0, i1, i2, i3, il⟩, fi⟩, ⟨⟨j0, j1, jl⟩, fj⟩, ⟨⟨l0, l1, ll⟩, fl⟩, ⟨⟨n0, n1, nl⟩, fn⟩, ⟨q0, q1, ql⟩, ⟨u0, u1, ul⟩, hlt⟩ := F6.out
  have i0 := cell_regrown i0
  have i1 := cell_regrown i1
  have i2 := cell_regrown i2
  have i3 := cell_regrown i3
  have j0 := cell_regrown j0
  have j1 := cell_regrown j1
  have l0 := cell_regrown l0
  have l1 := cell_regrown l1
  have n0 := cell_regrown n0
  have n1 := cell_regrown n1
  have q0 := cell_regrown q0
  have q1 := cell_regrown q1
  have u0 := cell_regrown u0
  have u1 := cell_regrown u1
  clear il fi jl fj ll fl nl fn ql ul hlt
  have hm := HMM.out
  have v1 : IntKind.i64.wrap (r + m') = r + m' := IntWalk.i64_in _ (by have := HB.out; omega)
  have D1 := Lib.hid (fun p : Regrown => Calls.regrown_of (HX5.out (grow (redrawn V6 p.d) p.os)))
  have D2 := Lib.hid (fun p : Regrown => Calls.regrown_of (awake_any (grow (redrawn V6 p.d) p.os)))
  cases h with
  | true =>
    have K9' := K9.out rfl
    have D3 := Lib.hid (fun p : Regrown => Calls.regrown_of (K9' (grow (redrawn V6 p.d) p.os)))
    clear K9 K9' HX5 rc rd
    refine wp_region_quiet_below (by kernel_rfl) (by kernel_rfl) ?_
    repeat (go_big_quiet_step (first | with_reducible exact D1.out _ | with_reducible exact D2.out _ | with_reducible exact D3.out _))
    refine wpQuiet_nil ?_
    intro _ hw'
    obtain ⟨⟨dv, osv⟩, hw''⟩ := hw'
    subst hw''
    go_wp2
    go_ret
    exact ⟨rfl, bel_trans B6.out (below_regrown V6 dv osv)⟩
  | false =>
    clear K9 HX5 rc rd
    refine wp_region_quiet_below (by kernel_rfl) (by kernel_rfl) ?_
    repeat (go_big_quiet_step (first | with_reducible exact D1.out _ | with_reducible exact D2.out _))
    refine wpQuiet_nil ?_
    intro _ hw'
    obtain ⟨⟨dv, osv⟩, hw''⟩ := hw'
    subst hw''
    go_wp2
    go_ret
    exact ⟨rfl, bel_trans B6.out (below_regrown V6 dv osv)⟩

theorem walk (b0 b1 b2 b3 c0 c1 rr i j z p0 p1 o0 o1 mm : Int) (_ : -9223372036854775808 ≤ b0) (_ : b0 ≤ 9223372036854775807) (_ : -9223372036854775808 ≤ b1) (_ : b1 ≤ 9223372036854775807) (_ : -9223372036854775808 ≤ b2) (_ : b2 ≤ 9223372036854775807) (_ : -9223372036854775808 ≤ b3) (_ : b3 ≤ 9223372036854775807) (_ : -9223372036854775808 ≤ c0) (_ : c0 ≤ 9223372036854775807) (_ : -9223372036854775808 ≤ c1) (_ : c1 ≤ 9223372036854775807) (_ : -9223372036854775808 ≤ rr) (_ : rr ≤ 9223372036854775807) (_ : -9223372036854775808 ≤ i) (_ : i ≤ 9223372036854775807) (_ : -9223372036854775808 ≤ j) (_ : j ≤ 9223372036854775807) (_ : -9223372036854775808 ≤ z) (_ : z ≤ 9223372036854775807) (_ : -9223372036854775808 ≤ p0) (_ : p0 ≤ 9223372036854775807) (_ : -9223372036854775808 ≤ p1) (_ : p1 ≤ 9223372036854775807) (_ : -9223372036854775808 ≤ o0) (_ : o0 ≤ 9223372036854775807) (_ : -9223372036854775808 ≤ o1) (_ : o1 ≤ 9223372036854775807) (_ : -9223372036854775808 ≤ mm) (_ : mm ≤ 9223372036854775807) (w : World) :
    Calls Try.prog 3 #[boxV b0 b1 b2 b3, ptV c0 c1, .int .i64 rr, .int .i64 i, .int .i64 j, .int .i64 z, ptV p0 p1, ptV o0 o1, .int .i64 mm] w fun e w' => e = .returned (.bool true) ∧ Below w.heap.size w w' := by
  obtain ⟨cx, cy, ax, ay, ex, ey, _, _, _, hs, _, XA⟩ := arc_at c0 c1 i j z true
  obtain ⟨h1, h2, h3⟩ := hs rfl
  obtain ⟨a, b, c, d, hb1, hb2, X1⟩ := small_form b0 b1 b2 b3
  obtain ⟨s, t, hp, X2⟩ := close_form p0 p1 40 41 (by omega) (by omega) rfl
  obtain ⟨e, f, hf, X3⟩ := close_form o0 o1 100000000 100000001 (by omega) (by omega) rfl
  obtain ⟨r, r1, r2, XR⟩ := r_form rr
  obtain ⟨r', ra, rb, hr⟩ := r_left (n := 30) r1 (by omega)
  obtain ⟨m, m1, m2, XM⟩ := r_form mm
  obtain ⟨m', ma, mb, hm⟩ := r_left (n := 9) m1 (by omega)
  exact core b0 b1 b2 b3 c0 c1 rr i j z p0 p1 o0 o1 mm a b c d cx cy ax ay ex ey s t e f r r' m m' XA X1 X2 X3 (fun w => r_low XR w) (fun w => r_low XM w) hr ra (by omega) hm ma (by omega) ⟨by omega, by omega⟩ h1 h2 h3 hp hf w
theorem own : ownKnob Try.prog.godebug = none := by kernel_rfl
set_option maxRecDepth 100000 in
set_option maxHeartbeats 4000000 in
theorem lifted (os : Os) (started : os.Started) (H : Type) (enc : TypeId × Value → H) :
    ReturnsInHanded {} Try.checked os 3 .any (Rows.ringMovesSpec.pre6 enc Try.prog Try.f3 Rows.ringMovesRow.domain false) (Rows.ringMovesSpec.post enc Try.prog Try.f3 false true false false) := by
  refine returnsInHanded_of_change (C := Try.checked) own started (by kernel_rfl) Try.func3
    (ChangeSpec.witness6 (enc := enc) (C := Try.checked) false ⟨#[], #[.agg #[.int .i64 0, .int .i64 0, .int .i64 0, .int .i64 0], .agg #[.int .i64 0, .int .i64 0], .int .i64 0, .int .i64 0, .int .i64 0, .int .i64 0, .agg #[.int .i64 0, .int .i64 0], .agg #[.int .i64 0, .int .i64 0], .int .i64 0], []⟩ 8 (by kernel_rfl) (by kernel_rfl) (by kernel_rfl) (by kernel_rfl)) ?_
  intro W base args ds gs before hval0 hW _ _
  have hval : ∀ (j : Nat) t v, Try.f3.params[j]? = some t → args[j]? = some v → Value.okWide Try.prog W .any base t v := hval0
  have hW' := hW
  obtain ⟨p, q, hA0, hV, rfl, hfz, hnd⟩ := hW
  have hA : DataW.TrodAll enc Try.prog W 0 (fun _ => true) true Try.f3.params.toList args.toList ds p := hA0
  rw [Try.params3] at hA hval
  obtain ⟨v0, vs0, d0, ds0, p0, q0, hargs, rfl, rfl, h0, r0⟩ := trodAll_cons hA
  obtain ⟨v1, vs1, d1, ds1, p1, q1, rfl, rfl, rfl, h1, r1⟩ := trodAll_cons r0
  obtain ⟨v2, vs2, d2, ds2, p2, q2, rfl, rfl, rfl, h2, r2⟩ := trodAll_cons r1
  obtain ⟨v3, vs3, d3, ds3, p3, q3, rfl, rfl, rfl, h3, r3⟩ := trodAll_cons r2
  obtain ⟨v4, vs4, d4, ds4, p4, q4, rfl, rfl, rfl, h4, r4⟩ := trodAll_cons r3
  obtain ⟨v5, vs5, d5, ds5, p5, q5, rfl, rfl, rfl, h5, r5⟩ := trodAll_cons r4
  obtain ⟨v6, vs6, d6, ds6, p6, q6, rfl, rfl, rfl, h6, r6⟩ := trodAll_cons r5
  obtain ⟨v7, vs7, d7, ds7, p7, q7, rfl, rfl, rfl, h7, r7⟩ := trodAll_cons r6
  obtain ⟨v8, vs8, d8, ds8, p8, q8, rfl, rfl, rfl, h8, r8⟩ := trodAll_cons r7
  obtain ⟨rfl, rfl, rfl⟩ := trodAll_nil r8
  obtain rfl : args = #[v0, v1, v2, v3, v4, v5, v6, v7, v8] := by cases args; simp_all
  obtain ⟨rfl, rfl⟩ := trodVars_none hV
  obtain ⟨c0_0, c0_1, c0_2, c0_3, y0_0, y0_1, y0_2, y0_3, m0, rfl, rfl, rfl, k0_0, k0_1, k0_2, k0_3⟩ := open_agg4 Try.underlying23 (by kernel_rfl) (by kernel_rfl) (hval 0 23 v0 rfl rfl) h0
  obtain ⟨a0_0, ea0_0, rfl, wa0_0⟩ := DataW.trod_int Try.underlying2 k0_0
  simp at ea0_0; subst ea0_0
  obtain ⟨a0_1, ea0_1, rfl, wa0_1⟩ := DataW.trod_int Try.underlying2 k0_1
  simp at ea0_1; subst ea0_1
  obtain ⟨a0_2, ea0_2, rfl, wa0_2⟩ := DataW.trod_int Try.underlying2 k0_2
  simp at ea0_2; subst ea0_2
  obtain ⟨a0_3, ea0_3, rfl, wa0_3⟩ := DataW.trod_int Try.underlying2 k0_3
  simp at ea0_3; subst ea0_3
  obtain ⟨c1_0, c1_1, y1_0, y1_1, m1, rfl, rfl, rfl, k1_0, k1_1⟩ := open_agg2 Try.underlying25 (by kernel_rfl) (by kernel_rfl) (hval 1 25 v1 rfl rfl) h1
  obtain ⟨a1_0, ea1_0, rfl, wa1_0⟩ := DataW.trod_int Try.underlying2 k1_0
  simp at ea1_0; subst ea1_0
  obtain ⟨a1_1, ea1_1, rfl, wa1_1⟩ := DataW.trod_int Try.underlying2 k1_1
  simp at ea1_1; subst ea1_1
  obtain ⟨a2, rfl, rfl, rfl, w2⟩ := open_int Try.underlying2 (hval 2 2 v2 rfl rfl) h2
  obtain ⟨a3, rfl, rfl, rfl, w3⟩ := open_int Try.underlying3 (hval 3 3 v3 rfl rfl) h3
  obtain ⟨a4, rfl, rfl, rfl, w4⟩ := open_int Try.underlying3 (hval 4 3 v4 rfl rfl) h4
  obtain ⟨a5, rfl, rfl, rfl, w5⟩ := open_int Try.underlying2 (hval 5 2 v5 rfl rfl) h5
  obtain ⟨c6_0, c6_1, y6_0, y6_1, m6, rfl, rfl, rfl, k6_0, k6_1⟩ := open_agg2 Try.underlying25 (by kernel_rfl) (by kernel_rfl) (hval 6 25 v6 rfl rfl) h6
  obtain ⟨a6_0, ea6_0, rfl, wa6_0⟩ := DataW.trod_int Try.underlying2 k6_0
  simp at ea6_0; subst ea6_0
  obtain ⟨a6_1, ea6_1, rfl, wa6_1⟩ := DataW.trod_int Try.underlying2 k6_1
  simp at ea6_1; subst ea6_1
  obtain ⟨c7_0, c7_1, y7_0, y7_1, m7, rfl, rfl, rfl, k7_0, k7_1⟩ := open_agg2 Try.underlying25 (by kernel_rfl) (by kernel_rfl) (hval 7 25 v7 rfl rfl) h7
  obtain ⟨a7_0, ea7_0, rfl, wa7_0⟩ := DataW.trod_int Try.underlying2 k7_0
  simp at ea7_0; subst ea7_0
  obtain ⟨a7_1, ea7_1, rfl, wa7_1⟩ := DataW.trod_int Try.underlying2 k7_1
  simp at ea7_1; subst ea7_1
  obtain ⟨a8, rfl, rfl, rfl, w8⟩ := open_int Try.underlying2 (hval 8 2 v8 rfl rfl) h8
  have s0 : ∀ (W' : World) (sp : Nat → Bool), DataW.Trod enc Try.prog W' 0 sp true 23 (.agg #[.int .i64 a0_0, .int .i64 a0_1, .int .i64 a0_2, .int .i64 a0_3]) (.agg [.lit (.int .i64 a0_0), .lit (.int .i64 a0_1), .lit (.int .i64 a0_2), .lit (.int .i64 a0_3)]) [] := fun W' sp =>
    shut_agg4 (y0 := (.lit (.int .i64 a0_0), [])) (y1 := (.lit (.int .i64 a0_1), [])) (y2 := (.lit (.int .i64 a0_2), [])) (y3 := (.lit (.int .i64 a0_3), [])) Try.underlying23 (by kernel_rfl) (by kernel_rfl) ⟨1, by simp [DataW.trod, Try.underlying2, wa0_0]⟩ ⟨1, by simp [DataW.trod, Try.underlying2, wa0_1]⟩ ⟨1, by simp [DataW.trod, Try.underlying2, wa0_2]⟩ ⟨1, by simp [DataW.trod, Try.underlying2, wa0_3]⟩
  have s1 : ∀ (W' : World) (sp : Nat → Bool), DataW.Trod enc Try.prog W' 0 sp true 25 (.agg #[.int .i64 a1_0, .int .i64 a1_1]) (.agg [.lit (.int .i64 a1_0), .lit (.int .i64 a1_1)]) [] := fun W' sp =>
    shut_agg2 (y0 := (.lit (.int .i64 a1_0), [])) (y1 := (.lit (.int .i64 a1_1), [])) Try.underlying25 (by kernel_rfl) (by kernel_rfl) ⟨1, by simp [DataW.trod, Try.underlying2, wa1_0]⟩ ⟨1, by simp [DataW.trod, Try.underlying2, wa1_1]⟩
  have s6 : ∀ (W' : World) (sp : Nat → Bool), DataW.Trod enc Try.prog W' 0 sp true 25 (.agg #[.int .i64 a6_0, .int .i64 a6_1]) (.agg [.lit (.int .i64 a6_0), .lit (.int .i64 a6_1)]) [] := fun W' sp =>
    shut_agg2 (y0 := (.lit (.int .i64 a6_0), [])) (y1 := (.lit (.int .i64 a6_1), [])) Try.underlying25 (by kernel_rfl) (by kernel_rfl) ⟨1, by simp [DataW.trod, Try.underlying2, wa6_0]⟩ ⟨1, by simp [DataW.trod, Try.underlying2, wa6_1]⟩
  have s7 : ∀ (W' : World) (sp : Nat → Bool), DataW.Trod enc Try.prog W' 0 sp true 25 (.agg #[.int .i64 a7_0, .int .i64 a7_1]) (.agg [.lit (.int .i64 a7_0), .lit (.int .i64 a7_1)]) [] := fun W' sp =>
    shut_agg2 (y0 := (.lit (.int .i64 a7_0), [])) (y1 := (.lit (.int .i64 a7_1), [])) Try.underlying25 (by kernel_rfl) (by kernel_rfl) ⟨1, by simp [DataW.trod, Try.underlying2, wa7_0]⟩ ⟨1, by simp [DataW.trod, Try.underlying2, wa7_1]⟩
  clear hA0 hval0
  simp only [List.append_nil] at hW'
  refine (walk a0_0 a0_1 a0_2 a0_3 a1_0 a1_1 a2 a3 a4 a5 a6_0 a6_1 a7_0 a7_1 a8 (bounds_i64 wa0_0).1 (bounds_i64 wa0_0).2 (bounds_i64 wa0_1).1 (bounds_i64 wa0_1).2 (bounds_i64 wa0_2).1 (bounds_i64 wa0_2).2 (bounds_i64 wa0_3).1 (bounds_i64 wa0_3).2 (bounds_i64 wa1_0).1 (bounds_i64 wa1_0).2 (bounds_i64 wa1_1).1 (bounds_i64 wa1_1).2 (bounds_i64 w2).1 (bounds_i64 w2).2 (bounds_i64 w3).1 (bounds_i64 w3).2 (bounds_i64 w4).1 (bounds_i64 w4).2 (bounds_i64 w5).1 (bounds_i64 w5).2 (bounds_i64 wa6_0).1 (bounds_i64 wa6_0).2 (bounds_i64 wa6_1).1 (bounds_i64 wa6_1).2 (bounds_i64 wa7_0).1 (bounds_i64 wa7_0).2 (bounds_i64 wa7_1).1 (bounds_i64 wa7_1).2 (bounds_i64 w8).1 (bounds_i64 w8).2 W).mono fun e W' ⟨he, bel⟩ => ?_
  subst he
  exact ⟨_, rfl, _, _, _, [], _, [], hW', trodAll_mk1 (shut_bool Try.underlying4 _), (trodAll_cons_mk (s0 _ _) (trodAll_cons_mk (s1 _ _) (trodAll_cons_mk (shut_int Try.underlying2 w2) (trodAll_cons_mk (shut_int Try.underlying3 w3) (trodAll_cons_mk (shut_int Try.underlying3 w4) (trodAll_cons_mk (shut_int Try.underlying2 w5) (trodAll_cons_mk (s6 _ _) (trodAll_cons_mk (s7 _ _) (trodAll_cons_mk (shut_int Try.underlying2 w8) trodAll_mk0))))))))), rfl, bel.frame _, fun h => by cases h⟩
theorem over : Rows.ringMovesRow.holds Try.pinned (OpenSpec.ofChange Rows.ringMovesSpec) :=
  OpenClaim.holds_of_wide 3 Try.f3 rfl rfl rfl rfl rfl rfl rfl ⟨rfl, rfl, rfl, rfl, rfl⟩ rfl rfl rfl rfl rfl (by kernel_rfl) Try.func3 (by kernel_rfl)
    (of_decide_eq_true (by kernel_rfl)) (by unfold Func.isWrapper; first | (rw [if_pos (by decide +kernel)]; kernel_rfl) | (rw [if_neg (by decide +kernel)]; exact ⟨rfl, rfl⟩))
    (fun os started H enc _ => lifted os started H enc)
theorem proved : Rows.RingMovesSaid := over
#print axioms proved
end Go.Proofs.Ytoofbbmddddlcaa.ringMoves
