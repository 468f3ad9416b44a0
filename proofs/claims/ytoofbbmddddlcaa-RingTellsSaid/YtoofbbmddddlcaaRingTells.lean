/- Ok, Sector, Class and Has return what the document says of any ring: for every box, three points, radius and point, and for every arc, that the law makes of any numbers of 64 bits, great and small, and for every radius below 1. No condition. -/
import Derived.Test.YtoofbbmddddlcaaRows
import Derived.Test.YtoofbbmddddlcaaAwake9
import Derived.Test.YtoofbbmddddlcaaArcFacts
import Derived.Test.YtoofbbmddddlcaaLaws7
import Derived.Test.YtoofbbmddddlcaaHeld9
import Derived.Test.YtoofbbmddddlcaaFloat
import Derived.Test.YtoofbbmddddlcaaRefRingK
import Derived.ProofKit
import Derived.OpenShut
import Derived.ShutString
import Derived.ChangeOld
import Derived.Below
import Derived.Lib.SmallJoins
import Derived.Lib.QuietBelow
import Derived.BigQuiet
namespace Go.Proofs.Ytoofbbmddddlcaa.ringTells
open Go.ChangeShapes Go.WideShapes Go.ChangeAt Go.RowKit Go.Joins
open Go.Sort (grow)

theorem ringC_out {a b c d cx cy ax ay ex ey r : Int} (h : ¬ 1 ≤ r) : ringC a b c d cx cy ax ay ex ey r = 0 := by unfold ringC; exact if_neg (fun k => h k.2)
theorem ringP_out {px py cx cy ax ay ex ey r : Int} (h : ¬ 1 ≤ r) : ringP px py cx cy ax ay ex ey r = false := by unfold ringP; rw [decide_eq_false h]; simp
theorem boxIn_two {w : World} {b c : Nat} {x0 y0 x1 y1 : Int} (h : BoxIn w b x0 y0 x1 y1) (hc : c ≠ b) (u v : Int) : BoxIn ((w.setCell ⟨c, 0, none⟩ (.int .i64 u)).setCell ⟨c, 1, none⟩ (.int .i64 v)) b x0 y0 x1 y1 := (h.far hc 0 _).far hc 1 _
theorem ptIn_boxed {w : World} {b c : Nat} {x y : Int} (h : PtIn w b x y) (hc : c ≠ b) (p q r s : Int) : PtIn ((((w.setCell ⟨c, 0, none⟩ (.int .i64 p)).setCell ⟨c, 1, none⟩ (.int .i64 q)).setCell ⟨c, 2, none⟩ (.int .i64 r)).setCell ⟨c, 3, none⟩ (.int .i64 s)) b x y := (((h.far hc 0 _).far hc 1 _).far hc 2 _).far hc 3 _
theorem arced {N : Nat} {w : World} {a b c d x y u v m n s t : Int} (h : BPPPP N a b c d x y u v m n s t w) (cx cy ax ay ex ey : Int) : BPPPP N a b c d cx cy ax ay ex ey s t ((((((w.setCell ⟨N + 1, 0, none⟩ (.int .i64 cx)).setCell ⟨N + 1, 1, none⟩ (.int .i64 cy)).setCell ⟨N + 1 + 1, 0, none⟩ (.int .i64 ax)).setCell ⟨N + 1 + 1, 1, none⟩ (.int .i64 ay)).setCell ⟨N + 1 + 1 + 1, 0, none⟩ (.int .i64 ex)).setCell ⟨N + 1 + 1 + 1, 1, none⟩ (.int .i64 ey)) :=
  ⟨boxIn_two (boxIn_two (boxIn_two h.f0 (c := N + 1) (by omega) _ _) (c := N + 1 + 1) (by omega) _ _) (c := N + 1 + 1 + 1) (by omega) _ _, ((h.f1.stored cx cy).two (c := N + 1 + 1) (by omega) _ _).two (c := N + 1 + 1 + 1) (by omega) _ _,
    ((h.f2.two (c := N + 1) (by omega) _ _).stored ax ay).two (c := N + 1 + 1 + 1) (by omega) _ _, ((h.f3.two (c := N + 1) (by omega) _ _).two (c := N + 1 + 1) (by omega) _ _).stored ex ey, ((h.f4.two (c := N + 1) (by omega) _ _).two (c := N + 1 + 1) (by omega) _ _).two (c := N + 1 + 1 + 1) (by omega) _ _⟩
theorem bel_arced {W w : World} {N : Nat} (h : Below W.heap.size W w) (hn : W.heap.size ≤ N) (cx cy ax ay ex ey : Int) : Below W.heap.size W ((((((w.setCell ⟨N + 1, 0, none⟩ (.int .i64 cx)).setCell ⟨N + 1, 1, none⟩ (.int .i64 cy)).setCell ⟨N + 1 + 1, 0, none⟩ (.int .i64 ax)).setCell ⟨N + 1 + 1, 1, none⟩ (.int .i64 ay)).setCell ⟨N + 1 + 1 + 1, 0, none⟩ (.int .i64 ex)).setCell ⟨N + 1 + 1 + 1, 1, none⟩ (.int .i64 ey)) :=
  bel_two (bel_two (bel_two h (by omega) _ _) (by omega) _ _) (by omega) _ _
theorem ended {N : Nat} {w : World} {a b c d x y u v m n s t : Int} (h : BPPPP N a b c d x y u v m n s t w) (a' b' c' d' s' t' : Int) : BPPPP N a' b' c' d' x y u v m n s' t' ((((((w.setCell ⟨N, 0, none⟩ (.int .i64 a')).setCell ⟨N, 1, none⟩ (.int .i64 b')).setCell ⟨N, 2, none⟩ (.int .i64 c')).setCell ⟨N, 3, none⟩ (.int .i64 d')).setCell ⟨N + 1 + 1 + 1 + 1, 0, none⟩ (.int .i64 s')).setCell ⟨N + 1 + 1 + 1 + 1, 1, none⟩ (.int .i64 t')) :=
  ⟨boxIn_two (h.f0.stored a' b' c' d') (c := N + 1 + 1 + 1 + 1) (by omega) _ _, (ptIn_boxed h.f1 (c := N) (by omega) _ _ _ _).two (c := N + 1 + 1 + 1 + 1) (by omega) _ _, (ptIn_boxed h.f2 (c := N) (by omega) _ _ _ _).two (c := N + 1 + 1 + 1 + 1) (by omega) _ _, (ptIn_boxed h.f3 (c := N) (by omega) _ _ _ _).two (c := N + 1 + 1 + 1 + 1) (by omega) _ _, (ptIn_boxed h.f4 (c := N) (by omega) _ _ _ _).stored s' t'⟩
theorem bel_ended {W w : World} {N : Nat} (h : Below W.heap.size W w) (hn : W.heap.size ≤ N) (a' b' c' d' s' t' : Int) : Below W.heap.size W ((((((w.setCell ⟨N, 0, none⟩ (.int .i64 a')).setCell ⟨N, 1, none⟩ (.int .i64 b')).setCell ⟨N, 2, none⟩ (.int .i64 c')).setCell ⟨N, 3, none⟩ (.int .i64 d')).setCell ⟨N + 1 + 1 + 1 + 1, 0, none⟩ (.int .i64 s')).setCell ⟨N + 1 + 1 + 1 + 1, 1, none⟩ (.int .i64 t')) :=
  bel_two (bel_set (bel_set (bel_set (bel_set h hn 0 _) hn 1 _) hn 2 _) hn 3 _) (by omega) _ _
/-- A box that may be, an arc, a radius that may be and a point, in their blocks. -/
def Fin (w : World) (cx cy ax ay ex ey : Int) (s4 : Value) (wc : World) : Prop :=
  ∃ a b c d s t r : Int, s4 = .int .i64 r ∧ ((-536870912 ≤ a ∧ a ≤ c ∧ c ≤ 536870912) ∧ (-536870912 ≤ b ∧ b ≤ d ∧ d ≤ 536870912) ∧ (-536870912 ≤ s ∧ s ≤ 536870912 ∧ -536870912 ≤ t ∧ t ≤ 536870912) ∧ 1 ≤ r ∧ r ≤ 536870912) ∧ BPPPP w.heap.size a b c d cx cy ax ay ex ey s t wc ∧ Below w.heap.size w wc

set_option maxRecDepth 100000 in
set_option maxHeartbeats 32000000 in
theorem core (b0 b1 b2 b3 c0 c1 a0 a1 e0 e1 k p0 p1 i j z : Int) (small : Bool) (a b c d x y u v m n s t r cx cy ax ay ex ey : Int)
    (X1 : ∀ w, Calls Try.prog 18 #[boxV b0 b1 b2 b3] w fun e w' => e = .returned (boxV a b c d) ∧ Below w.heap.size w w')
    (X2 : ∀ w, Calls Try.prog 19 #[ptV c0 c1] w fun e w' => e = .returned (ptV x y) ∧ Below w.heap.size w w')
    (X3 : ∀ w, Calls Try.prog 19 #[ptV a0 a1] w fun e w' => e = .returned (ptV u v) ∧ Below w.heap.size w w')
    (X4 : ∀ w, Calls Try.prog 19 #[ptV e0 e1] w fun e w' => e = .returned (ptV m n) ∧ Below w.heap.size w w')
    (X5 : ∀ w, Calls Try.prog 19 #[ptV p0 p1] w fun e w' => e = .returned (ptV s t) ∧ Below w.heap.size w w')
    (XR : ∀ w, Calls Try.prog 11 #[.int .i64 k] w fun e w' => e = .returned (.int .i64 r) ∧ w = w')
    (XA : ∀ w, Calls Try.prog 8 #[ptV x y, .int .i64 i, .int .i64 j, .int .i64 z, .bool small] w fun e w' => e = .returned (.tuple #[ptV cx cy, ptV ax ay, ptV ex ey]) ∧ Below w.heap.size w w')
    (hbd : ((-536870912 ≤ a ∧ a ≤ c ∧ c ≤ 536870912) ∧ (-536870912 ≤ b ∧ b ≤ d ∧ d ≤ 536870912) ∧ (-536870912 ≤ s ∧ s ≤ 536870912 ∧ -536870912 ≤ t ∧ t ≤ 536870912) ∧ 1 ≤ r ∧ r ≤ 536870912)) (hbq : ((-536870912 ≤ x ∧ x ≤ 536870912 ∧ -536870912 ≤ y ∧ y ≤ 536870912) ∧ (-536870912 ≤ u ∧ u ≤ 536870912 ∧ -536870912 ≤ v ∧ v ≤ 536870912) ∧ (-536870912 ≤ m ∧ m ≤ 536870912 ∧ -536870912 ≤ n ∧ n ≤ 536870912))) (hba : ((-400000000 ≤ cx ∧ cx ≤ 400000000 ∧ -400000000 ≤ cy ∧ cy ≤ 400000000) ∧ (-500000000 ≤ ax ∧ ax ≤ 500000000 ∧ -500000000 ≤ ay ∧ ay ≤ 500000000) ∧ (-500000000 ≤ ex ∧ ex ≤ 500000000 ∧ -500000000 ≤ ey ∧ ey ≤ 500000000))) (hok : okR cx cy ax ay ex ey = true) (w : World) :
    Calls Try.prog 4 #[boxV b0 b1 b2 b3, ptV c0 c1, ptV a0 a1, ptV e0 e1, .int .i64 k, ptV p0 p1, .int .i64 i, .int .i64 j, .int .i64 z, .bool small] w fun e w' => e = .returned (.bool true) ∧ Below w.heap.size w w' := by
  have HX1 := Lib.hid X1
  have HX2 := Lib.hid X2
  have HX3 := Lib.hid X3
  have HX4 := Lib.hid X4
  have HX5 := Lib.hid X5
  have HR := Lib.hid XR
  have HA := Lib.hid XA
  have HBD := Lib.hid hbd
  have HBQ := Lib.hid hbq
  have HBA := Lib.hid hba
  have HOK := Lib.hid hok
  have F0' := bpppp_new w b0 b1 b2 b3 c0 c1 a0 a1 e0 e1 p0 p1 23 25
  have B0' := bel_newBPPPP w b0 b1 b2 b3 c0 c1 a0 a1 e0 e1 p0 p1 23 25
  unfold newBPPPP at F0' B0'
  have F0 := Lib.hid F0'
  have B0 := Lib.hid B0'
  clear X1 X2 X3 X4 X5 XR XA hbd hbq hba hok F0' B0'
  go_enter Try.func4, Try.ntmps4
  go_wp2_with fail
  generalize (((((w.alloc (.cells #[.int .i64 b0, .int .i64 b1, .int .i64 b2, .int .i64 b3] 23)).alloc (.cells #[.int .i64 c0, .int .i64 c1] 25)).alloc (.cells #[.int .i64 a0, .int .i64 a1] 25)).alloc (.cells #[.int .i64 e0, .int .i64 e1] 25)).alloc (.cells #[.int .i64 p0, .int .i64 p1] 25)) = V at *
  obtain ⟨⟨⟨i0, i1, i2, i3, il⟩, fi⟩, ⟨⟨j0, j1, jl⟩, fj⟩, ⟨⟨l0, l1, ll⟩, fl⟩, ⟨⟨n0, n1, nl⟩, fn⟩, ⟨⟨o0, o1, ol⟩, fo⟩⟩ := F0.out
  have i0 := cell_regrown i0
  have i1 := cell_regrown i1
  have i2 := cell_regrown i2
  have i3 := cell_regrown i3
  have j0 := cell_regrown j0
  have j1 := cell_regrown j1
  have l0 := cell_regrown l0
  have l1 := cell_regrown l1
  have n0 := cell_regrown n0
  have n1 := cell_regrown n1
  have o0 := cell_regrown o0
  have o1 := cell_regrown o1
  have D1 := Lib.hid (fun p : Regrown => Calls.regrown_of (HX1.out (grow (redrawn V p.d) p.os)))
  have D2 := Lib.hid (fun p : Regrown => Calls.regrown_of (HX2.out (grow (redrawn V p.d) p.os)))
  have D3 := Lib.hid (fun p : Regrown => Calls.regrown_of (HX3.out (grow (redrawn V p.d) p.os)))
  have D4 := Lib.hid (fun p : Regrown => Calls.regrown_of (HX4.out (grow (redrawn V p.d) p.os)))
  have D5 := Lib.hid (fun p : Regrown => Calls.regrown_of (HX5.out (grow (redrawn V p.d) p.os)))
  clear HX1 HX2 HX3 HX4 HX5
  refine region_below_tail 10 (by kernel_rfl) (by kernel_rfl) ?_
  simp only [List.take_succ_cons, List.take_zero]
  repeat (go_big_quiet_step (first | with_reducible exact D1.out _ | with_reducible exact D2.out _ | with_reducible exact D3.out _ | with_reducible exact D4.out _ | with_reducible exact D5.out _))
  refine wpQuiet_nil ?_
  intro _ hw'
  obtain ⟨⟨dr, osr⟩, hw''⟩ := hw'
  subst hw''
  clear i0 i1 i2 i3 j0 j1 l0 l1 n0 n1 o0 o1 D1 D2 D3 D4 D5 il fi jl fj ll fl nl fn ol fo
  have zz := below_regrown V dr osr
  have F1 := Lib.hid (F0.out.later zz)
  have B1 := Lib.hid (bel_trans B0.out zz)
  clear F0 B0 zz
  generalize grow (redrawn V dr) osr = V1 at *
  simp only [List.drop_succ_cons, List.drop_zero]
  obtain ⟨⟨⟨i0, i1, i2, i3, il⟩, fi⟩, ⟨⟨j0, j1, jl⟩, fj⟩, ⟨⟨l0, l1, ll⟩, fl⟩, ⟨⟨n0, n1, nl⟩, fn⟩, ⟨⟨o0, o1, ol⟩, fo⟩⟩ := F1.out
  go_upto_region 3 with (fail)
  clear i0 i1 i2 i3 j0 j1 l0 l1 n0 n1 o0 o1 il fi jl fj ll fl nl fn ol fo
  have F2' := F1.out.stored a b c d x y u v m n s t
  have B2' := bel_bpppp B1.out (Nat.le_refl _) a b c d x y u v m n s t
  unfold setBPPPP at F2' B2'
  have F2 := Lib.hid F2'
  have B2 := Lib.hid B2'
  clear F1 B1 F2' B2'
  generalize ((((((((((((V1.setCell ⟨w.heap.size, 0, none⟩ (.int .i64 a)).setCell ⟨w.heap.size, 1, none⟩ (.int .i64 b)).setCell ⟨w.heap.size, 2, none⟩ (.int .i64 c)).setCell ⟨w.heap.size, 3, none⟩ (.int .i64 d)).setCell ⟨w.heap.size + 1, 0, none⟩ (.int .i64 x)).setCell ⟨w.heap.size + 1, 1, none⟩ (.int .i64 y)).setCell ⟨w.heap.size + 1 + 1, 0, none⟩ (.int .i64 u)).setCell ⟨w.heap.size + 1 + 1, 1, none⟩ (.int .i64 v)).setCell ⟨w.heap.size + 1 + 1 + 1, 0, none⟩ (.int .i64 m)).setCell ⟨w.heap.size + 1 + 1 + 1, 1, none⟩ (.int .i64 n)).setCell ⟨w.heap.size + 1 + 1 + 1 + 1, 0, none⟩ (.int .i64 s)).setCell ⟨w.heap.size + 1 + 1 + 1 + 1, 1, none⟩ (.int .i64 t)) = V2 at *
  go_upto_region 4 with ((go_at_call 11; (with_reducible refine (HR.out _).mono ?_); rintro e' w' ⟨rfl, rfl⟩))
  clear HR
  obtain ⟨⟨xa, xb, xc⟩, ⟨ya, yb, yc⟩, ⟨na, nb, nc, nd⟩, ra, rb⟩ := HBD.out
  obtain ⟨⟨ma, mb, mc, md⟩, ⟨oa, ob, oc, od⟩, ⟨qa, qb, qc, qd⟩⟩ := HBQ.out
  obtain ⟨g, g1, g2⟩ : ∃ g : Bool, (∀ w, Calls Try.prog 20 #[ptV x y, ptV u v, ptV m n] w fun e w' => e = .returned (.bool g) ∧ Below w.heap.size w w') ∧ (∀ w, Calls Try.prog 21 #[ptV x y, ptV u v, ptV m n] w fun e w' => e = .returned (.bool g) ∧ Below w.heap.size w w') :=
    ⟨_, fun w => ringOk_any x y u v m n (by omega) (by omega) (by omega) (by omega) (by omega) (by omega) (by omega) (by omega) (by omega) (by omega) (by omega) (by omega) w, fun w => refRingOk_any x y u v m n (by omega) (by omega) (by omega) (by omega) (by omega) (by omega) (by omega) (by omega) (by omega) (by omega) (by omega) (by omega) w⟩
  obtain ⟨q, q1, q2⟩ : ∃ q : Int, (∀ w, Calls Try.prog 15 #[boxV a b c d, ptV x y, ptV u v, ptV m n, .int .i64 r] w fun e w' => e = .returned (.int .i64 q) ∧ Below w.heap.size w w') ∧ (∀ w, Calls Try.prog 22 #[boxV a b c d, ptV x y, ptV u v, ptV m n, .int .i64 r] w fun e w' => e = .returned (.int .i64 q) ∧ Below w.heap.size w w') :=
    ⟨_, fun w => ringClass_any a b c d x y u v m n r xa xb xc ya yb yc (by omega) (by omega) (by omega) (by omega) (by omega) (by omega) (by omega) (by omega) (by omega) (by omega) (by omega) (by omega) (by omega) w, fun w => refRing_any a b c d x y u v m n r xa xb xc ya yb yc (by omega) (by omega) (by omega) (by omega) (by omega) (by omega) (by omega) (by omega) (by omega) (by omega) (by omega) (by omega) (by omega) w⟩
  obtain ⟨h, h1, h2⟩ : ∃ h : Bool, (∀ w, Calls Try.prog 16 #[ptV s t, ptV x y, ptV u v, ptV m n, .int .i64 r] w fun e w' => e = .returned (.bool h) ∧ Below w.heap.size w w') ∧ (∀ w, Calls Try.prog 23 #[ptV s t, ptV x y, ptV u v, ptV m n, .int .i64 r] w fun e w' => e = .returned (.bool h) ∧ Below w.heap.size w w') :=
    ⟨_, fun w => ringHas_any s t x y u v m n r (by omega) (by omega) (by omega) (by omega) (by omega) (by omega) (by omega) (by omega) (by omega) (by omega) (by omega) (by omega) (by omega) (by omega) (by omega) (by omega) (by omega) w, fun w => refRingHas_any s t x y u v m n r (by omega) (by omega) (by omega) (by omega) (by omega) (by omega) (by omega) (by omega) (by omega) (by omega) (by omega) (by omega) (by omega) (by omega) (by omega) (by omega) (by omega) w⟩
  clear xa xb xc ya yb yc na nb nc nd ra rb ma mb mc md oa ob oc od qa qb qc qd HBQ
  obtain ⟨⟨⟨i0, i1, i2, i3, il⟩, fi⟩, ⟨⟨j0, j1, jl⟩, fj⟩, ⟨⟨l0, l1, ll⟩, fl⟩, ⟨⟨n0, n1, nl⟩, fn⟩, ⟨⟨o0, o1, ol⟩, fo⟩⟩ := F2.out
  have i0 := cell_regrown i0
  have i1 := cell_regrown i1
  have i2 := cell_regrown i2
  have i3 := cell_regrown i3
  have j0 := cell_regrown j0
  have j1 := cell_regrown j1
  have l0 := cell_regrown l0
  have l1 := cell_regrown l1
  have n0 := cell_regrown n0
  have n1 := cell_regrown n1
  have o0 := cell_regrown o0
  have o1 := cell_regrown o1
  have D1 := Lib.hid (fun p : Regrown => Calls.regrown_of (g1 (grow (redrawn V2 p.d) p.os)))
  have D2 := Lib.hid (fun p : Regrown => Calls.regrown_of (g2 (grow (redrawn V2 p.d) p.os)))
  have D3 := Lib.hid (fun p : Regrown => Calls.regrown_of (q1 (grow (redrawn V2 p.d) p.os)))
  have D4 := Lib.hid (fun p : Regrown => Calls.regrown_of (q2 (grow (redrawn V2 p.d) p.os)))
  have D5 := Lib.hid (fun p : Regrown => Calls.regrown_of (h1 (grow (redrawn V2 p.d) p.os)))
  have D6 := Lib.hid (fun p : Regrown => Calls.regrown_of (h2 (grow (redrawn V2 p.d) p.os)))
  clear g1 g2 q1 q2 h1 h2 il fi jl fj ll fl nl fn ol fo
  refine wp_region_quiet_below (by kernel_rfl) (by kernel_rfl) ?_
  repeat (go_big_quiet_step (first | with_reducible exact D1.out _ | with_reducible exact D2.out _ | with_reducible exact D3.out _ | with_reducible exact D4.out _ | with_reducible exact D5.out _ | with_reducible exact D6.out _))
  refine wpQuiet_nil ?_
  intro _ hw'
  obtain ⟨⟨ds, oss⟩, hw''⟩ := hw'
  subst hw''
  clear i0 i1 i2 i3 j0 j1 l0 l1 n0 n1 o0 o1 D1 D2 D3 D4 D5 D6
  have zz := below_regrown V2 ds oss
  have F3 := Lib.hid (F2.out.later zz)
  have B3 := Lib.hid (bel_trans B2.out zz)
  clear F2 B2 zz
  generalize grow (redrawn V2 ds) oss = V3 at *
  obtain ⟨⟨⟨i0, i1, i2, i3, il⟩, fi⟩, ⟨⟨j0, j1, jl⟩, fj⟩, ⟨⟨l0, l1, ll⟩, fl⟩, ⟨⟨n0, n1, nl⟩, fn⟩, ⟨⟨o0, o1, ol⟩, fo⟩⟩ := F3.out
  go_wp2_with fail
  refine (HA.out _).mono ?_; rintro e' w4 ⟨rfl, z4⟩
  have F4 := Lib.hid (F3.out.later z4)
  have B4 := Lib.hid (bel_trans B3.out z4)
  clear F3 B3 z4 i0 i1 i2 i3 j0 j1 l0 l1 n0 n1 o0 o1 il fi jl fj ll fl nl fn ol fo HA
  obtain ⟨⟨⟨i0, i1, i2, i3, il⟩, fi⟩, ⟨⟨j0, j1, jl⟩, fj⟩, ⟨⟨l0, l1, ll⟩, fl⟩, ⟨⟨n0, n1, nl⟩, fn⟩, ⟨⟨o0, o1, ol⟩, fo⟩⟩ := F4.out
  go_upto_if 84 with (fail)
  clear i0 i1 i2 i3 j0 j1 l0 l1 n0 n1 o0 o1 il fi jl fj ll fl nl fn ol fo
  have F5 := Lib.hid (arced F4.out cx cy ax ay ex ey)
  have B5 := Lib.hid (bel_arced B4.out (Nat.le_refl _) cx cy ax ay ex ey)
  clear F4 B4
  generalize ((((((w4.setCell ⟨w.heap.size + 1, 0, none⟩ (.int .i64 cx)).setCell ⟨w.heap.size + 1, 1, none⟩ (.int .i64 cy)).setCell ⟨w.heap.size + 1 + 1, 0, none⟩ (.int .i64 ax)).setCell ⟨w.heap.size + 1 + 1, 1, none⟩ (.int .i64 ay)).setCell ⟨w.heap.size + 1 + 1 + 1, 0, none⟩ (.int .i64 ex)).setCell ⟨w.heap.size + 1 + 1 + 1, 1, none⟩ (.int .i64 ey)) = V5 at *
  go_cut [4] (fun s4 wc => Fin w cx cy ax ay ex ey s4 wc)
  case first =>
    cases small with
    | false =>
      go_wp2
      go_meet
      exact ⟨a, b, c, d, s, t, r, rfl, HBD.out, F5.out, B5.out⟩
    | true =>
      obtain ⟨a', b', c', d', ha, hb, Y1⟩ := small_form a b c d
      obtain ⟨s', t', hs, Y4⟩ := close_form s t 30 31 (by omega) (by omega) rfl
      obtain ⟨r', r2, r3, er⟩ := r_left (n := 30) HBD.out.2.2.2.1 (by omega)
      have HB2 := Lib.hid (show ((-536870912 ≤ a' ∧ a' ≤ c' ∧ c' ≤ 536870912) ∧ (-536870912 ≤ b' ∧ b' ≤ d' ∧ d' ≤ 536870912) ∧ (-536870912 ≤ s' ∧ s' ≤ 536870912 ∧ -536870912 ≤ t' ∧ t' ≤ 536870912) ∧ 1 ≤ r' + 1 ∧ r' + 1 ≤ 536870912) by omega)
      have HY1 := Lib.hid Y1
      have HY4 := Lib.hid Y4
      clear Y1 Y4 ha hb hs
      go_wp2_with fail
      obtain ⟨⟨⟨i0, i1, i2, i3, il⟩, fi⟩, ⟨⟨j0, j1, jl⟩, fj⟩, ⟨⟨l0, l1, ll⟩, fl⟩, ⟨⟨n0, n1, nl⟩, fn⟩, ⟨⟨o0, o1, ol⟩, fo⟩⟩ := F5.out
      have i0 := cell_regrown i0
      have i1 := cell_regrown i1
      have i2 := cell_regrown i2
      have i3 := cell_regrown i3
      have j0 := cell_regrown j0
      have j1 := cell_regrown j1
      have l0 := cell_regrown l0
      have l1 := cell_regrown l1
      have n0 := cell_regrown n0
      have n1 := cell_regrown n1
      have o0 := cell_regrown o0
      have o1 := cell_regrown o1
      have D1 := Lib.hid (fun p : Regrown => Calls.regrown_of (HY1.out (grow (redrawn V5 p.d) p.os)))
      have D4 := Lib.hid (fun p : Regrown => Calls.regrown_of (HY4.out (grow (redrawn V5 p.d) p.os)))
      have s1 : IntKind.i64.wrap (r' + 1) = r' + 1 := IntWalk.i64_in _ (by omega)
      clear HY1 HY4
      refine wp_region_any (by kernel_rfl) ?_
      change wpAny _ _ _ _ _ _ _ (World.drew _)
      refine any_take 4 89 (.int .i64 r) rfl rfl (by kernel_rfl) (by kernel_rfl) (by kernel_rfl) (fun _ _ _ h => h) (by rfl) (fun w => by go_simp) ?_
      refine any_take 5 90 (.int .i64 r') rfl rfl (by kernel_rfl) (by kernel_rfl) (by kernel_rfl) (fun _ _ _ h => h) (by rfl) (fun w => by go_simp) ?_
      refine any_take 6 91 (.int .i64 (r' + 1)) rfl rfl (by kernel_rfl) (by kernel_rfl) (by kernel_rfl) (fun _ _ _ h => h) (by rfl) (fun w => by go_simp) ?_
      refine any_heads_below (n := 4) (g := 3) (e := #[true, true, true, true, true, true, true, false, false, false]) (by kernel_rfl) ?_
      simp only [List.take_succ_cons, List.take_zero, Act.put, List.setIfInBounds_toArray, List.set_cons_zero, List.set_cons_succ]
      repeat (go_big_quiet_step (first | with_reducible exact D1.out _ | with_reducible exact D4.out _))
      refine wpQuiet_nil ?_
      intro _ hw'
      obtain ⟨⟨dt, ost⟩, hw''⟩ := hw'
      subst hw''
      clear i0 i1 i2 i3 j0 j1 l0 l1 n0 n1 o0 o1 D1 D4 il fi jl fj ll fl nl fn ol fo
      have zz := below_regrown V5 dt ost
      have F6 := Lib.hid (F5.out.later zz)
      have B6 := Lib.hid (bel_trans B5.out zz)
      clear F5 B5 zz
      generalize grow (redrawn V5 dt) ost = V6 at *
      refine any_tail (n := 7) rfl (by kernel_rfl) ?_
      simp only [List.drop_succ_cons, List.drop_zero]
      obtain ⟨⟨⟨i0, i1, i2, i3, il⟩, fi⟩, ⟨⟨j0, j1, jl⟩, fj⟩, ⟨⟨l0, l1, ll⟩, fl⟩, ⟨⟨n0, n1, nl⟩, fn⟩, ⟨⟨o0, o1, ol⟩, fo⟩⟩ := F6.out
      go_wp2
      go_meet
      exact ⟨a', b', c', d', s', t', r' + 1, rfl, HB2.out, ended F6.out a' b' c' d' s' t', bel_ended B6.out (Nat.le_refl _) a' b' c' d' s' t'⟩
  case rest =>
    obtain ⟨a, b, c, d, s, t, r, rfl, hbd, hF, hB⟩ := hcut
    clear F5 B5 HBD g q h
    obtain ⟨⟨xa, xb, xc⟩, ⟨ya, yb, yc⟩, ⟨na, nb, nc, nd⟩, ra, rb⟩ := hbd
    obtain ⟨⟨ma, mb, mc, md⟩, ⟨oa, ob, oc, od⟩, ⟨qa, qb, qc, qd⟩⟩ := HBA.out
    have hok := HOK.out
    have H0 := fun w => ringOk_is hok (by omega) (by omega) (by omega) (by omega) (by omega) (by omega) (by omega) (by omega) (by omega) (by omega) (by omega) (by omega) w
    obtain ⟨g, g1, g2⟩ : ∃ g : Bool, (∀ w, Calls Try.prog 24 #[ptV s t, ptV cx cy, ptV ax ay, ptV ex ey] w fun e w' => e = .returned (.bool g) ∧ Below w.heap.size w w') ∧ (∀ w, Calls Try.prog 25 #[ptV s t, ptV cx cy, ptV ax ay, ptV ex ey] w fun e w' => e = .returned (.bool g) ∧ Below w.heap.size w w') :=
      ⟨_, fun w => ringSector_any s t cx cy ax ay ex ey (by omega) (by omega) (by omega) (by omega) (by omega) (by omega) (by omega) (by omega) (by omega) (by omega) (by omega) (by omega) (by omega) (by omega) (by omega) (by omega) w, fun w => refSector_any s t cx cy ax ay ex ey (by omega) (by omega) (by omega) (by omega) (by omega) (by omega) (by omega) (by omega) (by omega) (by omega) (by omega) (by omega) (by omega) (by omega) (by omega) (by omega) w⟩
    obtain ⟨q, q1, q2⟩ : ∃ q : Int, (∀ w, Calls Try.prog 15 #[boxV a b c d, ptV cx cy, ptV ax ay, ptV ex ey, .int .i64 r] w fun e w' => e = .returned (.int .i64 q) ∧ Below w.heap.size w w') ∧ (∀ w, Calls Try.prog 22 #[boxV a b c d, ptV cx cy, ptV ax ay, ptV ex ey, .int .i64 r] w fun e w' => e = .returned (.int .i64 q) ∧ Below w.heap.size w w') :=
      ⟨_, fun w => ringClass_any a b c d cx cy ax ay ex ey r xa xb xc ya yb yc (by omega) (by omega) (by omega) (by omega) (by omega) (by omega) (by omega) (by omega) (by omega) (by omega) (by omega) (by omega) (by omega) w, fun w => refRing_any a b c d cx cy ax ay ex ey r xa xb xc ya yb yc (by omega) (by omega) (by omega) (by omega) (by omega) (by omega) (by omega) (by omega) (by omega) (by omega) (by omega) (by omega) (by omega) w⟩
    obtain ⟨h, h1, h2⟩ : ∃ h : Bool, (∀ w, Calls Try.prog 16 #[ptV s t, ptV cx cy, ptV ax ay, ptV ex ey, .int .i64 r] w fun e w' => e = .returned (.bool h) ∧ Below w.heap.size w w') ∧ (∀ w, Calls Try.prog 23 #[ptV s t, ptV cx cy, ptV ax ay, ptV ex ey, .int .i64 r] w fun e w' => e = .returned (.bool h) ∧ Below w.heap.size w w') :=
      ⟨_, fun w => ringHas_any s t cx cy ax ay ex ey r (by omega) (by omega) (by omega) (by omega) (by omega) (by omega) (by omega) (by omega) (by omega) (by omega) (by omega) (by omega) (by omega) (by omega) (by omega) (by omega) (by omega) w, fun w => refRingHas_any s t cx cy ax ay ex ey r (by omega) (by omega) (by omega) (by omega) (by omega) (by omega) (by omega) (by omega) (by omega) (by omega) (by omega) (by omega) (by omega) (by omega) (by omega) (by omega) (by omega) w⟩
    obtain ⟨⟨⟨i0, i1, i2, i3, il⟩, fi⟩, ⟨⟨j0, j1, jl⟩, fj⟩, ⟨⟨l0, l1, ll⟩, fl⟩, ⟨⟨n0, n1, nl⟩, fn⟩, ⟨⟨o0, o1, ol⟩, fo⟩⟩ := hF
    have i0 := cell_regrown i0
    have i1 := cell_regrown i1
    have i2 := cell_regrown i2
    have i3 := cell_regrown i3
    have j0 := cell_regrown j0
    have j1 := cell_regrown j1
    have l0 := cell_regrown l0
    have l1 := cell_regrown l1
    have n0 := cell_regrown n0
    have n1 := cell_regrown n1
    have o0 := cell_regrown o0
    have o1 := cell_regrown o1
    have B := Lib.hid hB
    have D0 := Lib.hid (fun p : Regrown => Calls.regrown_of (H0 (grow (redrawn wc p.d) p.os)))
    have D1 := Lib.hid (fun p : Regrown => Calls.regrown_of (g1 (grow (redrawn wc p.d) p.os)))
    have D2 := Lib.hid (fun p : Regrown => Calls.regrown_of (g2 (grow (redrawn wc p.d) p.os)))
    have D3 := Lib.hid (fun p : Regrown => Calls.regrown_of (q1 (grow (redrawn wc p.d) p.os)))
    have D4 := Lib.hid (fun p : Regrown => Calls.regrown_of (q2 (grow (redrawn wc p.d) p.os)))
    have D5 := Lib.hid (fun p : Regrown => Calls.regrown_of (h1 (grow (redrawn wc p.d) p.os)))
    have D6 := Lib.hid (fun p : Regrown => Calls.regrown_of (h2 (grow (redrawn wc p.d) p.os)))
    have DA := Lib.hid (fun p : Regrown => Calls.regrown_of (awake_any (grow (redrawn wc p.d) p.os)))
    clear H0 g1 g2 q1 q2 h1 h2 il fi jl fj ll fl nl fn ol fo hB HOK HBA hok
    by_cases hk : 1 ≤ k
    · clear xa xb xc ya yb yc ma mb mc md oa ob oc od na nb nc nd qa qb qc qd ra rb
      have hk1 : decide (1 ≤ k) = true := decide_eq_true hk
      as_aux_lemma =>
        go_wp2_with fail
        try simp only [List.append]
        refine wp_region_quiet_below (by kernel_rfl) (by kernel_rfl) ?_
        repeat (go_big_quiet_step (first | with_reducible exact D0.out _ | with_reducible exact D1.out _ | with_reducible exact D2.out _ | with_reducible exact D3.out _ | with_reducible exact D4.out _ | with_reducible exact D5.out _ | with_reducible exact D6.out _ | with_reducible exact DA.out _))
        refine wpQuiet_nil ?_
        intro _ hw'
        obtain ⟨⟨dt, ost⟩, hw''⟩ := hw'
        subst hw''
        go_wp2
        go_ret
        exact ⟨rfl, bel_trans B.out (below_regrown wc dt ost)⟩
    · have h5 := fun w => ringClass_is (ringC_out (a := a) (b := b) (c := c) (d := d) (cx := cx) (cy := cy) (ax := ax) (ay := ay) (ex := ex) (ey := ey) hk) xa xb xc ya yb yc (by omega) (by omega) (by omega) (by omega) (by omega) (by omega) (by omega) (by omega) (by omega) (by omega) (by omega) (by omega) (show k ≤ 1073741824 by omega) w
      have h6 := fun w => ringHas_is (ringP_out (px := s) (py := t) (cx := cx) (cy := cy) (ax := ax) (ay := ay) (ex := ex) (ey := ey) hk) na nb nc nd (by omega) (by omega) (by omega) (by omega) (by omega) (by omega) (by omega) (by omega) (by omega) (by omega) (by omega) (by omega) (show k ≤ 1073741824 by omega) w
      have D7 := Lib.hid (fun p : Regrown => Calls.regrown_of (h5 (grow (redrawn wc p.d) p.os)))
      have D8 := Lib.hid (fun p : Regrown => Calls.regrown_of (h6 (grow (redrawn wc p.d) p.os)))
      clear xa xb xc ya yb yc ma mb mc md oa ob oc od na nb nc nd qa qb qc qd ra rb h5 h6
      have hk1 : decide (1 ≤ k) = false := decide_eq_false hk
      as_aux_lemma =>
        go_wp2_with fail
        try simp only [List.append]
        refine wp_region_quiet_below (by kernel_rfl) (by kernel_rfl) ?_
        repeat (go_big_quiet_step (first | with_reducible exact D0.out _ | with_reducible exact D1.out _ | with_reducible exact D2.out _ | with_reducible exact D3.out _ | with_reducible exact D4.out _ | with_reducible exact D5.out _ | with_reducible exact D6.out _ | with_reducible exact D7.out _ | with_reducible exact D8.out _ | with_reducible exact DA.out _))
        refine wpQuiet_nil ?_
        intro _ hw'
        obtain ⟨⟨dt, ost⟩, hw''⟩ := hw'
        subst hw''
        go_wp2
        go_ret
        exact ⟨rfl, bel_trans B.out (below_regrown wc dt ost)⟩
theorem walk (b0 b1 b2 b3 c0 c1 a0 a1 e0 e1 k p0 p1 i j z : Int) (small : Bool) (_ : -9223372036854775808 ≤ b0) (_ : b0 ≤ 9223372036854775807) (_ : -9223372036854775808 ≤ b1) (_ : b1 ≤ 9223372036854775807) (_ : -9223372036854775808 ≤ b2) (_ : b2 ≤ 9223372036854775807) (_ : -9223372036854775808 ≤ b3) (_ : b3 ≤ 9223372036854775807) (_ : -9223372036854775808 ≤ c0) (_ : c0 ≤ 9223372036854775807) (_ : -9223372036854775808 ≤ c1) (_ : c1 ≤ 9223372036854775807) (_ : -9223372036854775808 ≤ a0) (_ : a0 ≤ 9223372036854775807) (_ : -9223372036854775808 ≤ a1) (_ : a1 ≤ 9223372036854775807) (_ : -9223372036854775808 ≤ e0) (_ : e0 ≤ 9223372036854775807) (_ : -9223372036854775808 ≤ e1) (_ : e1 ≤ 9223372036854775807) (_ : -9223372036854775808 ≤ k) (_ : k ≤ 9223372036854775807) (_ : -9223372036854775808 ≤ p0) (_ : p0 ≤ 9223372036854775807) (_ : -9223372036854775808 ≤ p1) (_ : p1 ≤ 9223372036854775807) (_ : -9223372036854775808 ≤ i) (_ : i ≤ 9223372036854775807) (_ : -9223372036854775808 ≤ j) (_ : j ≤ 9223372036854775807) (_ : -9223372036854775808 ≤ z) (_ : z ≤ 9223372036854775807) (w : World) :
    Calls Try.prog 4 #[boxV b0 b1 b2 b3, ptV c0 c1, ptV a0 a1, ptV e0 e1, .int .i64 k, ptV p0 p1, .int .i64 i, .int .i64 j, .int .i64 z, .bool small] w fun e w' => e = .returned (.bool true) ∧ Below w.heap.size w w' := by
  obtain ⟨a, b, c, d, h1, h2, h3, h4, h5, h6, X1⟩ := boxT_form b0 b1 b2 b3
  obtain ⟨x, y, k1, k2, k3, k4, X2⟩ := pt_form c0 c1
  obtain ⟨u, v, l1, l2, l3, l4, X3⟩ := pt_form a0 a1
  obtain ⟨m, n, m1, m2, m3, m4, X4⟩ := pt_form e0 e1
  obtain ⟨s, t, n1, n2, n3, n4, X5⟩ := pt_form p0 p1
  obtain ⟨r, r1, r2, XR⟩ := r_form k
  obtain ⟨cx, cy, ax, ay, ex, ey, i1, i2, i3, _, ho, XA⟩ := arc_at x y i j z small
  exact core b0 b1 b2 b3 c0 c1 a0 a1 e0 e1 k p0 p1 i j z small a b c d x y u v m n s t r cx cy ax ay ex ey X1 (fun w => pt_low X2 w) (fun w => pt_low X3 w) (fun w => pt_low X4 w) (fun w => pt_low X5 w) XR XA ⟨⟨h1, h2, h3⟩, ⟨h4, h5, h6⟩, ⟨n1, n2, n3, n4⟩, r1, r2⟩ ⟨⟨k1, k2, k3, k4⟩, ⟨l1, l2, l3, l4⟩, ⟨m1, m2, m3, m4⟩⟩ ⟨i1, i2, i3⟩ ho w
theorem own : ownKnob Try.prog.godebug = none := by kernel_rfl
set_option maxRecDepth 100000 in
set_option maxHeartbeats 4000000 in
theorem lifted (os : Os) (started : os.Started) (H : Type) (enc : TypeId × Value → H) :
    ReturnsInHanded {} Try.checked os 4 .any (Rows.ringTellsSpec.pre6 enc Try.prog Try.f4 Rows.ringTellsRow.domain false) (Rows.ringTellsSpec.post enc Try.prog Try.f4 false true false false) := by
  refine returnsInHanded_of_change (C := Try.checked) own started (by kernel_rfl) Try.func4
    (ChangeSpec.witness6 (enc := enc) (C := Try.checked) false ⟨#[], #[.agg #[.int .i64 0, .int .i64 0, .int .i64 0, .int .i64 0], .agg #[.int .i64 0, .int .i64 0], .agg #[.int .i64 0, .int .i64 0], .agg #[.int .i64 0, .int .i64 0], .int .i64 0, .agg #[.int .i64 0, .int .i64 0], .int .i64 0, .int .i64 0, .int .i64 0, .bool false], []⟩ 8 (by kernel_rfl) (by kernel_rfl) (by kernel_rfl) (by kernel_rfl)) ?_
  intro W base args ds gs before hval0 hW _ _
  have hval : ∀ (j : Nat) t v, Try.f4.params[j]? = some t → args[j]? = some v → Value.okWide Try.prog W .any base t v := hval0
  have hW' := hW
  obtain ⟨p, q, hA0, hV, rfl, hfz, hnd⟩ := hW
  have hA : DataW.TrodAll enc Try.prog W 0 (fun _ => true) true Try.f4.params.toList args.toList ds p := hA0
  rw [Try.params4] at hA hval
  obtain ⟨v0, vs0, d0, ds0, p0, q0, hargs, rfl, rfl, h0, r0⟩ := trodAll_cons hA
  obtain ⟨v1, vs1, d1, ds1, p1, q1, rfl, rfl, rfl, h1, r1⟩ := trodAll_cons r0
  obtain ⟨v2, vs2, d2, ds2, p2, q2, rfl, rfl, rfl, h2, r2⟩ := trodAll_cons r1
  obtain ⟨v3, vs3, d3, ds3, p3, q3, rfl, rfl, rfl, h3, r3⟩ := trodAll_cons r2
  obtain ⟨v4, vs4, d4, ds4, p4, q4, rfl, rfl, rfl, h4, r4⟩ := trodAll_cons r3
  obtain ⟨v5, vs5, d5, ds5, p5, q5, rfl, rfl, rfl, h5, r5⟩ := trodAll_cons r4
  obtain ⟨v6, vs6, d6, ds6, p6, q6, rfl, rfl, rfl, h6, r6⟩ := trodAll_cons r5
  obtain ⟨v7, vs7, d7, ds7, p7, q7, rfl, rfl, rfl, h7, r7⟩ := trodAll_cons r6
  obtain ⟨v8, vs8, d8, ds8, p8, q8, rfl, rfl, rfl, h8, r8⟩ := trodAll_cons r7
  obtain ⟨v9, vs9, d9, ds9, p9, q9, rfl, rfl, rfl, h9, r9⟩ := trodAll_cons r8
  obtain ⟨rfl, rfl, rfl⟩ := trodAll_nil r9
  obtain rfl : args = #[v0, v1, v2, v3, v4, v5, v6, v7, v8, v9] := by cases args; simp_all
  obtain ⟨rfl, rfl⟩ := trodVars_none hV
  obtain ⟨c0_0, c0_1, c0_2, c0_3, y0_0, y0_1, y0_2, y0_3, m0, rfl, rfl, rfl, k0_0, k0_1, k0_2, k0_3⟩ := open_agg4 Try.underlying23 (by kernel_rfl) (by kernel_rfl) (hval 0 23 v0 rfl rfl) h0
  obtain ⟨a0_0, ea0_0, rfl, wa0_0⟩ := DataW.trod_int Try.underlying2 k0_0
  simp at ea0_0; subst ea0_0
  obtain ⟨a0_1, ea0_1, rfl, wa0_1⟩ := DataW.trod_int Try.underlying2 k0_1
  simp at ea0_1; subst ea0_1
  obtain ⟨a0_2, ea0_2, rfl, wa0_2⟩ := DataW.trod_int Try.underlying2 k0_2
  simp at ea0_2; subst ea0_2
  obtain ⟨a0_3, ea0_3, rfl, wa0_3⟩ := DataW.trod_int Try.underlying2 k0_3
  simp at ea0_3; subst ea0_3
  obtain ⟨c1_0, c1_1, y1_0, y1_1, m1, rfl, rfl, rfl, k1_0, k1_1⟩ := open_agg2 Try.underlying25 (by kernel_rfl) (by kernel_rfl) (hval 1 25 v1 rfl rfl) h1
  obtain ⟨a1_0, ea1_0, rfl, wa1_0⟩ := DataW.trod_int Try.underlying2 k1_0
  simp at ea1_0; subst ea1_0
  obtain ⟨a1_1, ea1_1, rfl, wa1_1⟩ := DataW.trod_int Try.underlying2 k1_1
  simp at ea1_1; subst ea1_1
  obtain ⟨c2_0, c2_1, y2_0, y2_1, m2, rfl, rfl, rfl, k2_0, k2_1⟩ := open_agg2 Try.underlying25 (by kernel_rfl) (by kernel_rfl) (hval 2 25 v2 rfl rfl) h2
  obtain ⟨a2_0, ea2_0, rfl, wa2_0⟩ := DataW.trod_int Try.underlying2 k2_0
  simp at ea2_0; subst ea2_0
  obtain ⟨a2_1, ea2_1, rfl, wa2_1⟩ := DataW.trod_int Try.underlying2 k2_1
  simp at ea2_1; subst ea2_1
  obtain ⟨c3_0, c3_1, y3_0, y3_1, m3, rfl, rfl, rfl, k3_0, k3_1⟩ := open_agg2 Try.underlying25 (by kernel_rfl) (by kernel_rfl) (hval 3 25 v3 rfl rfl) h3
  obtain ⟨a3_0, ea3_0, rfl, wa3_0⟩ := DataW.trod_int Try.underlying2 k3_0
  simp at ea3_0; subst ea3_0
  obtain ⟨a3_1, ea3_1, rfl, wa3_1⟩ := DataW.trod_int Try.underlying2 k3_1
  simp at ea3_1; subst ea3_1
  obtain ⟨a4, rfl, rfl, rfl, w4⟩ := open_int Try.underlying2 (hval 4 2 v4 rfl rfl) h4
  obtain ⟨c5_0, c5_1, y5_0, y5_1, m5, rfl, rfl, rfl, k5_0, k5_1⟩ := open_agg2 Try.underlying25 (by kernel_rfl) (by kernel_rfl) (hval 5 25 v5 rfl rfl) h5
  obtain ⟨a5_0, ea5_0, rfl, wa5_0⟩ := DataW.trod_int Try.underlying2 k5_0
  simp at ea5_0; subst ea5_0
  obtain ⟨a5_1, ea5_1, rfl, wa5_1⟩ := DataW.trod_int Try.underlying2 k5_1
  simp at ea5_1; subst ea5_1
  obtain ⟨a6, rfl, rfl, rfl, w6⟩ := open_int Try.underlying3 (hval 6 3 v6 rfl rfl) h6
  obtain ⟨a7, rfl, rfl, rfl, w7⟩ := open_int Try.underlying3 (hval 7 3 v7 rfl rfl) h7
  obtain ⟨a8, rfl, rfl, rfl, w8⟩ := open_int Try.underlying2 (hval 8 2 v8 rfl rfl) h8
  obtain ⟨a9, rfl, rfl, rfl⟩ := open_bool Try.underlying4 (hval 9 4 v9 rfl rfl) h9
  have s0 : ∀ (W' : World) (sp : Nat → Bool), DataW.Trod enc Try.prog W' 0 sp true 23 (.agg #[.int .i64 a0_0, .int .i64 a0_1, .int .i64 a0_2, .int .i64 a0_3]) (.agg [.lit (.int .i64 a0_0), .lit (.int .i64 a0_1), .lit (.int .i64 a0_2), .lit (.int .i64 a0_3)]) [] := fun W' sp =>
    shut_agg4 (y0 := (.lit (.int .i64 a0_0), [])) (y1 := (.lit (.int .i64 a0_1), [])) (y2 := (.lit (.int .i64 a0_2), [])) (y3 := (.lit (.int .i64 a0_3), [])) Try.underlying23 (by kernel_rfl) (by kernel_rfl) ⟨1, by simp [DataW.trod, Try.underlying2, wa0_0]⟩ ⟨1, by simp [DataW.trod, Try.underlying2, wa0_1]⟩ ⟨1, by simp [DataW.trod, Try.underlying2, wa0_2]⟩ ⟨1, by simp [DataW.trod, Try.underlying2, wa0_3]⟩
  have s1 : ∀ (W' : World) (sp : Nat → Bool), DataW.Trod enc Try.prog W' 0 sp true 25 (.agg #[.int .i64 a1_0, .int .i64 a1_1]) (.agg [.lit (.int .i64 a1_0), .lit (.int .i64 a1_1)]) [] := fun W' sp =>
    shut_agg2 (y0 := (.lit (.int .i64 a1_0), [])) (y1 := (.lit (.int .i64 a1_1), [])) Try.underlying25 (by kernel_rfl) (by kernel_rfl) ⟨1, by simp [DataW.trod, Try.underlying2, wa1_0]⟩ ⟨1, by simp [DataW.trod, Try.underlying2, wa1_1]⟩
  have s2 : ∀ (W' : World) (sp : Nat → Bool), DataW.Trod enc Try.prog W' 0 sp true 25 (.agg #[.int .i64 a2_0, .int .i64 a2_1]) (.agg [.lit (.int .i64 a2_0), .lit (.int .i64 a2_1)]) [] := fun W' sp =>
    shut_agg2 (y0 := (.lit (.int .i64 a2_0), [])) (y1 := (.lit (.int .i64 a2_1), [])) Try.underlying25 (by kernel_rfl) (by kernel_rfl) ⟨1, by simp [DataW.trod, Try.underlying2, wa2_0]⟩ ⟨1, by simp [DataW.trod, Try.underlying2, wa2_1]⟩
  have s3 : ∀ (W' : World) (sp : Nat → Bool), DataW.Trod enc Try.prog W' 0 sp true 25 (.agg #[.int .i64 a3_0, .int .i64 a3_1]) (.agg [.lit (.int .i64 a3_0), .lit (.int .i64 a3_1)]) [] := fun W' sp =>
    shut_agg2 (y0 := (.lit (.int .i64 a3_0), [])) (y1 := (.lit (.int .i64 a3_1), [])) Try.underlying25 (by kernel_rfl) (by kernel_rfl) ⟨1, by simp [DataW.trod, Try.underlying2, wa3_0]⟩ ⟨1, by simp [DataW.trod, Try.underlying2, wa3_1]⟩
  have s5 : ∀ (W' : World) (sp : Nat → Bool), DataW.Trod enc Try.prog W' 0 sp true 25 (.agg #[.int .i64 a5_0, .int .i64 a5_1]) (.agg [.lit (.int .i64 a5_0), .lit (.int .i64 a5_1)]) [] := fun W' sp =>
    shut_agg2 (y0 := (.lit (.int .i64 a5_0), [])) (y1 := (.lit (.int .i64 a5_1), [])) Try.underlying25 (by kernel_rfl) (by kernel_rfl) ⟨1, by simp [DataW.trod, Try.underlying2, wa5_0]⟩ ⟨1, by simp [DataW.trod, Try.underlying2, wa5_1]⟩
  clear hA0 hval0
  simp only [List.append_nil] at hW'
  refine (walk a0_0 a0_1 a0_2 a0_3 a1_0 a1_1 a2_0 a2_1 a3_0 a3_1 a4 a5_0 a5_1 a6 a7 a8 a9 (bounds_i64 wa0_0).1 (bounds_i64 wa0_0).2 (bounds_i64 wa0_1).1 (bounds_i64 wa0_1).2 (bounds_i64 wa0_2).1 (bounds_i64 wa0_2).2 (bounds_i64 wa0_3).1 (bounds_i64 wa0_3).2 (bounds_i64 wa1_0).1 (bounds_i64 wa1_0).2 (bounds_i64 wa1_1).1 (bounds_i64 wa1_1).2 (bounds_i64 wa2_0).1 (bounds_i64 wa2_0).2 (bounds_i64 wa2_1).1 (bounds_i64 wa2_1).2 (bounds_i64 wa3_0).1 (bounds_i64 wa3_0).2 (bounds_i64 wa3_1).1 (bounds_i64 wa3_1).2 (bounds_i64 w4).1 (bounds_i64 w4).2 (bounds_i64 wa5_0).1 (bounds_i64 wa5_0).2 (bounds_i64 wa5_1).1 (bounds_i64 wa5_1).2 (bounds_i64 w6).1 (bounds_i64 w6).2 (bounds_i64 w7).1 (bounds_i64 w7).2 (bounds_i64 w8).1 (bounds_i64 w8).2 W).mono fun e W' ⟨he, bel⟩ => ?_
  subst he
  exact ⟨_, rfl, _, _, _, [], _, [], hW', trodAll_mk1 (shut_bool Try.underlying4 _), (trodAll_cons_mk (s0 _ _) (trodAll_cons_mk (s1 _ _) (trodAll_cons_mk (s2 _ _) (trodAll_cons_mk (s3 _ _) (trodAll_cons_mk (shut_int Try.underlying2 w4) (trodAll_cons_mk (s5 _ _) (trodAll_cons_mk (shut_int Try.underlying3 w6) (trodAll_cons_mk (shut_int Try.underlying3 w7) (trodAll_cons_mk (shut_int Try.underlying2 w8) (trodAll_cons_mk (shut_bool Try.underlying4 a9) trodAll_mk0)))))))))), rfl, bel.frame _, fun h => by cases h⟩
theorem over : Rows.ringTellsRow.holds Try.pinned (OpenSpec.ofChange Rows.ringTellsSpec) :=
  OpenClaim.holds_of_wide 4 Try.f4 rfl rfl rfl rfl rfl rfl rfl ⟨rfl, rfl, rfl, rfl, rfl⟩ rfl rfl rfl rfl rfl (by kernel_rfl) Try.func4 (by kernel_rfl)
    (of_decide_eq_true (by kernel_rfl)) (by unfold Func.isWrapper; first | (rw [if_pos (by decide +kernel)]; kernel_rfl) | (rw [if_neg (by decide +kernel)]; exact ⟨rfl, rfl⟩))
    (fun os started H enc _ => lifted os started H enc)
theorem proved : Rows.RingTellsSaid := over
#print axioms proved
end Go.Proofs.Ytoofbbmddddlcaa.ringTells
