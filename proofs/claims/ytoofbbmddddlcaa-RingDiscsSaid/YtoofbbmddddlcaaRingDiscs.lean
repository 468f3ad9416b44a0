/- The discs around whole points of an arc are in the ring; what is farther from the centre, or nearer, is not: for every centre, radius, arc and point that the law makes of any numbers of 64 bits. No condition. -/
import Derived.Test.YtoofbbmddddlcaaRows
import Derived.Test.YtoofbbmddddlcaaAwake9
import Derived.Test.YtoofbbmddddlcaaArcFacts
import Derived.Test.YtoofbbmddddlcaaRingFacts
import Derived.Test.YtoofbbmddddlcaaRingTally
import Derived.Test.YtoofbbmddddlcaaRefRoot
import Derived.Test.YtoofbbmddddlcaaRingC
import Derived.Test.YtoofbbmddddlcaaLaws7
import Derived.Test.YtoofbbmddddlcaaHeld9
import Derived.ProofKit
import Derived.OpenShut
import Derived.ShutString
import Derived.ChangeOld
import Derived.Below
import Derived.Lib.SmallJoins
import Derived.Lib.QuietBelow
import Derived.BigQuiet
namespace Go.Proofs.Ytoofbbmddddlcaa.ringDiscs
open Go.ChangeShapes Go.WideShapes Go.ChangeAt Go.RowKit Go.Joins
open Go.Sort (grow)

/-- What lies in memory: the centre and the point side by side, both ends behind them, and the whole point of the arc. -/
structure Lay (N g h : Nat) (cx cy p q ax ay ex ey mx my : Int) (w : World) : Prop where
  c : PtIn w N cx cy
  p : PtIn w (N + 1) p q
  a : PtAt w g ax ay
  e : PtAt w (g + 1) ex ey
  m : PtIn w h mx my
  lt : N + 1 < g
  lt2 : g + 1 < h
theorem Lay.later {N g h : Nat} {cx cy p q ax ay ex ey mx my : Int} {w w1 : World} (H : Lay N g h cx cy p q ax ay ex ey mx my w) (k : Below w.heap.size w w1) : Lay N g h cx cy p q ax ay ex ey mx my w1 := ⟨H.c.later k, H.p.later k, H.a.later k, H.e.later k, H.m.later k, H.lt, H.lt2⟩
theorem Lay.pointed {N g h : Nat} {cx cy p q ax ay ex ey mx my : Int} {w : World} (H : Lay N g h cx cy p q ax ay ex ey mx my w) (s t : Int) : Lay N g h cx cy s t ax ay ex ey mx my ((w.setCell ⟨N + 1, 0, none⟩ (.int .i64 s)).setCell ⟨N + 1, 1, none⟩ (.int .i64 t)) := by
  have h1 := H.lt
  have h2 := H.lt2
  exact ⟨H.c.two (by omega) _ _, H.p.stored _ _, H.a.two (by omega) _ _, H.e.two (by omega) _ _, H.m.two (by omega) _ _, h1, h2⟩
theorem Lay.mided {N g h : Nat} {cx cy p q ax ay ex ey mx my : Int} {w : World} (H : Lay N g h cx cy p q ax ay ex ey mx my w) (s t : Int) : Lay N g h cx cy p q ax ay ex ey s t ((w.setCell ⟨h, 0, none⟩ (.int .i64 s)).setCell ⟨h, 1, none⟩ (.int .i64 t)) := by
  have h1 := H.lt
  have h2 := H.lt2
  exact ⟨H.c.two (by omega) _ _, H.p.two (by omega) _ _, H.a.two (by omega) _ _, H.e.two (by omega) _ _, H.m.stored _ _, h1, h2⟩
structure Four (N g : Nat) (cx cy p q ax ay ex ey : Int) (w : World) : Prop where
  c : PtIn w N cx cy
  p : PtIn w (N + 1) p q
  a : PtAt w g ax ay
  e : PtAt w (g + 1) ex ey
  lt : N + 1 < g
theorem Four.later {N g : Nat} {cx cy p q ax ay ex ey : Int} {w w1 : World} (h : Four N g cx cy p q ax ay ex ey w) (k : Below w.heap.size w w1) : Four N g cx cy p q ax ay ex ey w1 := ⟨h.c.later k, h.p.later k, h.a.later k, h.e.later k, h.lt⟩
theorem four_new {N : Nat} {a b p q : Int} {w : World} (h : PP N a b p q w) (cx cy ax ay ex ey : Int) (n : TypeId) : Four N w.heap.size cx cy p q ax ay ex ey ((((w.setCell ⟨N, 0, none⟩ (.int .i64 cx)).setCell ⟨N, 1, none⟩ (.int .i64 cy)).alloc (.cells #[.int .i64 ax, .int .i64 ay] n)).alloc (.cells #[.int .i64 ex, .int .i64 ey] n)) := by
  have hz : ((w.setCell ⟨N, 0, none⟩ (.int .i64 cx)).setCell ⟨N, 1, none⟩ (.int .i64 cy)).heap.size = w.heap.size := by simp
  have g1 := ptAt_new ((w.setCell ⟨N, 0, none⟩ (.int .i64 cx)).setCell ⟨N, 1, none⟩ (.int .i64 cy)) ax ay n
  have g2 := ptAt_new (((w.setCell ⟨N, 0, none⟩ (.int .i64 cx)).setCell ⟨N, 1, none⟩ (.int .i64 cy)).alloc (.cells #[.int .i64 ax, .int .i64 ay] n)) ex ey n
  rw [hz] at g1
  rw [show (((w.setCell ⟨N, 0, none⟩ (.int .i64 cx)).setCell ⟨N, 1, none⟩ (.int .i64 cy)).alloc (.cells #[.int .i64 ax, .int .i64 ay] n)).heap.size = w.heap.size + 1 by simp] at g2
  have hl := h.f1.at_.lt
  exact ⟨((h.f0.stored cx cy).alloc _).alloc _, ((h.f1.two (by omega) _ _).alloc _).alloc _, g1.alloc _, g2, hl⟩
theorem lay_new {N g : Nat} {cx cy p q ax ay ex ey : Int} {w : World} (H : Four N g cx cy p q ax ay ex ey w) (gx gy hx hy : Int) (n : TypeId) : Lay N g (w.heap.size + 1) cx cy p q ax ay ex ey gx gy (((w.alloc (.cells #[.int .i64 0, .int .i64 0] n)).alloc (.cells #[.int .i64 gx, .int .i64 gy] n)).alloc (.cells #[.int .i64 hx, .int .i64 hy] n)) := by
  have k := bel_alloc (bel_alloc (bel_alloc (bel_refl w) (.cells #[.int .i64 0, .int .i64 0] n)) (.cells #[.int .i64 gx, .int .i64 gy] n)) (.cells #[.int .i64 hx, .int .i64 hy] n)
  have g1 := (ptIn_new (w.alloc (.cells #[.int .i64 0, .int .i64 0] n)) gx gy n).alloc (.cells #[.int .i64 hx, .int .i64 hy] n)
  rw [show (w.alloc (.cells #[.int .i64 0, .int .i64 0] n)).heap.size = w.heap.size + 1 by simp] at g1
  have h1 := H.lt
  have h2 := H.e.lt
  exact ⟨H.c.later k, H.p.later k, H.a.later k, H.e.later k, g1, h1, by omega⟩
def Mid (w : World) (g h : Nat) (cx cy s t ax ay ex ey mx my r : Int) (s1 : Value) (wc : World) : Prop := s1 = .int .i64 r ∧ Lay w.heap.size g h cx cy s t ax ay ex ey mx my wc ∧ Below w.heap.size w wc

set_option maxRecDepth 100000 in
set_option maxHeartbeats 32000000 in
theorem core (c0 c1 rr i j q z p0 p1 cx cy ax ay ex ey gx gy hx hy mx my s t r1 r' R G : Int)
    (XA : ∀ w, Calls Try.prog 8 #[ptV c0 c1, .int .i64 i, .int .i64 j, .int .i64 z, .bool true] w fun e w' => e = .returned (.tuple #[ptV cx cy, ptV ax ay, ptV ex ey]) ∧ Below w.heap.size w w')
    (XB : ∀ w, Calls Try.prog 8 #[ptV 0 0, .int .i64 q, .int .i64 q, .int .i64 z, .bool true] w fun e w' => e = .returned (.tuple #[ptV 0 0, ptV gx gy, ptV hx hy]) ∧ Below w.heap.size w w')
    (XP : ∀ w, Calls Try.prog 10 #[ptV p0 p1, .int .i64 60] w fun e w' => e = .returned (ptV s t) ∧ Below w.heap.size w w')
    (XR : ∀ w, Calls Try.prog 11 #[.int .i64 rr] w fun e w' => e = .returned (.int .i64 r1) ∧ w = w')
    (hr : r1.tmod 30 = r') (ra : 0 ≤ r') (rb : r' ≤ 29)
    (hc : -15 ≤ cx ∧ cx ≤ 15 ∧ -15 ≤ cy ∧ cy ≤ 15) (ha : -35 ≤ ax ∧ ax ≤ 35 ∧ -35 ≤ ay ∧ ay ≤ 35) (he : -35 ≤ ex ∧ ex ≤ 35 ∧ -35 ≤ ey ∧ ey ≤ 35) (hg : -20 ≤ gx ∧ gx ≤ 20 ∧ -20 ≤ gy ∧ gy ≤ 20) (hs : -60 ≤ s ∧ s ≤ 60 ∧ -60 ≤ t ∧ t ≤ 60) (hmx : cx + gx = mx) (hmy : cy + gy = my)
    (ho : okR cx cy ax ay ex ey = true) (hG : sqI cx cy ax ay = G) (hGR : R * R = G) (hM : sqI cx cy mx my = G) (hR : 5 ≤ R) (hR2 : R ≤ 20) (hL : Least G R) (w : World) :
    Calls Try.prog 7 #[ptV c0 c1, .int .i64 rr, .int .i64 i, .int .i64 j, .int .i64 q, .int .i64 z, ptV p0 p1] w fun e w' => e = .returned (.bool true) ∧ Below w.heap.size w w' := by
  have HA := Lib.hid XA
  have HB := Lib.hid XB
  have HP := Lib.hid XP
  have HX := Lib.hid XR
  have HR := Lib.hid hr
  have HO := Lib.hid (And.intro ho (And.intro hG (And.intro hGR (And.intro hM hL))))
  have HC := Lib.hid (And.intro hc (And.intro ha (And.intro he (And.intro hs hg))))
  have HM := Lib.hid (And.intro hmx hmy)
  have F0' := pp_new w c0 c1 p0 p1 25
  have B0' := bel_newPP w c0 c1 p0 p1 25
  unfold newPP at F0' B0'
  have F0 := Lib.hid F0'
  have B0 := Lib.hid B0'
  clear hr XA XB XP XR hc ha he hs hg ho hG hGR hM hL hmx hmy F0' B0'
  go_enter Try.func7, Try.ntmps7
  go_upto_region 1 with (fail)
  generalize ((w.alloc (.cells #[.int .i64 c0, .int .i64 c1] 25)).alloc (.cells #[.int .i64 p0, .int .i64 p1] 25)) = V at *
  obtain ⟨⟨⟨i0, i1, il⟩, fi⟩, _⟩ := F0.out
  go_wp2_with fail
  refine (HA.out _).mono ?_; rintro e' w1 ⟨rfl, z1⟩
  have F1 := Lib.hid (F0.out.later z1)
  have B1 := Lib.hid (bel_trans B0.out z1)
  clear F0 B0 z1 i0 i1 il fi HA
  have G1 := Lib.hid (four_new F1.out cx cy ax ay ex ey 25)
  have D1 := Lib.hid (bel_alloc (bel_alloc (bel_two B1.out (Nat.le_refl _) cx cy) (.cells #[.int .i64 ax, .int .i64 ay] 25)) (.cells #[.int .i64 ex, .int .i64 ey] 25))
  obtain ⟨⟨⟨i0, i1, il⟩, fi⟩, _⟩ := F1.out
  go_upto_region 2 with (fail)
  clear i0 i1 il fi F1 B1
  generalize ((((w1.setCell ⟨w.heap.size, 0, none⟩ (.int .i64 cx)).setCell ⟨w.heap.size, 1, none⟩ (.int .i64 cy)).alloc (.cells #[.int .i64 ax, .int .i64 ay] 25)).alloc (.cells #[.int .i64 ex, .int .i64 ey] 25)) = W1 at *
  generalize w1.heap.size = g at *
  go_wp2_with fail
  refine (HB.out _).mono ?_; rintro e' w3 ⟨rfl, z3⟩
  have G2 := Lib.hid (G1.out.later z3)
  have D2 := Lib.hid (bel_trans D1.out z3)
  clear G1 D1 z3 HB
  have G3 := Lib.hid (lay_new G2.out gx gy hx hy 25)
  have D3 := Lib.hid (bel_alloc (bel_alloc (bel_alloc D2.out (.cells #[.int .i64 0, .int .i64 0] 25)) (.cells #[.int .i64 gx, .int .i64 gy] 25)) (.cells #[.int .i64 hx, .int .i64 hy] 25))
  clear G2 D2
  go_upto_region 3 with (fail)
  generalize (((w3.alloc (.cells #[.int .i64 0, .int .i64 0] 25)).alloc (.cells #[.int .i64 gx, .int .i64 gy] 25)).alloc (.cells #[.int .i64 hx, .int .i64 hy] 25)) = W3 at *
  obtain ⟨h0, hh0⟩ : ∃ h, w3.heap.size + 1 = h := ⟨_, rfl⟩
  have G3' := G3.out
  rw [hh0] at G3'
  rw [hh0]
  have G3 := Lib.hid G3'
  clear G3' hh0
  obtain ⟨cA, aA, eA, sA, gA⟩ := HC.out
  obtain ⟨ca, cb, cc, cd⟩ := cA
  obtain ⟨aa, ab, ac, ad⟩ := aA
  obtain ⟨ea, eb, ec, ed⟩ := eA
  obtain ⟨sa, sb, sc, sd⟩ := sA
  obtain ⟨ga, gb, gc, gd⟩ := gA
  have wm1 : IntKind.i64.wrap (cx + gx) = mx := by rw [← HM.out.1]; exact IntWalk.i64_in _ (by omega)
  have wm2 : IntKind.i64.wrap (cy + gy) = my := by rw [← HM.out.2]; exact IntWalk.i64_in _ (by omega)
  have ma : -35 ≤ mx ∧ mx ≤ 35 ∧ -35 ≤ my ∧ my ≤ 35 := by have := HM.out; omega
  clear HM
  obtain ⟨⟨⟨i0, i1, il⟩, fi⟩, ⟨⟨j0, j1, jl⟩, fj⟩, ⟨l0, l1, ll⟩, ⟨n0, n1, nl⟩, ⟨⟨o0, o1, ol⟩, fo⟩, hlt, hlt2⟩ := G3.out
  go_upto_region 4 with (fail)
  clear i0 i1 il fi j0 j1 jl fj l0 l1 ll n0 n1 nl o0 o1 ol fo hlt hlt2 wm1 wm2
  have G4 := Lib.hid (G3.out.mided mx my)
  have hN : w.heap.size ≤ h0 := by have h1 := G3.out.lt; have h2 := G3.out.lt2; omega
  have D4 := Lib.hid (bel_two D3.out hN mx my)
  clear G3 D3
  generalize (W3.setCell ⟨h0, 0, none⟩ (.int .i64 mx)).setCell ⟨h0, 1, none⟩ (.int .i64 my) = W4 at *
  have s1 : IntKind.i64.wrap (r' + 1) = r' + 1 := IntWalk.i64_in _ (by omega)
  have hr := HR.out
  go_cut [1] (fun s1 wc => Mid w g h0 cx cy s t ax ay ex ey mx my (r' + 1) s1 wc)
  case first =>
    obtain ⟨_, ⟨⟨i0, i1, il⟩, fi⟩, _, _, _, _, _⟩ := G4.out
    go_region_with (first
      | (go_at_call 11; ((with_reducible refine (HX.out _).mono ?_); rintro e wA ⟨rfl, rfl⟩))
      | (go_at_call 10; ((with_reducible refine (HP.out _).mono ?_); rintro e wB ⟨rfl, bB⟩; have FB := Lib.hid ((G4.out.later (bel_drew (bel_refl _))).later bB); have BB := Lib.hid (bel_trans (bel_drew D4.out) bB); obtain ⟨_, ⟨⟨k0, k1, kl⟩, fk⟩, _, _, _, _, _⟩ := FB.out)))
    all_goals go_wp2_with fail
    all_goals go_meet
    all_goals exact ⟨rfl, FB.out.pointed s t, bel_two BB.out (by omega) s t⟩
  case rest =>
    obtain ⟨rfl, hF, hB⟩ := hcut
    clear G4 D4 HX HP HR hr s1
    obtain ⟨r, hr⟩ : ∃ r, r' + 1 = r := ⟨_, rfl⟩
    have rc : 1 ≤ r := by omega
    have rd : r ≤ 30 := by omega
    rw [hr]
    clear hr ra rb
    have F := Lib.hid hF
    have B := Lib.hid hB
    clear hF hB
    obtain ⟨ho, hG, hGR, hM, hL⟩ := HO.out
    obtain ⟨d, hd⟩ : ∃ d, sqI cx cy s t = d := ⟨_, rfl⟩
    obtain ⟨h, hh⟩ : ∃ h, ringP s t cx cy ax ay ex ey r = h := ⟨_, rfl⟩
    obtain ⟨y, hy⟩ : ∃ x, secP cx cy ax ay ex ey mx my = x := ⟨_, rfl⟩
    obtain ⟨k, hk⟩ : ∃ x, discB r (sqI mx my s t) = x := ⟨_, rfl⟩
    obtain ⟨U, hU⟩ : ∃ U, (R + r) * (R + r) = U := ⟨_, rfl⟩
    obtain ⟨D, hD⟩ : ∃ D, (R - r) * (R - r) = D := ⟨_, rfl⟩
    have U0 := Int.mul_nonneg (show 0 ≤ R + r by omega) (show 0 ≤ R + r by omega)
    have U1 := Int.mul_le_mul (show R + r ≤ 50 by omega) (show R + r ≤ 50 by omega) (by omega) (by omega)
    rw [hU] at U0 U1
    have E := mul_bd (X := R - r) (Y := R - r) (by omega) (by omega) (by omega) (by omega)
    rw [hD] at E
    have HGb := mul_bd (X := R) (Y := R) (by omega) (by omega) (by omega) (by omega)
    rw [hGR] at HGb
    have hf : sqI ax ay cx cy = R * R := by rw [sqI_comm, hG, hGR]
    have btw := fun e => ring_between_root (px := s) (py := t) ho rc (show 0 ≤ R by omega) hf e
    rw [hh, sqI_comm s t, hd, hU, hD] at btw
    have whole := fun (e1 : ax = ex) (e2 : ay = ey) => (show h = (decide (d ≤ U) && (decide (R ≤ r) || decide (D ≤ d))) by
      have k := ring_whole (px := s) (py := t) (okR_same ho) rc (show 0 ≤ R by omega) hf
      rw [sqI_comm s t, hd, hU, hD] at k
      rw [← k, ← hh, e1, e2])
    have inn := fun (e1 : y = true) (e2 : k = true) => (show h = true by rw [← hh]; exact ring_has_disc ho rc (hM.trans hG.symm) (hy.trans e1) ((show discB r (sqI s t mx my) = k by rw [sqI_comm, hk]).trans e2))
    have KH := Lib.hid (fun w => ringHas_is hh (by omega) (by omega) (by omega) (by omega) (by omega) (by omega) (by omega) (by omega) (by omega) (by omega) (by omega) (by omega) (by omega) (by omega) (by omega) (by omega) (show r ≤ 1073741824 by omega) w)
    have KS := Lib.hid (fun w => ringSector_is hy (by omega) (by omega) (by omega) (by omega) (by omega) (by omega) (by omega) (by omega) (by omega) (by omega) (by omega) (by omega) (by omega) (by omega) (by omega) (by omega) w)
    have KD := Lib.hid (fun w => discHad_is hk (by omega) (by omega) (by omega) (by omega) (by omega) (by omega) (by omega) (by omega) (show r ≤ 1073741824 by omega) w)
    have KR := Lib.hid (fun w => refRoot_is hL (by omega) w)
    have m1 := mul_bd (X := ax - cx) (Y := ax - cx) (by omega) (by omega) (by omega) (by omega)
    have m2 := mul_bd (X := ay - cy) (Y := ay - cy) (by omega) (by omega) (by omega) (by omega)
    have m3 := mul_bd (X := s - cx) (Y := s - cx) (by omega) (by omega) (by omega) (by omega)
    have m4 := mul_bd (X := t - cy) (Y := t - cy) (by omega) (by omega) (by omega) (by omega)
    have v1 : IntKind.i64.wrap ((ax - cx) * (ax - cx) + (ay - cy) * (ay - cy)) = G := by rw [show (ax - cx) * (ax - cx) + (ay - cy) * (ay - cy) = G from hG]; exact IntWalk.i64_in _ (by omega)
    have v2 : IntKind.i64.wrap ((s - cx) * (s - cx) + (t - cy) * (t - cy)) = d := by rw [← hd]; exact IntWalk.i64_in _ (by omega)
    have v3 : IntKind.i64.wrap (R * R) = G := by rw [hGR]; exact IntWalk.i64_in _ (by omega)
    have v4 : IntKind.i64.wrap ((R + r) * (R + r)) = U := by rw [hU]; exact IntWalk.i64_in _ (by omega)
    have v5 : IntKind.i64.wrap ((R - r) * (R - r)) = D := by rw [hD]; exact IntWalk.i64_in _ (by omega)
    have v6 : IntKind.i64.wrap (R + r) = R + r := IntWalk.i64_in _ (by omega)
    have v7 : IntKind.i64.wrap (R - r) = R - r := IntWalk.i64_in _ (by omega)
    have HV := Lib.hid (And.intro v3 (And.intro v4 (And.intro v5 (And.intro v6 v7))))
    have HW := Lib.hid (And.intro btw (And.intro whole inn))
    clear v3 v4 v5 v6 v7 btw whole inn hh hy hk hL ho hG hGR hM hf hU hD E U0 U1 HGb HO HC hd
    obtain ⟨⟨⟨i0, i1, il⟩, fi⟩, ⟨⟨j0, j1, jl⟩, fj⟩, ⟨l0, l1, ll⟩, ⟨n0, n1, nl⟩, ⟨⟨o0, o1, ol⟩, fo⟩, hlt, hlt2⟩ := F.out
    have i0 := cell_regrown i0
    have i1 := cell_regrown i1
    have j0 := cell_regrown j0
    have j1 := cell_regrown j1
    have l0 := cell_regrown l0
    have l1 := cell_regrown l1
    have n0 := cell_regrown n0
    have n1 := cell_regrown n1
    have o0 := cell_regrown o0
    have o1 := cell_regrown o1
    clear il fi jl fj ll nl ol fo hlt hlt2
    go_upto_region 5 with (fail)
    refine wp_region_quiet_below (by kernel_rfl) (by kernel_rfl) ?_
    repeat (go_big_quiet_step (fail))
    refine wpQuiet_nil ?_
    intro _ hw'
    obtain ⟨⟨dr, osr⟩, hw''⟩ := hw'
    subst hw''
    clear i0 i1 j0 j1 l0 l1 n0 n1 o0 o1 m1 m2 m3 m4 v1 v2
    have zz := below_regrown wc dr osr
    have F1 := Lib.hid (F.out.later zz)
    have B1 := Lib.hid (bel_trans B.out zz)
    clear F B zz ca cb cc cd aa ab ac ad ea eb ec ed sa sb sc sd ga gb gc gd ma
    generalize grow (redrawn wc dr) osr = V1 at *
    go_wp2_with fail
    refine (KR.out _).mono ?_; rintro e' w5 ⟨rfl, rfl⟩
    clear KR
    obtain ⟨v3, v4, v5, v6, v7⟩ := HV.out
    obtain ⟨⟨⟨i0, i1, il⟩, fi⟩, ⟨⟨j0, j1, jl⟩, fj⟩, ⟨l0, l1, ll⟩, ⟨n0, n1, nl⟩, ⟨⟨o0, o1, ol⟩, fo⟩, hlt, hlt2⟩ := F1.out
    go_wp2_with fail
    refine (KH.out _).mono ?_; rintro e' w6 ⟨rfl, z6⟩
    have F2 := Lib.hid (F1.out.later z6)
    have B2 := Lib.hid (bel_trans B1.out z6)
    clear F1 B1 z6 i0 i1 il fi j0 j1 jl fj l0 l1 ll n0 n1 nl o0 o1 ol fo hlt hlt2 KH
    obtain ⟨btw, whole, inn⟩ := HW.out
    clear HW

    cases h with
    | true =>
      have b1 : decide (U < d) = false := decide_eq_false (by have := (btw rfl).1; omega)
      by_cases hRr : r < R
      · have b2 : decide (r < R) = true := decide_eq_true hRr
        have b3 : decide (d < D) = false := decide_eq_false (by have := (btw rfl).2; omega)
        cases y with
        | false =>
          rcases same_ways ax ex ay ey with e1 | ⟨e1, e2⟩ | ⟨e1, e2⟩
          · have g1 : (ax == ex) = false := beq_eq_false_iff_ne.2 e1
            clear e1
            clear btw whole inn
            as_aux_lemma =>
              obtain ⟨⟨⟨i0, i1, il⟩, fi⟩, ⟨⟨j0, j1, jl⟩, fj⟩, ⟨l0, l1, ll⟩, ⟨n0, n1, nl⟩, ⟨⟨o0, o1, ol⟩, fo⟩, hlt, hlt2⟩ := F2.out
              go_wp2_with fail
              refine (KS.out _).mono ?_; rintro e' w7 ⟨rfl, z7⟩
              have F3 := Lib.hid (F2.out.later z7)
              have B3 := Lib.hid (bel_trans B2.out z7)
              clear F2 B2 z7 i0 i1 il fi j0 j1 jl fj l0 l1 ll n0 n1 nl o0 o1 ol fo hlt hlt2
              obtain ⟨⟨⟨i0, i1, il⟩, fi⟩, ⟨⟨j0, j1, jl⟩, fj⟩, ⟨l0, l1, ll⟩, ⟨n0, n1, nl⟩, ⟨⟨o0, o1, ol⟩, fo⟩, hlt, hlt2⟩ := F3.out
              go_wp2_with fail
              refine (awake_any _).mono ?_; rintro e' w9 ⟨rfl, z9⟩
              go_wp2
              go_ret
              exact ⟨rfl, bel_trans B3.out z9⟩
          · have g1 : (ax == ex) = true := beq_iff_eq.2 e1
            have g2 : (ay == ey) = false := beq_eq_false_iff_ne.2 e2
            clear e1 e2
            clear btw whole inn
            as_aux_lemma =>
              obtain ⟨⟨⟨i0, i1, il⟩, fi⟩, ⟨⟨j0, j1, jl⟩, fj⟩, ⟨l0, l1, ll⟩, ⟨n0, n1, nl⟩, ⟨⟨o0, o1, ol⟩, fo⟩, hlt, hlt2⟩ := F2.out
              go_wp2_with fail
              refine (KS.out _).mono ?_; rintro e' w7 ⟨rfl, z7⟩
              have F3 := Lib.hid (F2.out.later z7)
              have B3 := Lib.hid (bel_trans B2.out z7)
              clear F2 B2 z7 i0 i1 il fi j0 j1 jl fj l0 l1 ll n0 n1 nl o0 o1 ol fo hlt hlt2
              obtain ⟨⟨⟨i0, i1, il⟩, fi⟩, ⟨⟨j0, j1, jl⟩, fj⟩, ⟨l0, l1, ll⟩, ⟨n0, n1, nl⟩, ⟨⟨o0, o1, ol⟩, fo⟩, hlt, hlt2⟩ := F3.out
              go_wp2_with fail
              refine (awake_any _).mono ?_; rintro e' w9 ⟨rfl, z9⟩
              go_wp2
              go_ret
              exact ⟨rfl, bel_trans B3.out z9⟩
          · have g1 : (ax == ex) = true := beq_iff_eq.2 e1
            have g2 : (ay == ey) = true := beq_iff_eq.2 e2
            have wh := whole e1 e2
            clear e1 e2
            have c1 : decide (d ≤ U) = true := decide_eq_true (btw rfl).1
            have c2 : decide (R ≤ r) = false := decide_eq_false (by omega)
            have c3 : decide (D ≤ d) = true := by rw [c1, c2] at wh; exact wh.symm
            clear wh
            clear btw whole inn
            as_aux_lemma =>
              obtain ⟨⟨⟨i0, i1, il⟩, fi⟩, ⟨⟨j0, j1, jl⟩, fj⟩, ⟨l0, l1, ll⟩, ⟨n0, n1, nl⟩, ⟨⟨o0, o1, ol⟩, fo⟩, hlt, hlt2⟩ := F2.out
              go_wp2_with fail
              refine (KS.out _).mono ?_; rintro e' w7 ⟨rfl, z7⟩
              have F3 := Lib.hid (F2.out.later z7)
              have B3 := Lib.hid (bel_trans B2.out z7)
              clear F2 B2 z7 i0 i1 il fi j0 j1 jl fj l0 l1 ll n0 n1 nl o0 o1 ol fo hlt hlt2
              obtain ⟨⟨⟨i0, i1, il⟩, fi⟩, ⟨⟨j0, j1, jl⟩, fj⟩, ⟨l0, l1, ll⟩, ⟨n0, n1, nl⟩, ⟨⟨o0, o1, ol⟩, fo⟩, hlt, hlt2⟩ := F3.out
              go_wp2_with fail
              refine (awake_any _).mono ?_; rintro e' w9 ⟨rfl, z9⟩
              go_wp2
              go_ret
              exact ⟨rfl, bel_trans B3.out z9⟩
        | true =>
          cases k with
          | false =>
            rcases same_ways ax ex ay ey with e1 | ⟨e1, e2⟩ | ⟨e1, e2⟩
            · have g1 : (ax == ex) = false := beq_eq_false_iff_ne.2 e1
              clear e1
              clear btw whole inn
              as_aux_lemma =>
                obtain ⟨⟨⟨i0, i1, il⟩, fi⟩, ⟨⟨j0, j1, jl⟩, fj⟩, ⟨l0, l1, ll⟩, ⟨n0, n1, nl⟩, ⟨⟨o0, o1, ol⟩, fo⟩, hlt, hlt2⟩ := F2.out
                go_wp2_with fail
                refine (KS.out _).mono ?_; rintro e' w7 ⟨rfl, z7⟩
                have F3 := Lib.hid (F2.out.later z7)
                have B3 := Lib.hid (bel_trans B2.out z7)
                clear F2 B2 z7 i0 i1 il fi j0 j1 jl fj l0 l1 ll n0 n1 nl o0 o1 ol fo hlt hlt2
                obtain ⟨⟨⟨i0, i1, il⟩, fi⟩, ⟨⟨j0, j1, jl⟩, fj⟩, ⟨l0, l1, ll⟩, ⟨n0, n1, nl⟩, ⟨⟨o0, o1, ol⟩, fo⟩, hlt, hlt2⟩ := F3.out
                go_wp2_with fail
                refine (KD.out _).mono ?_; rintro e' w8 ⟨rfl, z8⟩
                have F4 := Lib.hid (F3.out.later z8)
                have B4 := Lib.hid (bel_trans B3.out z8)
                clear F3 B3 z8 i0 i1 il fi j0 j1 jl fj l0 l1 ll n0 n1 nl o0 o1 ol fo hlt hlt2
                obtain ⟨⟨⟨i0, i1, il⟩, fi⟩, ⟨⟨j0, j1, jl⟩, fj⟩, ⟨l0, l1, ll⟩, ⟨n0, n1, nl⟩, ⟨⟨o0, o1, ol⟩, fo⟩, hlt, hlt2⟩ := F4.out
                go_wp2_with fail
                refine (awake_any _).mono ?_; rintro e' w9 ⟨rfl, z9⟩
                go_wp2
                go_ret
                exact ⟨rfl, bel_trans B4.out z9⟩
            · have g1 : (ax == ex) = true := beq_iff_eq.2 e1
              have g2 : (ay == ey) = false := beq_eq_false_iff_ne.2 e2
              clear e1 e2
              clear btw whole inn
              as_aux_lemma =>
                obtain ⟨⟨⟨i0, i1, il⟩, fi⟩, ⟨⟨j0, j1, jl⟩, fj⟩, ⟨l0, l1, ll⟩, ⟨n0, n1, nl⟩, ⟨⟨o0, o1, ol⟩, fo⟩, hlt, hlt2⟩ := F2.out
                go_wp2_with fail
                refine (KS.out _).mono ?_; rintro e' w7 ⟨rfl, z7⟩
                have F3 := Lib.hid (F2.out.later z7)
                have B3 := Lib.hid (bel_trans B2.out z7)
                clear F2 B2 z7 i0 i1 il fi j0 j1 jl fj l0 l1 ll n0 n1 nl o0 o1 ol fo hlt hlt2
                obtain ⟨⟨⟨i0, i1, il⟩, fi⟩, ⟨⟨j0, j1, jl⟩, fj⟩, ⟨l0, l1, ll⟩, ⟨n0, n1, nl⟩, ⟨⟨o0, o1, ol⟩, fo⟩, hlt, hlt2⟩ := F3.out
                go_wp2_with fail
                refine (KD.out _).mono ?_; rintro e' w8 ⟨rfl, z8⟩
                have F4 := Lib.hid (F3.out.later z8)
                have B4 := Lib.hid (bel_trans B3.out z8)
                clear F3 B3 z8 i0 i1 il fi j0 j1 jl fj l0 l1 ll n0 n1 nl o0 o1 ol fo hlt hlt2
                obtain ⟨⟨⟨i0, i1, il⟩, fi⟩, ⟨⟨j0, j1, jl⟩, fj⟩, ⟨l0, l1, ll⟩, ⟨n0, n1, nl⟩, ⟨⟨o0, o1, ol⟩, fo⟩, hlt, hlt2⟩ := F4.out
                go_wp2_with fail
                refine (awake_any _).mono ?_; rintro e' w9 ⟨rfl, z9⟩
                go_wp2
                go_ret
                exact ⟨rfl, bel_trans B4.out z9⟩
            · have g1 : (ax == ex) = true := beq_iff_eq.2 e1
              have g2 : (ay == ey) = true := beq_iff_eq.2 e2
              have wh := whole e1 e2
              clear e1 e2
              have c1 : decide (d ≤ U) = true := decide_eq_true (btw rfl).1
              have c2 : decide (R ≤ r) = false := decide_eq_false (by omega)
              have c3 : decide (D ≤ d) = true := by rw [c1, c2] at wh; exact wh.symm
              clear wh
              clear btw whole inn
              as_aux_lemma =>
                obtain ⟨⟨⟨i0, i1, il⟩, fi⟩, ⟨⟨j0, j1, jl⟩, fj⟩, ⟨l0, l1, ll⟩, ⟨n0, n1, nl⟩, ⟨⟨o0, o1, ol⟩, fo⟩, hlt, hlt2⟩ := F2.out
                go_wp2_with fail
                refine (KS.out _).mono ?_; rintro e' w7 ⟨rfl, z7⟩
                have F3 := Lib.hid (F2.out.later z7)
                have B3 := Lib.hid (bel_trans B2.out z7)
                clear F2 B2 z7 i0 i1 il fi j0 j1 jl fj l0 l1 ll n0 n1 nl o0 o1 ol fo hlt hlt2
                obtain ⟨⟨⟨i0, i1, il⟩, fi⟩, ⟨⟨j0, j1, jl⟩, fj⟩, ⟨l0, l1, ll⟩, ⟨n0, n1, nl⟩, ⟨⟨o0, o1, ol⟩, fo⟩, hlt, hlt2⟩ := F3.out
                go_wp2_with fail
                refine (KD.out _).mono ?_; rintro e' w8 ⟨rfl, z8⟩
                have F4 := Lib.hid (F3.out.later z8)
                have B4 := Lib.hid (bel_trans B3.out z8)
                clear F3 B3 z8 i0 i1 il fi j0 j1 jl fj l0 l1 ll n0 n1 nl o0 o1 ol fo hlt hlt2
                obtain ⟨⟨⟨i0, i1, il⟩, fi⟩, ⟨⟨j0, j1, jl⟩, fj⟩, ⟨l0, l1, ll⟩, ⟨n0, n1, nl⟩, ⟨⟨o0, o1, ol⟩, fo⟩, hlt, hlt2⟩ := F4.out
                go_wp2_with fail
                refine (awake_any _).mono ?_; rintro e' w9 ⟨rfl, z9⟩
                go_wp2
                go_ret
                exact ⟨rfl, bel_trans B4.out z9⟩
          | true =>
            rcases same_ways ax ex ay ey with e1 | ⟨e1, e2⟩ | ⟨e1, e2⟩
            · have g1 : (ax == ex) = false := beq_eq_false_iff_ne.2 e1
              clear e1
              clear btw whole inn
              as_aux_lemma =>
                obtain ⟨⟨⟨i0, i1, il⟩, fi⟩, ⟨⟨j0, j1, jl⟩, fj⟩, ⟨l0, l1, ll⟩, ⟨n0, n1, nl⟩, ⟨⟨o0, o1, ol⟩, fo⟩, hlt, hlt2⟩ := F2.out
                go_wp2_with fail
                refine (KS.out _).mono ?_; rintro e' w7 ⟨rfl, z7⟩
                have F3 := Lib.hid (F2.out.later z7)
                have B3 := Lib.hid (bel_trans B2.out z7)
                clear F2 B2 z7 i0 i1 il fi j0 j1 jl fj l0 l1 ll n0 n1 nl o0 o1 ol fo hlt hlt2
                obtain ⟨⟨⟨i0, i1, il⟩, fi⟩, ⟨⟨j0, j1, jl⟩, fj⟩, ⟨l0, l1, ll⟩, ⟨n0, n1, nl⟩, ⟨⟨o0, o1, ol⟩, fo⟩, hlt, hlt2⟩ := F3.out
                go_wp2_with fail
                refine (KD.out _).mono ?_; rintro e' w8 ⟨rfl, z8⟩
                have F4 := Lib.hid (F3.out.later z8)
                have B4 := Lib.hid (bel_trans B3.out z8)
                clear F3 B3 z8 i0 i1 il fi j0 j1 jl fj l0 l1 ll n0 n1 nl o0 o1 ol fo hlt hlt2
                obtain ⟨⟨⟨i0, i1, il⟩, fi⟩, ⟨⟨j0, j1, jl⟩, fj⟩, ⟨l0, l1, ll⟩, ⟨n0, n1, nl⟩, ⟨⟨o0, o1, ol⟩, fo⟩, hlt, hlt2⟩ := F4.out
                go_wp2_with fail
                refine (awake_any _).mono ?_; rintro e' w9 ⟨rfl, z9⟩
                go_wp2
                go_ret
                exact ⟨rfl, bel_trans B4.out z9⟩
            · have g1 : (ax == ex) = true := beq_iff_eq.2 e1
              have g2 : (ay == ey) = false := beq_eq_false_iff_ne.2 e2
              clear e1 e2
              clear btw whole inn
              as_aux_lemma =>
                obtain ⟨⟨⟨i0, i1, il⟩, fi⟩, ⟨⟨j0, j1, jl⟩, fj⟩, ⟨l0, l1, ll⟩, ⟨n0, n1, nl⟩, ⟨⟨o0, o1, ol⟩, fo⟩, hlt, hlt2⟩ := F2.out
                go_wp2_with fail
                refine (KS.out _).mono ?_; rintro e' w7 ⟨rfl, z7⟩
                have F3 := Lib.hid (F2.out.later z7)
                have B3 := Lib.hid (bel_trans B2.out z7)
                clear F2 B2 z7 i0 i1 il fi j0 j1 jl fj l0 l1 ll n0 n1 nl o0 o1 ol fo hlt hlt2
                obtain ⟨⟨⟨i0, i1, il⟩, fi⟩, ⟨⟨j0, j1, jl⟩, fj⟩, ⟨l0, l1, ll⟩, ⟨n0, n1, nl⟩, ⟨⟨o0, o1, ol⟩, fo⟩, hlt, hlt2⟩ := F3.out
                go_wp2_with fail
                refine (KD.out _).mono ?_; rintro e' w8 ⟨rfl, z8⟩
                have F4 := Lib.hid (F3.out.later z8)
                have B4 := Lib.hid (bel_trans B3.out z8)
                clear F3 B3 z8 i0 i1 il fi j0 j1 jl fj l0 l1 ll n0 n1 nl o0 o1 ol fo hlt hlt2
                obtain ⟨⟨⟨i0, i1, il⟩, fi⟩, ⟨⟨j0, j1, jl⟩, fj⟩, ⟨l0, l1, ll⟩, ⟨n0, n1, nl⟩, ⟨⟨o0, o1, ol⟩, fo⟩, hlt, hlt2⟩ := F4.out
                go_wp2_with fail
                refine (awake_any _).mono ?_; rintro e' w9 ⟨rfl, z9⟩
                go_wp2
                go_ret
                exact ⟨rfl, bel_trans B4.out z9⟩
            · have g1 : (ax == ex) = true := beq_iff_eq.2 e1
              have g2 : (ay == ey) = true := beq_iff_eq.2 e2
              have wh := whole e1 e2
              clear e1 e2
              have c1 : decide (d ≤ U) = true := decide_eq_true (btw rfl).1
              have c2 : decide (R ≤ r) = false := decide_eq_false (by omega)
              have c3 : decide (D ≤ d) = true := by rw [c1, c2] at wh; exact wh.symm
              clear wh
              clear btw whole inn
              as_aux_lemma =>
                obtain ⟨⟨⟨i0, i1, il⟩, fi⟩, ⟨⟨j0, j1, jl⟩, fj⟩, ⟨l0, l1, ll⟩, ⟨n0, n1, nl⟩, ⟨⟨o0, o1, ol⟩, fo⟩, hlt, hlt2⟩ := F2.out
                go_wp2_with fail
                refine (KS.out _).mono ?_; rintro e' w7 ⟨rfl, z7⟩
                have F3 := Lib.hid (F2.out.later z7)
                have B3 := Lib.hid (bel_trans B2.out z7)
                clear F2 B2 z7 i0 i1 il fi j0 j1 jl fj l0 l1 ll n0 n1 nl o0 o1 ol fo hlt hlt2
                obtain ⟨⟨⟨i0, i1, il⟩, fi⟩, ⟨⟨j0, j1, jl⟩, fj⟩, ⟨l0, l1, ll⟩, ⟨n0, n1, nl⟩, ⟨⟨o0, o1, ol⟩, fo⟩, hlt, hlt2⟩ := F3.out
                go_wp2_with fail
                refine (KD.out _).mono ?_; rintro e' w8 ⟨rfl, z8⟩
                have F4 := Lib.hid (F3.out.later z8)
                have B4 := Lib.hid (bel_trans B3.out z8)
                clear F3 B3 z8 i0 i1 il fi j0 j1 jl fj l0 l1 ll n0 n1 nl o0 o1 ol fo hlt hlt2
                obtain ⟨⟨⟨i0, i1, il⟩, fi⟩, ⟨⟨j0, j1, jl⟩, fj⟩, ⟨l0, l1, ll⟩, ⟨n0, n1, nl⟩, ⟨⟨o0, o1, ol⟩, fo⟩, hlt, hlt2⟩ := F4.out
                go_wp2_with fail
                refine (awake_any _).mono ?_; rintro e' w9 ⟨rfl, z9⟩
                go_wp2
                go_ret
                exact ⟨rfl, bel_trans B4.out z9⟩
      · have b2 : decide (r < R) = false := decide_eq_false hRr
        cases y with
        | false =>
          rcases same_ways ax ex ay ey with e1 | ⟨e1, e2⟩ | ⟨e1, e2⟩
          · have g1 : (ax == ex) = false := beq_eq_false_iff_ne.2 e1
            clear e1
            clear btw whole inn
            as_aux_lemma =>
              obtain ⟨⟨⟨i0, i1, il⟩, fi⟩, ⟨⟨j0, j1, jl⟩, fj⟩, ⟨l0, l1, ll⟩, ⟨n0, n1, nl⟩, ⟨⟨o0, o1, ol⟩, fo⟩, hlt, hlt2⟩ := F2.out
              go_wp2_with fail
              refine (KS.out _).mono ?_; rintro e' w7 ⟨rfl, z7⟩
              have F3 := Lib.hid (F2.out.later z7)
              have B3 := Lib.hid (bel_trans B2.out z7)
              clear F2 B2 z7 i0 i1 il fi j0 j1 jl fj l0 l1 ll n0 n1 nl o0 o1 ol fo hlt hlt2
              obtain ⟨⟨⟨i0, i1, il⟩, fi⟩, ⟨⟨j0, j1, jl⟩, fj⟩, ⟨l0, l1, ll⟩, ⟨n0, n1, nl⟩, ⟨⟨o0, o1, ol⟩, fo⟩, hlt, hlt2⟩ := F3.out
              go_wp2_with fail
              refine (awake_any _).mono ?_; rintro e' w9 ⟨rfl, z9⟩
              go_wp2
              go_ret
              exact ⟨rfl, bel_trans B3.out z9⟩
          · have g1 : (ax == ex) = true := beq_iff_eq.2 e1
            have g2 : (ay == ey) = false := beq_eq_false_iff_ne.2 e2
            clear e1 e2
            clear btw whole inn
            as_aux_lemma =>
              obtain ⟨⟨⟨i0, i1, il⟩, fi⟩, ⟨⟨j0, j1, jl⟩, fj⟩, ⟨l0, l1, ll⟩, ⟨n0, n1, nl⟩, ⟨⟨o0, o1, ol⟩, fo⟩, hlt, hlt2⟩ := F2.out
              go_wp2_with fail
              refine (KS.out _).mono ?_; rintro e' w7 ⟨rfl, z7⟩
              have F3 := Lib.hid (F2.out.later z7)
              have B3 := Lib.hid (bel_trans B2.out z7)
              clear F2 B2 z7 i0 i1 il fi j0 j1 jl fj l0 l1 ll n0 n1 nl o0 o1 ol fo hlt hlt2
              obtain ⟨⟨⟨i0, i1, il⟩, fi⟩, ⟨⟨j0, j1, jl⟩, fj⟩, ⟨l0, l1, ll⟩, ⟨n0, n1, nl⟩, ⟨⟨o0, o1, ol⟩, fo⟩, hlt, hlt2⟩ := F3.out
              go_wp2_with fail
              refine (awake_any _).mono ?_; rintro e' w9 ⟨rfl, z9⟩
              go_wp2
              go_ret
              exact ⟨rfl, bel_trans B3.out z9⟩
          · have g1 : (ax == ex) = true := beq_iff_eq.2 e1
            have g2 : (ay == ey) = true := beq_iff_eq.2 e2
            have wh := whole e1 e2
            clear e1 e2
            have c1 : decide (d ≤ U) = true := decide_eq_true (btw rfl).1
            have c2 : decide (R ≤ r) = true := decide_eq_true (by omega)
            clear wh
            clear btw whole inn
            as_aux_lemma =>
              obtain ⟨⟨⟨i0, i1, il⟩, fi⟩, ⟨⟨j0, j1, jl⟩, fj⟩, ⟨l0, l1, ll⟩, ⟨n0, n1, nl⟩, ⟨⟨o0, o1, ol⟩, fo⟩, hlt, hlt2⟩ := F2.out
              go_wp2_with fail
              refine (KS.out _).mono ?_; rintro e' w7 ⟨rfl, z7⟩
              have F3 := Lib.hid (F2.out.later z7)
              have B3 := Lib.hid (bel_trans B2.out z7)
              clear F2 B2 z7 i0 i1 il fi j0 j1 jl fj l0 l1 ll n0 n1 nl o0 o1 ol fo hlt hlt2
              obtain ⟨⟨⟨i0, i1, il⟩, fi⟩, ⟨⟨j0, j1, jl⟩, fj⟩, ⟨l0, l1, ll⟩, ⟨n0, n1, nl⟩, ⟨⟨o0, o1, ol⟩, fo⟩, hlt, hlt2⟩ := F3.out
              go_wp2_with fail
              refine (awake_any _).mono ?_; rintro e' w9 ⟨rfl, z9⟩
              go_wp2
              go_ret
              exact ⟨rfl, bel_trans B3.out z9⟩
        | true =>
          cases k with
          | false =>
            rcases same_ways ax ex ay ey with e1 | ⟨e1, e2⟩ | ⟨e1, e2⟩
            · have g1 : (ax == ex) = false := beq_eq_false_iff_ne.2 e1
              clear e1
              clear btw whole inn
              as_aux_lemma =>
                obtain ⟨⟨⟨i0, i1, il⟩, fi⟩, ⟨⟨j0, j1, jl⟩, fj⟩, ⟨l0, l1, ll⟩, ⟨n0, n1, nl⟩, ⟨⟨o0, o1, ol⟩, fo⟩, hlt, hlt2⟩ := F2.out
                go_wp2_with fail
                refine (KS.out _).mono ?_; rintro e' w7 ⟨rfl, z7⟩
                have F3 := Lib.hid (F2.out.later z7)
                have B3 := Lib.hid (bel_trans B2.out z7)
                clear F2 B2 z7 i0 i1 il fi j0 j1 jl fj l0 l1 ll n0 n1 nl o0 o1 ol fo hlt hlt2
                obtain ⟨⟨⟨i0, i1, il⟩, fi⟩, ⟨⟨j0, j1, jl⟩, fj⟩, ⟨l0, l1, ll⟩, ⟨n0, n1, nl⟩, ⟨⟨o0, o1, ol⟩, fo⟩, hlt, hlt2⟩ := F3.out
                go_wp2_with fail
                refine (KD.out _).mono ?_; rintro e' w8 ⟨rfl, z8⟩
                have F4 := Lib.hid (F3.out.later z8)
                have B4 := Lib.hid (bel_trans B3.out z8)
                clear F3 B3 z8 i0 i1 il fi j0 j1 jl fj l0 l1 ll n0 n1 nl o0 o1 ol fo hlt hlt2
                obtain ⟨⟨⟨i0, i1, il⟩, fi⟩, ⟨⟨j0, j1, jl⟩, fj⟩, ⟨l0, l1, ll⟩, ⟨n0, n1, nl⟩, ⟨⟨o0, o1, ol⟩, fo⟩, hlt, hlt2⟩ := F4.out
                go_wp2_with fail
                refine (awake_any _).mono ?_; rintro e' w9 ⟨rfl, z9⟩
                go_wp2
                go_ret
                exact ⟨rfl, bel_trans B4.out z9⟩
            · have g1 : (ax == ex) = true := beq_iff_eq.2 e1
              have g2 : (ay == ey) = false := beq_eq_false_iff_ne.2 e2
              clear e1 e2
              clear btw whole inn
              as_aux_lemma =>
                obtain ⟨⟨⟨i0, i1, il⟩, fi⟩, ⟨⟨j0, j1, jl⟩, fj⟩, ⟨l0, l1, ll⟩, ⟨n0, n1, nl⟩, ⟨⟨o0, o1, ol⟩, fo⟩, hlt, hlt2⟩ := F2.out
                go_wp2_with fail
                refine (KS.out _).mono ?_; rintro e' w7 ⟨rfl, z7⟩
                have F3 := Lib.hid (F2.out.later z7)
                have B3 := Lib.hid (bel_trans B2.out z7)
                clear F2 B2 z7 i0 i1 il fi j0 j1 jl fj l0 l1 ll n0 n1 nl o0 o1 ol fo hlt hlt2
                obtain ⟨⟨⟨i0, i1, il⟩, fi⟩, ⟨⟨j0, j1, jl⟩, fj⟩, ⟨l0, l1, ll⟩, ⟨n0, n1, nl⟩, ⟨⟨o0, o1, ol⟩, fo⟩, hlt, hlt2⟩ := F3.out
                go_wp2_with fail
                refine (KD.out _).mono ?_; rintro e' w8 ⟨rfl, z8⟩
                have F4 := Lib.hid (F3.out.later z8)
                have B4 := Lib.hid (bel_trans B3.out z8)
                clear F3 B3 z8 i0 i1 il fi j0 j1 jl fj l0 l1 ll n0 n1 nl o0 o1 ol fo hlt hlt2
                obtain ⟨⟨⟨i0, i1, il⟩, fi⟩, ⟨⟨j0, j1, jl⟩, fj⟩, ⟨l0, l1, ll⟩, ⟨n0, n1, nl⟩, ⟨⟨o0, o1, ol⟩, fo⟩, hlt, hlt2⟩ := F4.out
                go_wp2_with fail
                refine (awake_any _).mono ?_; rintro e' w9 ⟨rfl, z9⟩
                go_wp2
                go_ret
                exact ⟨rfl, bel_trans B4.out z9⟩
            · have g1 : (ax == ex) = true := beq_iff_eq.2 e1
              have g2 : (ay == ey) = true := beq_iff_eq.2 e2
              have wh := whole e1 e2
              clear e1 e2
              have c1 : decide (d ≤ U) = true := decide_eq_true (btw rfl).1
              have c2 : decide (R ≤ r) = true := decide_eq_true (by omega)
              clear wh
              clear btw whole inn
              as_aux_lemma =>
                obtain ⟨⟨⟨i0, i1, il⟩, fi⟩, ⟨⟨j0, j1, jl⟩, fj⟩, ⟨l0, l1, ll⟩, ⟨n0, n1, nl⟩, ⟨⟨o0, o1, ol⟩, fo⟩, hlt, hlt2⟩ := F2.out
                go_wp2_with fail
                refine (KS.out _).mono ?_; rintro e' w7 ⟨rfl, z7⟩
                have F3 := Lib.hid (F2.out.later z7)
                have B3 := Lib.hid (bel_trans B2.out z7)
                clear F2 B2 z7 i0 i1 il fi j0 j1 jl fj l0 l1 ll n0 n1 nl o0 o1 ol fo hlt hlt2
                obtain ⟨⟨⟨i0, i1, il⟩, fi⟩, ⟨⟨j0, j1, jl⟩, fj⟩, ⟨l0, l1, ll⟩, ⟨n0, n1, nl⟩, ⟨⟨o0, o1, ol⟩, fo⟩, hlt, hlt2⟩ := F3.out
                go_wp2_with fail
                refine (KD.out _).mono ?_; rintro e' w8 ⟨rfl, z8⟩
                have F4 := Lib.hid (F3.out.later z8)
                have B4 := Lib.hid (bel_trans B3.out z8)
                clear F3 B3 z8 i0 i1 il fi j0 j1 jl fj l0 l1 ll n0 n1 nl o0 o1 ol fo hlt hlt2
                obtain ⟨⟨⟨i0, i1, il⟩, fi⟩, ⟨⟨j0, j1, jl⟩, fj⟩, ⟨l0, l1, ll⟩, ⟨n0, n1, nl⟩, ⟨⟨o0, o1, ol⟩, fo⟩, hlt, hlt2⟩ := F4.out
                go_wp2_with fail
                refine (awake_any _).mono ?_; rintro e' w9 ⟨rfl, z9⟩
                go_wp2
                go_ret
                exact ⟨rfl, bel_trans B4.out z9⟩
          | true =>
            rcases same_ways ax ex ay ey with e1 | ⟨e1, e2⟩ | ⟨e1, e2⟩
            · have g1 : (ax == ex) = false := beq_eq_false_iff_ne.2 e1
              clear e1
              clear btw whole inn
              as_aux_lemma =>
                obtain ⟨⟨⟨i0, i1, il⟩, fi⟩, ⟨⟨j0, j1, jl⟩, fj⟩, ⟨l0, l1, ll⟩, ⟨n0, n1, nl⟩, ⟨⟨o0, o1, ol⟩, fo⟩, hlt, hlt2⟩ := F2.out
                go_wp2_with fail
                refine (KS.out _).mono ?_; rintro e' w7 ⟨rfl, z7⟩
                have F3 := Lib.hid (F2.out.later z7)
                have B3 := Lib.hid (bel_trans B2.out z7)
                clear F2 B2 z7 i0 i1 il fi j0 j1 jl fj l0 l1 ll n0 n1 nl o0 o1 ol fo hlt hlt2
                obtain ⟨⟨⟨i0, i1, il⟩, fi⟩, ⟨⟨j0, j1, jl⟩, fj⟩, ⟨l0, l1, ll⟩, ⟨n0, n1, nl⟩, ⟨⟨o0, o1, ol⟩, fo⟩, hlt, hlt2⟩ := F3.out
                go_wp2_with fail
                refine (KD.out _).mono ?_; rintro e' w8 ⟨rfl, z8⟩
                have F4 := Lib.hid (F3.out.later z8)
                have B4 := Lib.hid (bel_trans B3.out z8)
                clear F3 B3 z8 i0 i1 il fi j0 j1 jl fj l0 l1 ll n0 n1 nl o0 o1 ol fo hlt hlt2
                obtain ⟨⟨⟨i0, i1, il⟩, fi⟩, ⟨⟨j0, j1, jl⟩, fj⟩, ⟨l0, l1, ll⟩, ⟨n0, n1, nl⟩, ⟨⟨o0, o1, ol⟩, fo⟩, hlt, hlt2⟩ := F4.out
                go_wp2_with fail
                refine (awake_any _).mono ?_; rintro e' w9 ⟨rfl, z9⟩
                go_wp2
                go_ret
                exact ⟨rfl, bel_trans B4.out z9⟩
            · have g1 : (ax == ex) = true := beq_iff_eq.2 e1
              have g2 : (ay == ey) = false := beq_eq_false_iff_ne.2 e2
              clear e1 e2
              clear btw whole inn
              as_aux_lemma =>
                obtain ⟨⟨⟨i0, i1, il⟩, fi⟩, ⟨⟨j0, j1, jl⟩, fj⟩, ⟨l0, l1, ll⟩, ⟨n0, n1, nl⟩, ⟨⟨o0, o1, ol⟩, fo⟩, hlt, hlt2⟩ := F2.out
                go_wp2_with fail
                refine (KS.out _).mono ?_; rintro e' w7 ⟨rfl, z7⟩
                have F3 := Lib.hid (F2.out.later z7)
                have B3 := Lib.hid (bel_trans B2.out z7)
                clear F2 B2 z7 i0 i1 il fi j0 j1 jl fj l0 l1 ll n0 n1 nl o0 o1 ol fo hlt hlt2
                obtain ⟨⟨⟨i0, i1, il⟩, fi⟩, ⟨⟨j0, j1, jl⟩, fj⟩, ⟨l0, l1, ll⟩, ⟨n0, n1, nl⟩, ⟨⟨o0, o1, ol⟩, fo⟩, hlt, hlt2⟩ := F3.out
                go_wp2_with fail
                refine (KD.out _).mono ?_; rintro e' w8 ⟨rfl, z8⟩
                have F4 := Lib.hid (F3.out.later z8)
                have B4 := Lib.hid (bel_trans B3.out z8)
                clear F3 B3 z8 i0 i1 il fi j0 j1 jl fj l0 l1 ll n0 n1 nl o0 o1 ol fo hlt hlt2
                obtain ⟨⟨⟨i0, i1, il⟩, fi⟩, ⟨⟨j0, j1, jl⟩, fj⟩, ⟨l0, l1, ll⟩, ⟨n0, n1, nl⟩, ⟨⟨o0, o1, ol⟩, fo⟩, hlt, hlt2⟩ := F4.out
                go_wp2_with fail
                refine (awake_any _).mono ?_; rintro e' w9 ⟨rfl, z9⟩
                go_wp2
                go_ret
                exact ⟨rfl, bel_trans B4.out z9⟩
            · have g1 : (ax == ex) = true := beq_iff_eq.2 e1
              have g2 : (ay == ey) = true := beq_iff_eq.2 e2
              have wh := whole e1 e2
              clear e1 e2
              have c1 : decide (d ≤ U) = true := decide_eq_true (btw rfl).1
              have c2 : decide (R ≤ r) = true := decide_eq_true (by omega)
              clear wh
              clear btw whole inn
              as_aux_lemma =>
                obtain ⟨⟨⟨i0, i1, il⟩, fi⟩, ⟨⟨j0, j1, jl⟩, fj⟩, ⟨l0, l1, ll⟩, ⟨n0, n1, nl⟩, ⟨⟨o0, o1, ol⟩, fo⟩, hlt, hlt2⟩ := F2.out
                go_wp2_with fail
                refine (KS.out _).mono ?_; rintro e' w7 ⟨rfl, z7⟩
                have F3 := Lib.hid (F2.out.later z7)
                have B3 := Lib.hid (bel_trans B2.out z7)
                clear F2 B2 z7 i0 i1 il fi j0 j1 jl fj l0 l1 ll n0 n1 nl o0 o1 ol fo hlt hlt2
                obtain ⟨⟨⟨i0, i1, il⟩, fi⟩, ⟨⟨j0, j1, jl⟩, fj⟩, ⟨l0, l1, ll⟩, ⟨n0, n1, nl⟩, ⟨⟨o0, o1, ol⟩, fo⟩, hlt, hlt2⟩ := F3.out
                go_wp2_with fail
                refine (KD.out _).mono ?_; rintro e' w8 ⟨rfl, z8⟩
                have F4 := Lib.hid (F3.out.later z8)
                have B4 := Lib.hid (bel_trans B3.out z8)
                clear F3 B3 z8 i0 i1 il fi j0 j1 jl fj l0 l1 ll n0 n1 nl o0 o1 ol fo hlt hlt2
                obtain ⟨⟨⟨i0, i1, il⟩, fi⟩, ⟨⟨j0, j1, jl⟩, fj⟩, ⟨l0, l1, ll⟩, ⟨n0, n1, nl⟩, ⟨⟨o0, o1, ol⟩, fo⟩, hlt, hlt2⟩ := F4.out
                go_wp2_with fail
                refine (awake_any _).mono ?_; rintro e' w9 ⟨rfl, z9⟩
                go_wp2
                go_ret
                exact ⟨rfl, bel_trans B4.out z9⟩
    | false =>
      cases y with
      | false =>
        rcases same_ways ax ex ay ey with e1 | ⟨e1, e2⟩ | ⟨e1, e2⟩
        · have g1 : (ax == ex) = false := beq_eq_false_iff_ne.2 e1
          clear e1
          clear btw whole inn
          as_aux_lemma =>
            obtain ⟨⟨⟨i0, i1, il⟩, fi⟩, ⟨⟨j0, j1, jl⟩, fj⟩, ⟨l0, l1, ll⟩, ⟨n0, n1, nl⟩, ⟨⟨o0, o1, ol⟩, fo⟩, hlt, hlt2⟩ := F2.out
            go_wp2_with fail
            refine (KS.out _).mono ?_; rintro e' w7 ⟨rfl, z7⟩
            have F3 := Lib.hid (F2.out.later z7)
            have B3 := Lib.hid (bel_trans B2.out z7)
            clear F2 B2 z7 i0 i1 il fi j0 j1 jl fj l0 l1 ll n0 n1 nl o0 o1 ol fo hlt hlt2
            obtain ⟨⟨⟨i0, i1, il⟩, fi⟩, ⟨⟨j0, j1, jl⟩, fj⟩, ⟨l0, l1, ll⟩, ⟨n0, n1, nl⟩, ⟨⟨o0, o1, ol⟩, fo⟩, hlt, hlt2⟩ := F3.out
            go_wp2_with fail
            refine (awake_any _).mono ?_; rintro e' w9 ⟨rfl, z9⟩
            go_wp2
            go_ret
            exact ⟨rfl, bel_trans B3.out z9⟩
        · have g1 : (ax == ex) = true := beq_iff_eq.2 e1
          have g2 : (ay == ey) = false := beq_eq_false_iff_ne.2 e2
          clear e1 e2
          clear btw whole inn
          as_aux_lemma =>
            obtain ⟨⟨⟨i0, i1, il⟩, fi⟩, ⟨⟨j0, j1, jl⟩, fj⟩, ⟨l0, l1, ll⟩, ⟨n0, n1, nl⟩, ⟨⟨o0, o1, ol⟩, fo⟩, hlt, hlt2⟩ := F2.out
            go_wp2_with fail
            refine (KS.out _).mono ?_; rintro e' w7 ⟨rfl, z7⟩
            have F3 := Lib.hid (F2.out.later z7)
            have B3 := Lib.hid (bel_trans B2.out z7)
            clear F2 B2 z7 i0 i1 il fi j0 j1 jl fj l0 l1 ll n0 n1 nl o0 o1 ol fo hlt hlt2
            obtain ⟨⟨⟨i0, i1, il⟩, fi⟩, ⟨⟨j0, j1, jl⟩, fj⟩, ⟨l0, l1, ll⟩, ⟨n0, n1, nl⟩, ⟨⟨o0, o1, ol⟩, fo⟩, hlt, hlt2⟩ := F3.out
            go_wp2_with fail
            refine (awake_any _).mono ?_; rintro e' w9 ⟨rfl, z9⟩
            go_wp2
            go_ret
            exact ⟨rfl, bel_trans B3.out z9⟩
        · have g1 : (ax == ex) = true := beq_iff_eq.2 e1
          have g2 : (ay == ey) = true := beq_iff_eq.2 e2
          have wh := whole e1 e2
          clear e1 e2
          by_cases c0 : d ≤ U
          · have c1 : decide (d ≤ U) = true := decide_eq_true c0
            have c2 : decide (R ≤ r) = false := by rw [c1] at wh; cases hq : decide (R ≤ r) with | false => rfl | true => rw [hq] at wh; exact absurd (show false = true from wh) (by decide)
            have c3 : decide (D ≤ d) = false := by rw [c1, c2] at wh; exact wh.symm
            clear wh c0
            clear btw whole inn
            as_aux_lemma =>
              obtain ⟨⟨⟨i0, i1, il⟩, fi⟩, ⟨⟨j0, j1, jl⟩, fj⟩, ⟨l0, l1, ll⟩, ⟨n0, n1, nl⟩, ⟨⟨o0, o1, ol⟩, fo⟩, hlt, hlt2⟩ := F2.out
              go_wp2_with fail
              refine (KS.out _).mono ?_; rintro e' w7 ⟨rfl, z7⟩
              have F3 := Lib.hid (F2.out.later z7)
              have B3 := Lib.hid (bel_trans B2.out z7)
              clear F2 B2 z7 i0 i1 il fi j0 j1 jl fj l0 l1 ll n0 n1 nl o0 o1 ol fo hlt hlt2
              obtain ⟨⟨⟨i0, i1, il⟩, fi⟩, ⟨⟨j0, j1, jl⟩, fj⟩, ⟨l0, l1, ll⟩, ⟨n0, n1, nl⟩, ⟨⟨o0, o1, ol⟩, fo⟩, hlt, hlt2⟩ := F3.out
              go_wp2_with fail
              refine (awake_any _).mono ?_; rintro e' w9 ⟨rfl, z9⟩
              go_wp2
              go_ret
              exact ⟨rfl, bel_trans B3.out z9⟩
          · have c1 : decide (d ≤ U) = false := decide_eq_false c0
            clear wh c0
            clear btw whole inn
            as_aux_lemma =>
              obtain ⟨⟨⟨i0, i1, il⟩, fi⟩, ⟨⟨j0, j1, jl⟩, fj⟩, ⟨l0, l1, ll⟩, ⟨n0, n1, nl⟩, ⟨⟨o0, o1, ol⟩, fo⟩, hlt, hlt2⟩ := F2.out
              go_wp2_with fail
              refine (KS.out _).mono ?_; rintro e' w7 ⟨rfl, z7⟩
              have F3 := Lib.hid (F2.out.later z7)
              have B3 := Lib.hid (bel_trans B2.out z7)
              clear F2 B2 z7 i0 i1 il fi j0 j1 jl fj l0 l1 ll n0 n1 nl o0 o1 ol fo hlt hlt2
              obtain ⟨⟨⟨i0, i1, il⟩, fi⟩, ⟨⟨j0, j1, jl⟩, fj⟩, ⟨l0, l1, ll⟩, ⟨n0, n1, nl⟩, ⟨⟨o0, o1, ol⟩, fo⟩, hlt, hlt2⟩ := F3.out
              go_wp2_with fail
              refine (awake_any _).mono ?_; rintro e' w9 ⟨rfl, z9⟩
              go_wp2
              go_ret
              exact ⟨rfl, bel_trans B3.out z9⟩
      | true =>
        cases k with
        | false =>
          rcases same_ways ax ex ay ey with e1 | ⟨e1, e2⟩ | ⟨e1, e2⟩
          · have g1 : (ax == ex) = false := beq_eq_false_iff_ne.2 e1
            clear e1
            clear btw whole inn
            as_aux_lemma =>
              obtain ⟨⟨⟨i0, i1, il⟩, fi⟩, ⟨⟨j0, j1, jl⟩, fj⟩, ⟨l0, l1, ll⟩, ⟨n0, n1, nl⟩, ⟨⟨o0, o1, ol⟩, fo⟩, hlt, hlt2⟩ := F2.out
              go_wp2_with fail
              refine (KS.out _).mono ?_; rintro e' w7 ⟨rfl, z7⟩
              have F3 := Lib.hid (F2.out.later z7)
              have B3 := Lib.hid (bel_trans B2.out z7)
              clear F2 B2 z7 i0 i1 il fi j0 j1 jl fj l0 l1 ll n0 n1 nl o0 o1 ol fo hlt hlt2
              obtain ⟨⟨⟨i0, i1, il⟩, fi⟩, ⟨⟨j0, j1, jl⟩, fj⟩, ⟨l0, l1, ll⟩, ⟨n0, n1, nl⟩, ⟨⟨o0, o1, ol⟩, fo⟩, hlt, hlt2⟩ := F3.out
              go_wp2_with fail
              refine (KD.out _).mono ?_; rintro e' w8 ⟨rfl, z8⟩
              have F4 := Lib.hid (F3.out.later z8)
              have B4 := Lib.hid (bel_trans B3.out z8)
              clear F3 B3 z8 i0 i1 il fi j0 j1 jl fj l0 l1 ll n0 n1 nl o0 o1 ol fo hlt hlt2
              obtain ⟨⟨⟨i0, i1, il⟩, fi⟩, ⟨⟨j0, j1, jl⟩, fj⟩, ⟨l0, l1, ll⟩, ⟨n0, n1, nl⟩, ⟨⟨o0, o1, ol⟩, fo⟩, hlt, hlt2⟩ := F4.out
              go_wp2_with fail
              refine (awake_any _).mono ?_; rintro e' w9 ⟨rfl, z9⟩
              go_wp2
              go_ret
              exact ⟨rfl, bel_trans B4.out z9⟩
          · have g1 : (ax == ex) = true := beq_iff_eq.2 e1
            have g2 : (ay == ey) = false := beq_eq_false_iff_ne.2 e2
            clear e1 e2
            clear btw whole inn
            as_aux_lemma =>
              obtain ⟨⟨⟨i0, i1, il⟩, fi⟩, ⟨⟨j0, j1, jl⟩, fj⟩, ⟨l0, l1, ll⟩, ⟨n0, n1, nl⟩, ⟨⟨o0, o1, ol⟩, fo⟩, hlt, hlt2⟩ := F2.out
              go_wp2_with fail
              refine (KS.out _).mono ?_; rintro e' w7 ⟨rfl, z7⟩
              have F3 := Lib.hid (F2.out.later z7)
              have B3 := Lib.hid (bel_trans B2.out z7)
              clear F2 B2 z7 i0 i1 il fi j0 j1 jl fj l0 l1 ll n0 n1 nl o0 o1 ol fo hlt hlt2
              obtain ⟨⟨⟨i0, i1, il⟩, fi⟩, ⟨⟨j0, j1, jl⟩, fj⟩, ⟨l0, l1, ll⟩, ⟨n0, n1, nl⟩, ⟨⟨o0, o1, ol⟩, fo⟩, hlt, hlt2⟩ := F3.out
              go_wp2_with fail
              refine (KD.out _).mono ?_; rintro e' w8 ⟨rfl, z8⟩
              have F4 := Lib.hid (F3.out.later z8)
              have B4 := Lib.hid (bel_trans B3.out z8)
              clear F3 B3 z8 i0 i1 il fi j0 j1 jl fj l0 l1 ll n0 n1 nl o0 o1 ol fo hlt hlt2
              obtain ⟨⟨⟨i0, i1, il⟩, fi⟩, ⟨⟨j0, j1, jl⟩, fj⟩, ⟨l0, l1, ll⟩, ⟨n0, n1, nl⟩, ⟨⟨o0, o1, ol⟩, fo⟩, hlt, hlt2⟩ := F4.out
              go_wp2_with fail
              refine (awake_any _).mono ?_; rintro e' w9 ⟨rfl, z9⟩
              go_wp2
              go_ret
              exact ⟨rfl, bel_trans B4.out z9⟩
          · have g1 : (ax == ex) = true := beq_iff_eq.2 e1
            have g2 : (ay == ey) = true := beq_iff_eq.2 e2
            have wh := whole e1 e2
            clear e1 e2
            by_cases c0 : d ≤ U
            · have c1 : decide (d ≤ U) = true := decide_eq_true c0
              have c2 : decide (R ≤ r) = false := by rw [c1] at wh; cases hq : decide (R ≤ r) with | false => rfl | true => rw [hq] at wh; exact absurd (show false = true from wh) (by decide)
              have c3 : decide (D ≤ d) = false := by rw [c1, c2] at wh; exact wh.symm
              clear wh c0
              clear btw whole inn
              as_aux_lemma =>
                obtain ⟨⟨⟨i0, i1, il⟩, fi⟩, ⟨⟨j0, j1, jl⟩, fj⟩, ⟨l0, l1, ll⟩, ⟨n0, n1, nl⟩, ⟨⟨o0, o1, ol⟩, fo⟩, hlt, hlt2⟩ := F2.out
                go_wp2_with fail
                refine (KS.out _).mono ?_; rintro e' w7 ⟨rfl, z7⟩
                have F3 := Lib.hid (F2.out.later z7)
                have B3 := Lib.hid (bel_trans B2.out z7)
                clear F2 B2 z7 i0 i1 il fi j0 j1 jl fj l0 l1 ll n0 n1 nl o0 o1 ol fo hlt hlt2
                obtain ⟨⟨⟨i0, i1, il⟩, fi⟩, ⟨⟨j0, j1, jl⟩, fj⟩, ⟨l0, l1, ll⟩, ⟨n0, n1, nl⟩, ⟨⟨o0, o1, ol⟩, fo⟩, hlt, hlt2⟩ := F3.out
                go_wp2_with fail
                refine (KD.out _).mono ?_; rintro e' w8 ⟨rfl, z8⟩
                have F4 := Lib.hid (F3.out.later z8)
                have B4 := Lib.hid (bel_trans B3.out z8)
                clear F3 B3 z8 i0 i1 il fi j0 j1 jl fj l0 l1 ll n0 n1 nl o0 o1 ol fo hlt hlt2
                obtain ⟨⟨⟨i0, i1, il⟩, fi⟩, ⟨⟨j0, j1, jl⟩, fj⟩, ⟨l0, l1, ll⟩, ⟨n0, n1, nl⟩, ⟨⟨o0, o1, ol⟩, fo⟩, hlt, hlt2⟩ := F4.out
                go_wp2_with fail
                refine (awake_any _).mono ?_; rintro e' w9 ⟨rfl, z9⟩
                go_wp2
                go_ret
                exact ⟨rfl, bel_trans B4.out z9⟩
            · have c1 : decide (d ≤ U) = false := decide_eq_false c0
              clear wh c0
              clear btw whole inn
              as_aux_lemma =>
                obtain ⟨⟨⟨i0, i1, il⟩, fi⟩, ⟨⟨j0, j1, jl⟩, fj⟩, ⟨l0, l1, ll⟩, ⟨n0, n1, nl⟩, ⟨⟨o0, o1, ol⟩, fo⟩, hlt, hlt2⟩ := F2.out
                go_wp2_with fail
                refine (KS.out _).mono ?_; rintro e' w7 ⟨rfl, z7⟩
                have F3 := Lib.hid (F2.out.later z7)
                have B3 := Lib.hid (bel_trans B2.out z7)
                clear F2 B2 z7 i0 i1 il fi j0 j1 jl fj l0 l1 ll n0 n1 nl o0 o1 ol fo hlt hlt2
                obtain ⟨⟨⟨i0, i1, il⟩, fi⟩, ⟨⟨j0, j1, jl⟩, fj⟩, ⟨l0, l1, ll⟩, ⟨n0, n1, nl⟩, ⟨⟨o0, o1, ol⟩, fo⟩, hlt, hlt2⟩ := F3.out
                go_wp2_with fail
                refine (KD.out _).mono ?_; rintro e' w8 ⟨rfl, z8⟩
                have F4 := Lib.hid (F3.out.later z8)
                have B4 := Lib.hid (bel_trans B3.out z8)
                clear F3 B3 z8 i0 i1 il fi j0 j1 jl fj l0 l1 ll n0 n1 nl o0 o1 ol fo hlt hlt2
                obtain ⟨⟨⟨i0, i1, il⟩, fi⟩, ⟨⟨j0, j1, jl⟩, fj⟩, ⟨l0, l1, ll⟩, ⟨n0, n1, nl⟩, ⟨⟨o0, o1, ol⟩, fo⟩, hlt, hlt2⟩ := F4.out
                go_wp2_with fail
                refine (awake_any _).mono ?_; rintro e' w9 ⟨rfl, z9⟩
                go_wp2
                go_ret
                exact ⟨rfl, bel_trans B4.out z9⟩
        | true =>
          exact absurd (inn rfl rfl) (by decide)
theorem walk (c0 c1 rr i j q z p0 p1 : Int) (_ : -9223372036854775808 ≤ c0) (_ : c0 ≤ 9223372036854775807) (_ : -9223372036854775808 ≤ c1) (_ : c1 ≤ 9223372036854775807) (_ : -9223372036854775808 ≤ rr) (_ : rr ≤ 9223372036854775807) (_ : -9223372036854775808 ≤ i) (_ : i ≤ 9223372036854775807) (_ : -9223372036854775808 ≤ j) (_ : j ≤ 9223372036854775807) (_ : -9223372036854775808 ≤ q) (_ : q ≤ 9223372036854775807) (_ : -9223372036854775808 ≤ z) (_ : z ≤ 9223372036854775807) (_ : -9223372036854775808 ≤ p0) (_ : p0 ≤ 9223372036854775807) (_ : -9223372036854775808 ≤ p1) (_ : p1 ≤ 9223372036854775807) (w : World) :
    Calls Try.prog 7 #[ptV c0 c1, .int .i64 rr, .int .i64 i, .int .i64 j, .int .i64 q, .int .i64 z, ptV p0 p1] w fun e w' => e = .returned (.bool true) ∧ Below w.heap.size w w' := by
  obtain ⟨cx, cy, _, hs, _, XA⟩ := arc_form c0 c1 i j z true
  obtain ⟨c', c'', _, _, h0, XB⟩ := arc_form 0 0 q q z true
  obtain ⟨rfl, rfl⟩ := h0 rfl rfl
  obtain ⟨k1, _, k3⟩ := arcK_bd z true
  have k3 := k3 rfl
  have hs := hs rfl
  have g1 := tw_bd (arcQ_lt i)
  have g2 := tw_bd (arcQ_lt j)
  have g3 := tw_bd (arcQ_lt q)
  have ho := arc_okR cx cy k1 (arcQ_lt i) (arcQ_lt j)
  have hG := arc_sq cx cy (arcK z true) (arcQ_lt i)
  have hM := arc_sq cx cy (arcK z true) (arcQ_lt q)
  have f1 := arc_far k1 k3 g1.1.1 g1.1.2
  have f2 := arc_far k1 k3 g1.2.1.1 g1.2.1.2
  have f3 := arc_far k1 k3 g2.1.1 g2.1.2
  have f4 := arc_far k1 k3 g2.2.1.1 g2.2.1.2
  have f5 := arc_far k1 k3 g3.1.1 g3.1.2
  have f6 := arc_far k1 k3 g3.2.1.1 g3.2.1.2
  obtain ⟨s, t, hp, XP⟩ := close_form p0 p1 60 61 (by omega) (by omega) rfl
  obtain ⟨r, r1, r2, XR⟩ := r_form rr
  obtain ⟨r', ra, rb, hr⟩ := r_left (n := 30) r1 (by omega)
  generalize arcK z true = K at *
  have hR : 5 * K * (5 * K) = 25 * (K * K) := by grind
  refine core c0 c1 rr i j q z p0 p1 cx cy _ _ _ _ _ _ _ _ _ _ s t r r' (5 * K) (25 * (K * K)) XA XB XP XR hr ra (by omega) hs (by omega) (by omega) (by omega) hp (by rw [Int.zero_add]) (by rw [Int.zero_add]) ho hG hR hM (by omega) (by omega) ⟨by omega, by omega, fun m h1 h2 => ?_⟩ w
  rw [← hR]
  have e1 := Int.mul_le_mul (show m ≤ 5 * K - 1 by omega) (show m ≤ 5 * K - 1 by omega) h1 (by omega)
  have e2 : (5 * K - 1) * (5 * K - 1) = 5 * K * (5 * K) - 10 * K + 1 := by grind
  omega
theorem own : ownKnob Try.prog.godebug = none := by kernel_rfl
set_option maxRecDepth 100000 in
set_option maxHeartbeats 4000000 in
theorem lifted (os : Os) (started : os.Started) (H : Type) (enc : TypeId × Value → H) :
    ReturnsInHanded {} Try.checked os 7 .any (Rows.ringDiscsSpec.pre6 enc Try.prog Try.f7 Rows.ringDiscsRow.domain false) (Rows.ringDiscsSpec.post enc Try.prog Try.f7 false true false false) := by
  refine returnsInHanded_of_change (C := Try.checked) own started (by kernel_rfl) Try.func7
    (ChangeSpec.witness6 (enc := enc) (C := Try.checked) false ⟨#[], #[.agg #[.int .i64 0, .int .i64 0], .int .i64 0, .int .i64 0, .int .i64 0, .int .i64 0, .int .i64 0, .agg #[.int .i64 0, .int .i64 0]], []⟩ 8 (by kernel_rfl) (by kernel_rfl) (by kernel_rfl) (by kernel_rfl)) ?_
  intro W base args ds gs before hval0 hW _ _
  have hval : ∀ (j : Nat) t v, Try.f7.params[j]? = some t → args[j]? = some v → Value.okWide Try.prog W .any base t v := hval0
  have hW' := hW
  obtain ⟨p, q, hA0, hV, rfl, hfz, hnd⟩ := hW
  have hA : DataW.TrodAll enc Try.prog W 0 (fun _ => true) true Try.f7.params.toList args.toList ds p := hA0
  rw [Try.params7] at hA hval
  obtain ⟨v0, vs0, d0, ds0, p0, q0, hargs, rfl, rfl, h0, r0⟩ := trodAll_cons hA
  obtain ⟨v1, vs1, d1, ds1, p1, q1, rfl, rfl, rfl, h1, r1⟩ := trodAll_cons r0
  obtain ⟨v2, vs2, d2, ds2, p2, q2, rfl, rfl, rfl, h2, r2⟩ := trodAll_cons r1
  obtain ⟨v3, vs3, d3, ds3, p3, q3, rfl, rfl, rfl, h3, r3⟩ := trodAll_cons r2
  obtain ⟨v4, vs4, d4, ds4, p4, q4, rfl, rfl, rfl, h4, r4⟩ := trodAll_cons r3
  obtain ⟨v5, vs5, d5, ds5, p5, q5, rfl, rfl, rfl, h5, r5⟩ := trodAll_cons r4
  obtain ⟨v6, vs6, d6, ds6, p6, q6, rfl, rfl, rfl, h6, r6⟩ := trodAll_cons r5
  obtain ⟨rfl, rfl, rfl⟩ := trodAll_nil r6
  obtain rfl : args = #[v0, v1, v2, v3, v4, v5, v6] := by cases args; simp_all
  obtain ⟨rfl, rfl⟩ := trodVars_none hV
  obtain ⟨c0_0, c0_1, y0_0, y0_1, m0, rfl, rfl, rfl, k0_0, k0_1⟩ := open_agg2 Try.underlying25 (by kernel_rfl) (by kernel_rfl) (hval 0 25 v0 rfl rfl) h0
  obtain ⟨a0_0, ea0_0, rfl, wa0_0⟩ := DataW.trod_int Try.underlying2 k0_0
  simp at ea0_0; subst ea0_0
  obtain ⟨a0_1, ea0_1, rfl, wa0_1⟩ := DataW.trod_int Try.underlying2 k0_1
  simp at ea0_1; subst ea0_1
  obtain ⟨a1, rfl, rfl, rfl, w1⟩ := open_int Try.underlying2 (hval 1 2 v1 rfl rfl) h1
  obtain ⟨a2, rfl, rfl, rfl, w2⟩ := open_int Try.underlying3 (hval 2 3 v2 rfl rfl) h2
  obtain ⟨a3, rfl, rfl, rfl, w3⟩ := open_int Try.underlying3 (hval 3 3 v3 rfl rfl) h3
  obtain ⟨a4, rfl, rfl, rfl, w4⟩ := open_int Try.underlying3 (hval 4 3 v4 rfl rfl) h4
  obtain ⟨a5, rfl, rfl, rfl, w5⟩ := open_int Try.underlying2 (hval 5 2 v5 rfl rfl) h5
  obtain ⟨c6_0, c6_1, y6_0, y6_1, m6, rfl, rfl, rfl, k6_0, k6_1⟩ := open_agg2 Try.underlying25 (by kernel_rfl) (by kernel_rfl) (hval 6 25 v6 rfl rfl) h6
  obtain ⟨a6_0, ea6_0, rfl, wa6_0⟩ := DataW.trod_int Try.underlying2 k6_0
  simp at ea6_0; subst ea6_0
  obtain ⟨a6_1, ea6_1, rfl, wa6_1⟩ := DataW.trod_int Try.underlying2 k6_1
  simp at ea6_1; subst ea6_1
  have s0 : ∀ (W' : World) (sp : Nat → Bool), DataW.Trod enc Try.prog W' 0 sp true 25 (.agg #[.int .i64 a0_0, .int .i64 a0_1]) (.agg [.lit (.int .i64 a0_0), .lit (.int .i64 a0_1)]) [] := fun W' sp =>
    shut_agg2 (y0 := (.lit (.int .i64 a0_0), [])) (y1 := (.lit (.int .i64 a0_1), [])) Try.underlying25 (by kernel_rfl) (by kernel_rfl) ⟨1, by simp [DataW.trod, Try.underlying2, wa0_0]⟩ ⟨1, by simp [DataW.trod, Try.underlying2, wa0_1]⟩
  have s6 : ∀ (W' : World) (sp : Nat → Bool), DataW.Trod enc Try.prog W' 0 sp true 25 (.agg #[.int .i64 a6_0, .int .i64 a6_1]) (.agg [.lit (.int .i64 a6_0), .lit (.int .i64 a6_1)]) [] := fun W' sp =>
    shut_agg2 (y0 := (.lit (.int .i64 a6_0), [])) (y1 := (.lit (.int .i64 a6_1), [])) Try.underlying25 (by kernel_rfl) (by kernel_rfl) ⟨1, by simp [DataW.trod, Try.underlying2, wa6_0]⟩ ⟨1, by simp [DataW.trod, Try.underlying2, wa6_1]⟩
  clear hA0 hval0
  simp only [List.append_nil] at hW'
  refine (walk a0_0 a0_1 a1 a2 a3 a4 a5 a6_0 a6_1 (bounds_i64 wa0_0).1 (bounds_i64 wa0_0).2 (bounds_i64 wa0_1).1 (bounds_i64 wa0_1).2 (bounds_i64 w1).1 (bounds_i64 w1).2 (bounds_i64 w2).1 (bounds_i64 w2).2 (bounds_i64 w3).1 (bounds_i64 w3).2 (bounds_i64 w4).1 (bounds_i64 w4).2 (bounds_i64 w5).1 (bounds_i64 w5).2 (bounds_i64 wa6_0).1 (bounds_i64 wa6_0).2 (bounds_i64 wa6_1).1 (bounds_i64 wa6_1).2 W).mono fun e W' ⟨he, bel⟩ => ?_
  subst he
  exact ⟨_, rfl, _, _, _, [], _, [], hW', trodAll_mk1 (shut_bool Try.underlying4 _), (trodAll_cons_mk (s0 _ _) (trodAll_cons_mk (shut_int Try.underlying2 w1) (trodAll_cons_mk (shut_int Try.underlying3 w2) (trodAll_cons_mk (shut_int Try.underlying3 w3) (trodAll_cons_mk (shut_int Try.underlying3 w4) (trodAll_cons_mk (shut_int Try.underlying2 w5) (trodAll_cons_mk (s6 _ _) trodAll_mk0))))))), rfl, bel.frame _, fun h => by cases h⟩
theorem over : Rows.ringDiscsRow.holds Try.pinned (OpenSpec.ofChange Rows.ringDiscsSpec) :=
  OpenClaim.holds_of_wide 7 Try.f7 rfl rfl rfl rfl rfl rfl rfl ⟨rfl, rfl, rfl, rfl, rfl⟩ rfl rfl rfl rfl rfl (by kernel_rfl) Try.func7 (by kernel_rfl)
    (of_decide_eq_true (by kernel_rfl)) (by unfold Func.isWrapper; first | (rw [if_pos (by decide +kernel)]; kernel_rfl) | (rw [if_neg (by decide +kernel)]; exact ⟨rfl, rfl⟩))
    (fun os started H enc _ => lifted os started H enc)
theorem proved : Rows.RingDiscsSaid := over
#print axioms proved
end Go.Proofs.Ytoofbbmddddlcaa.ringDiscs
