/- A bar is its two halves; a thicker one has all of it, and a longer and thicker one has every box that it has: for every box, segment, half width and point that the law makes of any twelve numbers of 64 bits. No condition. -/
import Derived.Test.YthdoibknjehdoaaRows
import Derived.Test.YthdoibknjehdoaaAwake8
import Derived.Test.YthdoibknjehdoaaLaws7
import Derived.Test.YthdoibknjehdoaaHeld7
import Derived.Test.YthdoibknjehdoaaFloat
import Derived.ProofKit
import Derived.OpenShut
import Derived.ShutString
import Derived.ChangeOld
import Derived.Below
import Derived.Lib.SmallJoins
import Derived.Lib.QuietBelow
import Derived.BigQuiet
namespace Go.Proofs.Ythdoibknjehdoaa.barParts
open Go.ChangeShapes Go.WideShapes Go.ChangeAt Go.RowKit Go.Joins
open Go.Sort (grow)

theorem BPPP.alloc {N : Nat} {w : World} {a b c d e f g i j l : Int} (h : BPPP N a b c d e f g i j l w) (o : Obj) : BPPP N a b c d e f g i j l (w.alloc o) := h.later (bel_alloc (bel_refl w) o)
theorem BPPP.drew {N : Nat} {w : World} {a b c d e f g i j l : Int} (h : BPPP N a b c d e f g i j l w) : BPPP N a b c d e f g i j l w.drew := ⟨h.f0.drew, h.f1.drew, h.f2.drew, h.f3.drew⟩
/-- The cells of the two points that the region adds. -/
theorem bppp_cells {N : Nat} {w : World} {a b c d e f g i j l : Int} (h : BPPP N a b c d e f g i j l w) : w.cell? ⟨N + 1, 0, none⟩ = some (.int .i64 e) ∧ w.cell? ⟨N + 1, 1, none⟩ = some (.int .i64 f) ∧ w.cell? ⟨N + 1 + 1, 0, none⟩ = some (.int .i64 g) ∧ w.cell? ⟨N + 1 + 1, 1, none⟩ = some (.int .i64 i) :=
  ⟨h.f1.at_.c0, h.f1.at_.c1, h.f2.at_.c0, h.f2.at_.c1⟩
/-- The two far ends, in blocks of their own. -/
def Two (w : World) (a b c d x y u v s t c1 c2 e1 e2 : Int) (s13 s14 : Value) (wc : World) : Prop :=
  ∃ m n : Nat, s13 = .pointer (some ⟨m, 0, none⟩) ∧ s14 = .pointer (some ⟨n, 0, none⟩) ∧ PtAt wc m c1 c2 ∧ PtAt wc n e1 e2 ∧ BPPP w.heap.size a b c d x y u v s t wc ∧ Below w.heap.size w wc
/-- All that the law reads. -/
structure All (N m n : Nat) (a b c d x y s t c1 c2 e1 e2 : Int) (wr : World) : Prop where
  box : BoxAt wr N a b c d
  one : PtAt wr (N + 1) x y
  pnt : PtAt wr (N + 1 + 1 + 1) s t
  mid : PtAt wr m c1 c2
  far : PtAt wr n e1 e2
theorem All.later {N m n : Nat} {a b c d x y s t c1 c2 e1 e2 : Int} {w w1 : World} (h : All N m n a b c d x y s t c1 c2 e1 e2 w) (k : Below w.heap.size w w1) : All N m n a b c d x y s t c1 c2 e1 e2 w1 := ⟨h.box.later k, h.one.later k, h.pnt.later k, h.mid.later k, h.far.later k⟩

set_option maxRecDepth 100000 in
set_option maxHeartbeats 32000000 in
theorem core (b0 b1 b2 b3 e0 e1 f0 f1 rr p0 p1 more : Int) (a b c d x y u v s t r1 r' q1 q' : Int)
    (X1 : ∀ w, Calls Try.prog 8 #[boxV b0 b1 b2 b3] w fun e w' => e = .returned (boxV a b c d) ∧ Below w.heap.size w w')
    (X2 : ∀ w, Calls Try.prog 9 #[ptV e0 e1, .int .i64 20] w fun e w' => e = .returned (ptV x y) ∧ Below w.heap.size w w')
    (X3 : ∀ w, Calls Try.prog 9 #[ptV f0 f1, .int .i64 9] w fun e w' => e = .returned (ptV u v) ∧ Below w.heap.size w w')
    (X4 : ∀ w, Calls Try.prog 9 #[ptV p0 p1, .int .i64 40] w fun e w' => e = .returned (ptV s t) ∧ Below w.heap.size w w')
    (X5 : ∀ w, Calls Try.prog 10 #[.int .i64 rr] w fun e w' => e = .returned (.int .i64 r1) ∧ Below w.heap.size w w')
    (X6 : ∀ w, Calls Try.prog 10 #[.int .i64 more] w fun e w' => e = .returned (.int .i64 q1) ∧ w = w')
    (ha : -19 ≤ a ∧ a ≤ c ∧ c ≤ a + 7 ∧ a ≤ 19) (hb : -19 ≤ b ∧ b ≤ d ∧ d ≤ b + 7 ∧ b ≤ 19) (hx : -20 ≤ x ∧ x ≤ 20 ∧ -20 ≤ y ∧ y ≤ 20) (hu : -9 ≤ u ∧ u ≤ 9 ∧ -9 ≤ v ∧ v ≤ 9) (hs : -40 ≤ s ∧ s ≤ 40 ∧ -40 ≤ t ∧ t ≤ 40)
    (hr : r1.tmod 12 = r') (ra : 0 ≤ r') (rb : r' ≤ 11) (hq : q1.tmod 9 = q') (qa : 0 ≤ q') (qb : q' ≤ 8) (w : World) :
    Calls Try.prog 3 #[boxV b0 b1 b2 b3, ptV e0 e1, ptV f0 f1, .int .i64 rr, ptV p0 p1, .int .i64 more] w fun e w' => e = .returned (.bool true) ∧ Below w.heap.size w w' := by
  have HX1 := Lib.hid X1
  have HX2 := Lib.hid X2
  have HX3 := Lib.hid X3
  have HX4 := Lib.hid X4
  have HX5 := Lib.hid X5
  have HX6 := Lib.hid X6
  have HA := Lib.hid ha
  have HB := Lib.hid hb
  have HX := Lib.hid hx
  have HU := Lib.hid hu
  have HS := Lib.hid hs
  have HR := Lib.hid hr
  have HQ := Lib.hid hq
  have F0 := bppp_new w b0 b1 b2 b3 e0 e1 f0 f1 p0 p1 23 25
  have B0 := bel_newBPPP w b0 b1 b2 b3 e0 e1 f0 f1 p0 p1 23 25
  unfold newBPPP at F0 B0
  have F0 := Lib.hid F0
  have B0 := Lib.hid B0
  clear X1 X2 X3 X4 X5 X6 ha hb hx hu hs hr hq
  go_enter Try.func3, Try.ntmps3
  go_wp2_with fail
  generalize ((((w.alloc (.cells #[.int .i64 b0, .int .i64 b1, .int .i64 b2, .int .i64 b3] 23)).alloc (.cells #[.int .i64 e0, .int .i64 e1] 25)).alloc (.cells #[.int .i64 f0, .int .i64 f1] 25)).alloc (.cells #[.int .i64 p0, .int .i64 p1] 25)) = V at *
  obtain ⟨⟨⟨i0, i1, i2, i3, il⟩, fi⟩, ⟨⟨j0, j1, jl⟩, fj⟩, ⟨⟨l0, l1, ll⟩, fl⟩, ⟨⟨n0, n1, nl⟩, fn⟩⟩ := F0.out
  have i0 := cell_regrown i0
  have i1 := cell_regrown i1
  have i2 := cell_regrown i2
  have i3 := cell_regrown i3
  have j0 := cell_regrown j0
  have j1 := cell_regrown j1
  have l0 := cell_regrown l0
  have l1 := cell_regrown l1
  have n0 := cell_regrown n0
  have n1 := cell_regrown n1
  have D1 := Lib.hid (fun p : Regrown => Calls.regrown_of (HX1.out (grow (redrawn V p.d) p.os)))
  have D2 := Lib.hid (fun p : Regrown => Calls.regrown_of (HX2.out (grow (redrawn V p.d) p.os)))
  have D3 := Lib.hid (fun p : Regrown => Calls.regrown_of (HX3.out (grow (redrawn V p.d) p.os)))
  have D4 := Lib.hid (fun p : Regrown => Calls.regrown_of (HX4.out (grow (redrawn V p.d) p.os)))
  have D5 := Lib.hid (fun p : Regrown => Calls.regrown_of (HX5.out (grow (redrawn V p.d) p.os)))
  clear HX1 HX2 HX3 HX4 HX5
  refine wp_region_any (by kernel_rfl) ?_
  change wpAny _ _ _ _ 17 _ _ (World.drew _)
  refine any_heads_below (n := 10) (g := 7) (e := #[true, true, true, true, true, true, true, true, true, true, false, false, false, false, false, false, false]) (by kernel_rfl) ?_
  simp only [List.take_succ_cons, List.take_zero]
  repeat (go_big_quiet_step (first | with_reducible exact D1.out _ | with_reducible exact D2.out _ | with_reducible exact D3.out _ | with_reducible exact D4.out _ | with_reducible exact D5.out _))
  refine wpQuiet_nil ?_
  intro _ hw'
  obtain ⟨⟨dr, osr⟩, hw''⟩ := hw'
  subst hw''
  clear i0 i1 i2 i3 j0 j1 l0 l1 n0 n1 D1 D2 D3 D4 D5 il fi jl fj ll fl nl fn
  have zz := below_regrown V dr osr
  have F1 := Lib.hid (F0.out.later zz)
  have B1 := Lib.hid (bel_trans B0.out zz)
  clear F0 B0 zz
  generalize grow (redrawn V dr) osr = V1 at *
  have hr := HR.out
  have s1 : IntKind.i64.wrap (r' + 1) = r' + 1 := IntWalk.i64_in _ (by omega)
  refine any_take 10 26 (.int .i64 r') rfl rfl (by kernel_rfl) (by kernel_rfl) (by kernel_rfl) (fun _ _ _ h => h) (by rfl) (fun w => by go_simp) ?_
  refine any_take 11 27 (.int .i64 (r' + 1)) rfl rfl (by kernel_rfl) (by kernel_rfl) (by kernel_rfl) (fun _ _ _ h => h) (by rfl) (fun w => by go_simp) ?_
  refine any_tail (n := 12) rfl (by kernel_rfl) ?_
  simp only [List.drop_succ_cons, List.drop_zero, Act.put, List.setIfInBounds_toArray, List.set_cons_zero, List.set_cons_succ]
  clear hr s1 HR
  obtain ⟨r, hr⟩ : ∃ r, r' + 1 = r := ⟨_, rfl⟩
  have rc : 1 ≤ r := by omega
  have rd : r ≤ 12 := by omega
  rw [hr]
  clear hr ra rb
  obtain ⟨⟨⟨i0, i1, i2, i3, il⟩, fi⟩, ⟨⟨j0, j1, jl⟩, fj⟩, ⟨⟨l0, l1, ll⟩, fl⟩, ⟨⟨n0, n1, nl⟩, fn⟩⟩ := F1.out
  go_upto_region 2 with (fail)
  clear i0 i1 i2 i3 j0 j1 l0 l1 n0 n1 il fi jl fj ll fl nl fn
  have F2 := F1.out.stored a b c d x y u v s t
  have B2 := bel_bppp B1.out (Nat.le_refl _) a b c d x y u v s t
  unfold setBPPP at F2 B2
  have F2 := Lib.hid F2
  have B2 := Lib.hid B2
  clear F1 B1
  generalize ((((((((((V1.setCell ⟨w.heap.size, 0, none⟩ (.int .i64 a)).setCell ⟨w.heap.size, 1, none⟩ (.int .i64 b)).setCell ⟨w.heap.size, 2, none⟩ (.int .i64 c)).setCell ⟨w.heap.size, 3, none⟩ (.int .i64 d)).setCell ⟨w.heap.size + 1, 0, none⟩ (.int .i64 x)).setCell ⟨w.heap.size + 1, 1, none⟩ (.int .i64 y)).setCell ⟨w.heap.size + 1 + 1, 0, none⟩ (.int .i64 u)).setCell ⟨w.heap.size + 1 + 1, 1, none⟩ (.int .i64 v)).setCell ⟨w.heap.size + 1 + 1 + 1, 0, none⟩ (.int .i64 s)).setCell ⟨w.heap.size + 1 + 1 + 1, 1, none⟩ (.int .i64 t)) = V2 at *
  obtain ⟨ga, gb, gc, gd⟩ := HA.out
  obtain ⟨ge, gf, gg, gh⟩ := HB.out
  obtain ⟨gi, gj, gk, gl⟩ := HX.out
  obtain ⟨gm, gn, go, gp⟩ := HU.out
  obtain ⟨gq, gr, gs, gt⟩ := HS.out
  obtain ⟨z, hz⟩ : ∃ z, r + q' = z := ⟨_, rfl⟩
  have LP := bar_halves (h := r) (a1 := x) (a2 := y) (d1 := u) (d2 := v) (s := s) (t := t)
  have LW := fun s t (h : barB x y (x + u) (y + v) r s t = true) => bar_wider (w := z) (show r ≤ z by omega) h
  have LK := fun (h : barK a b c d x y (x + u) (y + v) r = 2) => barK_in (e1 := x + 2 * u) (e2 := y + 2 * v) (w := z) (fun s t h => bar_wider (show r ≤ z by omega) (by rw [bar_halves, h]; rfl)) h
  obtain ⟨c1, hc1⟩ : ∃ k, x + u = k := ⟨_, rfl⟩
  obtain ⟨c2, hc2⟩ : ∃ k, y + v = k := ⟨_, rfl⟩
  obtain ⟨e1, he1⟩ : ∃ k, x + 2 * u = k := ⟨_, rfl⟩
  obtain ⟨e2, he2⟩ : ∃ k, y + 2 * v = k := ⟨_, rfl⟩
  have LW := LW s t
  rw [hc1, hc2, he1, he2] at LP LK
  rw [hc1, hc2] at LW
  obtain ⟨k, hk⟩ : ∃ k, barK a b c d x y c1 c2 r = k := ⟨_, rfl⟩
  obtain ⟨k3, hk3⟩ : ∃ k, barK a b c d x y e1 e2 z = k := ⟨_, rfl⟩
  obtain ⟨h, hh⟩ : ∃ h, barB x y c1 c2 r s t = h := ⟨_, rfl⟩
  obtain ⟨h2, hh2⟩ : ∃ h, barB x y c1 c2 z s t = h := ⟨_, rfl⟩
  obtain ⟨h3, hh3⟩ : ∃ h, barB x y e1 e2 r s t = h := ⟨_, rfl⟩
  obtain ⟨h4, hh4⟩ : ∃ h, barB c1 c2 e1 e2 r s t = h := ⟨_, rfl⟩
  rw [hk, hk3] at LK
  rw [hh, hh2] at LW
  rw [hh, hh3, hh4] at LP
  have HK2 := Lib.hid LK
  have HB2 := Lib.hid LW
  have HP := Lib.hid LP
  have CK := Lib.hid (fun w => barClass_is hk (by omega) (by omega) (by omega) (by omega) (by omega) (by omega) (by omega) (by omega) (by omega) (by omega) (by omega) (by omega) (by omega) (by omega) (by omega) w)
  have CK3 := Lib.hid (fun w => barClass_is hk3 (by omega) (by omega) (by omega) (by omega) (by omega) (by omega) (by omega) (by omega) (by omega) (by omega) (by omega) (by omega) (by omega) (by omega) (by omega) w)
  have CH := Lib.hid (fun w => barHas_is hh (by omega) (by omega) (by omega) (by omega) (by omega) (by omega) (by omega) (by omega) (by omega) (by omega) (by omega) (by omega) (by omega) w)
  have CH2 := Lib.hid (fun w => barHas_is hh2 (by omega) (by omega) (by omega) (by omega) (by omega) (by omega) (by omega) (by omega) (by omega) (by omega) (by omega) (by omega) (by omega) w)
  have CH3 := Lib.hid (fun w => barHas_is hh3 (by omega) (by omega) (by omega) (by omega) (by omega) (by omega) (by omega) (by omega) (by omega) (by omega) (by omega) (by omega) (by omega) w)
  have CH4 := Lib.hid (fun w => barHas_is hh4 (by omega) (by omega) (by omega) (by omega) (by omega) (by omega) (by omega) (by omega) (by omega) (by omega) (by omega) (by omega) (by omega) w)
  have HZ := Lib.hid hz
  have w1 : IntKind.i64.wrap (x + u) = c1 := by rw [hc1]; exact IntWalk.i64_in _ (by omega)
  have w2 : IntKind.i64.wrap (y + v) = c2 := by rw [hc2]; exact IntWalk.i64_in _ (by omega)
  have w3 : IntKind.i64.wrap (2 * u) = 2 * u := IntWalk.i64_in _ (by omega)
  have w4 : IntKind.i64.wrap (2 * v) = 2 * v := IntWalk.i64_in _ (by omega)
  have w5 : IntKind.i64.wrap (x + 2 * u) = e1 := by rw [he1]; exact IntWalk.i64_in _ (by omega)
  have w6 : IntKind.i64.wrap (y + 2 * v) = e2 := by rw [he2]; exact IntWalk.i64_in _ (by omega)
  have zb : z ≤ 20 := by omega
  have za : 1 ≤ z := by omega
  clear hk hk3 hh hh2 hh3 hh4 LW LK LP hz hc1 hc2 he1 he2
  go_cut [13, 14] (fun s13 s14 wc => Two w a b c d x y u v s t c1 c2 e1 e2 s13 s14 wc)
  case first =>
    clear ga gb gc gd ge gf gg gh gi gj gk gl gm gn go gp gq gr gs gt
    go_region_held3 (fun w' => w'.cell? ⟨w.heap.size + 1, 0, none⟩ = some (.int .i64 x) ∧ w'.cell? ⟨w.heap.size + 1, 1, none⟩ = some (.int .i64 y) ∧ w'.cell? ⟨w.heap.size + 1 + 1, 0, none⟩ = some (.int .i64 u) ∧ w'.cell? ⟨w.heap.size + 1 + 1, 1, none⟩ = some (.int .i64 v)) (first | (refine bppp_cells (a := a) (b := b) (c := c) (d := d) (j := s) (l := t) ?_; repeat (first | exact F2.out | refine BPPP.alloc ?_ _ | refine BPPP.drew ?_)))
      (first | fail)
    all_goals go_wp2
    all_goals go_meet
    all_goals
      refine ⟨_, _, rfl, rfl, ?_, ?_, ?_, ?_⟩
      · repeat (first | (refine ptAt_at ?_; simp; done) | refine PtAt.alloc ?_ _ | refine PtAt.drew ?_)
      · repeat (first | (refine ptAt_at ?_; simp; done) | refine PtAt.alloc ?_ _ | refine PtAt.drew ?_)
      · repeat (first | exact F2.out | refine BPPP.alloc ?_ _ | refine BPPP.drew ?_)
      · repeat (first | exact B2.out | refine bel_alloc ?_ _ | refine bel_drew ?_)
  case rest =>
    obtain ⟨m, n, rfl, rfl, hM, hN, hF, hB⟩ := hcut
    clear F2 B2 w1 w2 w3 w4 w5 w6
    have S := Lib.hid (All.mk (N := w.heap.size) hF.f0.at_ hF.f1.at_ hF.f3.at_ hM hN)
    have B := Lib.hid hB
    clear hM hN hF hB
    have hq := HQ.out
    have w7 : IntKind.i64.wrap (r + q') = z := by rw [HZ.out]; exact IntWalk.i64_in _ (by omega)
    go_upto_region 4 with ((go_at_call 10; (with_reducible refine (HX6.out _).mono ?_); rintro e w' ⟨rfl, rfl⟩))
    clear HX6 hq w7 HQ HZ
    obtain ⟨⟨i0, i1, i2, i3, il⟩, ⟨j0, j1, jl⟩, ⟨l0, l1, ll⟩, ⟨m0, m1, ml⟩, ⟨n0, n1, nl⟩⟩ := S.out
    have i0 := cell_regrown i0
    have i1 := cell_regrown i1
    have i2 := cell_regrown i2
    have i3 := cell_regrown i3
    have j0 := cell_regrown j0
    have j1 := cell_regrown j1
    have l0 := cell_regrown l0
    have l1 := cell_regrown l1
    have m0 := cell_regrown m0
    have m1 := cell_regrown m1
    have n0 := cell_regrown n0
    have n1 := cell_regrown n1
    have D1 := Lib.hid (fun p : Regrown => Calls.regrown_of (CK.out (grow (redrawn wc p.d) p.os)))
    have D3 := Lib.hid (fun p : Regrown => Calls.regrown_of (CK3.out (grow (redrawn wc p.d) p.os)))
    have E1 := Lib.hid (fun p : Regrown => Calls.regrown_of (CH.out (grow (redrawn wc p.d) p.os)))
    have E2 := Lib.hid (fun p : Regrown => Calls.regrown_of (CH2.out (grow (redrawn wc p.d) p.os)))
    have E3 := Lib.hid (fun p : Regrown => Calls.regrown_of (CH3.out (grow (redrawn wc p.d) p.os)))
    have E4 := Lib.hid (fun p : Regrown => Calls.regrown_of (CH4.out (grow (redrawn wc p.d) p.os)))
    have DA := Lib.hid (fun p : Regrown => Calls.regrown_of (awake_any (grow (redrawn wc p.d) p.os)))
    have hk2 := HK2.out
    have hb2 := HB2.out
    have hp := HP.out
    clear CK CK3 CH CH2 CH3 CH4 S HK2 HB2 HP il jl ll ml nl ga gb gc gd ge gf gg gh gi gj gk gl gm gn go gp gq gr gs gt qa qb zb za rc rd
    go_wp2_with fail
    cases h with
    | false =>
      obtain rfl : h3 = h4 := by rw [hp]; rfl
      clear hp hb2
      by_cases q2 : k = 2
      · obtain rfl : k3 = 2 := hk2 q2
        subst q2
        clear hk2
        refine wp_region_quiet_below (by kernel_rfl) (by kernel_rfl) ?_
        repeat (go_big_quiet_step (first | with_reducible exact D1.out _ | with_reducible exact D3.out _ | with_reducible exact E1.out _ | with_reducible exact E2.out _ | with_reducible exact E3.out _ | with_reducible exact E4.out _ | with_reducible exact DA.out _))
        refine wpQuiet_nil ?_
        intro _ hw'
        obtain ⟨⟨dt, ost⟩, hw''⟩ := hw'
        subst hw''
        go_wp2
        go_ret
        exact ⟨rfl, bel_trans B.out (below_regrown wc dt ost)⟩
      · have q2' : (k != 2) = true := by rw [bne_iff_ne]; exact q2
        clear hk2 q2
        refine wp_region_quiet_below (by kernel_rfl) (by kernel_rfl) ?_
        repeat (go_big_quiet_step (first | with_reducible exact D1.out _ | with_reducible exact D3.out _ | with_reducible exact E1.out _ | with_reducible exact E2.out _ | with_reducible exact E3.out _ | with_reducible exact E4.out _ | with_reducible exact DA.out _))
        refine wpQuiet_nil ?_
        intro _ hw'
        obtain ⟨⟨dt, ost⟩, hw''⟩ := hw'
        subst hw''
        go_wp2
        go_ret
        exact ⟨rfl, bel_trans B.out (below_regrown wc dt ost)⟩
    | true =>
      obtain rfl : h2 = true := hb2 rfl
      obtain rfl : h3 = true := by rw [hp]; rfl
      clear hp hb2
      by_cases q2 : k = 2
      · obtain rfl : k3 = 2 := hk2 q2
        subst q2
        clear hk2
        refine wp_region_quiet_below (by kernel_rfl) (by kernel_rfl) ?_
        repeat (go_big_quiet_step (first | with_reducible exact D1.out _ | with_reducible exact D3.out _ | with_reducible exact E1.out _ | with_reducible exact E2.out _ | with_reducible exact E3.out _ | with_reducible exact E4.out _ | with_reducible exact DA.out _))
        refine wpQuiet_nil ?_
        intro _ hw'
        obtain ⟨⟨dt, ost⟩, hw''⟩ := hw'
        subst hw''
        go_wp2
        go_ret
        exact ⟨rfl, bel_trans B.out (below_regrown wc dt ost)⟩
      · have q2' : (k != 2) = true := by rw [bne_iff_ne]; exact q2
        clear hk2 q2
        refine wp_region_quiet_below (by kernel_rfl) (by kernel_rfl) ?_
        repeat (go_big_quiet_step (first | with_reducible exact D1.out _ | with_reducible exact D3.out _ | with_reducible exact E1.out _ | with_reducible exact E2.out _ | with_reducible exact E3.out _ | with_reducible exact E4.out _ | with_reducible exact DA.out _))
        refine wpQuiet_nil ?_
        intro _ hw'
        obtain ⟨⟨dt, ost⟩, hw''⟩ := hw'
        subst hw''
        go_wp2
        go_ret
        exact ⟨rfl, bel_trans B.out (below_regrown wc dt ost)⟩
theorem walk (b0 b1 b2 b3 e0 e1 f0 f1 rr p0 p1 more : Int) (_ : -9223372036854775808 ≤ b0) (_ : b0 ≤ 9223372036854775807) (_ : -9223372036854775808 ≤ b1) (_ : b1 ≤ 9223372036854775807) (_ : -9223372036854775808 ≤ b2) (_ : b2 ≤ 9223372036854775807) (_ : -9223372036854775808 ≤ b3) (_ : b3 ≤ 9223372036854775807) (_ : -9223372036854775808 ≤ e0) (_ : e0 ≤ 9223372036854775807) (_ : -9223372036854775808 ≤ e1) (_ : e1 ≤ 9223372036854775807) (_ : -9223372036854775808 ≤ f0) (_ : f0 ≤ 9223372036854775807) (_ : -9223372036854775808 ≤ f1) (_ : f1 ≤ 9223372036854775807) (_ : -9223372036854775808 ≤ rr) (_ : rr ≤ 9223372036854775807) (_ : -9223372036854775808 ≤ p0) (_ : p0 ≤ 9223372036854775807) (_ : -9223372036854775808 ≤ p1) (_ : p1 ≤ 9223372036854775807) (_ : -9223372036854775808 ≤ more) (_ : more ≤ 9223372036854775807) (w : World) :
    Calls Try.prog 3 #[boxV b0 b1 b2 b3, ptV e0 e1, ptV f0 f1, .int .i64 rr, ptV p0 p1, .int .i64 more] w fun e w' => e = .returned (.bool true) ∧ Below w.heap.size w w' := by
  obtain ⟨a, b, c, d, ha, hb, X1⟩ := small_form b0 b1 b2 b3
  obtain ⟨x, y, hx, X2⟩ := close_form e0 e1 20 21 (by omega) (by omega) rfl
  obtain ⟨u, v, hu, X3⟩ := close_form f0 f1 9 10 (by omega) (by omega) rfl
  obtain ⟨s, t, hs, X4⟩ := close_form p0 p1 40 41 (by omega) (by omega) rfl
  obtain ⟨r, r1, r2, X5⟩ := r_form rr
  obtain ⟨q, q1, q2, X6⟩ := r_form more
  obtain ⟨r', r3, r4, hr⟩ := r_left (n := 12) r1 (by omega)
  obtain ⟨q', q3, q4, hq⟩ := r_left (n := 9) q1 (by omega)
  exact core b0 b1 b2 b3 e0 e1 f0 f1 rr p0 p1 more a b c d x y u v s t r r' q q' X1 X2 X3 X4 (fun w => r_low X5 w) X6 ha hb hx hu hs hr r3 (by omega) hq q3 (by omega) w
theorem own : ownKnob Try.prog.godebug = none := by kernel_rfl
set_option maxRecDepth 100000 in
set_option maxHeartbeats 4000000 in
theorem lifted (os : Os) (started : os.Started) (H : Type) (enc : TypeId × Value → H) :
    ReturnsInHanded {} Try.checked os 3 .any (Rows.barPartsSpec.pre6 enc Try.prog Try.f3 Rows.barPartsRow.domain false) (Rows.barPartsSpec.post enc Try.prog Try.f3 false true false false) := by
  refine returnsInHanded_of_change (C := Try.checked) own started (by kernel_rfl) Try.func3
    (ChangeSpec.witness6 (enc := enc) (C := Try.checked) false ⟨#[], #[.agg #[.int .i64 0, .int .i64 0, .int .i64 0, .int .i64 0], .agg #[.int .i64 0, .int .i64 0], .agg #[.int .i64 0, .int .i64 0], .int .i64 0, .agg #[.int .i64 0, .int .i64 0], .int .i64 0], []⟩ 8 (by kernel_rfl) (by kernel_rfl) (by kernel_rfl) (by kernel_rfl)) ?_
  intro W base args ds gs before hval0 hW _ _
  have hval : ∀ (j : Nat) t v, Try.f3.params[j]? = some t → args[j]? = some v → Value.okWide Try.prog W .any base t v := hval0
  have hW' := hW
  obtain ⟨p, q, hA0, hV, rfl, hfz, hnd⟩ := hW
  have hA : DataW.TrodAll enc Try.prog W 0 (fun _ => true) true Try.f3.params.toList args.toList ds p := hA0
  rw [Try.params3] at hA hval
  obtain ⟨v0, vs0, d0, ds0, p0, q0, hargs, rfl, rfl, h0, r0⟩ := trodAll_cons hA
  obtain ⟨v1, vs1, d1, ds1, p1, q1, rfl, rfl, rfl, h1, r1⟩ := trodAll_cons r0
  obtain ⟨v2, vs2, d2, ds2, p2, q2, rfl, rfl, rfl, h2, r2⟩ := trodAll_cons r1
  obtain ⟨v3, vs3, d3, ds3, p3, q3, rfl, rfl, rfl, h3, r3⟩ := trodAll_cons r2
  obtain ⟨v4, vs4, d4, ds4, p4, q4, rfl, rfl, rfl, h4, r4⟩ := trodAll_cons r3
  obtain ⟨v5, vs5, d5, ds5, p5, q5, rfl, rfl, rfl, h5, r5⟩ := trodAll_cons r4
  obtain ⟨rfl, rfl, rfl⟩ := trodAll_nil r5
  obtain rfl : args = #[v0, v1, v2, v3, v4, v5] := by cases args; simp_all
  obtain ⟨rfl, rfl⟩ := trodVars_none hV
  obtain ⟨c0_0, c0_1, c0_2, c0_3, y0_0, y0_1, y0_2, y0_3, m0, rfl, rfl, rfl, k0_0, k0_1, k0_2, k0_3⟩ := open_agg4 Try.underlying23 (by kernel_rfl) (by kernel_rfl) (hval 0 23 v0 rfl rfl) h0
  obtain ⟨a0_0, ea0_0, rfl, wa0_0⟩ := DataW.trod_int Try.underlying2 k0_0
  simp at ea0_0; subst ea0_0
  obtain ⟨a0_1, ea0_1, rfl, wa0_1⟩ := DataW.trod_int Try.underlying2 k0_1
  simp at ea0_1; subst ea0_1
  obtain ⟨a0_2, ea0_2, rfl, wa0_2⟩ := DataW.trod_int Try.underlying2 k0_2
  simp at ea0_2; subst ea0_2
  obtain ⟨a0_3, ea0_3, rfl, wa0_3⟩ := DataW.trod_int Try.underlying2 k0_3
  simp at ea0_3; subst ea0_3
  obtain ⟨c1_0, c1_1, y1_0, y1_1, m1, rfl, rfl, rfl, k1_0, k1_1⟩ := open_agg2 Try.underlying25 (by kernel_rfl) (by kernel_rfl) (hval 1 25 v1 rfl rfl) h1
  obtain ⟨a1_0, ea1_0, rfl, wa1_0⟩ := DataW.trod_int Try.underlying2 k1_0
  simp at ea1_0; subst ea1_0
  obtain ⟨a1_1, ea1_1, rfl, wa1_1⟩ := DataW.trod_int Try.underlying2 k1_1
  simp at ea1_1; subst ea1_1
  obtain ⟨c2_0, c2_1, y2_0, y2_1, m2, rfl, rfl, rfl, k2_0, k2_1⟩ := open_agg2 Try.underlying25 (by kernel_rfl) (by kernel_rfl) (hval 2 25 v2 rfl rfl) h2
  obtain ⟨a2_0, ea2_0, rfl, wa2_0⟩ := DataW.trod_int Try.underlying2 k2_0
  simp at ea2_0; subst ea2_0
  obtain ⟨a2_1, ea2_1, rfl, wa2_1⟩ := DataW.trod_int Try.underlying2 k2_1
  simp at ea2_1; subst ea2_1
  obtain ⟨a3, rfl, rfl, rfl, w3⟩ := open_int Try.underlying2 (hval 3 2 v3 rfl rfl) h3
  obtain ⟨c4_0, c4_1, y4_0, y4_1, m4, rfl, rfl, rfl, k4_0, k4_1⟩ := open_agg2 Try.underlying25 (by kernel_rfl) (by kernel_rfl) (hval 4 25 v4 rfl rfl) h4
  obtain ⟨a4_0, ea4_0, rfl, wa4_0⟩ := DataW.trod_int Try.underlying2 k4_0
  simp at ea4_0; subst ea4_0
  obtain ⟨a4_1, ea4_1, rfl, wa4_1⟩ := DataW.trod_int Try.underlying2 k4_1
  simp at ea4_1; subst ea4_1
  obtain ⟨a5, rfl, rfl, rfl, w5⟩ := open_int Try.underlying2 (hval 5 2 v5 rfl rfl) h5
  have s0 : ∀ (W' : World) (sp : Nat → Bool), DataW.Trod enc Try.prog W' 0 sp true 23 (.agg #[.int .i64 a0_0, .int .i64 a0_1, .int .i64 a0_2, .int .i64 a0_3]) (.agg [.lit (.int .i64 a0_0), .lit (.int .i64 a0_1), .lit (.int .i64 a0_2), .lit (.int .i64 a0_3)]) [] := fun W' sp =>
    shut_agg4 (y0 := (.lit (.int .i64 a0_0), [])) (y1 := (.lit (.int .i64 a0_1), [])) (y2 := (.lit (.int .i64 a0_2), [])) (y3 := (.lit (.int .i64 a0_3), [])) Try.underlying23 (by kernel_rfl) (by kernel_rfl) ⟨1, by simp [DataW.trod, Try.underlying2, wa0_0]⟩ ⟨1, by simp [DataW.trod, Try.underlying2, wa0_1]⟩ ⟨1, by simp [DataW.trod, Try.underlying2, wa0_2]⟩ ⟨1, by simp [DataW.trod, Try.underlying2, wa0_3]⟩
  have s1 : ∀ (W' : World) (sp : Nat → Bool), DataW.Trod enc Try.prog W' 0 sp true 25 (.agg #[.int .i64 a1_0, .int .i64 a1_1]) (.agg [.lit (.int .i64 a1_0), .lit (.int .i64 a1_1)]) [] := fun W' sp =>
    shut_agg2 (y0 := (.lit (.int .i64 a1_0), [])) (y1 := (.lit (.int .i64 a1_1), [])) Try.underlying25 (by kernel_rfl) (by kernel_rfl) ⟨1, by simp [DataW.trod, Try.underlying2, wa1_0]⟩ ⟨1, by simp [DataW.trod, Try.underlying2, wa1_1]⟩
  have s2 : ∀ (W' : World) (sp : Nat → Bool), DataW.Trod enc Try.prog W' 0 sp true 25 (.agg #[.int .i64 a2_0, .int .i64 a2_1]) (.agg [.lit (.int .i64 a2_0), .lit (.int .i64 a2_1)]) [] := fun W' sp =>
    shut_agg2 (y0 := (.lit (.int .i64 a2_0), [])) (y1 := (.lit (.int .i64 a2_1), [])) Try.underlying25 (by kernel_rfl) (by kernel_rfl) ⟨1, by simp [DataW.trod, Try.underlying2, wa2_0]⟩ ⟨1, by simp [DataW.trod, Try.underlying2, wa2_1]⟩
  have s4 : ∀ (W' : World) (sp : Nat → Bool), DataW.Trod enc Try.prog W' 0 sp true 25 (.agg #[.int .i64 a4_0, .int .i64 a4_1]) (.agg [.lit (.int .i64 a4_0), .lit (.int .i64 a4_1)]) [] := fun W' sp =>
    shut_agg2 (y0 := (.lit (.int .i64 a4_0), [])) (y1 := (.lit (.int .i64 a4_1), [])) Try.underlying25 (by kernel_rfl) (by kernel_rfl) ⟨1, by simp [DataW.trod, Try.underlying2, wa4_0]⟩ ⟨1, by simp [DataW.trod, Try.underlying2, wa4_1]⟩
  clear hA0 hval0
  simp only [List.append_nil] at hW'
  refine (walk a0_0 a0_1 a0_2 a0_3 a1_0 a1_1 a2_0 a2_1 a3 a4_0 a4_1 a5 (bounds_i64 wa0_0).1 (bounds_i64 wa0_0).2 (bounds_i64 wa0_1).1 (bounds_i64 wa0_1).2 (bounds_i64 wa0_2).1 (bounds_i64 wa0_2).2 (bounds_i64 wa0_3).1 (bounds_i64 wa0_3).2 (bounds_i64 wa1_0).1 (bounds_i64 wa1_0).2 (bounds_i64 wa1_1).1 (bounds_i64 wa1_1).2 (bounds_i64 wa2_0).1 (bounds_i64 wa2_0).2 (bounds_i64 wa2_1).1 (bounds_i64 wa2_1).2 (bounds_i64 w3).1 (bounds_i64 w3).2 (bounds_i64 wa4_0).1 (bounds_i64 wa4_0).2 (bounds_i64 wa4_1).1 (bounds_i64 wa4_1).2 (bounds_i64 w5).1 (bounds_i64 w5).2 W).mono fun e W' ⟨he, bel⟩ => ?_
  subst he
  exact ⟨_, rfl, _, _, _, [], _, [], hW', trodAll_mk1 (shut_bool Try.underlying4 _), (trodAll_cons_mk (s0 _ _) (trodAll_cons_mk (s1 _ _) (trodAll_cons_mk (s2 _ _) (trodAll_cons_mk (shut_int Try.underlying2 w3) (trodAll_cons_mk (s4 _ _) (trodAll_cons_mk (shut_int Try.underlying2 w5) trodAll_mk0)))))), rfl, bel.frame _, fun h => by cases h⟩
theorem over : Rows.barPartsRow.holds Try.pinned (OpenSpec.ofChange Rows.barPartsSpec) :=
  OpenClaim.holds_of_wide 3 Try.f3 rfl rfl rfl rfl rfl rfl rfl ⟨rfl, rfl, rfl, rfl, rfl⟩ rfl rfl rfl rfl rfl (by kernel_rfl) Try.func3 (by kernel_rfl)
    (of_decide_eq_true (by kernel_rfl)) (by unfold Func.isWrapper; first | (rw [if_pos (by decide +kernel)]; kernel_rfl) | (rw [if_neg (by decide +kernel)]; exact ⟨rfl, rfl⟩))
    (fun os started H enc _ => lifted os started H enc)
theorem proved : Rows.BarPartsSaid := over
#print axioms proved
end Go.Proofs.Ythdoibknjehdoaa.barParts
