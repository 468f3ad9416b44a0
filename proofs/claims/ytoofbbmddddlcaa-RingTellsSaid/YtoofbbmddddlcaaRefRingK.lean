/- Contract of the document's Ring (9.2): its class of a box, for every box that may be, points up to Far and every radius up to 2 to the 30. -/
import Derived.Test.YtoofbbmddddlcaaRefRing
import Derived.Test.YtoofbbmddddlcaaRingTally
import Derived.Lib.QuietBelow
import Derived.Deep.DeepCutAuto
namespace Go.Proofs.Ytoofbbmddddlcaa
open Go.RowKit
open Go.Sort (grow)

theorem docDisc_is {a b c d x y r k : Int} (hk : discK r (nearS a b c d x y) (mostS a b c d x y) = k) (a0 : -536870912 ≤ a) (ac : a ≤ c) (c1 : c ≤ 536870912) (b0 : -536870912 ≤ b) (bd : b ≤ d) (d1 : d ≤ 536870912) (x0 : -536870912 ≤ x) (x1 : x ≤ 536870912) (y0 : -536870912 ≤ y) (y1 : y ≤ 536870912) (rb : r ≤ 1073741824) (w : World) :
    Calls Try.prog 41 #[boxV a b c d, ptV x y, .int .i64 r] w fun e w' => e = .returned (.int .i64 k) ∧ Below w.heap.size w w' := hk ▸ refDisc_any a b c d x y r a0 ac c1 b0 bd d1 x0 x1 y0 y1 rb w
set_option maxRecDepth 100000 in
set_option maxHeartbeats 16000000 in
theorem refRing_any (a b c d x y u v e f r : Int) (a0 : -536870912 ≤ a) (ac : a ≤ c) (c1 : c ≤ 536870912) (b0 : -536870912 ≤ b) (bd : b ≤ d) (d1 : d ≤ 536870912) (x0 : -536870912 ≤ x) (x1 : x ≤ 536870912) (y0 : -536870912 ≤ y) (y1 : y ≤ 536870912) (u0 : -536870912 ≤ u) (u1 : u ≤ 536870912) (v0 : -536870912 ≤ v) (v1 : v ≤ 536870912) (e0 : -536870912 ≤ e) (e1 : e ≤ 536870912) (f0 : -536870912 ≤ f) (f1 : f ≤ 536870912) (rb : r ≤ 1073741824) (w : World) :
    Calls Try.prog 22 #[boxV a b c d, ptV x y, ptV u v, ptV e f, .int .i64 r] w fun e' w' => e' = .returned (.int .i64 (ringC a b c d x y u v e f r)) ∧ Below w.heap.size w w' := by
  have X0 := Lib.hid (bxp3_new w a b c d x y u v e f 23 25)
  have B0 := Lib.hid (bel_alloc (bel_alloc (bel_alloc (bel_alloc (bel_refl w) (.cells #[.int .i64 a, .int .i64 b, .int .i64 c, .int .i64 d] 23)) (.cells #[.int .i64 x, .int .i64 y] 25)) (.cells #[.int .i64 u, .int .i64 v] 25)) (.cells #[.int .i64 e, .int .i64 f] 25))
  obtain ⟨o, ho⟩ : ∃ o, okR x y u v e f = o := ⟨_, rfl⟩
  have CO := Lib.hid (fun w => refRingOk_is ho x0 x1 y0 y1 u0 u1 v0 v1 e0 e1 f0 f1 w)
  by_cases hr : r < 1
  · have H := Lib.hid (show ringC a b c d x y u v e f r = 0 by unfold ringC; rw [if_neg (by omega)])
    have z0 : decide (r < 1) = true := decide_eq_true hr
    clear ho CO a0 ac c1 b0 bd d1 x0 x1 y0 y1 u0 u1 v0 v1 e0 e1 f0 f1 rb hr
    go_enter Try.func22, Try.ntmps22
    go_wp2
    go_ret
    exact ⟨by rw [H.out]; rfl, B0.out⟩
  have z0 : decide (r < 1) = false := decide_eq_false hr
  cases o with
  | false =>
    have H := Lib.hid (show ringC a b c d x y u v e f r = 0 by unfold ringC; rw [ho, if_neg (by simp)])
    clear ho a0 ac c1 b0 bd d1 x0 x1 y0 y1 u0 u1 v0 v1 e0 e1 f0 f1 rb hr
    go_enter Try.func22, Try.ntmps22
    go_wp2_with fail
    generalize ((((w.alloc (.cells #[.int .i64 a, .int .i64 b, .int .i64 c, .int .i64 d] 23)).alloc (.cells #[.int .i64 x, .int .i64 y] 25)).alloc (.cells #[.int .i64 u, .int .i64 v] 25)).alloc (.cells #[.int .i64 e, .int .i64 f] 25)) = W at *
    obtain ⟨⟨i0, i1, i2, i3, il⟩, ⟨j0, j1, jl⟩, ⟨l0, l1, ll⟩, ⟨n0, n1, nl⟩⟩ := X0.out
    go_wp2_with fail
    refine (CO.out _).mono ?_; rintro e' w1 ⟨rfl, z1⟩
    go_wp2
    go_ret
    exact ⟨by rw [H.out]; rfl, bel_trans B0.out z1⟩
  | true =>
  have ra : 1 ≤ r := by omega
  have CC := Lib.hid (fun w => refCorners_any a b c d w)
  obtain ⟨K, hK⟩ : ∃ K, crI x y u v e f = K := ⟨_, rfl⟩
  obtain ⟨B, hB⟩ : ∃ B, sqI u v x y = B := ⟨_, rfl⟩
  have Bb := sqI_bd u0 u1 v0 v1 x0 x1 y0 y1
  rw [hB] at Bb
  obtain ⟨one, h1⟩ : ∃ k, discK r (nearS a b c d u v) (mostS a b c d u v) = k := ⟨_, rfl⟩
  obtain ⟨two, h2⟩ : ∃ k, discK r (nearS a b c d e f) (mostS a b c d e f) = k := ⟨_, rfl⟩
  obtain ⟨nr, hn⟩ : ∃ k, nearS a b c d x y = k := ⟨_, rfl⟩
  obtain ⟨ms, hm⟩ : ∃ k, mostS a b c d x y = k := ⟨_, rfl⟩
  have nb := near_rng a0 ac c1 b0 bd d1 x0 x1 y0 y1
  rw [hn] at nb
  have mb := most_rng a0 ac c1 b0 bd d1 x0 x1 y0 y1
  rw [hm] at mb
  obtain ⟨p1, k1⟩ : ∃ k, dnW nr B (r * r) = k := ⟨_, rfl⟩
  obtain ⟨p2, k2⟩ : ∃ k, upW ms B (r * r) = k := ⟨_, rfl⟩
  obtain ⟨q1, k3⟩ : ∃ k, upW nr B (r * r) = k := ⟨_, rfl⟩
  obtain ⟨q2, k4⟩ : ∃ k, dnW ms B (r * r) = k := ⟨_, rfl⟩
  have CK := Lib.hid (fun w => refCross_is hK x0 x1 y0 y1 u0 u1 v0 v1 e0 e1 f0 f1 w)
  have CB := Lib.hid (fun w => refDist_is hB u0 u1 v0 v1 x0 x1 y0 y1 w)
  have C1 := Lib.hid (fun w => docDisc_is h1 a0 ac c1 b0 bd d1 u0 u1 v0 v1 rb w)
  have C2 := Lib.hid (fun w => docDisc_is h2 a0 ac c1 b0 bd d1 e0 e1 f0 f1 rb w)
  have CN := Lib.hid (fun w => refNear_is hn a0 ac c1 b0 bd d1 x0 x1 y0 y1 w)
  have CM := Lib.hid (fun w => refMost_is hm a0 ac c1 b0 bd d1 x0 x1 y0 y1 w)
  have CP1 := Lib.hid (fun w => refDn_is rfl k1 nb.1 nb.2 Bb.1 Bb.2 ra rb w)
  have CP2 := Lib.hid (fun w => refUp_is rfl k2 mb.1 mb.2 Bb.1 Bb.2 ra rb w)
  have CQ1 := Lib.hid (fun w => refUp_is rfl k3 nb.1 nb.2 Bb.1 Bb.2 ra rb w)
  have CQ2 := Lib.hid (fun w => refDn_is rfl k4 mb.1 mb.2 Bb.1 Bb.2 ra rb w)
  obtain ⟨kx0, hx0⟩ : ∃ k, crI x y u v a b = k := ⟨_, rfl⟩
  obtain ⟨ky0, hy0⟩ : ∃ k, crI x y a b e f = k := ⟨_, rfl⟩
  obtain ⟨px0, gx0⟩ : ∃ k, decide (0 ≤ kx0) = k := ⟨_, rfl⟩
  obtain ⟨py0, gy0⟩ : ∃ k, decide (0 ≤ ky0) = k := ⟨_, rfl⟩
  have GX0 := Lib.hid gx0
  have GY0 := Lib.hid gy0
  have CX0 := Lib.hid (fun w => refCross_is hx0 x0 x1 y0 y1 u0 u1 v0 v1 (by omega) (by omega) (by omega) (by omega) w)
  have CY0 := Lib.hid (fun w => refCross_is hy0 x0 x1 y0 y1 (by omega) (by omega) (by omega) (by omega) e0 e1 f0 f1 w)
  obtain ⟨kx1, hx1⟩ : ∃ k, crI x y u v c b = k := ⟨_, rfl⟩
  obtain ⟨ky1, hy1⟩ : ∃ k, crI x y c b e f = k := ⟨_, rfl⟩
  obtain ⟨px1, gx1⟩ : ∃ k, decide (0 ≤ kx1) = k := ⟨_, rfl⟩
  obtain ⟨py1, gy1⟩ : ∃ k, decide (0 ≤ ky1) = k := ⟨_, rfl⟩
  have GX1 := Lib.hid gx1
  have GY1 := Lib.hid gy1
  have CX1 := Lib.hid (fun w => refCross_is hx1 x0 x1 y0 y1 u0 u1 v0 v1 (by omega) (by omega) (by omega) (by omega) w)
  have CY1 := Lib.hid (fun w => refCross_is hy1 x0 x1 y0 y1 (by omega) (by omega) (by omega) (by omega) e0 e1 f0 f1 w)
  obtain ⟨kx2, hx2⟩ : ∃ k, crI x y u v a d = k := ⟨_, rfl⟩
  obtain ⟨ky2, hy2⟩ : ∃ k, crI x y a d e f = k := ⟨_, rfl⟩
  obtain ⟨px2, gx2⟩ : ∃ k, decide (0 ≤ kx2) = k := ⟨_, rfl⟩
  obtain ⟨py2, gy2⟩ : ∃ k, decide (0 ≤ ky2) = k := ⟨_, rfl⟩
  have GX2 := Lib.hid gx2
  have GY2 := Lib.hid gy2
  have CX2 := Lib.hid (fun w => refCross_is hx2 x0 x1 y0 y1 u0 u1 v0 v1 (by omega) (by omega) (by omega) (by omega) w)
  have CY2 := Lib.hid (fun w => refCross_is hy2 x0 x1 y0 y1 (by omega) (by omega) (by omega) (by omega) e0 e1 f0 f1 w)
  obtain ⟨kx3, hx3⟩ : ∃ k, crI x y u v c d = k := ⟨_, rfl⟩
  obtain ⟨ky3, hy3⟩ : ∃ k, crI x y c d e f = k := ⟨_, rfl⟩
  obtain ⟨px3, gx3⟩ : ∃ k, decide (0 ≤ kx3) = k := ⟨_, rfl⟩
  obtain ⟨py3, gy3⟩ : ∃ k, decide (0 ≤ ky3) = k := ⟨_, rfl⟩
  have GX3 := Lib.hid gx3
  have GY3 := Lib.hid gy3
  have CX3 := Lib.hid (fun w => refCross_is hx3 x0 x1 y0 y1 u0 u1 v0 v1 (by omega) (by omega) (by omega) (by omega) w)
  have CY3 := Lib.hid (fun w => refCross_is hy3 x0 x1 y0 y1 (by omega) (by omega) (by omega) (by omega) e0 e1 f0 f1 w)
  have HV := Lib.hid (fun (n m k : Int) (T : Cnt3 (px0, px1, px2, px3) (py0, py1, py2, py3) (!px0 && !py0, !px1 && !py1, !px2 && !py2, !px3 && !py3) 4 n m k) (I O C D : Bool) hI hO hC hD => ringC_of (I := I) (O := O) (C := C) (D := D) ho ra hK hB h1 h2 hn hm (hx0 ▸ gx0) (hx1 ▸ gx1) (hx2 ▸ gx2) (hx3 ▸ gx3) (hy0 ▸ gy0) (hy1 ▸ gy1) (hy2 ▸ gy2) (hy3 ▸ gy3) T hI hO k1 k2 k3 k4 hC hD)
  clear hx0 hy0 gx0 gy0 hx1 hy1 gx1 gy1 hx2 hy2 gx2 gy2 hx3 hy3 gx3 gy3 ho ra hK hB h1 h2 hn hm k1 k2 k3 k4 Bb nb mb a0 ac c1 b0 bd d1 x0 x1 y0 y1 u0 u1 v0 v1 e0 e1 f0 f1 rb hr
  go_enter Try.func22, Try.ntmps22
  go_wp2_with fail
  generalize ((((w.alloc (.cells #[.int .i64 a, .int .i64 b, .int .i64 c, .int .i64 d] 23)).alloc (.cells #[.int .i64 x, .int .i64 y] 25)).alloc (.cells #[.int .i64 u, .int .i64 v] 25)).alloc (.cells #[.int .i64 e, .int .i64 f] 25)) = W at *
  obtain ⟨⟨i0, i1, i2, i3, il⟩, ⟨j0, j1, jl⟩, ⟨l0, l1, ll⟩, ⟨n0, n1, nl⟩⟩ := X0.out
  go_wp2_with fail
  refine (CO.out _).mono ?_; rintro e' w0 ⟨rfl, z1⟩
  have X1 := Lib.hid (X0.out.later z1)
  have B1 := Lib.hid (bel_trans B0.out z1)
  clear z1 X0 B0 i0 i1 i2 i3 il j0 j1 jl l0 l1 ll n0 n1 nl CO
  obtain ⟨⟨i0, i1, i2, i3, il⟩, _, _, _⟩ := X1.out
  go_wp2_with fail
  refine (CC.out _).mono ?_; rintro e' w1 ⟨rfl, z1⟩
  have X2 := Lib.hid ((X1.out.later z1).alloc (.cells #[.int .i64 a, .int .i64 b, .int .i64 c, .int .i64 b, .int .i64 a, .int .i64 d, .int .i64 c, .int .i64 d] 48))
  have B2 := Lib.hid (bel_alloc (bel_trans B1.out z1) (.cells #[.int .i64 a, .int .i64 b, .int .i64 c, .int .i64 b, .int .i64 a, .int .i64 d, .int .i64 c, .int .i64 d] 48))
  have E2 := eightAt_new w1 a b c d 48
  clear z1 X1 B1 i0 i1 i2 i3 il CC z0
  obtain ⟨m, hm'⟩ : ∃ m, w1.heap.size = m := ⟨_, rfl⟩
  go_upto_region 5 with (fail)
  rw [hm'] at E2
  generalize w1.alloc (.cells #[.int .i64 a, .int .i64 b, .int .i64 c, .int .i64 b, .int .i64 a, .int .i64 d, .int .i64 c, .int .i64 d] 48) = W1 at *
  try rw [hm']
  clear hm'
  have E2 := Lib.hid E2
  go_wp2_with fail
  go_loopw [12, 13, 14, 15] (fun sn sm sk si wr => Cnt3At w.heap.size m w a b c d x y u v e f (px0, px1, px2, px3) (py0, py1, py2, py3) (!px0 && !py0, !px1 && !py1, !px2 && !py2, !px3 && !py3) sn sm sk si wr) (fun _ _ _ si _ => (4 - intOf si).toNat)
  case atStart => exact ⟨E2.out, X2.out, B2.out, 0, 0, 0, rfl, rfl, rfl, .inl ⟨rfl, ⟨rfl, rfl, rfl⟩⟩⟩
  case round =>
    obtain ⟨hE, hS, hB, n, m', k, rfl, rfl, rfl, hc⟩ := hrel
    clear X2 B2 E2
    have E := Lib.hid hE
    have S := Lib.hid hS
    have B' := Lib.hid hB
    clear hE hS hB
    rcases hc with ⟨rfl, hF⟩ | ⟨rfl, hF⟩ | ⟨rfl, hF⟩ | ⟨rfl, hF⟩ | ⟨rfl, hF⟩
    · as_aux_lemma =>
      obtain ⟨n0, n4⟩ : 0 ≤ n ∧ n ≤ 4 := by rw [hF.u]; exact fnd_bd _ _
      obtain ⟨m0, m4⟩ : 0 ≤ m' ∧ m' ≤ 4 := by rw [hF.v]; exact fnd_bd _ _
      obtain ⟨q0, q4⟩ : 0 ≤ k ∧ k ≤ 4 := by rw [hF.b]; exact fnd_bd _ _
      have F2 := Lib.hid (show Cnt3 (px0, px1, px2, px3) (py0, py1, py2, py3) (!px0 && !py0, !px1 && !py1, !px2 && !py2, !px3 && !py3) 1 (if px0 then n + 1 else n) (if py0 then m' + 1 else m') (if !px0 && !py0 then k + 1 else k) from ⟨fnd0' hF.u, fnd0' hF.v, fnd0' hF.b⟩)
      clear hF HV CK CB C1 C2 CN CM CP1 CP2 CQ1 CQ2
      obtain ⟨_, ⟨j0, j1, jl⟩, ⟨l0', l1', ll⟩, ⟨n0', n1', nl⟩⟩ := S.out
      obtain ⟨y0, y1, y2, y3, y4, y5, y6, y7, yl⟩ := E.out
      go_upto_region 8 with (fail)
      have j0 := cell_regrown j0
      have j1 := cell_regrown j1
      have l0' := cell_regrown l0'
      have l1' := cell_regrown l1'
      have n0' := cell_regrown n0'
      have n1' := cell_regrown n1'
      have x0 := cell_regrown y0
      have x1 := cell_regrown y1
      clear jl ll nl y0 y1 y2 y3 y4 y5 y6 y7 yl
      have D1 := Lib.hid (fun p : Regrown => Calls.regrown_of (CX0.out (grow (redrawn wr p.d) p.os)))
      have D2 := Lib.hid (fun p : Regrown => Calls.regrown_of (CY0.out (grow (redrawn wr p.d) p.os)))
      refine wp_region_quiet_below (by kernel_rfl) (by kernel_rfl) ?_
      repeat (go_big_quiet_step (first | with_reducible exact D1.out _ | with_reducible exact D2.out _))
      refine wpQuiet_nil ?_
      intro _ hw'
      obtain ⟨⟨dt, ost⟩, hw''⟩ := hw'
      subst hw''
      have zz := below_regrown wr dt ost
      have S2 := Lib.hid (S.out.later zz)
      have E3 := Lib.hid (E.out.later zz)
      have B3 := Lib.hid (bel_trans B'.out zz)
      clear x0 x1 j0 j1 l0' l1' n0' n1' D1 D2 S B' E zz
      generalize grow (redrawn wr dt) ost = U at *
      have hA := GX0.out
      have hB' := GY0.out
      clear CX0 CY0 GX0 GY0 CX1 CY1 GX1 GY1 CX2 CY2 GX2 GY2 CX3 CY3 GX3 GY3
      rw [hA, hB']
      clear hA hB'
      cases px0
      all_goals cases py0
      all_goals
        go_wp2_with fail
        go_roundw
        case rel => exact ⟨E3.out, S2.out, B3.out, _, _, _, rfl, rfl, rfl, .inr (.inl (⟨rfl, F2.out⟩))⟩
        case measure => simp [intOf]
    · as_aux_lemma =>
      obtain ⟨n0, n4⟩ : 0 ≤ n ∧ n ≤ 4 := by rw [hF.u]; exact fnd_bd _ _
      obtain ⟨m0, m4⟩ : 0 ≤ m' ∧ m' ≤ 4 := by rw [hF.v]; exact fnd_bd _ _
      obtain ⟨q0, q4⟩ : 0 ≤ k ∧ k ≤ 4 := by rw [hF.b]; exact fnd_bd _ _
      have F2 := Lib.hid (show Cnt3 (px0, px1, px2, px3) (py0, py1, py2, py3) (!px0 && !py0, !px1 && !py1, !px2 && !py2, !px3 && !py3) 2 (if px1 then n + 1 else n) (if py1 then m' + 1 else m') (if !px1 && !py1 then k + 1 else k) from ⟨fnd1' hF.u, fnd1' hF.v, fnd1' hF.b⟩)
      clear hF HV CK CB C1 C2 CN CM CP1 CP2 CQ1 CQ2
      obtain ⟨_, ⟨j0, j1, jl⟩, ⟨l0', l1', ll⟩, ⟨n0', n1', nl⟩⟩ := S.out
      obtain ⟨y0, y1, y2, y3, y4, y5, y6, y7, yl⟩ := E.out
      go_upto_region 8 with (fail)
      have j0 := cell_regrown j0
      have j1 := cell_regrown j1
      have l0' := cell_regrown l0'
      have l1' := cell_regrown l1'
      have n0' := cell_regrown n0'
      have n1' := cell_regrown n1'
      have x0 := cell_regrown y2
      have x1 := cell_regrown y3
      clear jl ll nl y0 y1 y2 y3 y4 y5 y6 y7 yl
      have D1 := Lib.hid (fun p : Regrown => Calls.regrown_of (CX1.out (grow (redrawn wr p.d) p.os)))
      have D2 := Lib.hid (fun p : Regrown => Calls.regrown_of (CY1.out (grow (redrawn wr p.d) p.os)))
      refine wp_region_quiet_below (by kernel_rfl) (by kernel_rfl) ?_
      repeat (go_big_quiet_step (first | with_reducible exact D1.out _ | with_reducible exact D2.out _))
      refine wpQuiet_nil ?_
      intro _ hw'
      obtain ⟨⟨dt, ost⟩, hw''⟩ := hw'
      subst hw''
      have zz := below_regrown wr dt ost
      have S2 := Lib.hid (S.out.later zz)
      have E3 := Lib.hid (E.out.later zz)
      have B3 := Lib.hid (bel_trans B'.out zz)
      clear x0 x1 j0 j1 l0' l1' n0' n1' D1 D2 S B' E zz
      generalize grow (redrawn wr dt) ost = U at *
      have hA := GX1.out
      have hB' := GY1.out
      clear CX0 CY0 GX0 GY0 CX1 CY1 GX1 GY1 CX2 CY2 GX2 GY2 CX3 CY3 GX3 GY3
      rw [hA, hB']
      clear hA hB'
      cases px1
      all_goals cases py1
      all_goals
        go_wp2_with fail
        go_roundw
        case rel => exact ⟨E3.out, S2.out, B3.out, _, _, _, rfl, rfl, rfl, .inr (.inr (.inl (⟨rfl, F2.out⟩)))⟩
        case measure => simp [intOf]
    · as_aux_lemma =>
      obtain ⟨n0, n4⟩ : 0 ≤ n ∧ n ≤ 4 := by rw [hF.u]; exact fnd_bd _ _
      obtain ⟨m0, m4⟩ : 0 ≤ m' ∧ m' ≤ 4 := by rw [hF.v]; exact fnd_bd _ _
      obtain ⟨q0, q4⟩ : 0 ≤ k ∧ k ≤ 4 := by rw [hF.b]; exact fnd_bd _ _
      have F2 := Lib.hid (show Cnt3 (px0, px1, px2, px3) (py0, py1, py2, py3) (!px0 && !py0, !px1 && !py1, !px2 && !py2, !px3 && !py3) 3 (if px2 then n + 1 else n) (if py2 then m' + 1 else m') (if !px2 && !py2 then k + 1 else k) from ⟨fnd2' hF.u, fnd2' hF.v, fnd2' hF.b⟩)
      clear hF HV CK CB C1 C2 CN CM CP1 CP2 CQ1 CQ2
      obtain ⟨_, ⟨j0, j1, jl⟩, ⟨l0', l1', ll⟩, ⟨n0', n1', nl⟩⟩ := S.out
      obtain ⟨y0, y1, y2, y3, y4, y5, y6, y7, yl⟩ := E.out
      go_upto_region 8 with (fail)
      have j0 := cell_regrown j0
      have j1 := cell_regrown j1
      have l0' := cell_regrown l0'
      have l1' := cell_regrown l1'
      have n0' := cell_regrown n0'
      have n1' := cell_regrown n1'
      have x0 := cell_regrown y4
      have x1 := cell_regrown y5
      clear jl ll nl y0 y1 y2 y3 y4 y5 y6 y7 yl
      have D1 := Lib.hid (fun p : Regrown => Calls.regrown_of (CX2.out (grow (redrawn wr p.d) p.os)))
      have D2 := Lib.hid (fun p : Regrown => Calls.regrown_of (CY2.out (grow (redrawn wr p.d) p.os)))
      refine wp_region_quiet_below (by kernel_rfl) (by kernel_rfl) ?_
      repeat (go_big_quiet_step (first | with_reducible exact D1.out _ | with_reducible exact D2.out _))
      refine wpQuiet_nil ?_
      intro _ hw'
      obtain ⟨⟨dt, ost⟩, hw''⟩ := hw'
      subst hw''
      have zz := below_regrown wr dt ost
      have S2 := Lib.hid (S.out.later zz)
      have E3 := Lib.hid (E.out.later zz)
      have B3 := Lib.hid (bel_trans B'.out zz)
      clear x0 x1 j0 j1 l0' l1' n0' n1' D1 D2 S B' E zz
      generalize grow (redrawn wr dt) ost = U at *
      have hA := GX2.out
      have hB' := GY2.out
      clear CX0 CY0 GX0 GY0 CX1 CY1 GX1 GY1 CX2 CY2 GX2 GY2 CX3 CY3 GX3 GY3
      rw [hA, hB']
      clear hA hB'
      cases px2
      all_goals cases py2
      all_goals
        go_wp2_with fail
        go_roundw
        case rel => exact ⟨E3.out, S2.out, B3.out, _, _, _, rfl, rfl, rfl, .inr (.inr (.inr (.inl (⟨rfl, F2.out⟩))))⟩
        case measure => simp [intOf]
    · as_aux_lemma =>
      obtain ⟨n0, n4⟩ : 0 ≤ n ∧ n ≤ 4 := by rw [hF.u]; exact fnd_bd _ _
      obtain ⟨m0, m4⟩ : 0 ≤ m' ∧ m' ≤ 4 := by rw [hF.v]; exact fnd_bd _ _
      obtain ⟨q0, q4⟩ : 0 ≤ k ∧ k ≤ 4 := by rw [hF.b]; exact fnd_bd _ _
      have F2 := Lib.hid (show Cnt3 (px0, px1, px2, px3) (py0, py1, py2, py3) (!px0 && !py0, !px1 && !py1, !px2 && !py2, !px3 && !py3) 4 (if px3 then n + 1 else n) (if py3 then m' + 1 else m') (if !px3 && !py3 then k + 1 else k) from ⟨fnd3' hF.u, fnd3' hF.v, fnd3' hF.b⟩)
      clear hF HV CK CB C1 C2 CN CM CP1 CP2 CQ1 CQ2
      obtain ⟨_, ⟨j0, j1, jl⟩, ⟨l0', l1', ll⟩, ⟨n0', n1', nl⟩⟩ := S.out
      obtain ⟨y0, y1, y2, y3, y4, y5, y6, y7, yl⟩ := E.out
      go_upto_region 8 with (fail)
      have j0 := cell_regrown j0
      have j1 := cell_regrown j1
      have l0' := cell_regrown l0'
      have l1' := cell_regrown l1'
      have n0' := cell_regrown n0'
      have n1' := cell_regrown n1'
      have x0 := cell_regrown y6
      have x1 := cell_regrown y7
      clear jl ll nl y0 y1 y2 y3 y4 y5 y6 y7 yl
      have D1 := Lib.hid (fun p : Regrown => Calls.regrown_of (CX3.out (grow (redrawn wr p.d) p.os)))
      have D2 := Lib.hid (fun p : Regrown => Calls.regrown_of (CY3.out (grow (redrawn wr p.d) p.os)))
      refine wp_region_quiet_below (by kernel_rfl) (by kernel_rfl) ?_
      repeat (go_big_quiet_step (first | with_reducible exact D1.out _ | with_reducible exact D2.out _))
      refine wpQuiet_nil ?_
      intro _ hw'
      obtain ⟨⟨dt, ost⟩, hw''⟩ := hw'
      subst hw''
      have zz := below_regrown wr dt ost
      have S2 := Lib.hid (S.out.later zz)
      have E3 := Lib.hid (E.out.later zz)
      have B3 := Lib.hid (bel_trans B'.out zz)
      clear x0 x1 j0 j1 l0' l1' n0' n1' D1 D2 S B' E zz
      generalize grow (redrawn wr dt) ost = U at *
      have hA := GX3.out
      have hB' := GY3.out
      clear CX0 CY0 GX0 GY0 CX1 CY1 GX1 GY1 CX2 CY2 GX2 GY2 CX3 CY3 GX3 GY3
      rw [hA, hB']
      clear hA hB'
      cases px3
      all_goals cases py3
      all_goals
        go_wp2_with fail
        go_roundw
        case rel => exact ⟨E3.out, S2.out, B3.out, _, _, _, rfl, rfl, rfl, .inr (.inr (.inr (.inr ((⟨rfl, F2.out⟩)))))⟩
        case measure => simp [intOf]
    · as_aux_lemma =>
      obtain ⟨I, hI⟩ : ∃ I, innB (decide (u = e ∧ v = f)) K (decide (n = 4)) (decide (m' = 4)) = I := ⟨_, rfl⟩
      obtain ⟨O, hO⟩ : ∃ O, offB (decide (u = e ∧ v = f)) K (decide (n = 0)) (decide (m' = 0)) (decide (k = 4)) = O := ⟨_, rfl⟩
      obtain ⟨C, hC⟩ : ∃ C, decide (one = 2 ∨ two = 2 ∨ (I = true ∧ p1 = true ∧ p2 = true)) = C := ⟨_, rfl⟩
      obtain ⟨D, hD⟩ : ∃ D, decide (one = 0 ∧ two = 0 ∧ (O = true ∨ q1 = false ∨ q2 = false)) = D := ⟨_, rfl⟩
      have H := Lib.hid (HV.out n m' k hF I O C D hI hO hC hD)
      have HI := Lib.hid hI
      have HO := Lib.hid hO
      have HC := Lib.hid hC
      have HD := Lib.hid hD
      clear hI hO hC hD hF HV E CX0 CY0 GX0 GY0 CX1 CY1 GX1 GY1 CX2 CY2 GX2 GY2 CX3 CY3 GX3 GY3
      obtain ⟨_, ⟨j0, j1, jl⟩, ⟨l0, l1, ll⟩, ⟨n0, n1, nl⟩⟩ := S.out
      go_wp2_with fail
      refine (CK.out _).mono ?_; rintro e' w2 ⟨rfl, z2⟩
      have S2 := Lib.hid (S.out.later z2)
      have B3 := Lib.hid (bel_trans B'.out z2)
      clear z2 S B' j0 j1 jl l0 l1 ll n0 n1 nl CK
      obtain ⟨G, hG⟩ : ∃ G, decide (K < 0) = G := ⟨_, rfl⟩
      go_upto_region 16 with (fail)
      try rw [hG]
      go_cut [19] (fun s19 wx => s19 = .bool I ∧ w2 = wx)
      case first =>
        as_aux_lemma =>
        obtain ⟨_, ⟨j0, j1, jl⟩, ⟨l0, l1, ll⟩, ⟨n0, n1, nl⟩⟩ := S2.out
        have hI := HI.out
        clear HI HO HC HD H B3 S2 CB C1 C2 CN CM CP1 CP2 CQ1 CQ2
        rcases same_ways u e v f with hx | ⟨rfl, hx⟩ | ⟨rfl, rfl⟩
        · have hx' : (u == e) = false := beq_eq_false_iff_ne.2 hx
          rw [decide_eq_false (fun h => hx h.1)] at hI
          cases G with
          | true =>
            rw [inn_neg (of_decide_eq_true hG)] at hI
            clear hG
            all_goals by_cases h1 : n = 4
            all_goals first
              | (have z1 : (n == 4) = true := beq_iff_eq.2 h1; rw [decide_eq_true h1] at hI)
              | (have z1 : (n == 4) = false := beq_eq_false_iff_ne.2 h1; rw [decide_eq_false h1] at hI)
            all_goals clear h1
            all_goals by_cases h1 : m' = 4
            all_goals first
              | (have z2 : (m' == 4) = true := beq_iff_eq.2 h1; rw [decide_eq_true h1] at hI)
              | (have z2 : (m' == 4) = false := beq_eq_false_iff_ne.2 h1; rw [decide_eq_false h1] at hI)
            all_goals clear h1
            all_goals
              subst hI
              go_wp2
              go_meet
              exact ⟨rfl, rfl⟩
          | false =>
            rw [inn_pos (of_decide_eq_false hG)] at hI
            clear hG
            all_goals by_cases h1 : n = 4
            all_goals first
              | (have z1 : (n == 4) = true := beq_iff_eq.2 h1; rw [decide_eq_true h1] at hI)
              | (have z1 : (n == 4) = false := beq_eq_false_iff_ne.2 h1; rw [decide_eq_false h1] at hI)
            all_goals clear h1
            all_goals by_cases h1 : m' = 4
            all_goals first
              | (have z2 : (m' == 4) = true := beq_iff_eq.2 h1; rw [decide_eq_true h1] at hI)
              | (have z2 : (m' == 4) = false := beq_eq_false_iff_ne.2 h1; rw [decide_eq_false h1] at hI)
            all_goals clear h1
            all_goals
              subst hI
              go_wp2
              go_meet
              exact ⟨rfl, rfl⟩
        · have hx' : (v == f) = false := beq_eq_false_iff_ne.2 hx
          rw [decide_eq_false (fun h => hx h.2)] at hI
          cases G with
          | true =>
            rw [inn_neg (of_decide_eq_true hG)] at hI
            clear hG
            all_goals by_cases h1 : n = 4
            all_goals first
              | (have z1 : (n == 4) = true := beq_iff_eq.2 h1; rw [decide_eq_true h1] at hI)
              | (have z1 : (n == 4) = false := beq_eq_false_iff_ne.2 h1; rw [decide_eq_false h1] at hI)
            all_goals clear h1
            all_goals by_cases h1 : m' = 4
            all_goals first
              | (have z2 : (m' == 4) = true := beq_iff_eq.2 h1; rw [decide_eq_true h1] at hI)
              | (have z2 : (m' == 4) = false := beq_eq_false_iff_ne.2 h1; rw [decide_eq_false h1] at hI)
            all_goals clear h1
            all_goals
              subst hI
              go_wp2
              go_meet
              exact ⟨rfl, rfl⟩
          | false =>
            rw [inn_pos (of_decide_eq_false hG)] at hI
            clear hG
            all_goals by_cases h1 : n = 4
            all_goals first
              | (have z1 : (n == 4) = true := beq_iff_eq.2 h1; rw [decide_eq_true h1] at hI)
              | (have z1 : (n == 4) = false := beq_eq_false_iff_ne.2 h1; rw [decide_eq_false h1] at hI)
            all_goals clear h1
            all_goals by_cases h1 : m' = 4
            all_goals first
              | (have z2 : (m' == 4) = true := beq_iff_eq.2 h1; rw [decide_eq_true h1] at hI)
              | (have z2 : (m' == 4) = false := beq_eq_false_iff_ne.2 h1; rw [decide_eq_false h1] at hI)
            all_goals clear h1
            all_goals
              subst hI
              go_wp2
              go_meet
              exact ⟨rfl, rfl⟩
        · rw [decide_eq_true ⟨rfl, rfl⟩, inn_same] at hI
          subst hI
          clear hG
          go_wp2
          go_meet
          exact ⟨rfl, rfl⟩
      case rest =>
      obtain ⟨rfl, rfl⟩ := hcut
      go_upto_region 17 with (fail)
      go_cut [20] (fun s20 wx => s20 = .bool O ∧ w2 = wx)
      case first =>
        as_aux_lemma =>
        obtain ⟨_, ⟨j0, j1, jl⟩, ⟨l0, l1, ll⟩, ⟨n0, n1, nl⟩⟩ := S2.out
        have hI := HO.out
        clear HI HO HC HD H B3 S2 CB C1 C2 CN CM CP1 CP2 CQ1 CQ2
        rcases same_ways u e v f with hx | ⟨rfl, hx⟩ | ⟨rfl, rfl⟩
        · have hx' : (u == e) = false := beq_eq_false_iff_ne.2 hx
          rw [decide_eq_false (fun h => hx h.1)] at hI
          cases G with
          | true =>
            rw [off_neg (of_decide_eq_true hG)] at hI
            clear hG
            all_goals by_cases h1 : k = 4
            all_goals first
              | (have z3 : (k == 4) = true := beq_iff_eq.2 h1; rw [decide_eq_true h1] at hI)
              | (have z3 : (k == 4) = false := beq_eq_false_iff_ne.2 h1; rw [decide_eq_false h1] at hI)
            all_goals clear h1
            all_goals
              subst hI
              go_wp2
              go_meet
              exact ⟨rfl, rfl⟩
          | false =>
            rw [off_pos (of_decide_eq_false hG)] at hI
            clear hG
            all_goals by_cases h1 : n = 0
            all_goals first
              | (have z1 : (n == 0) = true := beq_iff_eq.2 h1; rw [decide_eq_true h1] at hI)
              | (have z1 : (n == 0) = false := beq_eq_false_iff_ne.2 h1; rw [decide_eq_false h1] at hI)
            all_goals clear h1
            all_goals by_cases h1 : m' = 0
            all_goals first
              | (have z2 : (m' == 0) = true := beq_iff_eq.2 h1; rw [decide_eq_true h1] at hI)
              | (have z2 : (m' == 0) = false := beq_eq_false_iff_ne.2 h1; rw [decide_eq_false h1] at hI)
            all_goals clear h1
            all_goals
              subst hI
              go_wp2
              go_meet
              exact ⟨rfl, rfl⟩
        · have hx' : (v == f) = false := beq_eq_false_iff_ne.2 hx
          rw [decide_eq_false (fun h => hx h.2)] at hI
          cases G with
          | true =>
            rw [off_neg (of_decide_eq_true hG)] at hI
            clear hG
            all_goals by_cases h1 : k = 4
            all_goals first
              | (have z3 : (k == 4) = true := beq_iff_eq.2 h1; rw [decide_eq_true h1] at hI)
              | (have z3 : (k == 4) = false := beq_eq_false_iff_ne.2 h1; rw [decide_eq_false h1] at hI)
            all_goals clear h1
            all_goals
              subst hI
              go_wp2
              go_meet
              exact ⟨rfl, rfl⟩
          | false =>
            rw [off_pos (of_decide_eq_false hG)] at hI
            clear hG
            all_goals by_cases h1 : n = 0
            all_goals first
              | (have z1 : (n == 0) = true := beq_iff_eq.2 h1; rw [decide_eq_true h1] at hI)
              | (have z1 : (n == 0) = false := beq_eq_false_iff_ne.2 h1; rw [decide_eq_false h1] at hI)
            all_goals clear h1
            all_goals by_cases h1 : m' = 0
            all_goals first
              | (have z2 : (m' == 0) = true := beq_iff_eq.2 h1; rw [decide_eq_true h1] at hI)
              | (have z2 : (m' == 0) = false := beq_eq_false_iff_ne.2 h1; rw [decide_eq_false h1] at hI)
            all_goals clear h1
            all_goals
              subst hI
              go_wp2
              go_meet
              exact ⟨rfl, rfl⟩
        · rw [decide_eq_true ⟨rfl, rfl⟩, off_same] at hI
          subst hI
          clear hG
          go_wp2
          go_meet
          exact ⟨rfl, rfl⟩
      case rest =>
      obtain ⟨rfl, rfl⟩ := hcut
      clear HI HO
      obtain ⟨_, ⟨j0, j1, jl⟩, ⟨l0, l1, ll⟩, ⟨n0, n1, nl⟩⟩ := S2.out
      go_wp2_with fail
      refine (CB.out _).mono ?_; rintro e' w3 ⟨rfl, z2⟩
      have S3 := Lib.hid (S2.out.later z2)
      have B4 := Lib.hid (bel_trans B3.out z2)
      clear z2 S2 B3 j0 j1 jl l0 l1 ll n0 n1 nl CB
      go_upto_region 19 with (fail)
      obtain ⟨⟨i0, i1, i2, i3, il⟩, ⟨j0, j1, jl⟩, ⟨l0, l1, ll⟩, ⟨n0, n1, nl⟩⟩ := S3.out
      have i0 := cell_regrown i0
      have i1 := cell_regrown i1
      have i2 := cell_regrown i2
      have i3 := cell_regrown i3
      have l0 := cell_regrown l0
      have l1 := cell_regrown l1
      have n0 := cell_regrown n0
      have n1 := cell_regrown n1
      have D1 := Lib.hid (fun p : Regrown => Calls.regrown_of (C1.out (grow (redrawn w3 p.d) p.os)))
      have D2 := Lib.hid (fun p : Regrown => Calls.regrown_of (C2.out (grow (redrawn w3 p.d) p.os)))
      refine wp_region_quiet_below (by kernel_rfl) (by kernel_rfl) ?_
      repeat (go_big_quiet_step (first | with_reducible exact D1.out _ | with_reducible exact D2.out _))
      refine wpQuiet_nil ?_
      intro _ hw'
      obtain ⟨⟨dq, osq⟩, hw''⟩ := hw'
      subst hw''
      have bz := below_regrown w3 dq osq
      have S4 := Lib.hid (S3.out.later bz)
      have B5 := Lib.hid (bel_trans B4.out bz)
      clear bz i0 i1 i2 i3 il j0 j1 jl l0 l1 ll n0 n1 nl S3 B4 D1 D2 C1 C2
      generalize grow (redrawn w3 dq) osq = V at *
      go_upto_region 20 with (fail)
      go_cut [131] (fun s wx => s = .bool C ∧ BxP3 w.heap.size a b c d x y u v e f wx ∧ Below w.heap.size w wx)
      case first =>
        as_aux_lemma =>
        have hC := HC.out
        clear HC HD H
        by_cases h1 : one = 2
        · have z1 : (one == 2) = true := beq_iff_eq.2 h1
          rw [decide_eq_true (.inl h1)] at hC
          subst hC
          clear h1
          go_wp2
          go_meet
          exact ⟨rfl, S4.out, B5.out⟩
        have z1 : (one == 2) = false := beq_eq_false_iff_ne.2 h1
        by_cases h2 : two = 2
        · have z2 : (two == 2) = true := beq_iff_eq.2 h2
          rw [decide_eq_true (.inr (.inl h2))] at hC
          subst hC
          clear h1 h2
          go_wp2
          go_meet
          exact ⟨rfl, S4.out, B5.out⟩
        have z2 : (two == 2) = false := beq_eq_false_iff_ne.2 h2
        cases I with
        | false =>
          have hC : C = false := by rw [← hC]; exact decide_eq_false (fun h => h.elim h1 (fun h => h.elim h2 (fun h => Bool.noConfusion h.1)))
          subst hC
          clear h1 h2
          go_wp2
          go_meet
          exact ⟨rfl, S4.out, B5.out⟩
        | true =>
          have hC : (p1 && p2) = C := by rw [← hC]; cases p1 <;> cases p2 <;> simp [h1, h2]
          subst hC
          clear h1 h2
          obtain ⟨⟨i0, i1, i2, i3, il⟩, ⟨j0, j1, jl⟩, ⟨l0, l1, ll⟩, ⟨n0, n1, nl⟩⟩ := S4.out
          go_wp2_with fail
          refine (CN.out _).mono ?_; rintro e' w4 ⟨rfl, z4⟩
          have S5 := Lib.hid (S4.out.later z4)
          have B6 := Lib.hid (bel_trans B5.out z4)
          clear z4 S4 B5 i0 i1 i2 i3 il j0 j1 jl l0 l1 ll n0 n1 nl
          go_wp2_with fail
          refine (CP1.out _).mono ?_; rintro e' w5 ⟨rfl, z5⟩
          have S6 := Lib.hid (S5.out.later z5)
          have B7 := Lib.hid (bel_trans B6.out z5)
          clear z5 S5 B6
          cases p1 with
          | false =>
            go_wp2
            go_meet
            exact ⟨rfl, S6.out, B7.out⟩
          | true =>
            obtain ⟨⟨i0, i1, i2, i3, il⟩, ⟨j0, j1, jl⟩, ⟨l0, l1, ll⟩, ⟨n0, n1, nl⟩⟩ := S6.out
            go_wp2_with fail
            refine (CM.out _).mono ?_; rintro e' w6 ⟨rfl, z6⟩
            have S7 := Lib.hid (S6.out.later z6)
            have B8 := Lib.hid (bel_trans B7.out z6)
            clear z6 S6 B7 i0 i1 i2 i3 il j0 j1 jl l0 l1 ll n0 n1 nl
            go_wp2_with fail
            refine (CP2.out _).mono ?_; rintro e' w7 ⟨rfl, z7⟩
            have S8 := Lib.hid (S7.out.later z7)
            have B9 := Lib.hid (bel_trans B8.out z7)
            clear z7 S7 B8
            go_wp2
            go_meet
            exact ⟨rfl, S8.out, B9.out⟩
      case rest =>
        as_aux_lemma =>
        obtain ⟨rfl, hS, hB⟩ := hcut
        clear S4 B5 HC
        have S5 := Lib.hid hS
        have B6 := Lib.hid hB
        clear hS hB
        cases C with
        | true =>
          go_wp2
          go_ret
          exact ⟨by rw [H.out]; rfl, B6.out⟩
        | false =>
          go_upto_region 22 with (fail)
          go_cut [157] (fun s wx => s = .bool D ∧ Below w.heap.size w wx)
          case first =>
            as_aux_lemma =>
            have hD := HD.out
            clear HD H
            by_cases h1 : one = 0
            case neg =>
              have z1 : (one == 0) = false := beq_eq_false_iff_ne.2 h1
              have hD : D = false := by rw [← hD]; exact decide_eq_false (fun h => h1 h.1)
              subst hD
              clear h1
              go_wp2
              go_meet
              exact ⟨rfl, B6.out⟩
            have z1 : (one == 0) = true := beq_iff_eq.2 h1
            by_cases h2 : two = 0
            case neg =>
              have z2 : (two == 0) = false := beq_eq_false_iff_ne.2 h2
              have hD : D = false := by rw [← hD]; exact decide_eq_false (fun h => h2 h.2.1)
              subst hD
              clear h1 h2
              go_wp2
              go_meet
              exact ⟨rfl, B6.out⟩
            have z2 : (two == 0) = true := beq_iff_eq.2 h2
            cases O with
            | true =>
              have hD : D = true := by rw [← hD]; exact decide_eq_true ⟨h1, h2, .inl rfl⟩
              subst hD
              clear h1 h2
              go_wp2
              go_meet
              exact ⟨rfl, B6.out⟩
            | false =>
              have hD : (!q1 || !q2) = D := by rw [← hD]; cases q1 <;> cases q2 <;> simp [h1, h2]
              subst hD
              clear h1 h2
              obtain ⟨⟨i0, i1, i2, i3, il⟩, ⟨j0, j1, jl⟩, ⟨l0, l1, ll⟩, ⟨n0, n1, nl⟩⟩ := S5.out
              go_wp2_with fail
              refine (CN.out _).mono ?_; rintro e' w4 ⟨rfl, z4⟩
              have S6 := Lib.hid (S5.out.later z4)
              have B7 := Lib.hid (bel_trans B6.out z4)
              clear z4 S5 B6 i0 i1 i2 i3 il j0 j1 jl l0 l1 ll n0 n1 nl
              go_wp2_with fail
              refine (CQ1.out _).mono ?_; rintro e' w5 ⟨rfl, z5⟩
              have S7 := Lib.hid (S6.out.later z5)
              have B8 := Lib.hid (bel_trans B7.out z5)
              clear z5 S6 B7
              cases q1 with
              | false =>
                go_wp2
                go_meet
                exact ⟨rfl, B8.out⟩
              | true =>
                obtain ⟨⟨i0, i1, i2, i3, il⟩, ⟨j0, j1, jl⟩, ⟨l0, l1, ll⟩, ⟨n0, n1, nl⟩⟩ := S7.out
                go_wp2_with fail
                refine (CM.out _).mono ?_; rintro e' w6 ⟨rfl, z6⟩
                have B9 := Lib.hid (bel_trans B8.out z6)
                have S8 := Lib.hid (S7.out.later z6)
                clear z6 S7 B8 i0 i1 i2 i3 il j0 j1 jl l0 l1 ll n0 n1 nl
                go_wp2_with fail
                refine (CQ2.out _).mono ?_; rintro e' w7 ⟨rfl, z7⟩
                cases q2
                all_goals
                  go_wp2
                  go_meet
                  exact ⟨rfl, bel_trans B9.out z7⟩
          case rest =>
            obtain ⟨rfl, hB⟩ := hcut
            cases D
            all_goals
              go_wp2
              go_ret
              exact ⟨by rw [H.out]; rfl, hB⟩
theorem refRing_is {a b c d x y u v e f r k : Int} (hk : ringC a b c d x y u v e f r = k) (a0 : -536870912 ≤ a) (ac : a ≤ c) (c1 : c ≤ 536870912) (b0 : -536870912 ≤ b) (bd : b ≤ d) (d1 : d ≤ 536870912) (x0 : -536870912 ≤ x) (x1 : x ≤ 536870912) (y0 : -536870912 ≤ y) (y1 : y ≤ 536870912) (u0 : -536870912 ≤ u) (u1 : u ≤ 536870912) (v0 : -536870912 ≤ v) (v1 : v ≤ 536870912) (e0 : -536870912 ≤ e) (e1 : e ≤ 536870912) (f0 : -536870912 ≤ f) (f1 : f ≤ 536870912) (rb : r ≤ 1073741824) (w : World) :
    Calls Try.prog 22 #[boxV a b c d, ptV x y, ptV u v, ptV e f, .int .i64 r] w fun e' w' => e' = .returned (.int .i64 k) ∧ Below w.heap.size w w' := hk ▸ refRing_any a b c d x y u v e f r a0 ac c1 b0 bd d1 x0 x1 y0 y1 u0 u1 v0 v1 e0 e1 f0 f1 rb w

end Go.Proofs.Ytoofbbmddddlcaa
