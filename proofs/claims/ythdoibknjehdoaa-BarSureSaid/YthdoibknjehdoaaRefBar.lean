/- Contracts of the document's answer for layer 8: what BarHas and Bar return for every point up to Far, every box that may be, all ends up to Far and every half width up to 2 to the 30. -/
import Derived.Test.YthdoibknjehdoaaRefLine
import Derived.Test.YthdoibknjehdoaaBarTally
import Derived.Lib.QuietBelow
namespace Go.Proofs.Ythdoibknjehdoaa
open Go.RowKit
open Go.Sort (grow)

set_option maxHeartbeats 4000000 in
theorem refBarHas_any (s t x y u v r : Int) (s0 : -536870912 ≤ s) (s1 : s ≤ 536870912) (t0 : -536870912 ≤ t) (t1 : t ≤ 536870912) (x0 : -536870912 ≤ x) (x1 : x ≤ 536870912) (y0 : -536870912 ≤ y) (y1 : y ≤ 536870912) (u0 : -536870912 ≤ u) (u1 : u ≤ 536870912) (v0 : -536870912 ≤ v) (v1 : v ≤ 536870912) (rb : r ≤ 1073741824) (w : World) :
    Calls Try.prog 17 #[ptV s t, ptV x y, ptV u v, .int .i64 r] w fun e w' => e = .returned (.bool (barB x y u v r s t)) ∧ Below w.heap.size w w' := by
  have S0 := Lib.hid (p3_new w s t x y u v 25)
  have B0 := Lib.hid (bel_p3 w s t x y u v 25)
  obtain ⟨k, hk⟩ : ∃ k, crI x y u v s t = k := ⟨_, rfl⟩
  obtain ⟨o, ho⟩ : ∃ o, dotI x y u v s t = o := ⟨_, rfl⟩
  obtain ⟨L, hL⟩ : ∃ L, sqI x y u v = L := ⟨_, rfl⟩
  have kb := crI_bd x0 x1 y0 y1 u0 u1 v0 v1 s0 s1 t0 t1
  have ob := dotI_bd x0 x1 y0 y1 u0 u1 v0 v1 s0 s1 t0 t1
  have Lb := sqI_bd x0 x1 y0 y1 u0 u1 v0 v1
  rw [hk] at kb
  rw [ho] at ob
  rw [hL] at Lb
  have C1 := Lib.hid (fun w => refDot_is ho x0 x1 y0 y1 u0 u1 v0 v1 s0 s1 t0 t1 w)
  have C2 := Lib.hid (fun w => refDist_is hL x0 x1 y0 y1 u0 u1 v0 v1 w)
  have C3 := Lib.hid (fun w => refCross_is hk x0 x1 y0 y1 u0 u1 v0 v1 s0 s1 t0 t1 w)
  have H0 := Lib.hid (fun h : r < 1 ∨ L = 0 => barB_none (s := s) (t := t) (hL ▸ h : r < 1 ∨ sqI x y u v = 0))
  have H1 := Lib.hid (fun (h1 : 1 ≤ r) (h2 : 0 < L) => barB_at h1 h2 hL ho hk)
  clear hk ho hL s0 s1 t0 t1 x0 x1 y0 y1 u0 u1 v0 v1
  go_enter Try.func17, Try.ntmps17
  go_wp2_with fail
  generalize ((w.alloc (.cells #[.int .i64 s, .int .i64 t] 25)).alloc (.cells #[.int .i64 x, .int .i64 y] 25)).alloc (.cells #[.int .i64 u, .int .i64 v] 25) = W at *
  obtain ⟨⟨i0, i1, il⟩, ⟨j0, j1, jl⟩, ⟨l0, l1, ll⟩⟩ := S0.out
  have i0 := cell_regrown i0
  have i1 := cell_regrown i1
  have j0 := cell_regrown j0
  have j1 := cell_regrown j1
  have l0 := cell_regrown l0
  have l1 := cell_regrown l1
  have D1 := Lib.hid (fun p : Regrown => Calls.regrown_of (C1.out (grow (redrawn W p.d) p.os)))
  have D2 := Lib.hid (fun p : Regrown => Calls.regrown_of (C2.out (grow (redrawn W p.d) p.os)))
  refine wp_region_quiet_below (by kernel_rfl) (by kernel_rfl) ?_
  repeat (go_big_quiet_step (first | with_reducible exact D1.out _ | with_reducible exact D2.out _))
  refine wpQuiet_nil ?_
  intro _ hw'
  obtain ⟨⟨dq, osq⟩, hw''⟩ := hw'
  subst hw''
  have bz := below_regrown W dq osq
  have S1 := Lib.hid (S0.out.later bz)
  have B1 := Lib.hid (bel_trans B0.out bz)
  clear bz i0 i1 il j0 j1 jl l0 l1 ll S0 B0 D1 D2 C1 C2
  generalize grow (redrawn W dq) osq = V at *
  by_cases h1 : 1 ≤ r
  case neg =>
    have H := Lib.hid (H0.out (.inl (by omega)))
    have e1 : decide (1 ≤ r) = false := decide_eq_false h1
    go_wp2
    go_ret
    exact ⟨by rw [H.out]; rfl, B1.out⟩
  have e1 : decide (1 ≤ r) = true := decide_eq_true h1
  by_cases h2 : 0 < L
  case neg =>
    have H := Lib.hid (H0.out (.inr (by omega)))
    have e2 : decide (0 < L) = false := decide_eq_false h2
    go_wp2
    go_ret
    exact ⟨by rw [H.out]; rfl, B1.out⟩
  have e2 : decide (0 < L) = true := decide_eq_true h2
  have H2 := H1.out h1 h2
  clear H0 H1
  by_cases h3 : 0 ≤ o
  case neg =>
    have e3 : decide (0 ≤ o) = false := decide_eq_false h3
    rw [e3] at H2
    have H := Lib.hid H2
    clear H2
    go_wp2
    go_ret
    exact ⟨by rw [H.out]; rfl, B1.out⟩
  have e3 : decide (0 ≤ o) = true := decide_eq_true h3
  by_cases h4 : o ≤ L
  case neg =>
    have e4 : decide (o ≤ L) = false := decide_eq_false h4
    rw [e3, e4] at H2
    have H := Lib.hid H2
    clear H2
    go_wp2
    go_ret
    exact ⟨by rw [H.out]; rfl, B1.out⟩
  have e4 : decide (o ≤ L) = true := decide_eq_true h4
  obtain ⟨g, hg⟩ : ∃ g, decide (k * k ≤ r * r * L) = g := ⟨_, rfl⟩
  rw [e3, e4, hg] at H2
  have H := Lib.hid H2
  have C6 := Lib.hid (fun w => refWithin_is hg kb.1 kb.2 h1 rb Lb.1 Lb.2 w)
  clear hg H2 h1 h2 h3 h4 kb ob Lb
  obtain ⟨⟨i0, i1, il⟩, ⟨j0, j1, jl⟩, ⟨l0, l1, ll⟩⟩ := S1.out
  go_wp2_with fail
  refine (C3.out _).mono ?_; rintro e w1 ⟨rfl, z1⟩
  have B2 := Lib.hid (bel_trans B1.out z1)
  clear z1 B1 i0 i1 il j0 j1 jl l0 l1 ll
  go_wp2_with fail
  refine (C6.out _).mono ?_; rintro e w2 ⟨rfl, z2⟩
  go_wp2
  go_ret
  exact ⟨by rw [H.out]; rfl, bel_trans B2.out z2⟩
theorem refBarHas_is {s t x y u v r : Int} {h : Bool} (hh : barB x y u v r s t = h) (s0 : -536870912 ≤ s) (s1 : s ≤ 536870912) (t0 : -536870912 ≤ t) (t1 : t ≤ 536870912) (x0 : -536870912 ≤ x) (x1 : x ≤ 536870912) (y0 : -536870912 ≤ y) (y1 : y ≤ 536870912) (u0 : -536870912 ≤ u) (u1 : u ≤ 536870912) (v0 : -536870912 ≤ v) (v1 : v ≤ 536870912) (rb : r ≤ 1073741824) (w : World) :
    Calls Try.prog 17 #[ptV s t, ptV x y, ptV u v, .int .i64 r] w fun e w' => e = .returned (.bool h) ∧ Below w.heap.size w w' := hh ▸ refBarHas_any s t x y u v r s0 s1 t0 t1 x0 x1 y0 y1 u0 u1 v0 v1 rb w

set_option maxRecDepth 100000 in
set_option maxHeartbeats 32000000 in
theorem refBar_any (a b c d x y u v r : Int) (a0 : -536870912 ≤ a) (ac : a ≤ c) (c1 : c ≤ 536870912) (b0 : -536870912 ≤ b) (bd : b ≤ d) (d1 : d ≤ 536870912) (x0 : -536870912 ≤ x) (x1 : x ≤ 536870912) (y0 : -536870912 ≤ y) (y1 : y ≤ 536870912) (u0 : -536870912 ≤ u) (u1 : u ≤ 536870912) (v0 : -536870912 ≤ v) (v1 : v ≤ 536870912) (rb : r ≤ 1073741824) (w : World) :
    Calls Try.prog 16 #[boxV a b c d, ptV x y, ptV u v, .int .i64 r] w fun e w' => e = .returned (.int .i64 (barK a b c d x y u v r)) ∧ Below w.heap.size w w' := by
  have X0 := Lib.hid (bxpp_new w a b c d x y u v 23 25)
  have B0 := Lib.hid (bel_alloc (bel_alloc (bel_alloc (bel_refl w) (.cells #[.int .i64 a, .int .i64 b, .int .i64 c, .int .i64 d] 23)) (.cells #[.int .i64 x, .int .i64 y] 25)) (.cells #[.int .i64 u, .int .i64 v] 25))
  obtain ⟨L, hL⟩ : ∃ L, sqI x y u v = L := ⟨_, rfl⟩
  have Lb := sqI_bd x0 x1 y0 y1 u0 u1 v0 v1
  rw [hL] at Lb
  have CD := Lib.hid (fun w => refDist_is hL x0 x1 y0 y1 u0 u1 v0 v1 w)
  have HO := Lib.hid (fun h : r < 1 ∨ L = 0 => (show barK a b c d x y u v r = 0 by unfold barK; rw [hL, if_pos h]))
  by_cases hr : r < 1
  · have H := Lib.hid (HO.out (.inl hr))
    have e1 : decide (r < 1) = true := decide_eq_true hr
    clear HO a0 ac c1 b0 bd d1 x0 x1 y0 y1 u0 u1 v0 v1 rb hL Lb
    go_enter Try.func16, Try.ntmps16
    go_wp2_with fail
    generalize (((w.alloc (.cells #[.int .i64 a, .int .i64 b, .int .i64 c, .int .i64 d] 23)).alloc (.cells #[.int .i64 x, .int .i64 y] 25)).alloc (.cells #[.int .i64 u, .int .i64 v] 25)) = W at *
    obtain ⟨⟨i0, i1, i2, i3, il⟩, ⟨j0, j1, jl⟩, ⟨l0, l1, ll⟩⟩ := X0.out
    go_wp2_with fail
    refine (CD.out _).mono ?_; rintro e w1 ⟨rfl, z1⟩
    go_wp2
    go_ret
    exact ⟨by rw [H.out]; rfl, bel_trans B0.out z1⟩
  have e1 : decide (r < 1) = false := decide_eq_false hr
  by_cases hL0 : L = 0
  · have H := Lib.hid (HO.out (.inr hL0))
    have e2 : (L == 0) = true := beq_iff_eq.2 hL0
    clear HO a0 ac c1 b0 bd d1 x0 x1 y0 y1 u0 u1 v0 v1 rb hL Lb hL0
    go_enter Try.func16, Try.ntmps16
    go_wp2_with fail
    generalize (((w.alloc (.cells #[.int .i64 a, .int .i64 b, .int .i64 c, .int .i64 d] 23)).alloc (.cells #[.int .i64 x, .int .i64 y] 25)).alloc (.cells #[.int .i64 u, .int .i64 v] 25)) = W at *
    obtain ⟨⟨i0, i1, i2, i3, il⟩, ⟨j0, j1, jl⟩, ⟨l0, l1, ll⟩⟩ := X0.out
    go_wp2_with fail
    refine (CD.out _).mono ?_; rintro e w1 ⟨rfl, z1⟩
    go_wp2
    go_ret
    exact ⟨by rw [H.out]; rfl, bel_trans B0.out z1⟩
  have e2 : (L == 0) = false := beq_eq_false_iff_ne.2 hL0
  have ra : 1 ≤ r := by omega
  have hLp : 0 < L := by omega
  have CC := Lib.hid (fun w => refCorners_any a b c d w)
  clear HO
  obtain ⟨k0, hk0⟩ : ∃ k, crI x y u v a b = k := ⟨_, rfl⟩
  obtain ⟨o0, ho0⟩ : ∃ o, dotI x y u v a b = o := ⟨_, rfl⟩
  obtain ⟨g0, hg0⟩ : ∃ g, decide (k0 * k0 ≤ r * r * L) = g := ⟨_, rfl⟩
  obtain ⟨p0, hp0⟩ : ∃ h, barB x y u v r a b = h := ⟨_, rfl⟩
  obtain ⟨l0, hl0⟩ : ∃ h, leftB x y u v r a b = h := ⟨_, rfl⟩
  obtain ⟨r0, hr0⟩ : ∃ h, rightB x y u v r a b = h := ⟨_, rfl⟩
  obtain ⟨a0', ha0⟩ : ∃ h, aheadB x y u v a b = h := ⟨_, rfl⟩
  obtain ⟨b0', hb0⟩ : ∃ h, behindB x y u v a b = h := ⟨_, rfl⟩
  have kb0 := crI_bd x0 x1 y0 y1 u0 u1 v0 v1 (s := a) (t := b) (by omega) (by omega) (by omega) (by omega)
  rw [hk0] at kb0
  have BC0 := Lib.hid (bar_corner ra hLp hL ho0 hk0 hg0 hp0 hl0 hr0 ha0 hb0)
  have CO0 := Lib.hid (fun w => refDot_is ho0 x0 x1 y0 y1 u0 u1 v0 v1 (by omega) (by omega) (by omega) (by omega) w)
  have CK0 := Lib.hid (fun w => refCross_is hk0 x0 x1 y0 y1 u0 u1 v0 v1 (by omega) (by omega) (by omega) (by omega) w)
  have CW0 := Lib.hid (fun w => refWithin_is hg0 kb0.1 kb0.2 ra rb Lb.1 Lb.2 w)
  have CH0 := Lib.hid (fun w => refBarHas_is hp0 (by omega) (by omega) (by omega) (by omega) x0 x1 y0 y1 u0 u1 v0 v1 rb w)
  obtain ⟨k1, hk1⟩ : ∃ k, crI x y u v c b = k := ⟨_, rfl⟩
  obtain ⟨o1, ho1⟩ : ∃ o, dotI x y u v c b = o := ⟨_, rfl⟩
  obtain ⟨g1, hg1⟩ : ∃ g, decide (k1 * k1 ≤ r * r * L) = g := ⟨_, rfl⟩
  obtain ⟨p1, hp1⟩ : ∃ h, barB x y u v r c b = h := ⟨_, rfl⟩
  obtain ⟨l1, hl1⟩ : ∃ h, leftB x y u v r c b = h := ⟨_, rfl⟩
  obtain ⟨r1, hr1⟩ : ∃ h, rightB x y u v r c b = h := ⟨_, rfl⟩
  obtain ⟨a1', ha1⟩ : ∃ h, aheadB x y u v c b = h := ⟨_, rfl⟩
  obtain ⟨b1', hb1⟩ : ∃ h, behindB x y u v c b = h := ⟨_, rfl⟩
  have kb1 := crI_bd x0 x1 y0 y1 u0 u1 v0 v1 (s := c) (t := b) (by omega) (by omega) (by omega) (by omega)
  rw [hk1] at kb1
  have BC1 := Lib.hid (bar_corner ra hLp hL ho1 hk1 hg1 hp1 hl1 hr1 ha1 hb1)
  have CO1 := Lib.hid (fun w => refDot_is ho1 x0 x1 y0 y1 u0 u1 v0 v1 (by omega) (by omega) (by omega) (by omega) w)
  have CK1 := Lib.hid (fun w => refCross_is hk1 x0 x1 y0 y1 u0 u1 v0 v1 (by omega) (by omega) (by omega) (by omega) w)
  have CW1 := Lib.hid (fun w => refWithin_is hg1 kb1.1 kb1.2 ra rb Lb.1 Lb.2 w)
  have CH1 := Lib.hid (fun w => refBarHas_is hp1 (by omega) (by omega) (by omega) (by omega) x0 x1 y0 y1 u0 u1 v0 v1 rb w)
  obtain ⟨k2, hk2⟩ : ∃ k, crI x y u v a d = k := ⟨_, rfl⟩
  obtain ⟨o2, ho2⟩ : ∃ o, dotI x y u v a d = o := ⟨_, rfl⟩
  obtain ⟨g2, hg2⟩ : ∃ g, decide (k2 * k2 ≤ r * r * L) = g := ⟨_, rfl⟩
  obtain ⟨p2, hp2⟩ : ∃ h, barB x y u v r a d = h := ⟨_, rfl⟩
  obtain ⟨l2, hl2⟩ : ∃ h, leftB x y u v r a d = h := ⟨_, rfl⟩
  obtain ⟨r2, hr2⟩ : ∃ h, rightB x y u v r a d = h := ⟨_, rfl⟩
  obtain ⟨a2', ha2⟩ : ∃ h, aheadB x y u v a d = h := ⟨_, rfl⟩
  obtain ⟨b2', hb2⟩ : ∃ h, behindB x y u v a d = h := ⟨_, rfl⟩
  have kb2 := crI_bd x0 x1 y0 y1 u0 u1 v0 v1 (s := a) (t := d) (by omega) (by omega) (by omega) (by omega)
  rw [hk2] at kb2
  have BC2 := Lib.hid (bar_corner ra hLp hL ho2 hk2 hg2 hp2 hl2 hr2 ha2 hb2)
  have CO2 := Lib.hid (fun w => refDot_is ho2 x0 x1 y0 y1 u0 u1 v0 v1 (by omega) (by omega) (by omega) (by omega) w)
  have CK2 := Lib.hid (fun w => refCross_is hk2 x0 x1 y0 y1 u0 u1 v0 v1 (by omega) (by omega) (by omega) (by omega) w)
  have CW2 := Lib.hid (fun w => refWithin_is hg2 kb2.1 kb2.2 ra rb Lb.1 Lb.2 w)
  have CH2 := Lib.hid (fun w => refBarHas_is hp2 (by omega) (by omega) (by omega) (by omega) x0 x1 y0 y1 u0 u1 v0 v1 rb w)
  obtain ⟨k3, hk3⟩ : ∃ k, crI x y u v c d = k := ⟨_, rfl⟩
  obtain ⟨o3, ho3⟩ : ∃ o, dotI x y u v c d = o := ⟨_, rfl⟩
  obtain ⟨g3, hg3⟩ : ∃ g, decide (k3 * k3 ≤ r * r * L) = g := ⟨_, rfl⟩
  obtain ⟨p3, hp3⟩ : ∃ h, barB x y u v r c d = h := ⟨_, rfl⟩
  obtain ⟨l3, hl3⟩ : ∃ h, leftB x y u v r c d = h := ⟨_, rfl⟩
  obtain ⟨r3, hr3⟩ : ∃ h, rightB x y u v r c d = h := ⟨_, rfl⟩
  obtain ⟨a3', ha3⟩ : ∃ h, aheadB x y u v c d = h := ⟨_, rfl⟩
  obtain ⟨b3', hb3⟩ : ∃ h, behindB x y u v c d = h := ⟨_, rfl⟩
  have kb3 := crI_bd x0 x1 y0 y1 u0 u1 v0 v1 (s := c) (t := d) (by omega) (by omega) (by omega) (by omega)
  rw [hk3] at kb3
  have BC3 := Lib.hid (bar_corner ra hLp hL ho3 hk3 hg3 hp3 hl3 hr3 ha3 hb3)
  have CO3 := Lib.hid (fun w => refDot_is ho3 x0 x1 y0 y1 u0 u1 v0 v1 (by omega) (by omega) (by omega) (by omega) w)
  have CK3 := Lib.hid (fun w => refCross_is hk3 x0 x1 y0 y1 u0 u1 v0 v1 (by omega) (by omega) (by omega) (by omega) w)
  have CW3 := Lib.hid (fun w => refWithin_is hg3 kb3.1 kb3.2 ra rb Lb.1 Lb.2 w)
  have CH3 := Lib.hid (fun w => refBarHas_is hp3 (by omega) (by omega) (by omega) (by omega) x0 x1 y0 y1 u0 u1 v0 v1 rb w)
  have HK := Lib.hid (fun n l r' e f (F : Five (p0, p1, p2, p3) (l0, l1, l2, l3) (r0, r1, r2, r3) (a0', a1', a2', a3') (b0', b1', b2', b3') 4 n l r' e f) => barK_of (show ¬ (r < 1 ∨ sqI x y u v = 0) by rw [hL]; omega) (all4_fnd hp0 hp1 hp2 hp3) (all4_fnd hl0 hl1 hl2 hl3) (all4_fnd hr0 hr1 hr2 hr3) (all4_fnd ha0 ha1 ha2 ha3) (all4_fnd hb0 hb1 hb2 hb3) F)
  clear hp0 hp1 hp2 hp3 hl0 hl1 hl2 hl3 hr0 hr1 hr2 hr3 ha0 ha1 ha2 ha3 hb0 hb1 hb2 hb3 hk0 hk1 hk2 hk3 ho0 ho1 ho2 ho3 hg0 hg1 hg2 hg3 kb0 kb1 kb2 kb3 a0 ac c1 b0 bd d1 x0 x1 y0 y1 u0 u1 v0 v1 rb hL Lb hL0 hLp hr ra
  go_enter Try.func16, Try.ntmps16
  go_wp2_with fail
  generalize (((w.alloc (.cells #[.int .i64 a, .int .i64 b, .int .i64 c, .int .i64 d] 23)).alloc (.cells #[.int .i64 x, .int .i64 y] 25)).alloc (.cells #[.int .i64 u, .int .i64 v] 25)) = W at *
  obtain ⟨⟨i0, i1, i2, i3, il⟩, ⟨j0, j1, jl⟩, ⟨l0', l1', ll⟩⟩ := X0.out
  go_wp2_with fail
  refine (CD.out _).mono ?_; rintro e w0 ⟨rfl, z0⟩
  have X1 := Lib.hid (X0.out.later z0)
  have B1 := Lib.hid (bel_trans B0.out z0)
  clear z0 X0 B0 i0 i1 i2 i3 il j0 j1 jl l0' l1' ll CD
  obtain ⟨⟨i0, i1, i2, i3, il⟩, _, _⟩ := X1.out
  go_wp2_with fail
  refine (CC.out _).mono ?_; rintro e w1 ⟨rfl, z1⟩
  have X2 := Lib.hid ((X1.out.later z1).alloc (.cells #[.int .i64 a, .int .i64 b, .int .i64 c, .int .i64 b, .int .i64 a, .int .i64 d, .int .i64 c, .int .i64 d] 36))
  have B2 := Lib.hid (bel_alloc (bel_trans B1.out z1) (.cells #[.int .i64 a, .int .i64 b, .int .i64 c, .int .i64 b, .int .i64 a, .int .i64 d, .int .i64 c, .int .i64 d] 36))
  have E2 := eightAt_new w1 a b c d 36
  clear z1 X1 B1 i0 i1 i2 i3 il CC e1 e2
  obtain ⟨m, hm'⟩ : ∃ m, w1.heap.size = m := ⟨_, rfl⟩
  go_upto_region 5 with (fail)
  rw [hm'] at E2
  generalize w1.alloc (.cells #[.int .i64 a, .int .i64 b, .int .i64 c, .int .i64 b, .int .i64 a, .int .i64 d, .int .i64 c, .int .i64 d] 36) = W1 at *
  try rw [hm']
  clear hm'
  have E2 := Lib.hid E2
  go_wp2_with fail
  go_loopw [11, 12, 13, 14, 15, 16] (fun sn sl sr sa sb si wr => FiveAt w.heap.size m w a b c d x y u v (p0, p1, p2, p3) (l0, l1, l2, l3) (r0, r1, r2, r3) (a0', a1', a2', a3') (b0', b1', b2', b3') sn sl sr sa sb si wr) (fun _ _ _ _ _ si _ => (4 - intOf si).toNat)
  case atStart => exact ⟨E2.out, X2.out, B2.out, 0, 0, 0, 0, 0, rfl, rfl, rfl, rfl, rfl, .inl ⟨rfl, ⟨rfl, rfl, rfl, rfl, rfl⟩⟩⟩
  case round =>
    obtain ⟨hE, hS, hB, n, l, r', e, f, rfl, rfl, rfl, rfl, rfl, hc⟩ := hrel
    clear X2 B2 E2
    have E := Lib.hid hE
    have S := Lib.hid hS
    have B := Lib.hid hB
    clear hE hS hB
    rcases hc with ⟨rfl, hF⟩ | ⟨rfl, hF⟩ | ⟨rfl, hF⟩ | ⟨rfl, hF⟩ | ⟨rfl, hF⟩
    · obtain ⟨n0, n4⟩ : 0 ≤ n ∧ n ≤ 4 := by rw [hF.h]; exact fnd_bd _ _
      obtain ⟨m0, m4⟩ : 0 ≤ l ∧ l ≤ 4 := by rw [hF.l]; exact fnd_bd _ _
      obtain ⟨q0, q4⟩ : 0 ≤ r' ∧ r' ≤ 4 := by rw [hF.r]; exact fnd_bd _ _
      obtain ⟨s0, s4⟩ : 0 ≤ e ∧ e ≤ 4 := by rw [hF.a]; exact fnd_bd _ _
      obtain ⟨t0, t4⟩ : 0 ≤ f ∧ f ≤ 4 := by rw [hF.b]; exact fnd_bd _ _
      have F2 := Lib.hid (show Five (p0, p1, p2, p3) (l0, l1, l2, l3) (r0, r1, r2, r3) (a0', a1', a2', a3') (b0', b1', b2', b3') 1 (if p0 then n + 1 else n) (if l0 then l + 1 else l) (if r0 then r' + 1 else r') (if a0' then e + 1 else e) (if b0' then f + 1 else f) from ⟨fnd0' hF.h, fnd0' hF.l, fnd0' hF.r, fnd0' hF.a, fnd0' hF.b⟩)
      clear hF HK
      obtain ⟨_, ⟨j0, j1, jl⟩, ⟨l0', l1', ll⟩⟩ := S.out
      obtain ⟨y0, y1, y2, y3, y4, y5, y6, y7, yl⟩ := E.out
      go_wp2_with fail
      have j0 := cell_regrown j0
      have j1 := cell_regrown j1
      have l0' := cell_regrown l0'
      have l1' := cell_regrown l1'
      have x0 := cell_regrown y0
      have x1 := cell_regrown y1
      clear jl ll y0 y1 y2 y3 y4 y5 y6 y7 yl
      have D1 := Lib.hid (fun p : Regrown => Calls.regrown_of (CO0.out (grow (redrawn wr p.d) p.os)))
      have D2 := Lib.hid (fun p : Regrown => Calls.regrown_of (CK0.out (grow (redrawn wr p.d) p.os)))
      refine wp_region_quiet_below (by kernel_rfl) (by kernel_rfl) ?_
      repeat (go_big_quiet_step (first | with_reducible exact D1.out _ | with_reducible exact D2.out _))
      refine wpQuiet_nil ?_
      intro _ hw'
      obtain ⟨⟨dt, ost⟩, hw''⟩ := hw'
      subst hw''
      have zz := below_regrown wr dt ost
      have S2 := Lib.hid (S.out.later zz)
      have E3 := Lib.hid (E.out.later zz)
      have B3 := Lib.hid (bel_trans B.out zz)
      clear x0 x1 j0 j1 l0' l1' D1 D2 S B E zz
      generalize grow (redrawn wr dt) ost = U at *
      go_wp2_with fail
      refine (CW0.out _).mono ?_; rintro e' w2 ⟨rfl, z2⟩
      have S4 := Lib.hid (S2.out.later z2)
      have E4 := Lib.hid (E3.out.later z2)
      have B4 := Lib.hid (bel_trans B3.out z2)
      clear z2 S2 E3 B3
      obtain ⟨_, ⟨j0, j1, jl⟩, ⟨l0', l1', ll⟩⟩ := S4.out
      obtain ⟨y0, y1, y2, y3, y4, y5, y6, y7, yl⟩ := E4.out
      go_upto_region 11 with (fail)
      have j0 := cell_regrown j0
      have j1 := cell_regrown j1
      have l0' := cell_regrown l0'
      have l1' := cell_regrown l1'
      have x0 := cell_regrown y0
      have x1 := cell_regrown y1
      clear jl ll y0 y1 y2 y3 y4 y5 y6 y7 yl
      have D1 := Lib.hid (fun p : Regrown => Calls.regrown_of (CH0.out (grow (redrawn w2 p.d) p.os)))
      refine wp_region_quiet_below (by kernel_rfl) (by kernel_rfl) ?_
      repeat (go_big_quiet_step (with_reducible exact D1.out _))
      refine wpQuiet_nil ?_
      intro _ hw'
      obtain ⟨⟨du, osu⟩, hw''⟩ := hw'
      subst hw''
      have zz := below_regrown w2 du osu
      have S5 := Lib.hid (S4.out.later zz)
      have E5 := Lib.hid (E4.out.later zz)
      have B5 := Lib.hid (bel_trans B4.out zz)
      clear x0 x1 j0 j1 l0' l1' D1 S4 B4 E4 zz
      generalize grow (redrawn w2 du) osu = U2 at *
      obtain ⟨hA1, hA2⟩ := BC0.out
      clear CO0 CO1 CO2 CO3 CK0 CK1 CK2 CK3 CW0 CW1 CW2 CW3 CH0 CH1 CH2 CH3 BC0 BC1 BC2 BC3
      rcases hA1 with ⟨rfl, rfl, rfl⟩ | ⟨rfl, rfl, rfl, u1, u2⟩ | ⟨rfl, rfl, rfl, u1, u2⟩
      all_goals
        rcases hA2 with ⟨rfl, rfl, rfl, u3, u4⟩ | ⟨rfl, rfl, rfl, u3, u4⟩ | ⟨rfl, rfl, rfl, u3, u4⟩
      all_goals
        go_wp2_with fail
        go_roundw
        case rel => exact ⟨E5.out, S5.out, B5.out, _, _, _, _, _, rfl, rfl, rfl, rfl, rfl, .inr (.inl (⟨rfl, F2.out⟩))⟩
        case measure => simp [intOf]
    · obtain ⟨n0, n4⟩ : 0 ≤ n ∧ n ≤ 4 := by rw [hF.h]; exact fnd_bd _ _
      obtain ⟨m0, m4⟩ : 0 ≤ l ∧ l ≤ 4 := by rw [hF.l]; exact fnd_bd _ _
      obtain ⟨q0, q4⟩ : 0 ≤ r' ∧ r' ≤ 4 := by rw [hF.r]; exact fnd_bd _ _
      obtain ⟨s0, s4⟩ : 0 ≤ e ∧ e ≤ 4 := by rw [hF.a]; exact fnd_bd _ _
      obtain ⟨t0, t4⟩ : 0 ≤ f ∧ f ≤ 4 := by rw [hF.b]; exact fnd_bd _ _
      have F2 := Lib.hid (show Five (p0, p1, p2, p3) (l0, l1, l2, l3) (r0, r1, r2, r3) (a0', a1', a2', a3') (b0', b1', b2', b3') 2 (if p1 then n + 1 else n) (if l1 then l + 1 else l) (if r1 then r' + 1 else r') (if a1' then e + 1 else e) (if b1' then f + 1 else f) from ⟨fnd1' hF.h, fnd1' hF.l, fnd1' hF.r, fnd1' hF.a, fnd1' hF.b⟩)
      clear hF HK
      obtain ⟨_, ⟨j0, j1, jl⟩, ⟨l0', l1', ll⟩⟩ := S.out
      obtain ⟨y0, y1, y2, y3, y4, y5, y6, y7, yl⟩ := E.out
      go_wp2_with fail
      have j0 := cell_regrown j0
      have j1 := cell_regrown j1
      have l0' := cell_regrown l0'
      have l1' := cell_regrown l1'
      have x0 := cell_regrown y2
      have x1 := cell_regrown y3
      clear jl ll y0 y1 y2 y3 y4 y5 y6 y7 yl
      have D1 := Lib.hid (fun p : Regrown => Calls.regrown_of (CO1.out (grow (redrawn wr p.d) p.os)))
      have D2 := Lib.hid (fun p : Regrown => Calls.regrown_of (CK1.out (grow (redrawn wr p.d) p.os)))
      refine wp_region_quiet_below (by kernel_rfl) (by kernel_rfl) ?_
      repeat (go_big_quiet_step (first | with_reducible exact D1.out _ | with_reducible exact D2.out _))
      refine wpQuiet_nil ?_
      intro _ hw'
      obtain ⟨⟨dt, ost⟩, hw''⟩ := hw'
      subst hw''
      have zz := below_regrown wr dt ost
      have S2 := Lib.hid (S.out.later zz)
      have E3 := Lib.hid (E.out.later zz)
      have B3 := Lib.hid (bel_trans B.out zz)
      clear x0 x1 j0 j1 l0' l1' D1 D2 S B E zz
      generalize grow (redrawn wr dt) ost = U at *
      go_wp2_with fail
      refine (CW1.out _).mono ?_; rintro e' w2 ⟨rfl, z2⟩
      have S4 := Lib.hid (S2.out.later z2)
      have E4 := Lib.hid (E3.out.later z2)
      have B4 := Lib.hid (bel_trans B3.out z2)
      clear z2 S2 E3 B3
      obtain ⟨_, ⟨j0, j1, jl⟩, ⟨l0', l1', ll⟩⟩ := S4.out
      obtain ⟨y0, y1, y2, y3, y4, y5, y6, y7, yl⟩ := E4.out
      go_upto_region 11 with (fail)
      have j0 := cell_regrown j0
      have j1 := cell_regrown j1
      have l0' := cell_regrown l0'
      have l1' := cell_regrown l1'
      have x0 := cell_regrown y2
      have x1 := cell_regrown y3
      clear jl ll y0 y1 y2 y3 y4 y5 y6 y7 yl
      have D1 := Lib.hid (fun p : Regrown => Calls.regrown_of (CH1.out (grow (redrawn w2 p.d) p.os)))
      refine wp_region_quiet_below (by kernel_rfl) (by kernel_rfl) ?_
      repeat (go_big_quiet_step (with_reducible exact D1.out _))
      refine wpQuiet_nil ?_
      intro _ hw'
      obtain ⟨⟨du, osu⟩, hw''⟩ := hw'
      subst hw''
      have zz := below_regrown w2 du osu
      have S5 := Lib.hid (S4.out.later zz)
      have E5 := Lib.hid (E4.out.later zz)
      have B5 := Lib.hid (bel_trans B4.out zz)
      clear x0 x1 j0 j1 l0' l1' D1 S4 B4 E4 zz
      generalize grow (redrawn w2 du) osu = U2 at *
      obtain ⟨hA1, hA2⟩ := BC1.out
      clear CO0 CO1 CO2 CO3 CK0 CK1 CK2 CK3 CW0 CW1 CW2 CW3 CH0 CH1 CH2 CH3 BC0 BC1 BC2 BC3
      rcases hA1 with ⟨rfl, rfl, rfl⟩ | ⟨rfl, rfl, rfl, u1, u2⟩ | ⟨rfl, rfl, rfl, u1, u2⟩
      all_goals
        rcases hA2 with ⟨rfl, rfl, rfl, u3, u4⟩ | ⟨rfl, rfl, rfl, u3, u4⟩ | ⟨rfl, rfl, rfl, u3, u4⟩
      all_goals
        go_wp2_with fail
        go_roundw
        case rel => exact ⟨E5.out, S5.out, B5.out, _, _, _, _, _, rfl, rfl, rfl, rfl, rfl, .inr (.inr (.inl (⟨rfl, F2.out⟩)))⟩
        case measure => simp [intOf]
    · obtain ⟨n0, n4⟩ : 0 ≤ n ∧ n ≤ 4 := by rw [hF.h]; exact fnd_bd _ _
      obtain ⟨m0, m4⟩ : 0 ≤ l ∧ l ≤ 4 := by rw [hF.l]; exact fnd_bd _ _
      obtain ⟨q0, q4⟩ : 0 ≤ r' ∧ r' ≤ 4 := by rw [hF.r]; exact fnd_bd _ _
      obtain ⟨s0, s4⟩ : 0 ≤ e ∧ e ≤ 4 := by rw [hF.a]; exact fnd_bd _ _
      obtain ⟨t0, t4⟩ : 0 ≤ f ∧ f ≤ 4 := by rw [hF.b]; exact fnd_bd _ _
      have F2 := Lib.hid (show Five (p0, p1, p2, p3) (l0, l1, l2, l3) (r0, r1, r2, r3) (a0', a1', a2', a3') (b0', b1', b2', b3') 3 (if p2 then n + 1 else n) (if l2 then l + 1 else l) (if r2 then r' + 1 else r') (if a2' then e + 1 else e) (if b2' then f + 1 else f) from ⟨fnd2' hF.h, fnd2' hF.l, fnd2' hF.r, fnd2' hF.a, fnd2' hF.b⟩)
      clear hF HK
      obtain ⟨_, ⟨j0, j1, jl⟩, ⟨l0', l1', ll⟩⟩ := S.out
      obtain ⟨y0, y1, y2, y3, y4, y5, y6, y7, yl⟩ := E.out
      go_wp2_with fail
      have j0 := cell_regrown j0
      have j1 := cell_regrown j1
      have l0' := cell_regrown l0'
      have l1' := cell_regrown l1'
      have x0 := cell_regrown y4
      have x1 := cell_regrown y5
      clear jl ll y0 y1 y2 y3 y4 y5 y6 y7 yl
      have D1 := Lib.hid (fun p : Regrown => Calls.regrown_of (CO2.out (grow (redrawn wr p.d) p.os)))
      have D2 := Lib.hid (fun p : Regrown => Calls.regrown_of (CK2.out (grow (redrawn wr p.d) p.os)))
      refine wp_region_quiet_below (by kernel_rfl) (by kernel_rfl) ?_
      repeat (go_big_quiet_step (first | with_reducible exact D1.out _ | with_reducible exact D2.out _))
      refine wpQuiet_nil ?_
      intro _ hw'
      obtain ⟨⟨dt, ost⟩, hw''⟩ := hw'
      subst hw''
      have zz := below_regrown wr dt ost
      have S2 := Lib.hid (S.out.later zz)
      have E3 := Lib.hid (E.out.later zz)
      have B3 := Lib.hid (bel_trans B.out zz)
      clear x0 x1 j0 j1 l0' l1' D1 D2 S B E zz
      generalize grow (redrawn wr dt) ost = U at *
      go_wp2_with fail
      refine (CW2.out _).mono ?_; rintro e' w2 ⟨rfl, z2⟩
      have S4 := Lib.hid (S2.out.later z2)
      have E4 := Lib.hid (E3.out.later z2)
      have B4 := Lib.hid (bel_trans B3.out z2)
      clear z2 S2 E3 B3
      obtain ⟨_, ⟨j0, j1, jl⟩, ⟨l0', l1', ll⟩⟩ := S4.out
      obtain ⟨y0, y1, y2, y3, y4, y5, y6, y7, yl⟩ := E4.out
      go_upto_region 11 with (fail)
      have j0 := cell_regrown j0
      have j1 := cell_regrown j1
      have l0' := cell_regrown l0'
      have l1' := cell_regrown l1'
      have x0 := cell_regrown y4
      have x1 := cell_regrown y5
      clear jl ll y0 y1 y2 y3 y4 y5 y6 y7 yl
      have D1 := Lib.hid (fun p : Regrown => Calls.regrown_of (CH2.out (grow (redrawn w2 p.d) p.os)))
      refine wp_region_quiet_below (by kernel_rfl) (by kernel_rfl) ?_
      repeat (go_big_quiet_step (with_reducible exact D1.out _))
      refine wpQuiet_nil ?_
      intro _ hw'
      obtain ⟨⟨du, osu⟩, hw''⟩ := hw'
      subst hw''
      have zz := below_regrown w2 du osu
      have S5 := Lib.hid (S4.out.later zz)
      have E5 := Lib.hid (E4.out.later zz)
      have B5 := Lib.hid (bel_trans B4.out zz)
      clear x0 x1 j0 j1 l0' l1' D1 S4 B4 E4 zz
      generalize grow (redrawn w2 du) osu = U2 at *
      obtain ⟨hA1, hA2⟩ := BC2.out
      clear CO0 CO1 CO2 CO3 CK0 CK1 CK2 CK3 CW0 CW1 CW2 CW3 CH0 CH1 CH2 CH3 BC0 BC1 BC2 BC3
      rcases hA1 with ⟨rfl, rfl, rfl⟩ | ⟨rfl, rfl, rfl, u1, u2⟩ | ⟨rfl, rfl, rfl, u1, u2⟩
      all_goals
        rcases hA2 with ⟨rfl, rfl, rfl, u3, u4⟩ | ⟨rfl, rfl, rfl, u3, u4⟩ | ⟨rfl, rfl, rfl, u3, u4⟩
      all_goals
        go_wp2_with fail
        go_roundw
        case rel => exact ⟨E5.out, S5.out, B5.out, _, _, _, _, _, rfl, rfl, rfl, rfl, rfl, .inr (.inr (.inr (.inl (⟨rfl, F2.out⟩))))⟩
        case measure => simp [intOf]
    · obtain ⟨n0, n4⟩ : 0 ≤ n ∧ n ≤ 4 := by rw [hF.h]; exact fnd_bd _ _
      obtain ⟨m0, m4⟩ : 0 ≤ l ∧ l ≤ 4 := by rw [hF.l]; exact fnd_bd _ _
      obtain ⟨q0, q4⟩ : 0 ≤ r' ∧ r' ≤ 4 := by rw [hF.r]; exact fnd_bd _ _
      obtain ⟨s0, s4⟩ : 0 ≤ e ∧ e ≤ 4 := by rw [hF.a]; exact fnd_bd _ _
      obtain ⟨t0, t4⟩ : 0 ≤ f ∧ f ≤ 4 := by rw [hF.b]; exact fnd_bd _ _
      have F2 := Lib.hid (show Five (p0, p1, p2, p3) (l0, l1, l2, l3) (r0, r1, r2, r3) (a0', a1', a2', a3') (b0', b1', b2', b3') 4 (if p3 then n + 1 else n) (if l3 then l + 1 else l) (if r3 then r' + 1 else r') (if a3' then e + 1 else e) (if b3' then f + 1 else f) from ⟨fnd3' hF.h, fnd3' hF.l, fnd3' hF.r, fnd3' hF.a, fnd3' hF.b⟩)
      clear hF HK
      obtain ⟨_, ⟨j0, j1, jl⟩, ⟨l0', l1', ll⟩⟩ := S.out
      obtain ⟨y0, y1, y2, y3, y4, y5, y6, y7, yl⟩ := E.out
      go_wp2_with fail
      have j0 := cell_regrown j0
      have j1 := cell_regrown j1
      have l0' := cell_regrown l0'
      have l1' := cell_regrown l1'
      have x0 := cell_regrown y6
      have x1 := cell_regrown y7
      clear jl ll y0 y1 y2 y3 y4 y5 y6 y7 yl
      have D1 := Lib.hid (fun p : Regrown => Calls.regrown_of (CO3.out (grow (redrawn wr p.d) p.os)))
      have D2 := Lib.hid (fun p : Regrown => Calls.regrown_of (CK3.out (grow (redrawn wr p.d) p.os)))
      refine wp_region_quiet_below (by kernel_rfl) (by kernel_rfl) ?_
      repeat (go_big_quiet_step (first | with_reducible exact D1.out _ | with_reducible exact D2.out _))
      refine wpQuiet_nil ?_
      intro _ hw'
      obtain ⟨⟨dt, ost⟩, hw''⟩ := hw'
      subst hw''
      have zz := below_regrown wr dt ost
      have S2 := Lib.hid (S.out.later zz)
      have E3 := Lib.hid (E.out.later zz)
      have B3 := Lib.hid (bel_trans B.out zz)
      clear x0 x1 j0 j1 l0' l1' D1 D2 S B E zz
      generalize grow (redrawn wr dt) ost = U at *
      go_wp2_with fail
      refine (CW3.out _).mono ?_; rintro e' w2 ⟨rfl, z2⟩
      have S4 := Lib.hid (S2.out.later z2)
      have E4 := Lib.hid (E3.out.later z2)
      have B4 := Lib.hid (bel_trans B3.out z2)
      clear z2 S2 E3 B3
      obtain ⟨_, ⟨j0, j1, jl⟩, ⟨l0', l1', ll⟩⟩ := S4.out
      obtain ⟨y0, y1, y2, y3, y4, y5, y6, y7, yl⟩ := E4.out
      go_upto_region 11 with (fail)
      have j0 := cell_regrown j0
      have j1 := cell_regrown j1
      have l0' := cell_regrown l0'
      have l1' := cell_regrown l1'
      have x0 := cell_regrown y6
      have x1 := cell_regrown y7
      clear jl ll y0 y1 y2 y3 y4 y5 y6 y7 yl
      have D1 := Lib.hid (fun p : Regrown => Calls.regrown_of (CH3.out (grow (redrawn w2 p.d) p.os)))
      refine wp_region_quiet_below (by kernel_rfl) (by kernel_rfl) ?_
      repeat (go_big_quiet_step (with_reducible exact D1.out _))
      refine wpQuiet_nil ?_
      intro _ hw'
      obtain ⟨⟨du, osu⟩, hw''⟩ := hw'
      subst hw''
      have zz := below_regrown w2 du osu
      have S5 := Lib.hid (S4.out.later zz)
      have E5 := Lib.hid (E4.out.later zz)
      have B5 := Lib.hid (bel_trans B4.out zz)
      clear x0 x1 j0 j1 l0' l1' D1 S4 B4 E4 zz
      generalize grow (redrawn w2 du) osu = U2 at *
      obtain ⟨hA1, hA2⟩ := BC3.out
      clear CO0 CO1 CO2 CO3 CK0 CK1 CK2 CK3 CW0 CW1 CW2 CW3 CH0 CH1 CH2 CH3 BC0 BC1 BC2 BC3
      rcases hA1 with ⟨rfl, rfl, rfl⟩ | ⟨rfl, rfl, rfl, u1, u2⟩ | ⟨rfl, rfl, rfl, u1, u2⟩
      all_goals
        rcases hA2 with ⟨rfl, rfl, rfl, u3, u4⟩ | ⟨rfl, rfl, rfl, u3, u4⟩ | ⟨rfl, rfl, rfl, u3, u4⟩
      all_goals
        go_wp2_with fail
        go_roundw
        case rel => exact ⟨E5.out, S5.out, B5.out, _, _, _, _, _, rfl, rfl, rfl, rfl, rfl, .inr (.inr (.inr (.inr ((⟨rfl, F2.out⟩)))))⟩
        case measure => simp [intOf]
    · have H := HK.out n l r' e f hF
      clear hF HK E S CO0 CO1 CO2 CO3 CK0 CK1 CK2 CK3 CW0 CW1 CW2 CW3 CH0 CH1 CH2 CH3 BC0 BC1 BC2 BC3
      by_cases h1 : n = 4
      · have z1 : (n == 4) = true := beq_iff_eq.2 h1
        rw [if_pos h1] at H
        have H := Lib.hid H
        clear h1
        go_wp2
        go_ret
        exact ⟨by rw [H.out]; rfl, B.out⟩
      have z1 : (n == 4) = false := beq_eq_false_iff_ne.2 h1
      rw [if_neg h1] at H
      clear h1
      by_cases h2 : l = 4
      · have z2 : (l == 4) = true := beq_iff_eq.2 h2
        rw [if_pos h2] at H
        have H := Lib.hid H
        clear h2
        go_wp2
        go_ret
        exact ⟨by rw [H.out]; rfl, B.out⟩
      have z2 : (l == 4) = false := beq_eq_false_iff_ne.2 h2
      rw [if_neg h2] at H
      clear h2
      by_cases h3 : r' = 4
      · have z3 : (r' == 4) = true := beq_iff_eq.2 h3
        rw [if_pos h3] at H
        have H := Lib.hid H
        clear h3
        go_wp2
        go_ret
        exact ⟨by rw [H.out]; rfl, B.out⟩
      have z3 : (r' == 4) = false := beq_eq_false_iff_ne.2 h3
      rw [if_neg h3] at H
      clear h3
      by_cases h4 : e = 4
      · have z4 : (e == 4) = true := beq_iff_eq.2 h4
        rw [if_pos h4] at H
        have H := Lib.hid H
        clear h4
        go_wp2
        go_ret
        exact ⟨by rw [H.out]; rfl, B.out⟩
      have z4 : (e == 4) = false := beq_eq_false_iff_ne.2 h4
      rw [if_neg h4] at H
      clear h4
      by_cases h5 : f = 4
      · have z5 : (f == 4) = true := beq_iff_eq.2 h5
        rw [if_pos h5] at H
        have H := Lib.hid H
        clear h5
        go_wp2
        go_ret
        exact ⟨by rw [H.out]; rfl, B.out⟩
      have z5 : (f == 4) = false := beq_eq_false_iff_ne.2 h5
      rw [if_neg h5] at H
      have H := Lib.hid H
      clear h5
      go_wp2
      go_ret
      exact ⟨by rw [H.out]; rfl, B.out⟩
theorem refBar_is {a b c d x y u v r k : Int} (hk : barK a b c d x y u v r = k) (a0 : -536870912 ≤ a) (ac : a ≤ c) (c1 : c ≤ 536870912) (b0 : -536870912 ≤ b) (bd : b ≤ d) (d1 : d ≤ 536870912) (x0 : -536870912 ≤ x) (x1 : x ≤ 536870912) (y0 : -536870912 ≤ y) (y1 : y ≤ 536870912) (u0 : -536870912 ≤ u) (u1 : u ≤ 536870912) (v0 : -536870912 ≤ v) (v1 : v ≤ 536870912) (rb : r ≤ 1073741824) (w : World) :
    Calls Try.prog 16 #[boxV a b c d, ptV x y, ptV u v, .int .i64 r] w fun e w' => e = .returned (.int .i64 k) ∧ Below w.heap.size w w' := hk ▸ refBar_any a b c d x y u v r a0 ac c1 b0 bd d1 x0 x1 y0 y1 u0 u1 v0 v1 rb w
end Go.Proofs.Ythdoibknjehdoaa
