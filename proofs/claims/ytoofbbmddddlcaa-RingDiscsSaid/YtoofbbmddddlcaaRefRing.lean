/- Contracts of the document's answer for layer 9: what RingOk, Sector, atMost, atLeast and RingHas return for all points up to Far and every radius up to 2 to the 30. -/
import Derived.Test.YtoofbbmddddlcaaRefLine
import Derived.Test.YtoofbbmddddlcaaRefDisc
import Derived.Test.YtoofbbmddddlcaaRingMove
import Derived.Lib.QuietBelow
namespace Go.Proofs.Ytoofbbmddddlcaa
open Go.RowKit
open Go.Sort (grow)

/-- Four points in blocks side by side. -/
structure P4At (n : Nat) (s t x y u v e f : Int) (w : World) : Prop where
  a : PtAt w n s t
  b : PtAt w (n + 1) x y
  c : PtAt w (n + 1 + 1) u v
  d : PtAt w (n + 1 + 1 + 1) e f
theorem P4At.later {n : Nat} {s t x y u v e f : Int} {w w1 : World} (h : P4At n s t x y u v e f w) (k : Below w.heap.size w w1) : P4At n s t x y u v e f w1 := ⟨h.a.later k, h.b.later k, h.c.later k, h.d.later k⟩
theorem p4at_new (w : World) (s t x y u v e f : Int) (n : TypeId) : P4At w.heap.size s t x y u v e f ((((w.alloc (.cells #[.int .i64 s, .int .i64 t] n)).alloc (.cells #[.int .i64 x, .int .i64 y] n)).alloc (.cells #[.int .i64 u, .int .i64 v] n)).alloc (.cells #[.int .i64 e, .int .i64 f] n)) := by
  have h := p3_new w s t x y u v n
  refine ⟨h.a.alloc _, h.b.alloc _, h.c.alloc _, ?_⟩
  have k := ptAt_new (((w.alloc (.cells #[.int .i64 s, .int .i64 t] n)).alloc (.cells #[.int .i64 x, .int .i64 y] n)).alloc (.cells #[.int .i64 u, .int .i64 v] n)) e f n
  rw [show (((w.alloc (.cells #[.int .i64 s, .int .i64 t] n)).alloc (.cells #[.int .i64 x, .int .i64 y] n)).alloc (.cells #[.int .i64 u, .int .i64 v] n)).heap.size = w.heap.size + 1 + 1 + 1 by simp] at k
  exact k
theorem bel_p4at (w : World) (s t x y u v e f : Int) (n : TypeId) : Below w.heap.size w ((((w.alloc (.cells #[.int .i64 s, .int .i64 t] n)).alloc (.cells #[.int .i64 x, .int .i64 y] n)).alloc (.cells #[.int .i64 u, .int .i64 v] n)).alloc (.cells #[.int .i64 e, .int .i64 f] n)) := bel_alloc (bel_p3 w s t x y u v n) _

set_option maxHeartbeats 4000000 in
theorem refRingOk_any (x y u v e f : Int) (x0 : -536870912 ≤ x) (x1 : x ≤ 536870912) (y0 : -536870912 ≤ y) (y1 : y ≤ 536870912) (u0 : -536870912 ≤ u) (u1 : u ≤ 536870912) (v0 : -536870912 ≤ v) (v1 : v ≤ 536870912) (e0 : -536870912 ≤ e) (e1 : e ≤ 536870912) (f0 : -536870912 ≤ f) (f1 : f ≤ 536870912) (w : World) :
    Calls Try.prog 21 #[ptV x y, ptV u v, ptV e f] w fun e' w' => e' = .returned (.bool (okR x y u v e f)) ∧ Below w.heap.size w w' := by
  obtain ⟨m, hm⟩ : ∃ m, sqI x y u v = m := ⟨_, rfl⟩
  obtain ⟨n, hn⟩ : ∃ n, sqI x y e f = n := ⟨_, rfl⟩
  have C1 := Lib.hid (fun w => refDist_is hm x0 x1 y0 y1 u0 u1 v0 v1 w)
  have C2 := Lib.hid (fun w => refDist_is hn x0 x1 y0 y1 e0 e1 f0 f1 w)
  have S0 := Lib.hid (p3_new w x y u v e f 25)
  have B0 := Lib.hid (bel_p3 w x y u v e f 25)
  have H := Lib.hid (show okR x y u v e f = ((m == n) && decide (0 < m)) by
    unfold okR; rw [hm, hn, Bool.decide_and]; congr 1)
  clear hm hn x0 x1 y0 y1 u0 u1 v0 v1 e0 e1 f0 f1
  go_enter Try.func21, Try.ntmps21
  go_wp2_with fail
  generalize ((w.alloc (.cells #[.int .i64 x, .int .i64 y] 25)).alloc (.cells #[.int .i64 u, .int .i64 v] 25)).alloc (.cells #[.int .i64 e, .int .i64 f] 25) = W at *
  obtain ⟨⟨i0, i1, il⟩, ⟨j0, j1, jl⟩, ⟨l0, l1, ll⟩⟩ := S0.out
  have i0 := cell_regrown i0
  have i1 := cell_regrown i1
  have j0 := cell_regrown j0
  have j1 := cell_regrown j1
  have l0 := cell_regrown l0
  have l1 := cell_regrown l1
  have D1 := Lib.hid (fun p : Regrown => Calls.regrown_of (C1.out (grow (redrawn W p.d) p.os)))
  have D2 := Lib.hid (fun p : Regrown => Calls.regrown_of (C2.out (grow (redrawn W p.d) p.os)))
  by_cases h1 : m = n
  · have z1 : (m == n) = true := beq_iff_eq.2 h1
    by_cases h2 : 0 < m
    all_goals
      first
        | (have z2 : decide (0 < m) = true := decide_eq_true h2)
        | (have z2 : decide (0 < m) = false := decide_eq_false h2)
      have H2 := H.out
      rw [z1, z2] at H2
      have H2 := Lib.hid H2
      clear H h1 h2
      refine wp_region_quiet_below (by kernel_rfl) (by kernel_rfl) ?_
      repeat (go_big_quiet_step (first | with_reducible exact D1.out _ | with_reducible exact D2.out _))
      refine wpQuiet_nil ?_
      intro _ hw'
      obtain ⟨⟨dq, osq⟩, hw''⟩ := hw'
      subst hw''
      go_wp2
      go_ret
      exact ⟨by rw [H2.out]; rfl, bel_trans B0.out (below_regrown W dq osq)⟩
  · have z1 : (m == n) = false := beq_eq_false_iff_ne.2 h1
    have H2 := H.out
    rw [z1] at H2
    have H2 := Lib.hid H2
    clear H h1
    refine wp_region_quiet_below (by kernel_rfl) (by kernel_rfl) ?_
    repeat (go_big_quiet_step (first | with_reducible exact D1.out _ | with_reducible exact D2.out _))
    refine wpQuiet_nil ?_
    intro _ hw'
    obtain ⟨⟨dq, osq⟩, hw''⟩ := hw'
    subst hw''
    go_wp2
    go_ret
    exact ⟨by rw [H2.out]; rfl, bel_trans B0.out (below_regrown W dq osq)⟩
theorem refRingOk_is {x y u v e f : Int} {h : Bool} (hh : okR x y u v e f = h) (x0 : -536870912 ≤ x) (x1 : x ≤ 536870912) (y0 : -536870912 ≤ y) (y1 : y ≤ 536870912) (u0 : -536870912 ≤ u) (u1 : u ≤ 536870912) (v0 : -536870912 ≤ v) (v1 : v ≤ 536870912) (e0 : -536870912 ≤ e) (e1 : e ≤ 536870912) (f0 : -536870912 ≤ f) (f1 : f ≤ 536870912) (w : World) :
    Calls Try.prog 21 #[ptV x y, ptV u v, ptV e f] w fun e' w' => e' = .returned (.bool h) ∧ Below w.heap.size w w' := hh ▸ refRingOk_any x y u v e f x0 x1 y0 y1 u0 u1 v0 v1 e0 e1 f0 f1 w

set_option maxHeartbeats 4000000 in
theorem refUp_any (d B r : Int) (d0 : 0 ≤ d) (d1 : d ≤ 2305843009213693952) (B0 : 0 ≤ B) (B1 : B ≤ 2305843009213693952) (ra : 1 ≤ r) (rb : r ≤ 1073741824) (w : World) :
    Calls Try.prog 44 #[.int .i64 d, .int .i64 B, .int .i64 r] w fun e w' => e = .returned (.bool (upW d B (r * r))) ∧ Below w.heap.size w w' := by
  obtain ⟨S, hS⟩ : ∃ S, r * r = S := ⟨_, rfl⟩
  have m1 := mul_bd (X := r) (Y := r) (by omega) rb (by omega) rb
  have m2 := sq_nonneg r
  rw [hS] at m1 m2
  obtain ⟨Q, hQ⟩ : ∃ Q, 4 * r * r = Q := ⟨_, rfl⟩
  have eQ : Q = 4 * S := by rw [← hQ, ← hS]; grind
  obtain ⟨q, hq⟩ : ∃ q, d - B - S = q := ⟨_, rfl⟩
  obtain ⟨h, hh⟩ : ∃ h, mulHi (absI q) (absI q) = h := ⟨_, rfl⟩
  obtain ⟨l, hl⟩ : ∃ l, mulLo (absI q) (absI q) = l := ⟨_, rfl⟩
  obtain ⟨h', hh'⟩ : ∃ h, mulHi Q B = h := ⟨_, rfl⟩
  obtain ⟨l', hl'⟩ : ∃ l, mulLo Q B = l := ⟨_, rfl⟩
  obtain ⟨z, hz⟩ : ∃ z, cmpWide h l h' l' = z := ⟨_, rfl⟩
  have lb := mulLo_bd (absI q) (absI q)
  rw [hl] at lb
  have lb' := mulLo_bd Q B
  rw [hl'] at lb'
  have hc : decide (z ≤ 0) = decide (q * q ≤ 4 * S * B) := by rw [← hz, ← hh, ← hl, ← hh', ← hl', ← eQ]; exact cmp_sqs' q B Q
  have HV := Lib.hid (show upW d B (r * r) = (decide (q ≤ 0) || decide (z ≤ 0)) by rw [hc, hS]; unfold upW; rw [hq, Bool.decide_or])
  have C4 := Lib.hid (fun w => refSq_is hh hl (by omega) (by omega) w)
  have C5 := Lib.hid (fun w => refMul_is hh' hl' (by omega) (by omega) (by omega) (by omega) w)
  have C6 := Lib.hid (fun w => refCmp_is hz lb.1 lb.2 lb'.1 lb'.2 w)
  have e1 : IntKind.i64.wrap (r * r) = S := by rw [hS]; exact IntWalk.i64_in _ (by omega)
  have e2 : IntKind.i64.wrap (d - B) = d - B := IntWalk.i64_in _ (by omega)
  have e3 : IntKind.i64.wrap (d - B - S) = q := by rw [hq]; exact IntWalk.i64_in _ (by omega)
  have e4 : IntKind.i64.wrap (4 * r) = 4 * r := IntWalk.i64_in _ (by omega)
  have e5 : IntKind.i64.wrap (4 * r * r) = Q := by rw [hQ]; exact IntWalk.i64_in _ (by omega)
  have e6 : IntKind.u64.wrap Q = Q := by rw [IntKind.wrap_u64]; omega
  have e7 : IntKind.u64.wrap B = B := by rw [IntKind.wrap_u64]; omega
  clear hh hl hh' hl' hz lb lb' hc hS hQ hq eQ
  by_cases h1 : q ≤ 0
  case pos =>
    have z1 : decide (q ≤ 0) = true := decide_eq_true h1
    have H := HV.out
    rw [z1] at H
    have H := Lib.hid H
    clear HV h1
    go_enter Try.func44, Try.ntmps44
    go_wp2
    go_ret
    exact ⟨by rw [H.out]; rfl, bel_refl w⟩
  case neg =>
    have z1 : decide (q ≤ 0) = false := decide_eq_false h1
    have H := HV.out
    rw [z1] at H
    have H := Lib.hid H
    clear HV h1
    go_enter Try.func44, Try.ntmps44
    go_wp2_with fail
    refine (C4.out _).mono ?_; rintro e w2 ⟨rfl, z2⟩
    go_wp2_with fail
    refine (C5.out _).mono ?_; rintro e w3 ⟨rfl, z3⟩
    have B4 := Lib.hid (bel_trans z2 z3)
    clear z2 z3
    go_wp2_with fail
    refine (C6.out _).mono ?_; rintro e w4 ⟨rfl, z4⟩
    go_wp2
    go_ret
    exact ⟨by rw [H.out]; rfl, bel_trans B4.out z4⟩
theorem refUp_is {d B r S : Int} {h : Bool} (hS : r * r = S) (hh : upW d B S = h) (d0 : 0 ≤ d) (d1 : d ≤ 2305843009213693952) (B0 : 0 ≤ B) (B1 : B ≤ 2305843009213693952) (ra : 1 ≤ r) (rb : r ≤ 1073741824) (w : World) :
    Calls Try.prog 44 #[.int .i64 d, .int .i64 B, .int .i64 r] w fun e w' => e = .returned (.bool h) ∧ Below w.heap.size w w' := hh ▸ hS ▸ refUp_any d B r d0 d1 B0 B1 ra rb w

set_option maxHeartbeats 4000000 in
theorem refDn_any (d B r : Int) (d0 : 0 ≤ d) (d1 : d ≤ 2305843009213693952) (B0 : 0 ≤ B) (B1 : B ≤ 2305843009213693952) (ra : 1 ≤ r) (rb : r ≤ 1073741824) (w : World) :
    Calls Try.prog 42 #[.int .i64 d, .int .i64 B, .int .i64 r] w fun e w' => e = .returned (.bool (dnW d B (r * r))) ∧ Below w.heap.size w w' := by
  obtain ⟨S, hS⟩ : ∃ S, r * r = S := ⟨_, rfl⟩
  have m1 := mul_bd (X := r) (Y := r) (by omega) rb (by omega) rb
  have m2 := sq_nonneg r
  rw [hS] at m1 m2
  obtain ⟨Q, hQ⟩ : ∃ Q, 4 * r * r = Q := ⟨_, rfl⟩
  have eQ : Q = 4 * S := by rw [← hQ, ← hS]; grind
  obtain ⟨q, hq⟩ : ∃ q, B + S - d = q := ⟨_, rfl⟩
  obtain ⟨h, hh⟩ : ∃ h, mulHi (absI q) (absI q) = h := ⟨_, rfl⟩
  obtain ⟨l, hl⟩ : ∃ l, mulLo (absI q) (absI q) = l := ⟨_, rfl⟩
  obtain ⟨h', hh'⟩ : ∃ h, mulHi Q B = h := ⟨_, rfl⟩
  obtain ⟨l', hl'⟩ : ∃ l, mulLo Q B = l := ⟨_, rfl⟩
  obtain ⟨z, hz⟩ : ∃ z, cmpWide h l h' l' = z := ⟨_, rfl⟩
  have lb := mulLo_bd (absI q) (absI q)
  rw [hl] at lb
  have lb' := mulLo_bd Q B
  rw [hl'] at lb'
  have hc : decide (z ≤ 0) = decide (q * q ≤ 4 * S * B) := by rw [← hz, ← hh, ← hl, ← hh', ← hl', ← eQ]; exact cmp_sqs' q B Q
  have HV := Lib.hid (show dnW d B (r * r) = (decide (B ≤ S) || (decide (q ≤ 0) || decide (z ≤ 0))) by rw [hc, hS]; unfold dnW; rw [hq, Bool.decide_or, Bool.decide_or])
  have C4 := Lib.hid (fun w => refSq_is hh hl (by omega) (by omega) w)
  have C5 := Lib.hid (fun w => refMul_is hh' hl' (by omega) (by omega) (by omega) (by omega) w)
  have C6 := Lib.hid (fun w => refCmp_is hz lb.1 lb.2 lb'.1 lb'.2 w)
  have e1 : IntKind.i64.wrap (r * r) = S := by rw [hS]; exact IntWalk.i64_in _ (by omega)
  have e2 : IntKind.i64.wrap (B + S) = B + S := IntWalk.i64_in _ (by omega)
  have e3 : IntKind.i64.wrap (B + S - d) = q := by rw [hq]; exact IntWalk.i64_in _ (by omega)
  have e4 : IntKind.i64.wrap (4 * r) = 4 * r := IntWalk.i64_in _ (by omega)
  have e5 : IntKind.i64.wrap (4 * r * r) = Q := by rw [hQ]; exact IntWalk.i64_in _ (by omega)
  have e6 : IntKind.u64.wrap Q = Q := by rw [IntKind.wrap_u64]; omega
  have e7 : IntKind.u64.wrap B = B := by rw [IntKind.wrap_u64]; omega
  clear hh hl hh' hl' hz lb lb' hc hS hQ hq eQ
  by_cases h0 : B ≤ S
  case pos =>
    have z0 : decide (B ≤ S) = true := decide_eq_true h0
    have H := HV.out
    rw [z0] at H
    have H := Lib.hid H
    clear HV h0
    go_enter Try.func42, Try.ntmps42
    go_wp2
    go_ret
    exact ⟨by rw [H.out]; rfl, bel_refl w⟩
  have z0 : decide (B ≤ S) = false := decide_eq_false h0
  clear h0
  by_cases h1 : q ≤ 0
  case pos =>
    have z1 : decide (q ≤ 0) = true := decide_eq_true h1
    have H := HV.out
    rw [z0, z1] at H
    have H := Lib.hid H
    clear HV h1
    go_enter Try.func42, Try.ntmps42
    go_wp2
    go_ret
    exact ⟨by rw [H.out]; rfl, bel_refl w⟩
  case neg =>
    have z1 : decide (q ≤ 0) = false := decide_eq_false h1
    have H := HV.out
    rw [z0, z1] at H
    have H := Lib.hid H
    clear HV h1
    go_enter Try.func42, Try.ntmps42
    go_wp2_with fail
    refine (C4.out _).mono ?_; rintro e w2 ⟨rfl, z2⟩
    go_wp2_with fail
    refine (C5.out _).mono ?_; rintro e w3 ⟨rfl, z3⟩
    have B4 := Lib.hid (bel_trans z2 z3)
    clear z2 z3
    go_wp2_with fail
    refine (C6.out _).mono ?_; rintro e w4 ⟨rfl, z4⟩
    go_wp2
    go_ret
    exact ⟨by rw [H.out]; rfl, bel_trans B4.out z4⟩
theorem refDn_is {d B r S : Int} {h : Bool} (hS : r * r = S) (hh : dnW d B S = h) (d0 : 0 ≤ d) (d1 : d ≤ 2305843009213693952) (B0 : 0 ≤ B) (B1 : B ≤ 2305843009213693952) (ra : 1 ≤ r) (rb : r ≤ 1073741824) (w : World) :
    Calls Try.prog 42 #[.int .i64 d, .int .i64 B, .int .i64 r] w fun e w' => e = .returned (.bool h) ∧ Below w.heap.size w w' := hh ▸ hS ▸ refDn_any d B r d0 d1 B0 B1 ra rb w

set_option maxHeartbeats 8000000 in
theorem refSector_any (s t x y u v e f : Int) (s0 : -536870912 ≤ s) (s1 : s ≤ 536870912) (t0 : -536870912 ≤ t) (t1 : t ≤ 536870912) (x0 : -536870912 ≤ x) (x1 : x ≤ 536870912) (y0 : -536870912 ≤ y) (y1 : y ≤ 536870912) (u0 : -536870912 ≤ u) (u1 : u ≤ 536870912) (v0 : -536870912 ≤ v) (v1 : v ≤ 536870912) (e0 : -536870912 ≤ e) (e1 : e ≤ 536870912) (f0 : -536870912 ≤ f) (f1 : f ≤ 536870912) (w : World) :
    Calls Try.prog 25 #[ptV s t, ptV x y, ptV u v, ptV e f] w fun e' w' => e' = .returned (.bool (secP x y u v e f s t)) ∧ Below w.heap.size w w' := by
  obtain ⟨m, hm⟩ : ∃ m, crI x y u v s t = m := ⟨_, rfl⟩
  obtain ⟨n, hn⟩ : ∃ n, crI x y s t e f = n := ⟨_, rfl⟩
  obtain ⟨k, hk⟩ : ∃ k, crI x y u v e f = k := ⟨_, rfl⟩
  have C1 := Lib.hid (fun w => refCross_is hm x0 x1 y0 y1 u0 u1 v0 v1 s0 s1 t0 t1 w)
  have C2 := Lib.hid (fun w => refCross_is hn x0 x1 y0 y1 s0 s1 t0 t1 e0 e1 f0 f1 w)
  have C3 := Lib.hid (fun w => refCross_is hk x0 x1 y0 y1 u0 u1 v0 v1 e0 e1 f0 f1 w)
  have S0 := Lib.hid (p4at_new w s t x y u v e f 25)
  have B0 := Lib.hid (bel_p4at w s t x y u v e f 25)
  have HV := Lib.hid (show secP x y u v e f s t = secB (decide (u = e ∧ v = f)) k m n by unfold secP; rw [hm, hn, hk])
  clear hm hn hk s0 s1 t0 t1 x0 x1 y0 y1 u0 u1 v0 v1 e0 e1 f0 f1
  go_enter Try.func25, Try.ntmps25
  go_wp2_with fail
  generalize (((w.alloc (.cells #[.int .i64 s, .int .i64 t] 25)).alloc (.cells #[.int .i64 x, .int .i64 y] 25)).alloc (.cells #[.int .i64 u, .int .i64 v] 25)).alloc (.cells #[.int .i64 e, .int .i64 f] 25) = W at *
  obtain ⟨⟨i0, i1, il⟩, ⟨j0, j1, jl⟩, ⟨l0, l1, ll⟩, ⟨n0, n1, nl⟩⟩ := S0.out
  have i0 := cell_regrown i0
  have i1 := cell_regrown i1
  have j0 := cell_regrown j0
  have j1 := cell_regrown j1
  have l0 := cell_regrown l0
  have l1 := cell_regrown l1
  have n0 := cell_regrown n0
  have n1 := cell_regrown n1
  have D1 := Lib.hid (fun p : Regrown => Calls.regrown_of (C1.out (grow (redrawn W p.d) p.os)))
  have D2 := Lib.hid (fun p : Regrown => Calls.regrown_of (C2.out (grow (redrawn W p.d) p.os)))
  refine wp_region_quiet_below (by kernel_rfl) (by kernel_rfl) ?_
  repeat (go_big_quiet_step (first | with_reducible exact D1.out _ | with_reducible exact D2.out _))
  refine wpQuiet_nil ?_
  intro _ hw'
  obtain ⟨⟨dq, osq⟩, hw''⟩ := hw'
  subst hw''
  have bz := below_regrown W dq osq
  have S1 := Lib.hid (S0.out.later bz)
  have B1 := Lib.hid (bel_trans B0.out bz)
  clear bz i0 i1 il j0 j1 jl l0 l1 ll n0 n1 nl S0 B0 D1 D2 C1 C2
  generalize grow (redrawn W dq) osq = V at *
  by_cases huv : u = e ∧ v = f
  · have H := HV.out
    rw [decide_eq_true huv] at H
    have H0 := Lib.hid (show secP x y u v e f s t = true by rw [H]; rfl)
    clear H HV
    obtain ⟨rfl, rfl⟩ := huv
    obtain ⟨⟨i0, i1, il⟩, ⟨j0, j1, jl⟩, ⟨l0, l1, ll⟩, ⟨n0, n1, nl⟩⟩ := S1.out
    go_wp2
    go_ret
    exact ⟨by rw [H0.out]; rfl, B1.out⟩
  have H := HV.out
  rw [decide_eq_false huv] at H
  have HW := Lib.hid (show secP x y u v e f s t = if k < 0 then decide (0 ≤ m) || decide (0 ≤ n) else decide (0 ≤ m) && decide (0 ≤ n) by rw [H]; unfold secB; rw [Bool.false_or])
  clear H HV
  have HV := HW
  clear HW
  have hsp : (¬ u = e) ∨ (u = e ∧ ¬ v = f) := by
    by_cases e' : u = e
    · exact .inr ⟨e', fun e'' => huv ⟨e', e''⟩⟩
    · exact .inl e'
  clear huv
  rcases hsp with hx | ⟨rfl, hy⟩
  · have hx' : (u == e) = false := beq_eq_false_iff_ne.2 hx
    obtain ⟨⟨i0, i1, il⟩, ⟨j0, j1, jl⟩, ⟨l0, l1, ll⟩, ⟨n0, n1, nl⟩⟩ := S1.out
    go_wp2_with fail
    refine (C3.out _).mono ?_; rintro e' w2 ⟨rfl, z2⟩
    have B2 := Lib.hid (bel_trans B1.out z2)
    clear z2 B1 S1 i0 i1 il j0 j1 jl l0 l1 ll n0 n1 nl C3
    by_cases hk : k < 0
    · have zk : decide (k < 0) = true := decide_eq_true hk
      have H := HV.out
      rw [if_pos hk] at H
      clear HV hk
      by_cases hm : 0 ≤ m
      · have zm : decide (0 ≤ m) = true := decide_eq_true hm
        rw [zm] at H
        have H := Lib.hid H
        clear hm
        go_wp2
        go_ret
        exact ⟨by rw [H.out]; rfl, B2.out⟩
      · have zm : decide (0 ≤ m) = false := decide_eq_false hm
        rw [zm] at H
        have H := Lib.hid H
        clear hm
        go_wp2
        go_ret
        exact ⟨by rw [H.out]; rfl, B2.out⟩
    · have zk : decide (k < 0) = false := decide_eq_false hk
      have H := HV.out
      rw [if_neg hk] at H
      clear HV hk
      by_cases hm : 0 ≤ m
      · have zm : decide (0 ≤ m) = true := decide_eq_true hm
        rw [zm] at H
        have H := Lib.hid H
        clear hm
        go_wp2
        go_ret
        exact ⟨by rw [H.out]; rfl, B2.out⟩
      · have zm : decide (0 ≤ m) = false := decide_eq_false hm
        rw [zm] at H
        have H := Lib.hid H
        clear hm
        go_wp2
        go_ret
        exact ⟨by rw [H.out]; rfl, B2.out⟩
  · have hy' : (v == f) = false := beq_eq_false_iff_ne.2 hy
    obtain ⟨⟨i0, i1, il⟩, ⟨j0, j1, jl⟩, ⟨l0, l1, ll⟩, ⟨n0, n1, nl⟩⟩ := S1.out
    go_wp2_with fail
    refine (C3.out _).mono ?_; rintro e' w2 ⟨rfl, z2⟩
    have B2 := Lib.hid (bel_trans B1.out z2)
    clear z2 B1 S1 i0 i1 il j0 j1 jl l0 l1 ll n0 n1 nl C3
    by_cases hk : k < 0
    · have zk : decide (k < 0) = true := decide_eq_true hk
      have H := HV.out
      rw [if_pos hk] at H
      clear HV hk
      by_cases hm : 0 ≤ m
      · have zm : decide (0 ≤ m) = true := decide_eq_true hm
        rw [zm] at H
        have H := Lib.hid H
        clear hm
        go_wp2
        go_ret
        exact ⟨by rw [H.out]; rfl, B2.out⟩
      · have zm : decide (0 ≤ m) = false := decide_eq_false hm
        rw [zm] at H
        have H := Lib.hid H
        clear hm
        go_wp2
        go_ret
        exact ⟨by rw [H.out]; rfl, B2.out⟩
    · have zk : decide (k < 0) = false := decide_eq_false hk
      have H := HV.out
      rw [if_neg hk] at H
      clear HV hk
      by_cases hm : 0 ≤ m
      · have zm : decide (0 ≤ m) = true := decide_eq_true hm
        rw [zm] at H
        have H := Lib.hid H
        clear hm
        go_wp2
        go_ret
        exact ⟨by rw [H.out]; rfl, B2.out⟩
      · have zm : decide (0 ≤ m) = false := decide_eq_false hm
        rw [zm] at H
        have H := Lib.hid H
        clear hm
        go_wp2
        go_ret
        exact ⟨by rw [H.out]; rfl, B2.out⟩
theorem refSector_is {s t x y u v e f : Int} {h : Bool} (hh : secP x y u v e f s t = h) (s0 : -536870912 ≤ s) (s1 : s ≤ 536870912) (t0 : -536870912 ≤ t) (t1 : t ≤ 536870912) (x0 : -536870912 ≤ x) (x1 : x ≤ 536870912) (y0 : -536870912 ≤ y) (y1 : y ≤ 536870912) (u0 : -536870912 ≤ u) (u1 : u ≤ 536870912) (v0 : -536870912 ≤ v) (v1 : v ≤ 536870912) (e0 : -536870912 ≤ e) (e1 : e ≤ 536870912) (f0 : -536870912 ≤ f) (f1 : f ≤ 536870912) (w : World) :
    Calls Try.prog 25 #[ptV s t, ptV x y, ptV u v, ptV e f] w fun e' w' => e' = .returned (.bool h) ∧ Below w.heap.size w w' := hh ▸ refSector_any s t x y u v e f s0 s1 t0 t1 x0 x1 y0 y1 u0 u1 v0 v1 e0 e1 f0 f1 w
theorem docDiscHas_is {x y u v r : Int} {h : Bool} (hh : discB r (sqI x y u v) = h) (x0 : -536870912 ≤ x) (x1 : x ≤ 536870912) (y0 : -536870912 ≤ y) (y1 : y ≤ 536870912) (u0 : -536870912 ≤ u) (u1 : u ≤ 536870912) (v0 : -536870912 ≤ v) (v1 : v ≤ 536870912) (hr : r ≤ 1073741824) (w : World) :
    Calls Try.prog 46 #[ptV x y, ptV u v, .int .i64 r] w fun e w' => e = .returned (.bool h) ∧ Below w.heap.size w w' := hh ▸ sqI_comm u v x y ▸ refDiscHas_any x y u v r x0 x1 y0 y1 u0 u1 v0 v1 hr w
set_option maxHeartbeats 16000000 in
theorem refRingHas_any (s t x y u v e f r : Int) (s0 : -536870912 ≤ s) (s1 : s ≤ 536870912) (t0 : -536870912 ≤ t) (t1 : t ≤ 536870912) (x0 : -536870912 ≤ x) (x1 : x ≤ 536870912) (y0 : -536870912 ≤ y) (y1 : y ≤ 536870912) (u0 : -536870912 ≤ u) (u1 : u ≤ 536870912) (v0 : -536870912 ≤ v) (v1 : v ≤ 536870912) (e0 : -536870912 ≤ e) (e1 : e ≤ 536870912) (f0 : -536870912 ≤ f) (f1 : f ≤ 536870912) (rb : r ≤ 1073741824) (w : World) :
    Calls Try.prog 23 #[ptV s t, ptV x y, ptV u v, ptV e f, .int .i64 r] w fun e' w' => e' = .returned (.bool (ringP s t x y u v e f r)) ∧ Below w.heap.size w w' := by
  have S0 := Lib.hid (p4at_new w s t x y u v e f 25)
  have B0 := Lib.hid (bel_p4at w s t x y u v e f 25)
  obtain ⟨o, ho⟩ : ∃ o, okR x y u v e f = o := ⟨_, rfl⟩
  have CO := Lib.hid (fun w => refRingOk_is ho x0 x1 y0 y1 u0 u1 v0 v1 e0 e1 f0 f1 w)
  by_cases hr : r < 1
  · have H := Lib.hid (show ringP s t x y u v e f r = false by unfold ringP; rw [decide_eq_false (show ¬ 1 ≤ r by omega)]; simp)
    have z0 : decide (r < 1) = true := decide_eq_true hr
    clear ho s0 s1 t0 t1 x0 x1 y0 y1 u0 u1 v0 v1 e0 e1 f0 f1 rb hr
    go_enter Try.func23, Try.ntmps23
    go_wp2
    go_ret
    exact ⟨by rw [H.out]; rfl, B0.out⟩
  have z0 : decide (r < 1) = false := decide_eq_false hr
  have ra : 1 ≤ r := by omega
  obtain ⟨d, hd⟩ : ∃ d, sqI s t x y = d := ⟨_, rfl⟩
  obtain ⟨B, hB⟩ : ∃ B, sqI u v x y = B := ⟨_, rfl⟩
  have db := sqI_bd s0 s1 t0 t1 x0 x1 y0 y1
  have Bb := sqI_bd u0 u1 v0 v1 x0 x1 y0 y1
  rw [hd] at db
  rw [hB] at Bb
  obtain ⟨p, hp⟩ : ∃ p, discB r (sqI s t u v) = p := ⟨_, rfl⟩
  obtain ⟨q, hq⟩ : ∃ q, discB r (sqI s t e f) = q := ⟨_, rfl⟩
  obtain ⟨c, hc⟩ : ∃ c, secP x y u v e f s t = c := ⟨_, rfl⟩
  obtain ⟨m, hm⟩ : ∃ m, dnW d B (r * r) = m := ⟨_, rfl⟩
  obtain ⟨n, hn⟩ : ∃ n, upW d B (r * r) = n := ⟨_, rfl⟩
  have HV := Lib.hid (show ringP s t x y u v e f r = (o && (p || q || (c && (m && n)))) by unfold ringP ringB; rw [ho, hd, hB, hp, hq, hc, hm, hn, decide_eq_true ra, Bool.true_and])
  have CD := Lib.hid (fun w => refDist_is hd s0 s1 t0 t1 x0 x1 y0 y1 w)
  have CB := Lib.hid (fun w => refDist_is hB u0 u1 v0 v1 x0 x1 y0 y1 w)
  have CP := Lib.hid (fun w => docDiscHas_is hp s0 s1 t0 t1 u0 u1 v0 v1 rb w)
  have CQ := Lib.hid (fun w => docDiscHas_is hq s0 s1 t0 t1 e0 e1 f0 f1 rb w)
  have CS := Lib.hid (fun w => refSector_is hc s0 s1 t0 t1 x0 x1 y0 y1 u0 u1 v0 v1 e0 e1 f0 f1 w)
  have CM := Lib.hid (fun w => refDn_is rfl hm db.1 db.2 Bb.1 Bb.2 ra rb w)
  have CN := Lib.hid (fun w => refUp_is rfl hn db.1 db.2 Bb.1 Bb.2 ra rb w)
  clear ho hd hB hp hq hc hm hn db Bb s0 s1 t0 t1 x0 x1 y0 y1 u0 u1 v0 v1 e0 e1 f0 f1 rb hr ra
  go_enter Try.func23, Try.ntmps23
  go_wp2_with fail
  generalize (((w.alloc (.cells #[.int .i64 s, .int .i64 t] 25)).alloc (.cells #[.int .i64 x, .int .i64 y] 25)).alloc (.cells #[.int .i64 u, .int .i64 v] 25)).alloc (.cells #[.int .i64 e, .int .i64 f] 25) = W at *
  obtain ⟨⟨i0, i1, il⟩, ⟨j0, j1, jl⟩, ⟨l0, l1, ll⟩, ⟨n0, n1, nl⟩⟩ := S0.out
  go_wp2_with fail
  refine (CO.out _).mono ?_; rintro e' w1 ⟨rfl, z1⟩
  have S1 := Lib.hid (S0.out.later z1)
  have B1 := Lib.hid (bel_trans B0.out z1)
  clear z1 S0 B0 i0 i1 il j0 j1 jl l0 l1 ll n0 n1 nl z0 CO
  cases o with
  | false =>
    go_wp2
    go_ret
    exact ⟨by rw [HV.out]; rfl, B1.out⟩
  | true =>
    go_upto_region 3 with (fail)
    obtain ⟨⟨i0, i1, il⟩, ⟨j0, j1, jl⟩, ⟨l0, l1, ll⟩, ⟨n0, n1, nl⟩⟩ := S1.out
    have i0 := cell_regrown i0
    have i1 := cell_regrown i1
    have j0 := cell_regrown j0
    have j1 := cell_regrown j1
    have l0 := cell_regrown l0
    have l1 := cell_regrown l1
    have D1 := Lib.hid (fun p : Regrown => Calls.regrown_of (CD.out (grow (redrawn w1 p.d) p.os)))
    have D2 := Lib.hid (fun p : Regrown => Calls.regrown_of (CB.out (grow (redrawn w1 p.d) p.os)))
    refine wp_region_quiet_below (by kernel_rfl) (by kernel_rfl) ?_
    repeat (go_big_quiet_step (first | with_reducible exact D1.out _ | with_reducible exact D2.out _))
    refine wpQuiet_nil ?_
    intro _ hw'
    obtain ⟨⟨dq, osq⟩, hw''⟩ := hw'
    subst hw''
    have bz := below_regrown w1 dq osq
    have S2 := Lib.hid (S1.out.later bz)
    have B2 := Lib.hid (bel_trans B1.out bz)
    clear bz i0 i1 il j0 j1 jl l0 l1 ll n0 n1 nl S1 B1 D1 D2 CD CB
    generalize grow (redrawn w1 dq) osq = V at *
    obtain ⟨⟨i0, i1, il⟩, ⟨j0, j1, jl⟩, ⟨l0, l1, ll⟩, ⟨n0, n1, nl⟩⟩ := S2.out
    go_wp2_with fail
    refine (CP.out _).mono ?_; rintro e' w2 ⟨rfl, z2⟩
    have S3 := Lib.hid (S2.out.later z2)
    have B3 := Lib.hid (bel_trans B2.out z2)
    clear z2 S2 B2 i0 i1 il j0 j1 jl l0 l1 ll n0 n1 nl CP
    cases p with
    | true =>
      go_wp2
      go_ret
      exact ⟨by rw [HV.out]; rfl, B3.out⟩
    | false =>
      obtain ⟨⟨i0, i1, il⟩, ⟨j0, j1, jl⟩, ⟨l0, l1, ll⟩, ⟨n0, n1, nl⟩⟩ := S3.out
      go_wp2_with fail
      refine (CQ.out _).mono ?_; rintro e' w3 ⟨rfl, z3⟩
      have S4 := Lib.hid (S3.out.later z3)
      have B4 := Lib.hid (bel_trans B3.out z3)
      clear z3 S3 B3 i0 i1 il j0 j1 jl l0 l1 ll n0 n1 nl CQ
      cases q with
      | true =>
        go_wp2
        go_ret
        exact ⟨by rw [HV.out]; rfl, B4.out⟩
      | false =>
        obtain ⟨⟨i0, i1, il⟩, ⟨j0, j1, jl⟩, ⟨l0, l1, ll⟩, ⟨n0, n1, nl⟩⟩ := S4.out
        go_wp2_with fail
        refine (CS.out _).mono ?_; rintro e' w4 ⟨rfl, z4⟩
        have B5 := Lib.hid (bel_trans B4.out z4)
        clear z4 S4 B4 i0 i1 il j0 j1 jl l0 l1 ll n0 n1 nl CS
        cases c with
        | false =>
          go_wp2
          go_ret
          exact ⟨by rw [HV.out]; rfl, B5.out⟩
        | true =>
          go_wp2_with fail
          refine (CM.out _).mono ?_; rintro e' w5 ⟨rfl, z5⟩
          have B6 := Lib.hid (bel_trans B5.out z5)
          clear z5 B5 CM
          cases m with
          | false =>
            go_wp2
            go_ret
            exact ⟨by rw [HV.out]; rfl, B6.out⟩
          | true =>
            go_wp2_with fail
            refine (CN.out _).mono ?_; rintro e' w6 ⟨rfl, z6⟩
            go_wp2
            go_ret
            exact ⟨by rw [HV.out]; rfl, bel_trans B6.out z6⟩
theorem refRingHas_is {s t x y u v e f r : Int} {h : Bool} (hh : ringP s t x y u v e f r = h) (s0 : -536870912 ≤ s) (s1 : s ≤ 536870912) (t0 : -536870912 ≤ t) (t1 : t ≤ 536870912) (x0 : -536870912 ≤ x) (x1 : x ≤ 536870912) (y0 : -536870912 ≤ y) (y1 : y ≤ 536870912) (u0 : -536870912 ≤ u) (u1 : u ≤ 536870912) (v0 : -536870912 ≤ v) (v1 : v ≤ 536870912) (e0 : -536870912 ≤ e) (e1 : e ≤ 536870912) (f0 : -536870912 ≤ f) (f1 : f ≤ 536870912) (rb : r ≤ 1073741824) (w : World) :
    Calls Try.prog 23 #[ptV s t, ptV x y, ptV u v, ptV e f, .int .i64 r] w fun e' w' => e' = .returned (.bool h) ∧ Below w.heap.size w w' := hh ▸ refRingHas_any s t x y u v e f r s0 s1 t0 t1 x0 x1 y0 y1 u0 u1 v0 v1 e0 e1 f0 f1 rb w
end Go.Proofs.Ytoofbbmddddlcaa
