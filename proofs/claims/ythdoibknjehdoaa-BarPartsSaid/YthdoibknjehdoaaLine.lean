/- Contracts of package line: what Has and Class return for every point up to Far, every box that may be, all ends up to Far and every radius up to 2 to the 30. -/
import Derived.Test.YthdoibknjehdoaaWide
import Derived.Test.YthdoibknjehdoaaBoxM
import Derived.Test.YthdoibknjehdoaaRefBoxM
import Derived.Test.YthdoibknjehdoaaDisc
import Derived.Test.YthdoibknjehdoaaLineMath
import Derived.Deep.Cut
namespace Go.Proofs.Ythdoibknjehdoaa
open Go.RowKit

/-- Three points in blocks side by side. -/
structure P3At (n : Nat) (x y u v s t : Int) (w : World) : Prop where
  a : PtAt w n x y
  b : PtAt w (n + 1) u v
  c : PtAt w (n + 1 + 1) s t
theorem P3At.later {n : Nat} {x y u v s t : Int} {w w1 : World} (h : P3At n x y u v s t w) (k : Below w.heap.size w w1) : P3At n x y u v s t w1 := ⟨h.a.later k, h.b.later k, h.c.later k⟩
theorem p3_new (w : World) (x y u v s t : Int) (n : TypeId) : P3At w.heap.size x y u v s t (((w.alloc (.cells #[.int .i64 x, .int .i64 y] n)).alloc (.cells #[.int .i64 u, .int .i64 v] n)).alloc (.cells #[.int .i64 s, .int .i64 t] n)) := by
  refine ⟨((ptAt_new w x y n).alloc _).alloc _, ?_, ?_⟩
  · have h := (ptAt_new (w.alloc (.cells #[.int .i64 x, .int .i64 y] n)) u v n).alloc (.cells #[.int .i64 s, .int .i64 t] n)
    rw [show (w.alloc (.cells #[.int .i64 x, .int .i64 y] n)).heap.size = w.heap.size + 1 by simp] at h
    exact h
  · have h := ptAt_new ((w.alloc (.cells #[.int .i64 x, .int .i64 y] n)).alloc (.cells #[.int .i64 u, .int .i64 v] n)) s t n
    rw [show ((w.alloc (.cells #[.int .i64 x, .int .i64 y] n)).alloc (.cells #[.int .i64 u, .int .i64 v] n)).heap.size = w.heap.size + 1 + 1 by simp] at h
    exact h
theorem bel_p3 (w : World) (x y u v s t : Int) (n : TypeId) : Below w.heap.size w (((w.alloc (.cells #[.int .i64 x, .int .i64 y] n)).alloc (.cells #[.int .i64 u, .int .i64 v] n)).alloc (.cells #[.int .i64 s, .int .i64 t] n)) := bel_alloc (bel_alloc (bel_alloc (bel_refl w) _) _) _

theorem sq_is {a h l : Int} (hh : mulHi (absI a) (absI a) = h) (hl : mulLo (absI a) (absI a) = l) (h0 : -9223372036854775808 ≤ a) (h1 : a ≤ 9223372036854775807) (w : World) :
    Calls Try.prog 39 #[.int .i64 a] w fun e w' => e = .returned (wide h l) ∧ Below w.heap.size w w' := hh ▸ hl ▸ sq_any a h0 h1 w
theorem mul_is {a b h l : Int} (hh : mulHi a b = h) (hl : mulLo a b = l) (h0 : 0 ≤ a) (h1 : a ≤ 18446744073709551615) (h2 : 0 ≤ b) (h3 : b ≤ 18446744073709551615) (w : World) :
    Calls Try.prog 41 #[.int .u64 a, .int .u64 b] w fun e w' => e = .returned (wide h l) ∧ Below w.heap.size w w' := hh ▸ hl ▸ mul_any a b h0 h1 h2 h3 w
theorem cmp_is {a b c d q : Int} (hq : cmpWide a b c d = q) (hb : 0 ≤ b) (hb' : b ≤ 18446744073709551615) (hd : 0 ≤ d) (hd' : d ≤ 18446744073709551615) (w : World) :
    Calls Try.prog 37 #[wide a b, wide c d] w fun e w' => e = .returned (.int .i64 q) ∧ Below w.heap.size w w' := hq ▸ cmp_any a b c d hb hb' hd hd' w

set_option maxHeartbeats 1000000 in
theorem lineDot_any (x y u v s t : Int) (x0 : -536870912 ≤ x) (x1 : x ≤ 536870912) (y0 : -536870912 ≤ y) (y1 : y ≤ 536870912) (u0 : -536870912 ≤ u) (u1 : u ≤ 536870912) (v0 : -536870912 ≤ v) (v1 : v ≤ 536870912) (s0 : -536870912 ≤ s) (s1 : s ≤ 536870912) (t0 : -536870912 ≤ t) (t1 : t ≤ 536870912) (w : World) :
    Calls Try.prog 40 #[ptV x y, ptV u v, ptV s t] w fun e w' => e = .returned (.int .i64 (dotI x y u v s t)) ∧ Below w.heap.size w w' := by
  have m1 := mul_bd (X := u - x) (Y := s - x) (by omega) (by omega) (by omega) (by omega)
  have m2 := mul_bd (X := v - y) (Y := t - y) (by omega) (by omega) (by omega) (by omega)
  have H := Lib.hid (show dotI x y u v s t = (u - x) * (s - x) + (v - y) * (t - y) from rfl)
  go_enter Try.func40, Try.ntmps40
  go_wp2
  go_ret
  exact ⟨by rw [H.out]; rfl, bel_alloc (bel_alloc (bel_alloc (bel_refl w) _) _) _⟩
theorem lineDot_is {x y u v s t k : Int} (h : dotI x y u v s t = k) (x0 : -536870912 ≤ x) (x1 : x ≤ 536870912) (y0 : -536870912 ≤ y) (y1 : y ≤ 536870912) (u0 : -536870912 ≤ u) (u1 : u ≤ 536870912) (v0 : -536870912 ≤ v) (v1 : v ≤ 536870912) (s0 : -536870912 ≤ s) (s1 : s ≤ 536870912) (t0 : -536870912 ≤ t) (t1 : t ≤ 536870912) (w : World) :
    Calls Try.prog 40 #[ptV x y, ptV u v, ptV s t] w fun e w' => e = .returned (.int .i64 k) ∧ Below w.heap.size w w' := h ▸ lineDot_any x y u v s t x0 x1 y0 y1 u0 u1 v0 v1 s0 s1 t0 t1 w

set_option maxHeartbeats 2000000 in
theorem lineNear_any (a b c d x y r : Int) (a0 : -536870912 ≤ a) (ac : a ≤ c) (c1 : c ≤ 536870912) (b0 : -536870912 ≤ b) (bd : b ≤ d) (d1 : d ≤ 536870912) (x0 : -536870912 ≤ x) (x1 : x ≤ 536870912) (y0 : -536870912 ≤ y) (y1 : y ≤ 536870912) (r0 : -9223372036854775808 ≤ r) (r1 : r ≤ 9223372036854775807) (w : World) :
    Calls Try.prog 30 #[boxV a b c d, ptV x y, .int .i64 r] w fun e w' => e = .returned (.bool (nearB r (nearS a b c d x y))) ∧ Below w.heap.size w w' := by
  obtain ⟨n, hn⟩ : ∃ n, nearS a b c d x y = n := ⟨_, rfl⟩
  obtain ⟨h, hh⟩ : ∃ h, mulHi (absI r) (absI r) = h := ⟨_, rfl⟩
  obtain ⟨l, hl⟩ : ∃ l, mulLo (absI r) (absI r) = l := ⟨_, rfl⟩
  obtain ⟨q, hq⟩ : ∃ q, cmpWide 0 n h l = q := ⟨_, rfl⟩
  obtain ⟨g, hg⟩ : ∃ g, nearB r n = g := ⟨_, rfl⟩
  have nb := near_bd a0 ac c1 b0 bd d1 x0 x1 y0 y1
  have nn := nearS_nn a b c d x y
  rw [hn] at nb nn
  have lb := mulLo_bd (absI r) (absI r)
  rw [hl] at lb
  have hc : decide (q ≤ 0) = g := by rw [← hg, ← hq, ← hh, ← hl]; exact cmp_near n r
  have C1 := Lib.hid (fun w => near_is hn a0 ac c1 b0 bd d1 x0 x1 y0 y1 w)
  have C2 := Lib.hid (fun w => sq_is hh hl r0 r1 w)
  have C3 := Lib.hid (fun w => cmp_is hq (by omega) (by omega) lb.1 lb.2 w)
  have s1 : IntKind.u64.wrap n = n := by rw [IntKind.wrap_u64]; omega
  have B0 := Lib.hid (bel_alloc (bel_alloc (bel_refl w) (.cells #[.int .i64 a, .int .i64 b, .int .i64 c, .int .i64 d] 23)) (.cells #[.int .i64 x, .int .i64 y] 25))
  rw [hn, hg]
  clear hn hh hl hq hg a0 ac c1 b0 bd d1 x0 x1 y0 y1 r0 r1 nb lb
  go_enter Try.func30, Try.ntmps30
  go_wp2_with fail
  refine (C1.out _).mono ?_; rintro e w1 ⟨rfl, z1⟩
  have B1 := Lib.hid (bel_trans B0.out z1)
  clear z1 B0
  go_wp2_with fail
  refine (C2.out _).mono ?_; rintro e w2 ⟨rfl, z2⟩
  have B2 := Lib.hid (bel_trans B1.out z2)
  clear z2 B1
  go_wp2_with fail
  refine (C3.out _).mono ?_; rintro e w3 ⟨rfl, z3⟩
  go_wp2
  go_ret
  exact ⟨by rw [← hc]; rfl, bel_trans B2.out z3⟩
theorem lineNear_is {a b c d x y r n : Int} {g : Bool} (hn : nearS a b c d x y = n) (hg : nearB r n = g) (a0 : -536870912 ≤ a) (ac : a ≤ c) (c1 : c ≤ 536870912) (b0 : -536870912 ≤ b) (bd : b ≤ d) (d1 : d ≤ 536870912) (x0 : -536870912 ≤ x) (x1 : x ≤ 536870912) (y0 : -536870912 ≤ y) (y1 : y ≤ 536870912) (r0 : -9223372036854775808 ≤ r) (r1 : r ≤ 9223372036854775807) (w : World) :
    Calls Try.prog 30 #[boxV a b c d, ptV x y, .int .i64 r] w fun e w' => e = .returned (.bool g) ∧ Below w.heap.size w w' := hg ▸ hn ▸ lineNear_any a b c d x y r a0 ac c1 b0 bd d1 x0 x1 y0 y1 r0 r1 w

set_option maxHeartbeats 4000000 in
theorem lineBeside_any (s t x y u v r : Int) (s0 : -536870912 ≤ s) (s1 : s ≤ 536870912) (t0 : -536870912 ≤ t) (t1 : t ≤ 536870912) (x0 : -536870912 ≤ x) (x1 : x ≤ 536870912) (y0 : -536870912 ≤ y) (y1 : y ≤ 536870912) (u0 : -536870912 ≤ u) (u1 : u ≤ 536870912) (v0 : -536870912 ≤ v) (v1 : v ≤ 536870912) (ra : 1 ≤ r) (rb : r ≤ 1073741824) (w : World) :
    Calls Try.prog 31 #[ptV s t, ptV x y, ptV u v, .int .i64 r] w fun e w' => e = .returned (.bool (besideB r (dotI x y u v s t) (sqI x y u v) (crI x y u v s t))) ∧ Below w.heap.size w w' := by
  obtain ⟨k, hk⟩ : ∃ k, crI x y u v s t = k := ⟨_, rfl⟩
  obtain ⟨o, ho⟩ : ∃ o, dotI x y u v s t = o := ⟨_, rfl⟩
  obtain ⟨L, hL⟩ : ∃ L, sqI x y u v = L := ⟨_, rfl⟩
  have kb := crI_bd x0 x1 y0 y1 u0 u1 v0 v1 s0 s1 t0 t1
  have ob := dotI_bd x0 x1 y0 y1 u0 u1 v0 v1 s0 s1 t0 t1
  have Lb := sqI_bd x0 x1 y0 y1 u0 u1 v0 v1
  rw [hk] at kb
  rw [ho] at ob
  rw [hL] at Lb
  have C1 := Lib.hid (fun w => lineDot_is ho x0 x1 y0 y1 u0 u1 v0 v1 s0 s1 t0 t1 w)
  have C2 := Lib.hid (fun w => lineDot_is ((dot_sq x y u v).trans hL) x0 x1 y0 y1 u0 u1 v0 v1 u0 u1 v0 v1 w)
  have C3 := Lib.hid (fun w => cross_is hk x0 x1 y0 y1 u0 u1 v0 v1 s0 s1 t0 t1 w)
  have S0 := Lib.hid (p3_new w s t x y u v 25)
  have B0 := Lib.hid (bel_p3 w s t x y u v 25)
  rw [hk, ho, hL]
  clear hk ho hL x0 x1 y0 y1 u0 u1 v0 v1 s0 s1 t0 t1
  go_enter Try.func31, Try.ntmps31
  go_wp2_with fail
  generalize ((w.alloc (.cells #[.int .i64 s, .int .i64 t] 25)).alloc (.cells #[.int .i64 x, .int .i64 y] 25)).alloc (.cells #[.int .i64 u, .int .i64 v] 25) = W at *
  obtain ⟨⟨i0, i1, il⟩, ⟨j0, j1, jl⟩, ⟨l0, l1, ll⟩⟩ := S0.out
  have i0 := cell_regrown i0
  have i1 := cell_regrown i1
  have j0 := cell_regrown j0
  have j1 := cell_regrown j1
  have l0 := cell_regrown l0
  have l1 := cell_regrown l1
  have D1 := Lib.hid (fun p : Regrown => Calls.regrown_of (C1.out (Go.Sort.grow (redrawn W p.d) p.os)))
  have D2 := Lib.hid (fun p : Regrown => Calls.regrown_of (C2.out (Go.Sort.grow (redrawn W p.d) p.os)))
  refine wp_region_quiet_below (by kernel_rfl) (by kernel_rfl) ?_
  repeat (go_big_quiet_step (first | with_reducible exact D1.out _ | with_reducible exact D2.out _))
  refine wpQuiet_nil ?_
  intro _ hw'
  obtain ⟨⟨dq, osq⟩, hw''⟩ := hw'
  subst hw''
  have bz := below_regrown W dq osq
  have S1 := Lib.hid (S0.out.later bz)
  have B1 := Lib.hid (bel_trans B0.out bz)
  clear bz i0 i1 il j0 j1 jl l0 l1 ll S0 B0 D1 D2 C1 C2
  generalize Go.Sort.grow (redrawn W dq) osq = V at *
  by_cases h1 : o ≤ 0
  · have H := Lib.hid (besideB_low (r := r) (L := L) (k := k) h1)
    go_wp2
    go_ret
    exact ⟨by rw [H.out]; rfl, B1.out⟩
  by_cases h2 : L ≤ o
  · have H := Lib.hid (besideB_high (r := r) (t := o) (k := k) h2)
    go_wp2
    go_ret
    exact ⟨by rw [H.out]; rfl, B1.out⟩
  have H := Lib.hid (besideB_mid (r := r) (k := k) (show 0 < o by omega) (show o < L by omega))
  obtain ⟨q, hq⟩ : ∃ q, r * r = q := ⟨_, rfl⟩
  have m1 := mul_bd (X := r) (Y := r) (by omega) rb (by omega) rb
  have m2 := sq_nonneg r
  rw [hq] at m1 m2
  obtain ⟨h, hh⟩ : ∃ h, mulHi (absI k) (absI k) = h := ⟨_, rfl⟩
  obtain ⟨l, hl⟩ : ∃ l, mulLo (absI k) (absI k) = l := ⟨_, rfl⟩
  obtain ⟨h', hh'⟩ : ∃ h, mulHi L q = h := ⟨_, rfl⟩
  obtain ⟨l', hl'⟩ : ∃ l, mulLo L q = l := ⟨_, rfl⟩
  obtain ⟨z, hz⟩ : ∃ z, cmpWide h l h' l' = z := ⟨_, rfl⟩
  have lb := mulLo_bd (absI k) (absI k)
  rw [hl] at lb
  have lb' := mulLo_bd L q
  rw [hl'] at lb'
  have hc : decide (z ≤ 0) = decide (k * k ≤ r * r * L) := by rw [← hz, ← hh, ← hl, ← hh', ← hl', hq]; exact cmp_sqs k L q
  have HC := Lib.hid (H.out.trans hc.symm)
  have C4 := Lib.hid (fun w => sq_is hh hl (by omega) (by omega) w)
  have C5 := Lib.hid (fun w => mul_is hh' hl' (by omega) (by omega) (by omega) (by omega) w)
  have C6 := Lib.hid (fun w => cmp_is hz lb.1 lb.2 lb'.1 lb'.2 w)
  have e1 : (if 2147483648 < r then 2147483648 else r) = r := if_neg (by omega)
  have e2 : IntKind.u64.wrap L = L := by rw [IntKind.wrap_u64]; omega
  have e3 : IntKind.u64.wrap q = q := by rw [IntKind.wrap_u64]; omega
  have e4 : IntKind.i64.wrap (r * r) = q := by rw [hq]; exact IntWalk.i64_in _ (by omega)
  clear hh hl hh' hl' hz lb lb' hc H hq
  obtain ⟨⟨i0, i1, il⟩, ⟨j0, j1, jl⟩, ⟨l0, l1, ll⟩⟩ := S1.out
  go_wp2_with fail
  refine (C3.out _).mono ?_; rintro e w1 ⟨rfl, z1⟩
  have B2 := Lib.hid (bel_trans B1.out z1)
  clear z1 B1 i0 i1 il j0 j1 jl l0 l1 ll
  go_wp2_with fail
  refine (C4.out _).mono ?_; rintro e w2 ⟨rfl, z2⟩
  have B3 := Lib.hid (bel_trans B2.out z2)
  clear z2 B2
  go_wp2_with fail
  refine (C5.out _).mono ?_; rintro e w3 ⟨rfl, z3⟩
  have B4 := Lib.hid (bel_trans B3.out z3)
  clear z3 B3
  go_wp2_with fail
  refine (C6.out _).mono ?_; rintro e w4 ⟨rfl, z4⟩
  go_wp2
  go_ret
  exact ⟨by rw [HC.out]; rfl, bel_trans B4.out z4⟩
theorem lineBeside_is {s t x y u v r o L k : Int} {g : Bool} (ho : dotI x y u v s t = o) (hL : sqI x y u v = L) (hk : crI x y u v s t = k) (hg : besideB r o L k = g) (s0 : -536870912 ≤ s) (s1 : s ≤ 536870912) (t0 : -536870912 ≤ t) (t1 : t ≤ 536870912) (x0 : -536870912 ≤ x) (x1 : x ≤ 536870912) (y0 : -536870912 ≤ y) (y1 : y ≤ 536870912) (u0 : -536870912 ≤ u) (u1 : u ≤ 536870912) (v0 : -536870912 ≤ v) (v1 : v ≤ 536870912) (ra : 1 ≤ r) (rb : r ≤ 1073741824) (w : World) :
    Calls Try.prog 31 #[ptV s t, ptV x y, ptV u v, .int .i64 r] w fun e w' => e = .returned (.bool g) ∧ Below w.heap.size w w' := hg ▸ hk ▸ hL ▸ ho ▸ lineBeside_any s t x y u v r s0 s1 t0 t1 x0 x1 y0 y1 u0 u1 v0 v1 ra rb w

set_option maxHeartbeats 4000000 in
theorem lineHas_any (s t x y u v r : Int) (s0 : -536870912 ≤ s) (s1 : s ≤ 536870912) (t0 : -536870912 ≤ t) (t1 : t ≤ 536870912) (x0 : -536870912 ≤ x) (x1 : x ≤ 536870912) (y0 : -536870912 ≤ y) (y1 : y ≤ 536870912) (u0 : -536870912 ≤ u) (u1 : u ≤ 536870912) (v0 : -536870912 ≤ v) (v1 : v ≤ 536870912) (rb : r ≤ 1073741824) (w : World) :
    Calls Try.prog 20 #[ptV s t, ptV x y, ptV u v, .int .i64 r] w fun e w' => e = .returned (.bool (lineB x y u v r s t)) ∧ Below w.heap.size w w' := by
  have S0 := p3_new w s t x y u v 25
  have B0 := bel_p3 w s t x y u v 25
  have Q0 := boxAt_new (((w.alloc (.cells #[.int .i64 s, .int .i64 t] 25)).alloc (.cells #[.int .i64 x, .int .i64 y] 25)).alloc (.cells #[.int .i64 u, .int .i64 v] 25)) s t s t 23
  have T0 := Lib.hid (S0.later (bel_alloc (bel_refl _) (.cells #[.int .i64 s, .int .i64 t, .int .i64 s, .int .i64 t] 23)))
  have B0 := Lib.hid (bel_alloc B0 (.cells #[.int .i64 s, .int .i64 t, .int .i64 s, .int .i64 t] 23))
  rw [show (((w.alloc (.cells #[.int .i64 s, .int .i64 t] 25)).alloc (.cells #[.int .i64 x, .int .i64 y] 25)).alloc (.cells #[.int .i64 u, .int .i64 v] 25)).heap.size = w.heap.size + 1 + 1 + 1 by simp] at Q0
  have Q0 := Lib.hid Q0
  clear S0
  by_cases hr : r < 1
  · have H := Lib.hid (line_out hr x y u v s t)
    have hr1 : decide (1 ≤ r) = false := decide_eq_false (by omega)
    go_enter Try.func20, Try.ntmps20
    go_wp2
    go_ret
    exact ⟨by rw [H.out]; rfl, B0.out⟩
  have ra : 1 ≤ r := by omega
  obtain ⟨k, hk⟩ : ∃ k, crI x y u v s t = k := ⟨_, rfl⟩
  obtain ⟨o, ho⟩ : ∃ o, dotI x y u v s t = o := ⟨_, rfl⟩
  obtain ⟨L, hL⟩ : ∃ L, sqI x y u v = L := ⟨_, rfl⟩
  obtain ⟨m, hm⟩ : ∃ m, sqI x y s t = m := ⟨_, rfl⟩
  obtain ⟨n, hn⟩ : ∃ n, sqI u v s t = n := ⟨_, rfl⟩
  obtain ⟨g1, hg1⟩ : ∃ g, nearB r m = g := ⟨_, rfl⟩
  obtain ⟨g2, hg2⟩ : ∃ g, nearB r n = g := ⟨_, rfl⟩
  obtain ⟨g3, hg3⟩ : ∃ g, besideB r o L k = g := ⟨_, rfl⟩
  have H := Lib.hid (show lineB x y u v r s t = (g1 || g2 || g3) by rw [lineB_asks ra, hk, ho, hL, hm, hn, hg1, hg2, hg3])
  have C1 := Lib.hid (fun w => lineNear_is ((near_dot s t x y).trans hm) hg1 s0 (by omega) s1 t0 (by omega) t1 x0 x1 y0 y1 (by omega) (by omega) w)
  have C2 := Lib.hid (fun w => lineNear_is ((near_dot s t u v).trans hn) hg2 s0 (by omega) s1 t0 (by omega) t1 u0 u1 v0 v1 (by omega) (by omega) w)
  have C3 := Lib.hid (fun w => lineBeside_is ho hL hk hg3 s0 s1 t0 t1 x0 x1 y0 y1 u0 u1 v0 v1 ra rb w)
  clear hk ho hL hm hn hg1 hg2 hg3 s0 s1 t0 t1 x0 x1 y0 y1 u0 u1 v0 v1 rb hr
  go_enter Try.func20, Try.ntmps20
  go_upto_region 2 with (fail)
  generalize ((((w.alloc (.cells #[.int .i64 s, .int .i64 t] 25)).alloc (.cells #[.int .i64 x, .int .i64 y] 25)).alloc (.cells #[.int .i64 u, .int .i64 v] 25)).alloc (.cells #[.int .i64 s, .int .i64 t, .int .i64 s, .int .i64 t] 23)) = W at *
  obtain ⟨⟨i0, i1, il⟩, ⟨j0, j1, jl⟩, ⟨l0, l1, ll⟩⟩ := T0.out
  obtain ⟨q0, q1, q2, q3, ql⟩ := Q0.out
  go_wp2_with fail
  refine (C1.out _).mono ?_; rintro e w1 ⟨rfl, z1⟩
  have T1 := Lib.hid (T0.out.later z1)
  have Q1 := Lib.hid (Q0.out.later z1)
  have B1 := Lib.hid (bel_trans B0.out z1)
  clear z1 T0 Q0 B0 i0 i1 il j0 j1 jl l0 l1 ll q0 q1 q2 q3 ql
  cases g1 with
  | true =>
    go_wp2
    go_ret
    exact ⟨by rw [H.out]; rfl, B1.out⟩
  | false =>
    obtain ⟨⟨i0, i1, il⟩, ⟨j0, j1, jl⟩, ⟨l0, l1, ll⟩⟩ := T1.out
    obtain ⟨q0, q1, q2, q3, ql⟩ := Q1.out
    go_wp2_with fail
    refine (C2.out _).mono ?_; rintro e w2 ⟨rfl, z2⟩
    have T2 := Lib.hid (T1.out.later z2)
    have B2 := Lib.hid (bel_trans B1.out z2)
    clear z2 T1 Q1 B1 i0 i1 il j0 j1 jl l0 l1 ll q0 q1 q2 q3 ql
    cases g2 with
    | true =>
      go_wp2
      go_ret
      exact ⟨by rw [H.out]; rfl, B2.out⟩
    | false =>
      obtain ⟨⟨i0, i1, il⟩, ⟨j0, j1, jl⟩, ⟨l0, l1, ll⟩⟩ := T2.out
      go_wp2_with fail
      refine (C3.out _).mono ?_; rintro e w3 ⟨rfl, z3⟩
      go_wp2
      go_ret
      exact ⟨by rw [H.out]; rfl, bel_trans B2.out z3⟩
theorem lineHas_is {s t x y u v r : Int} {h : Bool} (hh : lineB x y u v r s t = h) (s0 : -536870912 ≤ s) (s1 : s ≤ 536870912) (t0 : -536870912 ≤ t) (t1 : t ≤ 536870912) (x0 : -536870912 ≤ x) (x1 : x ≤ 536870912) (y0 : -536870912 ≤ y) (y1 : y ≤ 536870912) (u0 : -536870912 ≤ u) (u1 : u ≤ 536870912) (v0 : -536870912 ≤ v) (v1 : v ≤ 536870912) (rb : r ≤ 1073741824) (w : World) :
    Calls Try.prog 20 #[ptV s t, ptV x y, ptV u v, .int .i64 r] w fun e w' => e = .returned (.bool h) ∧ Below w.heap.size w w' := hh ▸ lineHas_any s t x y u v r s0 s1 t0 t1 x0 x1 y0 y1 u0 u1 v0 v1 rb w
end Go.Proofs.Ythdoibknjehdoaa
