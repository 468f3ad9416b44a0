/- Package disc's contracts, told by the value. Contracts of package ring, all but Class: what they return for all points up to Far and every radius up to 2 to the 30. Contracts of package ring: how a box lies to a sector, and Class, for every box that may be, all points up to Far and every radius up to 2 to the 30. -/
import Derived.Test.YtoofbbmddddlcaaDisc
import Derived.Test.YtoofbbmddddlcaaLine
import Derived.Test.YtoofbbmddddlcaaRingTally
import Derived.Test.YtoofbbmddddlcaaRefRing
import Derived.Lib.QuietBelow
import Derived.Test.YtoofbbmddddlcaaBoxI
namespace Go.Proofs.Ytoofbbmddddlcaa
open Go.RowKit

theorem discClass_is {a b c d x y r k : Int} (hk : discK r (nearS a b c d x y) (mostS a b c d x y) = k) (a0 : -536870912 ≤ a) (ac : a ≤ c) (c1 : c ≤ 536870912) (b0 : -536870912 ≤ b) (bd : b ≤ d) (d1 : d ≤ 536870912) (x0 : -536870912 ≤ x) (x1 : x ≤ 536870912) (y0 : -536870912 ≤ y) (y1 : y ≤ 536870912) (hr : r ≤ 1073741824) (w : World) :
    Calls Try.prog 32 #[boxV a b c d, ptV x y, .int .i64 r] w fun e w' => e = .returned (.int .i64 k) ∧ Below w.heap.size w w' := hk ▸ class_any a b c d x y r a0 ac c1 b0 bd d1 x0 x1 y0 y1 hr w
theorem discHad_is {x y u v r : Int} {h : Bool} (hh : discB r (sqI u v x y) = h) (x0 : -536870912 ≤ x) (x1 : x ≤ 536870912) (y0 : -536870912 ≤ y) (y1 : y ≤ 536870912) (u0 : -536870912 ≤ u) (u1 : u ≤ 536870912) (v0 : -536870912 ≤ v) (v1 : v ≤ 536870912) (hr : r ≤ 1073741824) (w : World) :
    Calls Try.prog 28 #[ptV x y, ptV u v, .int .i64 r] w fun e w' => e = .returned (.bool h) ∧ Below w.heap.size w w' := hh ▸ discHas_any x y u v r x0 x1 y0 y1 u0 u1 v0 v1 hr w
end Go.Proofs.Ytoofbbmddddlcaa
namespace Go.Proofs.Ytoofbbmddddlcaa
open Go.RowKit
open Go.Sort (grow)

/-- The same question, asked the other way: the circle is no farther than its own distance and the width. -/
theorem up_dn {d B S : Int} (hd : 0 ≤ d) (hS : 0 ≤ S) : upW B d S = dnW d B S := by
  unfold upW dnW
  rw [decide_eq_decide]
  have e : (B - d - S) * (B - d - S) = (B + S - d) * (B + S - d) - 4 * S * B + 4 * S * d := by grind
  constructor
  · intro h
    by_cases h1 : B ≤ S
    · exact .inl h1
    by_cases h2 : B + S - d ≤ 0
    · exact .inr (.inl h2)
    refine .inr (.inr ?_)
    rcases h with h | h
    · have g := sq_le (A := B + S - d) (B := 2 * S) (by omega) (by omega)
      have g1 : 2 * S * (2 * S) = 4 * (S * S) := by grind
      have g2 : S * S ≤ S * B := Int.mul_le_mul_of_nonneg_left (by omega) hS
      have g3 : 4 * S * B = 4 * (S * B) := by grind
      omega
    · omega
  · rintro (h | h | h)
    · exact .inl (by omega)
    · exact .inl (by omega)
    · exact .inr (by omega)
theorem sqI_none {x y u v : Int} : sqI x y u v = 0 ↔ x = u ∧ y = v := by
  unfold sqI
  constructor
  · intro h
    have h1 := sq_nonneg (u - x)
    have h2 := sq_nonneg (v - y)
    have g1 : (u - x) * (u - x) = 0 := by omega
    have g2 : (v - y) * (v - y) = 0 := by omega
    rcases Int.mul_eq_zero.1 g1 with g | g <;> rcases Int.mul_eq_zero.1 g2 with g' | g' <;> omega
  · rintro ⟨rfl, rfl⟩
    rw [Int.sub_self, Int.sub_self]; rfl
theorem pos_ne {m : Int} (h : 0 ≤ m) (k : m ≠ 0) : 0 < m := by omega
theorem ok_some {m n : Int} (h : 0 < m) : decide (m = n ∧ 0 < m) = (m == n) := by
  by_cases e : m = n
  · rw [decide_eq_true ⟨e, h⟩, beq_iff_eq.2 e]
  · rw [decide_eq_false (fun k => e k.1), beq_eq_false_iff_ne.2 e]
/-- On which sides of both lines a point lies, as bits. -/
def pairN (p q : Bool) : Int := (if p then 1 else 0) + (if q then 2 else 0)
theorem or_pair (p q p' q' : Bool) : bits .or .i64 (pairN p q) (pairN p' q') = pairN (p || p') (q || q') := by
  cases p <;> cases q <;> cases p' <;> cases q' <;> rfl
theorem and_pair (p q p' q' : Bool) : bits .and .i64 (pairN p q) (pairN p' q') = pairN (p && p') (q && q') := by
  cases p <;> cases q <;> cases p' <;> cases q' <;> rfl
theorem pair_bd (p q : Bool) : 0 ≤ pairN p q ∧ pairN p q ≤ 3 := by cases p <;> cases q <;> decide
def sideR (x y u v e f s t : Int) : Int := pairN (decide (0 ≤ crI x y u v s t)) (decide (0 ≤ crI x y s t e f))
def emptyR (x y u v e f r : Int) : Bool := !okR x y u v e f || decide (r < 1)
set_option maxHeartbeats 1000000 in
theorem ringSquare_is {x y u v n : Int} (hn : sqI u v x y = n) (x0 : -536870912 ≤ x) (x1 : x ≤ 536870912) (y0 : -536870912 ≤ y) (y1 : y ≤ 536870912) (u0 : -536870912 ≤ u) (u1 : u ≤ 536870912) (v0 : -536870912 ≤ v) (v1 : v ≤ 536870912) (w : World) :
    Calls Try.prog 34 #[ptV x y, ptV u v] w fun e' w' => e' = .returned (.int .i64 n) ∧ Below w.heap.size w w' := by
  have C1 := Lib.hid (fun w => near_is ((near_dot x y u v).trans hn) x0 (by omega) x1 y0 (by omega) y1 u0 u1 v0 v1 w)
  have B0 := Lib.hid (bel_alloc (bel_alloc (bel_refl w) (.cells #[.int .i64 x, .int .i64 y] 25)) (.cells #[.int .i64 u, .int .i64 v] 25))
  clear hn x0 x1 y0 y1 u0 u1 v0 v1
  go_enter Try.func34, Try.ntmps34
  go_wp2_with fail
  refine (C1.out _).mono ?_; rintro e' w1 ⟨rfl, z1⟩
  go_wp2
  go_ret
  exact ⟨rfl, bel_trans B0.out z1⟩
set_option maxHeartbeats 4000000 in
theorem ringLonger_any (d B S : Int) (d0 : 0 ≤ d) (d1 : d ≤ 2305843009213693952) (B0 : 0 ≤ B) (B1 : B ≤ 2305843009213693952) (S0 : 0 ≤ S) (S1 : S ≤ 1152921504606846976) (w : World) :
    Calls Try.prog 37 #[.int .i64 d, .int .i64 B, .int .i64 S] w fun e' w' => e' = .returned (.bool (!(upW d B S))) ∧ Below w.heap.size w w' := by
  obtain ⟨Q, hQ⟩ : ∃ Q, 4 * B = Q := ⟨_, rfl⟩
  obtain ⟨q, hq⟩ : ∃ q, d - B - S = q := ⟨_, rfl⟩
  obtain ⟨h, hh⟩ : ∃ h, mulHi (absI q) (absI q) = h := ⟨_, rfl⟩
  obtain ⟨l, hl⟩ : ∃ l, mulLo (absI q) (absI q) = l := ⟨_, rfl⟩
  obtain ⟨h', hh'⟩ : ∃ h, mulHi Q S = h := ⟨_, rfl⟩
  obtain ⟨l', hl'⟩ : ∃ l, mulLo Q S = l := ⟨_, rfl⟩
  obtain ⟨z, hz⟩ : ∃ z, cmpWide h l h' l' = z := ⟨_, rfl⟩
  have lb := mulLo_bd (absI q) (absI q)
  rw [hl] at lb
  have lb' := mulLo_bd Q S
  rw [hl'] at lb'
  have hc : decide (z ≤ 0) = decide (q * q ≤ Q * S) := by rw [← hz, ← hh, ← hl, ← hh', ← hl']; exact cmp_sqs' q S Q
  have eQ : Q * S = 4 * S * B := by rw [← hQ]; grind
  rw [eQ] at hc
  have HV := Lib.hid (show (!(upW d B S)) = (decide (0 < q) && decide (0 < z)) by
    unfold upW; rw [hq, Bool.decide_or, ← hc, Bool.not_or]
    congr 1 <;> rw [← decide_not, decide_eq_decide] <;> omega)
  have C4 := Lib.hid (fun w => sq_is hh hl (by omega) (by omega) w)
  have C5 := Lib.hid (fun w => mul_is hh' hl' (by omega) (by omega) (by omega) (by omega) w)
  have C6 := Lib.hid (fun w => cmp_is hz lb.1 lb.2 lb'.1 lb'.2 w)
  have e2 : IntKind.i64.wrap (d - B) = d - B := IntWalk.i64_in _ (by omega)
  have e3 : IntKind.i64.wrap (d - B - S) = q := by rw [hq]; exact IntWalk.i64_in _ (by omega)
  have e5 : IntKind.u64.wrap B = B := by rw [IntKind.wrap_u64]; omega
  have e6 : IntKind.u64.wrap (4 * B) = Q := by rw [IntKind.wrap_u64]; omega
  have e7 : IntKind.u64.wrap S = S := by rw [IntKind.wrap_u64]; omega
  clear hh hl hh' hl' hz lb lb' hc hq hQ eQ
  by_cases h1 : 0 < q
  case pos =>
    have z1 : decide (0 < q) = true := decide_eq_true h1
    have H := HV.out
    rw [z1] at H
    have H := Lib.hid H
    clear HV h1
    go_enter Try.func37, Try.ntmps37
    go_wp2_with fail
    refine (C4.out _).mono ?_; rintro e w2 ⟨rfl, z2⟩
    go_wp2_with fail
    refine (C5.out _).mono ?_; rintro e w3 ⟨rfl, z3⟩
    have B4 := Lib.hid (bel_trans z2 z3)
    clear z2 z3
    go_wp2_with fail
    refine (C6.out _).mono ?_; rintro e w4 ⟨rfl, z4⟩
    go_wp2
    go_ret
    exact ⟨by rw [H.out]; rfl, bel_trans B4.out z4⟩
  case neg =>
    have z1 : decide (0 < q) = false := decide_eq_false h1
    have H := HV.out
    rw [z1] at H
    have H := Lib.hid H
    clear HV h1
    go_enter Try.func37, Try.ntmps37
    go_wp2
    go_ret
    exact ⟨by rw [H.out]; rfl, bel_refl w⟩
theorem ringLonger_is {d B S : Int} {g : Bool} (hg : (!(upW d B S)) = g) (d0 : 0 ≤ d) (d1 : d ≤ 2305843009213693952) (B0 : 0 ≤ B) (B1 : B ≤ 2305843009213693952) (S0 : 0 ≤ S) (S1 : S ≤ 1152921504606846976) (w : World) :
    Calls Try.prog 37 #[.int .i64 d, .int .i64 B, .int .i64 S] w fun e' w' => e' = .returned (.bool g) ∧ Below w.heap.size w w' := hg ▸ ringLonger_any d B S d0 d1 B0 B1 S0 S1 w
set_option maxHeartbeats 4000000 in
theorem ringOk_any (x y u v e f : Int) (x0 : -536870912 ≤ x) (x1 : x ≤ 536870912) (y0 : -536870912 ≤ y) (y1 : y ≤ 536870912) (u0 : -536870912 ≤ u) (u1 : u ≤ 536870912) (v0 : -536870912 ≤ v) (v1 : v ≤ 536870912) (e0 : -536870912 ≤ e) (e1 : e ≤ 536870912) (f0 : -536870912 ≤ f) (f1 : f ≤ 536870912) (w : World) :
    Calls Try.prog 20 #[ptV x y, ptV u v, ptV e f] w fun e' w' => e' = .returned (.bool (okR x y u v e f)) ∧ Below w.heap.size w w' := by
  obtain ⟨m, hm⟩ : ∃ m, sqI x y u v = m := ⟨_, rfl⟩
  obtain ⟨n, hn⟩ : ∃ n, sqI x y e f = n := ⟨_, rfl⟩
  have mb := sqI_bd x0 x1 y0 y1 u0 u1 v0 v1
  rw [hm] at mb
  have C1 := Lib.hid (fun w => ringSquare_is hm u0 u1 v0 v1 x0 x1 y0 y1 w)
  have C2 := Lib.hid (fun w => ringSquare_is hn e0 e1 f0 f1 x0 x1 y0 y1 w)
  have S0 := Lib.hid (p3_new w x y u v e f 25)
  have B0 := Lib.hid (bel_p3 w x y u v e f 25)
  have way : ((u == x) = false ∧ okR x y u v e f = (m == n)) ∨ ((u == x) = true ∧ (v == y) = false ∧ okR x y u v e f = (m == n)) ∨ ((u == x) = true ∧ (v == y) = true ∧ okR x y u v e f = false) := by
    have z := sqI_none (x := x) (y := y) (u := u) (v := v)
    unfold okR
    rw [hm] at z
    rw [hm, hn]
    by_cases h1 : u = x
    · by_cases h2 : v = y
      · exact .inr (.inr ⟨beq_iff_eq.2 h1, beq_iff_eq.2 h2, decide_eq_false (fun h => by have := z.2 ⟨h1.symm, h2.symm⟩; omega)⟩)
      · exact .inr (.inl ⟨beq_iff_eq.2 h1, beq_eq_false_iff_ne.2 h2, ok_some (pos_ne mb.1 fun h => h2 (z.1 h).2.symm)⟩)
    · exact .inl ⟨beq_eq_false_iff_ne.2 h1, ok_some (pos_ne mb.1 fun h => h1 (z.1 h).1.symm)⟩
  clear hm hn mb x0 x1 y0 y1 u0 u1 v0 v1 e0 e1 f0 f1
  rcases way with ⟨z1, H⟩ | ⟨z1, z2, H⟩ | ⟨z1, z2, H⟩
  all_goals
    have H := Lib.hid H
    go_enter Try.func20, Try.ntmps20
    go_wp2_with fail
    generalize ((w.alloc (.cells #[.int .i64 x, .int .i64 y] 25)).alloc (.cells #[.int .i64 u, .int .i64 v] 25)).alloc (.cells #[.int .i64 e, .int .i64 f] 25) = W at *
    obtain ⟨⟨i0, i1, il⟩, ⟨j0, j1, jl⟩, ⟨l0, l1, ll⟩⟩ := S0.out
    have i0 := cell_regrown i0
    have i1 := cell_regrown i1
    have j0 := cell_regrown j0
    have j1 := cell_regrown j1
    have l0 := cell_regrown l0
    have l1 := cell_regrown l1
    have D1 := Lib.hid (fun p : Regrown => Calls.regrown_of (C1.out (grow (redrawn W p.d) p.os)))
    have D2 := Lib.hid (fun p : Regrown => Calls.regrown_of (C2.out (grow (redrawn W p.d) p.os)))
    refine wp_region_quiet_below (by kernel_rfl) (by kernel_rfl) ?_
    repeat (go_big_quiet_step (first | with_reducible exact D1.out _ | with_reducible exact D2.out _))
    refine wpQuiet_nil ?_
    intro _ hw'
    obtain ⟨⟨dq, osq⟩, hw''⟩ := hw'
    subst hw''
    go_wp2
    go_ret
    exact ⟨by rw [H.out]; rfl, bel_trans B0.out (below_regrown W dq osq)⟩
theorem ringOk_is {x y u v e f : Int} {hh : Bool} (h' : okR x y u v e f = hh) (x0 : -536870912 ≤ x) (x1 : x ≤ 536870912) (y0 : -536870912 ≤ y) (y1 : y ≤ 536870912) (u0 : -536870912 ≤ u) (u1 : u ≤ 536870912) (v0 : -536870912 ≤ v) (v1 : v ≤ 536870912) (e0 : -536870912 ≤ e) (e1 : e ≤ 536870912) (f0 : -536870912 ≤ f) (f1 : f ≤ 536870912) (w : World) :
    Calls Try.prog 20 #[ptV x y, ptV u v, ptV e f] w fun e' w' => e' = .returned (.bool hh) ∧ Below w.heap.size w w' := h' ▸ ringOk_any x y u v e f x0 x1 y0 y1 u0 u1 v0 v1 e0 e1 f0 f1 w
set_option maxHeartbeats 4000000 in
theorem ringSides_is {s t x y u v e f N : Int} (hN : sideR x y u v e f s t = N) (s0 : -536870912 ≤ s) (s1 : s ≤ 536870912) (t0 : -536870912 ≤ t) (t1 : t ≤ 536870912) (x0 : -536870912 ≤ x) (x1 : x ≤ 536870912) (y0 : -536870912 ≤ y) (y1 : y ≤ 536870912) (u0 : -536870912 ≤ u) (u1 : u ≤ 536870912) (v0 : -536870912 ≤ v) (v1 : v ≤ 536870912) (e0 : -536870912 ≤ e) (e1 : e ≤ 536870912) (f0 : -536870912 ≤ f) (f1 : f ≤ 536870912) (w : World) :
    Calls Try.prog 48 #[ptV s t, ptV x y, ptV u v, ptV e f] w fun e' w' => e' = .returned (.int .i64 N) ∧ Below w.heap.size w w' := by
  obtain ⟨m, hm⟩ : ∃ m, crI x y u v s t = m := ⟨_, rfl⟩
  obtain ⟨n, hn⟩ : ∃ n, crI x y s t e f = n := ⟨_, rfl⟩
  have C1 := Lib.hid (fun w => cross_is hm x0 x1 y0 y1 u0 u1 v0 v1 s0 s1 t0 t1 w)
  have C2 := Lib.hid (fun w => cross_is hn x0 x1 y0 y1 s0 s1 t0 t1 e0 e1 f0 f1 w)
  have S0 := Lib.hid (p4at_new w s t x y u v e f 25)
  have B0 := Lib.hid (bel_p4at w s t x y u v e f 25)
  obtain ⟨p, hp⟩ : ∃ p, decide (0 ≤ m) = p := ⟨_, rfl⟩
  obtain ⟨q, hq⟩ : ∃ p, decide (0 ≤ n) = p := ⟨_, rfl⟩
  have HV := Lib.hid (show N = pairN p q by rw [← hN]; unfold sideR; rw [hm, hn, hp, hq])
  have o1 : bits .or .i64 0 1 = 1 := rfl
  have o2 : bits .or .i64 0 2 = 2 := rfl
  have o3 : bits .or .i64 1 2 = 3 := rfl
  clear hN hm hn s0 s1 t0 t1 x0 x1 y0 y1 u0 u1 v0 v1 e0 e1 f0 f1
  go_enter Try.func48, Try.ntmps48
  go_wp2_with fail
  generalize (((w.alloc (.cells #[.int .i64 s, .int .i64 t] 25)).alloc (.cells #[.int .i64 x, .int .i64 y] 25)).alloc (.cells #[.int .i64 u, .int .i64 v] 25)).alloc (.cells #[.int .i64 e, .int .i64 f] 25) = W at *
  obtain ⟨⟨i0, i1, il⟩, ⟨j0, j1, jl⟩, ⟨l0, l1, ll⟩, ⟨n0, n1, nl⟩⟩ := S0.out
  go_wp2_with fail
  refine (C1.out _).mono ?_; rintro e' w2 ⟨rfl, z2⟩
  have S1 := Lib.hid (S0.out.later z2)
  have B1 := Lib.hid (bel_trans B0.out z2)
  clear z2 S0 B0 i0 i1 il j0 j1 jl l0 l1 ll n0 n1 nl C1
  cases p
  all_goals
    obtain ⟨⟨i0, i1, il⟩, ⟨j0, j1, jl⟩, ⟨l0, l1, ll⟩, ⟨n0, n1, nl⟩⟩ := S1.out
    go_wp2_with fail
    refine (C2.out _).mono ?_; rintro e' w3 ⟨rfl, z3⟩
    have B2 := Lib.hid (bel_trans B1.out z3)
    clear z3 S1 B1 i0 i1 il j0 j1 jl l0 l1 ll n0 n1 nl C2
    cases q
    all_goals
      go_wp2
      go_ret
      exact ⟨by rw [HV.out]; rfl, B2.out⟩
theorem cov_some (same : Bool) (K : Int) (p q : Bool) (hs : same = false) : innB same K p q = if K < 0 then !(pairN p q == 0) else (pairN p q == 3) := by
  subst hs; unfold innB; rw [Bool.false_or]; cases p <;> cases q <;> rfl
set_option maxHeartbeats 4000000 in
theorem ringCovers_is {p q : Bool} {N x y u v e f : Int} {g : Bool} (hN : pairN p q = N) (hg : innB (decide (u = e ∧ v = f)) (crI x y u v e f) p q = g) (x0 : -536870912 ≤ x) (x1 : x ≤ 536870912) (y0 : -536870912 ≤ y) (y1 : y ≤ 536870912) (u0 : -536870912 ≤ u) (u1 : u ≤ 536870912) (v0 : -536870912 ≤ v) (v1 : v ≤ 536870912) (e0 : -536870912 ≤ e) (e1 : e ≤ 536870912) (f0 : -536870912 ≤ f) (f1 : f ≤ 536870912) (w : World) :
    Calls Try.prog 47 #[.int .i64 N, ptV x y, ptV u v, ptV e f] w fun e' w' => e' = .returned (.bool g) ∧ Below w.heap.size w w' := by
  obtain ⟨k, hk⟩ : ∃ k, crI x y u v e f = k := ⟨_, rfl⟩
  have C3 := Lib.hid (fun w => cross_is hk x0 x1 y0 y1 u0 u1 v0 v1 e0 e1 f0 f1 w)
  have S0 := Lib.hid (p3_new w x y u v e f 25)
  have B0 := Lib.hid (bel_p3 w x y u v e f 25)
  rw [hk] at hg
  have way : ((u == e) = true ∧ (v == f) = true ∧ g = true) ∨ ((u == e) = false ∧ g = if k < 0 then !(N == 0) else (N == 3)) ∨ ((u == e) = true ∧ (v == f) = false ∧ g = if k < 0 then !(N == 0) else (N == 3)) := by
    rcases same_ways u e v f with h1 | ⟨h1, h2⟩ | ⟨h1, h2⟩
    · exact .inr (.inl ⟨beq_eq_false_iff_ne.2 h1, by rw [← hg, ← hN]; exact cov_some _ _ _ _ (decide_eq_false fun h => h1 h.1)⟩)
    · exact .inr (.inr ⟨beq_iff_eq.2 h1, beq_eq_false_iff_ne.2 h2, by rw [← hg, ← hN]; exact cov_some _ _ _ _ (decide_eq_false fun h => h2 h.2)⟩)
    · exact .inl ⟨beq_iff_eq.2 h1, beq_iff_eq.2 h2, by rw [← hg, decide_eq_true ⟨h1, h2⟩]; rfl⟩
  clear hN hg hk x0 x1 y0 y1 u0 u1 v0 v1 e0 e1 f0 f1
  rcases way with ⟨z1, z2, H⟩ | way
  · have H := Lib.hid H
    go_enter Try.func47, Try.ntmps47
    go_wp2
    go_ret
    exact ⟨by rw [H.out]; rfl, B0.out⟩
  have way : ∃ b b' : Bool, (u == e) = b ∧ (v == f) = b' ∧ (b && b') = false ∧ g = if k < 0 then !(N == 0) else (N == 3) := by
    rcases way with ⟨z1, h⟩ | ⟨z1, z2, h⟩
    · exact ⟨false, _, z1, rfl, rfl, h⟩
    · exact ⟨true, false, z1, z2, rfl, h⟩
  obtain ⟨b, b', z1, z2, z3, H⟩ := way
  have H := Lib.hid H
  cases b with
  | true =>
    obtain rfl : b' = false := z3
    by_cases hk : k < 0
    · have zk : decide (k < 0) = true := decide_eq_true hk
      have H := Lib.hid (by have h := H.out; rw [if_pos hk] at h; exact h)
      clear hk
      go_enter Try.func47, Try.ntmps47
      go_wp2_with fail
      generalize ((w.alloc (.cells #[.int .i64 x, .int .i64 y] 25)).alloc (.cells #[.int .i64 u, .int .i64 v] 25)).alloc (.cells #[.int .i64 e, .int .i64 f] 25) = W at *
      obtain ⟨⟨i0, i1, il⟩, ⟨j0, j1, jl⟩, ⟨l0, l1, ll⟩⟩ := S0.out
      go_wp2_with fail
      refine (C3.out _).mono ?_; rintro e' w2 ⟨rfl, z2'⟩
      have B2 := Lib.hid (bel_trans B0.out z2')
      clear z2' S0 B0 i0 i1 il j0 j1 jl l0 l1 ll C3
      go_wp2
      go_ret
      exact ⟨by rw [H.out]; rfl, B2.out⟩
    · have zk : decide (k < 0) = false := decide_eq_false hk
      have H := Lib.hid (by have h := H.out; rw [if_neg hk] at h; exact h)
      clear hk
      go_enter Try.func47, Try.ntmps47
      go_wp2_with fail
      generalize ((w.alloc (.cells #[.int .i64 x, .int .i64 y] 25)).alloc (.cells #[.int .i64 u, .int .i64 v] 25)).alloc (.cells #[.int .i64 e, .int .i64 f] 25) = W at *
      obtain ⟨⟨i0, i1, il⟩, ⟨j0, j1, jl⟩, ⟨l0, l1, ll⟩⟩ := S0.out
      go_wp2_with fail
      refine (C3.out _).mono ?_; rintro e' w2 ⟨rfl, z2'⟩
      have B2 := Lib.hid (bel_trans B0.out z2')
      clear z2' S0 B0 i0 i1 il j0 j1 jl l0 l1 ll C3
      go_wp2
      go_ret
      exact ⟨by rw [H.out]; rfl, B2.out⟩
  | false =>
    clear z3 z2
    by_cases hk : k < 0
    · have zk : decide (k < 0) = true := decide_eq_true hk
      have H := Lib.hid (by have h := H.out; rw [if_pos hk] at h; exact h)
      clear hk
      go_enter Try.func47, Try.ntmps47
      go_wp2_with fail
      generalize ((w.alloc (.cells #[.int .i64 x, .int .i64 y] 25)).alloc (.cells #[.int .i64 u, .int .i64 v] 25)).alloc (.cells #[.int .i64 e, .int .i64 f] 25) = W at *
      obtain ⟨⟨i0, i1, il⟩, ⟨j0, j1, jl⟩, ⟨l0, l1, ll⟩⟩ := S0.out
      go_wp2_with fail
      refine (C3.out _).mono ?_; rintro e' w2 ⟨rfl, z2'⟩
      have B2 := Lib.hid (bel_trans B0.out z2')
      clear z2' S0 B0 i0 i1 il j0 j1 jl l0 l1 ll C3
      go_wp2
      go_ret
      exact ⟨by rw [H.out]; rfl, B2.out⟩
    · have zk : decide (k < 0) = false := decide_eq_false hk
      have H := Lib.hid (by have h := H.out; rw [if_neg hk] at h; exact h)
      clear hk
      go_enter Try.func47, Try.ntmps47
      go_wp2_with fail
      generalize ((w.alloc (.cells #[.int .i64 x, .int .i64 y] 25)).alloc (.cells #[.int .i64 u, .int .i64 v] 25)).alloc (.cells #[.int .i64 e, .int .i64 f] 25) = W at *
      obtain ⟨⟨i0, i1, il⟩, ⟨j0, j1, jl⟩, ⟨l0, l1, ll⟩⟩ := S0.out
      go_wp2_with fail
      refine (C3.out _).mono ?_; rintro e' w2 ⟨rfl, z2'⟩
      have B2 := Lib.hid (bel_trans B0.out z2')
      clear z2' S0 B0 i0 i1 il j0 j1 jl l0 l1 ll C3
      go_wp2
      go_ret
      exact ⟨by rw [H.out]; rfl, B2.out⟩
set_option maxHeartbeats 4000000 in
theorem ringSector_any (s t x y u v e f : Int) (s0 : -536870912 ≤ s) (s1 : s ≤ 536870912) (t0 : -536870912 ≤ t) (t1 : t ≤ 536870912) (x0 : -536870912 ≤ x) (x1 : x ≤ 536870912) (y0 : -536870912 ≤ y) (y1 : y ≤ 536870912) (u0 : -536870912 ≤ u) (u1 : u ≤ 536870912) (v0 : -536870912 ≤ v) (v1 : v ≤ 536870912) (e0 : -536870912 ≤ e) (e1 : e ≤ 536870912) (f0 : -536870912 ≤ f) (f1 : f ≤ 536870912) (w : World) :
    Calls Try.prog 24 #[ptV s t, ptV x y, ptV u v, ptV e f] w fun e' w' => e' = .returned (.bool (secP x y u v e f s t)) ∧ Below w.heap.size w w' := by
  obtain ⟨N, hN⟩ : ∃ N, sideR x y u v e f s t = N := ⟨_, rfl⟩
  obtain ⟨g, hg⟩ : ∃ g, secP x y u v e f s t = g := ⟨_, rfl⟩
  rw [hg]
  have C1 := Lib.hid (fun w => ringSides_is hN s0 s1 t0 t1 x0 x1 y0 y1 u0 u1 v0 v1 e0 e1 f0 f1 w)
  have C2 := Lib.hid (fun w => ringCovers_is hN hg x0 x1 y0 y1 u0 u1 v0 v1 e0 e1 f0 f1 w)
  have S0 := Lib.hid (p4at_new w s t x y u v e f 25)
  have B0 := Lib.hid (bel_p4at w s t x y u v e f 25)
  clear hN hg s0 s1 t0 t1 x0 x1 y0 y1 u0 u1 v0 v1 e0 e1 f0 f1
  go_enter Try.func24, Try.ntmps24
  go_wp2_with fail
  generalize (((w.alloc (.cells #[.int .i64 s, .int .i64 t] 25)).alloc (.cells #[.int .i64 x, .int .i64 y] 25)).alloc (.cells #[.int .i64 u, .int .i64 v] 25)).alloc (.cells #[.int .i64 e, .int .i64 f] 25) = W at *
  obtain ⟨⟨i0, i1, il⟩, ⟨j0, j1, jl⟩, ⟨l0, l1, ll⟩, ⟨n0, n1, nl⟩⟩ := S0.out
  have i0 := cell_regrown i0
  have i1 := cell_regrown i1
  have j0 := cell_regrown j0
  have j1 := cell_regrown j1
  have l0 := cell_regrown l0
  have l1 := cell_regrown l1
  have n0 := cell_regrown n0
  have n1 := cell_regrown n1
  have D1 := Lib.hid (fun p : Regrown => Calls.regrown_of (C1.out (grow (redrawn W p.d) p.os)))
  have D2 := Lib.hid (fun p : Regrown => Calls.regrown_of (C2.out (grow (redrawn W p.d) p.os)))
  refine wp_region_quiet_below (by kernel_rfl) (by kernel_rfl) ?_
  repeat (go_big_quiet_step (first | with_reducible exact D1.out _ | with_reducible exact D2.out _))
  refine wpQuiet_nil ?_
  intro _ hw'
  obtain ⟨⟨dq, osq⟩, hw''⟩ := hw'
  subst hw''
  have bz := below_regrown W dq osq
  have B1 := Lib.hid (bel_trans B0.out bz)
  clear bz i0 i1 il j0 j1 jl l0 l1 ll n0 n1 nl S0 B0 D1 D2 C1 C2
  generalize grow (redrawn W dq) osq = V at *
  go_wp2
  go_ret
  exact ⟨rfl, B1.out⟩
theorem ringSector_is {s t x y u v e f : Int} {hh : Bool} (h' : secP x y u v e f s t = hh) (s0 : -536870912 ≤ s) (s1 : s ≤ 536870912) (t0 : -536870912 ≤ t) (t1 : t ≤ 536870912) (x0 : -536870912 ≤ x) (x1 : x ≤ 536870912) (y0 : -536870912 ≤ y) (y1 : y ≤ 536870912) (u0 : -536870912 ≤ u) (u1 : u ≤ 536870912) (v0 : -536870912 ≤ v) (v1 : v ≤ 536870912) (e0 : -536870912 ≤ e) (e1 : e ≤ 536870912) (f0 : -536870912 ≤ f) (f1 : f ≤ 536870912) (w : World) :
    Calls Try.prog 24 #[ptV s t, ptV x y, ptV u v, ptV e f] w fun e' w' => e' = .returned (.bool hh) ∧ Below w.heap.size w w' := h' ▸ ringSector_any s t x y u v e f s0 s1 t0 t1 x0 x1 y0 y1 u0 u1 v0 v1 e0 e1 f0 f1 w
set_option maxHeartbeats 4000000 in
theorem ringEmpty_is {x y u v e f r : Int} {g : Bool} (hg : emptyR x y u v e f r = g) (x0 : -536870912 ≤ x) (x1 : x ≤ 536870912) (y0 : -536870912 ≤ y) (y1 : y ≤ 536870912) (u0 : -536870912 ≤ u) (u1 : u ≤ 536870912) (v0 : -536870912 ≤ v) (v1 : v ≤ 536870912) (e0 : -536870912 ≤ e) (e1 : e ≤ 536870912) (f0 : -536870912 ≤ f) (f1 : f ≤ 536870912) (w : World) :
    Calls Try.prog 29 #[ptV x y, ptV u v, ptV e f, .int .i64 r] w fun e' w' => e' = .returned (.bool g) ∧ Below w.heap.size w w' := by
  obtain ⟨k, hk⟩ : ∃ k, okR x y u v e f = k := ⟨_, rfl⟩
  have C := Lib.hid (fun w => ringOk_is hk x0 x1 y0 y1 u0 u1 v0 v1 e0 e1 f0 f1 w)
  have S0 := Lib.hid (p3_new w x y u v e f 25)
  have B0 := Lib.hid (bel_p3 w x y u v e f 25)
  have H := Lib.hid (show g = (!k || decide (r < 1)) by rw [← hg]; unfold emptyR; rw [hk])
  clear hg hk x0 x1 y0 y1 u0 u1 v0 v1 e0 e1 f0 f1
  cases k
  all_goals
    go_enter Try.func29, Try.ntmps29
    go_wp2_with fail
    generalize ((w.alloc (.cells #[.int .i64 x, .int .i64 y] 25)).alloc (.cells #[.int .i64 u, .int .i64 v] 25)).alloc (.cells #[.int .i64 e, .int .i64 f] 25) = W at *
    obtain ⟨⟨i0, i1, il⟩, ⟨j0, j1, jl⟩, ⟨l0, l1, ll⟩⟩ := S0.out
    go_wp2_with fail
    refine (C.out _).mono ?_; rintro e' w2 ⟨rfl, z2⟩
    go_wp2
    go_ret
    exact ⟨by rw [H.out]; rfl, bel_trans B0.out z2⟩
theorem empty_yes {x y u v e f r : Int} (h : emptyR x y u v e f r = true) (s t : Int) : ringP s t x y u v e f r = false := by
  unfold ringP
  unfold emptyR at h
  rcases (Bool.or_eq_true _ _).mp h with g | g
  · rw [show okR x y u v e f = false by cases hk : okR x y u v e f <;> rw [hk] at g <;> first | rfl | exact absurd g (by decide)]; rfl
  · rw [decide_eq_false (show ¬ 1 ≤ r by have := of_decide_eq_true g; omega), Bool.false_and, Bool.and_false]
theorem empty_no {x y u v e f r : Int} (h : emptyR x y u v e f r = false) : okR x y u v e f = true ∧ 1 ≤ r := by
  unfold emptyR at h
  obtain ⟨g, k⟩ := (Bool.or_eq_false_iff).mp h
  exact ⟨by cases hk : okR x y u v e f <;> rw [hk] at g <;> first | rfl | exact absurd g (by decide), by have := of_decide_eq_false k; omega⟩
set_option maxHeartbeats 8000000 in
theorem ringHas_any (s t x y u v e f r : Int) (s0 : -536870912 ≤ s) (s1 : s ≤ 536870912) (t0 : -536870912 ≤ t) (t1 : t ≤ 536870912) (x0 : -536870912 ≤ x) (x1 : x ≤ 536870912) (y0 : -536870912 ≤ y) (y1 : y ≤ 536870912) (u0 : -536870912 ≤ u) (u1 : u ≤ 536870912) (v0 : -536870912 ≤ v) (v1 : v ≤ 536870912) (e0 : -536870912 ≤ e) (e1 : e ≤ 536870912) (f0 : -536870912 ≤ f) (f1 : f ≤ 536870912) (rb : r ≤ 1073741824) (w : World) :
    Calls Try.prog 16 #[ptV s t, ptV x y, ptV u v, ptV e f, .int .i64 r] w fun e' w' => e' = .returned (.bool (ringP s t x y u v e f r)) ∧ Below w.heap.size w w' := by
  have S0 := Lib.hid (p4at_new w s t x y u v e f 25)
  have B0 := Lib.hid (bel_p4at w s t x y u v e f 25)
  cases hE : emptyR x y u v e f r with
  | true =>
    have H := Lib.hid (empty_yes hE s t)
    have C := Lib.hid (fun w => ringEmpty_is hE x0 x1 y0 y1 u0 u1 v0 v1 e0 e1 f0 f1 w)
    clear hE s0 s1 t0 t1 x0 x1 y0 y1 u0 u1 v0 v1 e0 e1 f0 f1 rb
    go_enter Try.func16, Try.ntmps16
    go_wp2_with fail
    generalize (((w.alloc (.cells #[.int .i64 s, .int .i64 t] 25)).alloc (.cells #[.int .i64 x, .int .i64 y] 25)).alloc (.cells #[.int .i64 u, .int .i64 v] 25)).alloc (.cells #[.int .i64 e, .int .i64 f] 25) = W at *
    obtain ⟨⟨i0, i1, il⟩, ⟨j0, j1, jl⟩, ⟨l0, l1, ll⟩, ⟨n0, n1, nl⟩⟩ := S0.out
    go_wp2_with fail
    refine (C.out _).mono ?_; rintro e' w2 ⟨rfl, z2⟩
    go_wp2
    go_ret
    exact ⟨by rw [H.out]; rfl, bel_trans B0.out z2⟩
  | false =>
  obtain ⟨ho, ra⟩ := empty_no hE
  obtain ⟨g1, h1⟩ : ∃ g, discB r (sqI u v s t) = g := ⟨_, rfl⟩
  obtain ⟨g2, h2⟩ : ∃ g, discB r (sqI e f s t) = g := ⟨_, rfl⟩
  obtain ⟨B, hB⟩ : ∃ g, sqI x y u v = g := ⟨_, rfl⟩
  obtain ⟨D, hD⟩ : ∃ g, sqI x y s t = g := ⟨_, rfl⟩
  obtain ⟨S, hS⟩ : ∃ g, r * r = g := ⟨_, rfl⟩
  obtain ⟨c, hc⟩ : ∃ g, secP x y u v e f s t = g := ⟨_, rfl⟩
  have Bb := sqI_bd x0 x1 y0 y1 u0 u1 v0 v1
  rw [hB] at Bb
  have Db := sqI_bd x0 x1 y0 y1 s0 s1 t0 t1
  rw [hD] at Db
  have m1 := mul_bd (X := r) (Y := r) (by omega) rb (by omega) rb
  have m2 := sq_nonneg r
  rw [hS] at m1 m2
  obtain ⟨l1', k1⟩ : ∃ g, (!(upW B D S)) = g := ⟨_, rfl⟩
  obtain ⟨l2, k2⟩ : ∃ g, (!(upW D B S)) = g := ⟨_, rfl⟩
  have HV := Lib.hid (show ringP s t x y u v e f r = (g1 || g2 || (c && (!l1' && !l2))) by
    unfold ringP
    rw [ho, decide_eq_true ra, sqI_sym s t u v, sqI_sym s t e f, sqI_sym s t x y, sqI_sym u v x y, h1, h2, hB, hD, hS, hc]
    unfold ringB
    rw [← up_dn Db.1 m2, ← k1, ← k2, Bool.not_not, Bool.not_not]
    rfl)
  have CE := Lib.hid (fun w => ringEmpty_is hE x0 x1 y0 y1 u0 u1 v0 v1 e0 e1 f0 f1 w)
  have C1 := Lib.hid (fun w => discHad_is h1 s0 s1 t0 t1 u0 u1 v0 v1 rb w)
  have C2 := Lib.hid (fun w => discHad_is h2 s0 s1 t0 t1 e0 e1 f0 f1 rb w)
  have CB := Lib.hid (fun w => ringSquare_is hB u0 u1 v0 v1 x0 x1 y0 y1 w)
  have CD := Lib.hid (fun w => ringSquare_is hD s0 s1 t0 t1 x0 x1 y0 y1 w)
  have CS := Lib.hid (fun w => ringSector_is hc s0 s1 t0 t1 x0 x1 y0 y1 u0 u1 v0 v1 e0 e1 f0 f1 w)
  have CL1 := Lib.hid (fun w => ringLonger_is k1 Bb.1 Bb.2 Db.1 Db.2 m2 (by omega) w)
  have CL2 := Lib.hid (fun w => ringLonger_is k2 Db.1 Db.2 Bb.1 Bb.2 m2 (by omega) w)
  have ew : IntKind.i64.wrap (r * r) = S := by rw [hS]; exact IntWalk.i64_in _ (by omega)
  clear hE ho ra h1 h2 hB hD hS hc Bb Db m1 m2 k1 k2 s0 s1 t0 t1 x0 x1 y0 y1 u0 u1 v0 v1 e0 e1 f0 f1 rb
  go_enter Try.func16, Try.ntmps16
  go_wp2_with fail
  generalize (((w.alloc (.cells #[.int .i64 s, .int .i64 t] 25)).alloc (.cells #[.int .i64 x, .int .i64 y] 25)).alloc (.cells #[.int .i64 u, .int .i64 v] 25)).alloc (.cells #[.int .i64 e, .int .i64 f] 25) = W at *
  obtain ⟨⟨i0, i1, il⟩, ⟨j0, j1, jl⟩, ⟨l0, l1, ll⟩, ⟨n0, n1, nl⟩⟩ := S0.out
  go_wp2_with fail
  refine (CE.out _).mono ?_; rintro e' w1 ⟨rfl, z⟩
  have S1 := Lib.hid (S0.out.later z)
  have B1 := Lib.hid (bel_trans B0.out z)
  clear z S0 B0 i0 i1 il j0 j1 jl l0 l1 ll n0 n1 nl CE
  obtain ⟨⟨i0, i1, il⟩, ⟨j0, j1, jl⟩, ⟨l0, l1, ll⟩, ⟨n0, n1, nl⟩⟩ := S1.out
  go_wp2_with fail
  refine (C1.out _).mono ?_; rintro e' w2 ⟨rfl, z⟩
  have S2 := Lib.hid (S1.out.later z)
  have B2 := Lib.hid (bel_trans B1.out z)
  clear z S1 B1 i0 i1 il j0 j1 jl l0 l1 ll n0 n1 nl C1
  cases g1 with
  | true =>
    go_wp2
    go_ret
    exact ⟨by rw [HV.out]; rfl, B2.out⟩
  | false =>
  obtain ⟨⟨i0, i1, il⟩, ⟨j0, j1, jl⟩, ⟨l0, l1, ll⟩, ⟨n0, n1, nl⟩⟩ := S2.out
  go_wp2_with fail
  refine (C2.out _).mono ?_; rintro e' w3 ⟨rfl, z⟩
  have S3 := Lib.hid (S2.out.later z)
  have B3 := Lib.hid (bel_trans B2.out z)
  clear z S2 B2 i0 i1 il j0 j1 jl l0 l1 ll n0 n1 nl C2
  cases g2 with
  | true =>
    go_wp2
    go_ret
    exact ⟨by rw [HV.out]; rfl, B3.out⟩
  | false =>
  obtain ⟨⟨i0, i1, il⟩, ⟨j0, j1, jl⟩, ⟨l0, l1, ll⟩, ⟨n0, n1, nl⟩⟩ := S3.out
  go_upto_region 5 with (fail)
  have i0 := cell_regrown i0
  have i1 := cell_regrown i1
  have j0 := cell_regrown j0
  have j1 := cell_regrown j1
  have l0 := cell_regrown l0
  have l1 := cell_regrown l1
  have n0 := cell_regrown n0
  have n1 := cell_regrown n1
  have D1 := Lib.hid (fun p : Regrown => Calls.regrown_of (CB.out (grow (redrawn w3 p.d) p.os)))
  have D2 := Lib.hid (fun p : Regrown => Calls.regrown_of (CD.out (grow (redrawn w3 p.d) p.os)))
  refine wp_region_quiet_below (by kernel_rfl) (by kernel_rfl) ?_
  repeat (go_big_quiet_step (first | with_reducible exact D1.out _ | with_reducible exact D2.out _))
  refine wpQuiet_nil ?_
  intro _ hw'
  obtain ⟨⟨dq, osq⟩, hw''⟩ := hw'
  subst hw''
  have bz := below_regrown w3 dq osq
  have S4 := Lib.hid (S3.out.later bz)
  have B4 := Lib.hid (bel_trans B3.out bz)
  clear bz i0 i1 il j0 j1 jl l0 l1 ll n0 n1 nl S3 B3 D1 D2 CB CD
  generalize grow (redrawn w3 dq) osq = w4 at *
  obtain ⟨⟨i0, i1, il⟩, ⟨j0, j1, jl⟩, ⟨l0, l1, ll⟩, ⟨n0, n1, nl⟩⟩ := S4.out
  go_wp2_with fail
  refine (CS.out _).mono ?_; rintro e' w5 ⟨rfl, z⟩
  have B5 := Lib.hid (bel_trans B4.out z)
  clear z S4 B4 i0 i1 il j0 j1 jl l0 l1 ll n0 n1 nl CS
  cases c with
  | false =>
    go_wp2
    go_ret
    exact ⟨by rw [HV.out]; rfl, B5.out⟩
  | true =>
  go_wp2_with fail
  refine (CL1.out _).mono ?_; rintro e' w6 ⟨rfl, z⟩
  have B6 := Lib.hid (bel_trans B5.out z)
  clear z B5 CL1
  cases l1' with
  | true =>
    go_wp2
    go_ret
    exact ⟨by rw [HV.out]; rfl, B6.out⟩
  | false =>
  go_wp2_with fail
  refine (CL2.out _).mono ?_; rintro e' w7 ⟨rfl, z⟩
  go_wp2
  go_ret
  exact ⟨by rw [HV.out]; rfl, bel_trans B6.out z⟩
theorem ringHas_is {s t x y u v e f r : Int} {hh : Bool} (h' : ringP s t x y u v e f r = hh) (s0 : -536870912 ≤ s) (s1 : s ≤ 536870912) (t0 : -536870912 ≤ t) (t1 : t ≤ 536870912) (x0 : -536870912 ≤ x) (x1 : x ≤ 536870912) (y0 : -536870912 ≤ y) (y1 : y ≤ 536870912) (u0 : -536870912 ≤ u) (u1 : u ≤ 536870912) (v0 : -536870912 ≤ v) (v1 : v ≤ 536870912) (e0 : -536870912 ≤ e) (e1 : e ≤ 536870912) (f0 : -536870912 ≤ f) (f1 : f ≤ 536870912) (rb : r ≤ 1073741824) (w : World) :
    Calls Try.prog 16 #[ptV s t, ptV x y, ptV u v, ptV e f, .int .i64 r] w fun e' w' => e' = .returned (.bool hh) ∧ Below w.heap.size w w' := h' ▸ ringHas_any s t x y u v e f r s0 s1 t0 t1 x0 x1 y0 y1 u0 u1 v0 v1 e0 e1 f0 f1 rb w
end Go.Proofs.Ytoofbbmddddlcaa
namespace Go.Proofs.Ytoofbbmddddlcaa
open Go.RowKit
open Go.Sort (grow)

theorem off_inn (same : Bool) (K : Int) (p q : Bool) : (!(innB same K (!p) (!q))) = offB same K p q (p && q) := by
  unfold innB offB
  split <;> cases same <;> cases p <;> cases q <;> rfl
theorem all_none (p q r s : Bool) : (p || q || r || s) = !(!p && !q && !r && !s) := by cases p <;> cases q <;> cases r <;> cases s <;> rfl
/-- The bits that every corner and that some corner has. -/
theorem bits_all {x y u v e f a b c d s0 s1 s2 s3 S1 S2 S3 S4 E1 E2 E3 E4 : Int} (e0 : sideR x y u v e f a b = s0) (e1 : sideR x y u v e f c b = s1) (e2 : sideR x y u v e f a d = s2) (e3 : sideR x y u v e f c d = s3)
    (o1 : bits .or .i64 0 s0 = S1) (o2 : bits .or .i64 S1 s1 = S2) (o3 : bits .or .i64 S2 s2 = S3) (o4 : bits .or .i64 S3 s3 = S4) (n1 : bits .and .i64 3 s0 = E1) (n2 : bits .and .i64 E1 s1 = E2) (n3 : bits .and .i64 E2 s2 = E3) (n4 : bits .and .i64 E3 s3 = E4) :
    pairN (u4B x y u v a b c d) (v4B x y e f a b c d) = E4 ∧ pairN (!(u0B x y u v a b c d)) (!(v0B x y e f a b c d)) = S4 := by
  have z : (0 : Int) = pairN false false := rfl
  have z' : (3 : Int) = pairN true true := rfl
  unfold sideR at e0 e1 e2 e3
  rw [← e0, z, or_pair] at o1
  rw [← o1, ← e1, or_pair] at o2
  rw [← o2, ← e2, or_pair] at o3
  rw [← o3, ← e3, or_pair] at o4
  rw [← e0, z', and_pair] at n1
  rw [← n1, ← e1, and_pair] at n2
  rw [← n2, ← e2, and_pair] at n3
  rw [← n3, ← e3, and_pair] at n4
  have t : ∀ p : Bool, (true && p) = p := fun p => Bool.true_and p
  have g : ∀ p : Bool, (false || p) = p := fun p => Bool.false_or p
  rw [t, t] at n4
  rw [g, g, all_none, all_none] at o4
  unfold u4B v4B u0B v0B
  simp only [neg_not]
  exact ⟨n4, o4⟩
/-- The head of a round: the bits that some corner and that every corner has. -/
def Bits3At (N : Nat) (w : World) (a b c d x y u v e f S1 S2 S3 S4 E1 E2 E3 E4 : Int) (ss se si : Value) (wr : World) : Prop :=
  ((ss = .int .i64 0 ∧ se = .int .i64 3 ∧ si = .int .i64 0) ∨ (ss = .int .i64 S1 ∧ se = .int .i64 E1 ∧ si = .int .i64 1) ∨ (ss = .int .i64 S2 ∧ se = .int .i64 E2 ∧ si = .int .i64 2) ∨ (ss = .int .i64 S3 ∧ se = .int .i64 E3 ∧ si = .int .i64 3) ∨ (ss = .int .i64 S4 ∧ se = .int .i64 E4 ∧ si = .int .i64 4)) ∧
    BxP3 N a b c d x y u v e f wr ∧ Below w.heap.size w wr
set_option maxRecDepth 100000 in
set_option maxHeartbeats 16000000 in
theorem ringSpread_is {a b c d x y u v e f : Int} {I O : Bool} (hI : innB (decide (u = e ∧ v = f)) (crI x y u v e f) (u4B x y u v a b c d) (v4B x y e f a b c d) = I)
    (hO : offB (decide (u = e ∧ v = f)) (crI x y u v e f) (u0B x y u v a b c d) (v0B x y e f a b c d) (u0B x y u v a b c d && v0B x y e f a b c d) = O) (a0 : -536870912 ≤ a) (ac : a ≤ c) (c1 : c ≤ 536870912) (b0 : -536870912 ≤ b) (bd : b ≤ d) (d1 : d ≤ 536870912) (x0 : -536870912 ≤ x) (x1 : x ≤ 536870912) (y0 : -536870912 ≤ y) (y1 : y ≤ 536870912) (u0 : -536870912 ≤ u) (u1 : u ≤ 536870912) (v0 : -536870912 ≤ v) (v1 : v ≤ 536870912) (e0 : -536870912 ≤ e) (e1 : e ≤ 536870912) (f0 : -536870912 ≤ f) (f1 : f ≤ 536870912) (w : World) :
    Calls Try.prog 33 #[boxV a b c d, ptV x y, ptV u v, ptV e f] w fun e' w' => e' = .returned (.tuple #[.bool I, .bool O]) ∧ Below w.heap.size w w' := by
  have X0 := Lib.hid (bxp3_new w a b c d x y u v e f 23 25)
  have B0 := Lib.hid (bel_alloc (bel_alloc (bel_alloc (bel_alloc (bel_refl w) (.cells #[.int .i64 a, .int .i64 b, .int .i64 c, .int .i64 d] 23)) (.cells #[.int .i64 x, .int .i64 y] 25)) (.cells #[.int .i64 u, .int .i64 v] 25)) (.cells #[.int .i64 e, .int .i64 f] 25))
  have CC := Lib.hid (fun w => corners_any a b c d w)
  obtain ⟨s0, k0⟩ : ∃ n, sideR x y u v e f a b = n := ⟨_, rfl⟩
  obtain ⟨s1, k1⟩ : ∃ n, sideR x y u v e f c b = n := ⟨_, rfl⟩
  obtain ⟨s2, k2⟩ : ∃ n, sideR x y u v e f a d = n := ⟨_, rfl⟩
  obtain ⟨s3, k3⟩ : ∃ n, sideR x y u v e f c d = n := ⟨_, rfl⟩
  obtain ⟨S1, o1⟩ : ∃ n, bits .or .i64 0 s0 = n := ⟨_, rfl⟩
  obtain ⟨S2, o2⟩ : ∃ n, bits .or .i64 S1 s1 = n := ⟨_, rfl⟩
  obtain ⟨S3, o3⟩ : ∃ n, bits .or .i64 S2 s2 = n := ⟨_, rfl⟩
  obtain ⟨S4, o4⟩ : ∃ n, bits .or .i64 S3 s3 = n := ⟨_, rfl⟩
  obtain ⟨E1, n1⟩ : ∃ n, bits .and .i64 3 s0 = n := ⟨_, rfl⟩
  obtain ⟨E2, n2⟩ : ∃ n, bits .and .i64 E1 s1 = n := ⟨_, rfl⟩
  obtain ⟨E3, n3⟩ : ∃ n, bits .and .i64 E2 s2 = n := ⟨_, rfl⟩
  obtain ⟨E4, n4⟩ : ∃ n, bits .and .i64 E3 s3 = n := ⟨_, rfl⟩
  obtain ⟨hE, hS⟩ := bits_all k0 k1 k2 k3 o1 o2 o3 o4 n1 n2 n3 n4
  have hO : innB (decide (u = e ∧ v = f)) (crI x y u v e f) (!(u0B x y u v a b c d)) (!(v0B x y e f a b c d)) = !O := by rw [← hO, ← off_inn, Bool.not_not]
  have CI := Lib.hid (fun w => ringCovers_is hE hI x0 x1 y0 y1 u0 u1 v0 v1 e0 e1 f0 f1 w)
  have CO := Lib.hid (fun w => ringCovers_is hS hO x0 x1 y0 y1 u0 u1 v0 v1 e0 e1 f0 f1 w)
  have CB0 := Lib.hid (fun w => ringSides_is k0 (by omega) (by omega) (by omega) (by omega) x0 x1 y0 y1 u0 u1 v0 v1 e0 e1 f0 f1 w)
  have CB1 := Lib.hid (fun w => ringSides_is k1 (by omega) (by omega) (by omega) (by omega) x0 x1 y0 y1 u0 u1 v0 v1 e0 e1 f0 f1 w)
  have CB2 := Lib.hid (fun w => ringSides_is k2 (by omega) (by omega) (by omega) (by omega) x0 x1 y0 y1 u0 u1 v0 v1 e0 e1 f0 f1 w)
  have CB3 := Lib.hid (fun w => ringSides_is k3 (by omega) (by omega) (by omega) (by omega) x0 x1 y0 y1 u0 u1 v0 v1 e0 e1 f0 f1 w)
  clear k0 k1 k2 k3 hE hS hI hO a0 ac c1 b0 bd d1 x0 x1 y0 y1 u0 u1 v0 v1 e0 e1 f0 f1
  go_enter Try.func33, Try.ntmps33
  go_wp2_with fail
  generalize (((w.alloc (.cells #[.int .i64 a, .int .i64 b, .int .i64 c, .int .i64 d] 23)).alloc (.cells #[.int .i64 x, .int .i64 y] 25)).alloc (.cells #[.int .i64 u, .int .i64 v] 25)).alloc (.cells #[.int .i64 e, .int .i64 f] 25) = W at *
  obtain ⟨⟨i0, i1, i2, i3, il⟩, ⟨j0, j1, jl⟩, ⟨l0, l1, ll⟩, ⟨n0, n1, nl⟩⟩ := X0.out
  go_wp2_with fail
  refine (CC.out _).mono ?_; rintro e' w1 ⟨rfl, z1⟩
  have X1 := Lib.hid (X0.out.later z1)
  have B1 := Lib.hid (bel_trans B0.out z1)
  clear z1 X0 B0 i0 i1 i2 i3 il j0 j1 jl l0 l1 ll n0 n1 nl CC
  go_wp2_with fail
  go_loopw [10, 11, 17] (fun ss se si wr => Bits3At w.heap.size w a b c d x y u v e f S1 S2 S3 S4 E1 E2 E3 E4 ss se si wr) (fun _ _ si _ => (4 - intOf si).toNat)
  case atStart => exact ⟨.inl ⟨rfl, rfl, rfl⟩, X1.out, B1.out⟩
  case round =>
    obtain ⟨hc, hS, hB⟩ := hrel
    clear X1 B1
    have S := Lib.hid hS
    have B := Lib.hid hB
    clear hS hB
    rcases hc with ⟨rfl, rfl, rfl⟩ | ⟨rfl, rfl, rfl⟩ | ⟨rfl, rfl, rfl⟩ | ⟨rfl, rfl, rfl⟩ | ⟨rfl, rfl, rfl⟩
    · obtain ⟨_, ⟨j0, j1, jl⟩, ⟨l0, l1, ll⟩, ⟨n0, n1', nl⟩⟩ := S.out
      have J := fun w => corner0 a b c d w
      clear CI CO o2 n2 o3 n3 o4 n4
      go_wp2_with fail
      clear J
      refine (CB0.out _).mono ?_; rintro e' w3 ⟨rfl, z3⟩
      have zz := bel_trans (bel_alloc (bel_refl wr) (.cells #[.int .i64 a, .int .i64 b] 25)) z3
      have S2' := Lib.hid (S.out.later zz)
      have B3' := Lib.hid (bel_trans B.out zz)
      clear z3 zz j0 j1 jl l0 l1 ll n0 n1' nl S B CB0 CB1 CB2 CB3
      go_wp2_with fail
      go_roundw
      case rel => exact ⟨.inr (.inl ⟨rfl, rfl, rfl⟩), S2'.out, B3'.out⟩
      case measure => simp [intOf]
    · obtain ⟨_, ⟨j0, j1, jl⟩, ⟨l0, l1, ll⟩, ⟨n0, n1', nl⟩⟩ := S.out
      have J := fun w => corner1 a b c d w
      clear CI CO o1 n1 o3 n3 o4 n4
      go_wp2_with fail
      clear J
      refine (CB1.out _).mono ?_; rintro e' w3 ⟨rfl, z3⟩
      have zz := bel_trans (bel_alloc (bel_refl wr) (.cells #[.int .i64 c, .int .i64 b] 25)) z3
      have S2' := Lib.hid (S.out.later zz)
      have B3' := Lib.hid (bel_trans B.out zz)
      clear z3 zz j0 j1 jl l0 l1 ll n0 n1' nl S B CB0 CB1 CB2 CB3
      go_wp2_with fail
      go_roundw
      case rel => exact ⟨.inr (.inr (.inl ⟨rfl, rfl, rfl⟩)), S2'.out, B3'.out⟩
      case measure => simp [intOf]
    · obtain ⟨_, ⟨j0, j1, jl⟩, ⟨l0, l1, ll⟩, ⟨n0, n1', nl⟩⟩ := S.out
      have J := fun w => corner2 a b c d w
      clear CI CO o1 n1 o2 n2 o4 n4
      go_wp2_with fail
      clear J
      refine (CB2.out _).mono ?_; rintro e' w3 ⟨rfl, z3⟩
      have zz := bel_trans (bel_alloc (bel_refl wr) (.cells #[.int .i64 a, .int .i64 d] 25)) z3
      have S2' := Lib.hid (S.out.later zz)
      have B3' := Lib.hid (bel_trans B.out zz)
      clear z3 zz j0 j1 jl l0 l1 ll n0 n1' nl S B CB0 CB1 CB2 CB3
      go_wp2_with fail
      go_roundw
      case rel => exact ⟨.inr (.inr (.inr (.inl ⟨rfl, rfl, rfl⟩))), S2'.out, B3'.out⟩
      case measure => simp [intOf]
    · obtain ⟨_, ⟨j0, j1, jl⟩, ⟨l0, l1, ll⟩, ⟨n0, n1', nl⟩⟩ := S.out
      have J := fun w => corner3 a b c d w
      clear CI CO o1 n1 o2 n2 o3 n3
      go_wp2_with fail
      clear J
      refine (CB3.out _).mono ?_; rintro e' w3 ⟨rfl, z3⟩
      have zz := bel_trans (bel_alloc (bel_refl wr) (.cells #[.int .i64 c, .int .i64 d] 25)) z3
      have S2' := Lib.hid (S.out.later zz)
      have B3' := Lib.hid (bel_trans B.out zz)
      clear z3 zz j0 j1 jl l0 l1 ll n0 n1' nl S B CB0 CB1 CB2 CB3
      go_wp2_with fail
      go_roundw
      case rel => exact ⟨.inr (.inr (.inr (.inr ⟨rfl, rfl, rfl⟩))), S2'.out, B3'.out⟩
      case measure => simp [intOf]
    · clear CB0 CB1 CB2 CB3 o1 o2 o3 o4 n1 n2 n3 n4
      obtain ⟨_, ⟨j0, j1, jl⟩, ⟨l0, l1, ll⟩, ⟨n0, n1, nl⟩⟩ := S.out
      go_upto_region 9 with (fail)
      have j0 := cell_regrown j0
      have j1 := cell_regrown j1
      have l0 := cell_regrown l0
      have l1 := cell_regrown l1
      have n0 := cell_regrown n0
      have n1 := cell_regrown n1
      have D1 := Lib.hid (fun p : Regrown => Calls.regrown_of (CI.out (grow (redrawn wr p.d) p.os)))
      have D2 := Lib.hid (fun p : Regrown => Calls.regrown_of (CO.out (grow (redrawn wr p.d) p.os)))
      refine wp_region_quiet_below (by kernel_rfl) (by kernel_rfl) ?_
      repeat (go_big_quiet_step (first | with_reducible exact D1.out _ | with_reducible exact D2.out _))
      refine wpQuiet_nil ?_
      intro _ hw'
      obtain ⟨⟨dq, osq⟩, hw''⟩ := hw'
      subst hw''
      have bz := below_regrown wr dq osq
      have B9 := Lib.hid (bel_trans B.out bz)
      clear bz j0 j1 jl l0 l1 ll n0 n1 nl S B D1 D2 CI CO
      generalize grow (redrawn wr dq) osq = w9 at *
      go_wp2
      go_ret2
      exact ⟨rfl, B9.out⟩
theorem ringK_steps {one two n m B S : Int} {I O l1 l2 l3 l4 : Bool} (h1 : one = 0 ∨ one = 1 ∨ one = 2) (h2 : two = 0 ∨ two = 1 ∨ two = 2) (k1 : (!(dnW n B S)) = l1) (k2 : (!(upW m B S)) = l2) (k3 : (!(upW n B S)) = l3) (k4 : (!(dnW m B S)) = l4) :
    ringK one two I O n m B S = if ((one == 2) || (two == 2)) = true then 2 else if (I && !l1 && !l2) = true then 2 else if ((one == 1) || (two == 1)) = true then 1 else if (O || l3 || l4) = true then 0 else 1 := by
  unfold ringK
  rw [← k1, ← k2, ← k3, ← k4, Bool.not_not, Bool.not_not]
  generalize dnW n B S = p
  generalize upW m B S = q
  generalize upW n B S = r
  generalize dnW m B S = s
  clear k1 k2 k3 k4
  rcases h1 with rfl | rfl | rfl <;> rcases h2 with rfl | rfl | rfl <;> cases I <;> cases O <;> cases p <;> cases q <;> cases r <;> cases s <;> rfl
theorem disc_three (r n m : Int) : discK r n m = 0 ∨ discK r n m = 1 ∨ discK r n m = 2 := by
  unfold discK; split
  · exact .inl rfl
  split
  · exact .inl rfl
  split
  · exact .inr (.inr rfl)
  · exact .inr (.inl rfl)
theorem empty_class {x y u v e f r : Int} (h : emptyR x y u v e f r = true) (a b c d : Int) : ringC a b c d x y u v e f r = 0 := by
  unfold ringC
  refine if_neg fun g => ?_
  unfold emptyR at h
  rw [g.1, decide_eq_false (show ¬ r < 1 by omega)] at h
  exact absurd h (by decide)
theorem hasCorner_is {a b c d : Int} (ac : a ≤ c) (bd : b ≤ d) (w : World) :
    Calls Try.prog 30 #[boxV a b c d, ptV a b] w fun e w' => e = .returned (.bool true) ∧ Below w.heap.size w w' := hasB_yes (Int.le_refl a) ac (Int.le_refl b) bd ▸ has_any a b c d a b w
set_option maxRecDepth 100000 in
set_option maxHeartbeats 16000000 in
theorem ringClass_any (a b c d x y u v e f r : Int) (a0 : -536870912 ≤ a) (ac : a ≤ c) (c1 : c ≤ 536870912) (b0 : -536870912 ≤ b) (bd : b ≤ d) (d1 : d ≤ 536870912) (x0 : -536870912 ≤ x) (x1 : x ≤ 536870912) (y0 : -536870912 ≤ y) (y1 : y ≤ 536870912) (u0 : -536870912 ≤ u) (u1 : u ≤ 536870912) (v0 : -536870912 ≤ v) (v1 : v ≤ 536870912) (e0 : -536870912 ≤ e) (e1 : e ≤ 536870912) (f0 : -536870912 ≤ f) (f1 : f ≤ 536870912) (rb : r ≤ 1073741824) (w : World) :
    Calls Try.prog 15 #[boxV a b c d, ptV x y, ptV u v, ptV e f, .int .i64 r] w fun e' w' => e' = .returned (.int .i64 (ringC a b c d x y u v e f r)) ∧ Below w.heap.size w w' := by
  have X0 := Lib.hid (bxp3_new w a b c d x y u v e f 23 25)
  have B0 := Lib.hid (bel_alloc (bel_alloc (bel_alloc (bel_alloc (bel_refl w) (.cells #[.int .i64 a, .int .i64 b, .int .i64 c, .int .i64 d] 23)) (.cells #[.int .i64 x, .int .i64 y] 25)) (.cells #[.int .i64 u, .int .i64 v] 25)) (.cells #[.int .i64 e, .int .i64 f] 25))
  have CC := Lib.hid (fun w => corners_any a b c d w)
  have CH := Lib.hid (fun w => hasCorner_is ac bd w)
  have J := fun w => corner0 a b c d w
  cases hE : emptyR x y u v e f r with
  | true =>
    have HV := Lib.hid (empty_class hE a b c d)
    have CE := Lib.hid (fun w => ringEmpty_is hE x0 x1 y0 y1 u0 u1 v0 v1 e0 e1 f0 f1 w)
    clear hE a0 ac c1 b0 bd d1 x0 x1 y0 y1 u0 u1 v0 v1 e0 e1 f0 f1 rb
    go_enter Try.func15, Try.ntmps15
    go_wp2_with fail
    generalize (((w.alloc (.cells #[.int .i64 a, .int .i64 b, .int .i64 c, .int .i64 d] 23)).alloc (.cells #[.int .i64 x, .int .i64 y] 25)).alloc (.cells #[.int .i64 u, .int .i64 v] 25)).alloc (.cells #[.int .i64 e, .int .i64 f] 25) = W at *
    obtain ⟨⟨i0, i1, i2, i3, il⟩, ⟨j0, j1, jl⟩, ⟨l0, l1, ll⟩, ⟨n0, n1, nl⟩⟩ := X0.out
    have i0 := cell_regrown i0
    have i1 := cell_regrown i1
    have i2 := cell_regrown i2
    have i3 := cell_regrown i3
    have j0 := cell_regrown j0
    have j1 := cell_regrown j1
    have l0 := cell_regrown l0
    have l1 := cell_regrown l1
    have n0 := cell_regrown n0
    have n1 := cell_regrown n1
    have D1 := Lib.hid (fun p : Regrown => Calls.regrown_of (CE.out (grow (redrawn W p.d) p.os)))
    have D2 := Lib.hid (fun p : Regrown => Calls.regrown_of (CC.out (grow (redrawn W p.d) p.os)))
    have D3 := Lib.hid (fun p : Regrown => Calls.regrown_of (CH.out (grow (redrawn W p.d) p.os)))
    refine wp_region_quiet_below (by kernel_rfl) (by kernel_rfl) ?_
    repeat (go_big_quiet_step (first | with_reducible exact D1.out _ | with_reducible exact D2.out _ | with_reducible exact D3.out _))
    refine wpQuiet_nil ?_
    intro _ hw'
    obtain ⟨⟨dq, osq⟩, hw''⟩ := hw'
    subst hw''
    have bz := below_regrown W dq osq
    have B1 := Lib.hid (bel_trans B0.out bz)
    clear bz i0 i1 i2 i3 il j0 j1 jl l0 l1 ll n0 n1 nl X0 B0 D1 D2 D3 CE CC CH
    generalize grow (redrawn W dq) osq = w1 at *
    go_wp2
    go_ret
    exact ⟨by rw [HV.out]; rfl, B1.out⟩
  | false =>
  obtain ⟨ho, ra⟩ := empty_no hE
  have CE := Lib.hid (fun w => ringEmpty_is hE x0 x1 y0 y1 u0 u1 v0 v1 e0 e1 f0 f1 w)
  obtain ⟨one, h1⟩ : ∃ g, discK r (nearS a b c d u v) (mostS a b c d u v) = g := ⟨_, rfl⟩
  obtain ⟨tw, h2⟩ : ∃ g, discK r (nearS a b c d e f) (mostS a b c d e f) = g := ⟨_, rfl⟩
  obtain ⟨B, hB⟩ : ∃ g, sqI x y u v = g := ⟨_, rfl⟩
  obtain ⟨n, hn⟩ : ∃ g, nearS a b c d x y = g := ⟨_, rfl⟩
  obtain ⟨m, hm⟩ : ∃ g, mostS a b c d x y = g := ⟨_, rfl⟩
  obtain ⟨S, hS⟩ : ∃ g, r * r = g := ⟨_, rfl⟩
  obtain ⟨I, hI⟩ : ∃ g, innB (decide (u = e ∧ v = f)) (crI x y u v e f) (u4B x y u v a b c d) (v4B x y e f a b c d) = g := ⟨_, rfl⟩
  obtain ⟨O, hO⟩ : ∃ g, offB (decide (u = e ∧ v = f)) (crI x y u v e f) (u0B x y u v a b c d) (v0B x y e f a b c d) (u0B x y u v a b c d && v0B x y e f a b c d) = g := ⟨_, rfl⟩
  have Bb := sqI_bd x0 x1 y0 y1 u0 u1 v0 v1
  rw [hB] at Bb
  have Nb := near_rng a0 ac c1 b0 bd d1 x0 x1 y0 y1
  rw [hn] at Nb
  have Mb := most_rng a0 ac c1 b0 bd d1 x0 x1 y0 y1
  rw [hm] at Mb
  have m1 := mul_bd (X := r) (Y := r) (by omega) rb (by omega) rb
  have m2 := sq_nonneg r
  rw [hS] at m1 m2
  obtain ⟨l1', k1⟩ : ∃ g, (!(upW B n S)) = g := ⟨_, rfl⟩
  obtain ⟨l2', k2⟩ : ∃ g, (!(upW m B S)) = g := ⟨_, rfl⟩
  obtain ⟨l3', k3⟩ : ∃ g, (!(upW n B S)) = g := ⟨_, rfl⟩
  obtain ⟨l4', k4⟩ : ∃ g, (!(upW B m S)) = g := ⟨_, rfl⟩
  obtain ⟨o2, w1⟩ : ∃ g, (one == 2) = g := ⟨_, rfl⟩
  obtain ⟨t2, w2⟩ : ∃ g, (tw == 2) = g := ⟨_, rfl⟩
  obtain ⟨o1, w3⟩ : ∃ g, (one == 1) = g := ⟨_, rfl⟩
  obtain ⟨t1, w4⟩ : ∃ g, (tw == 1) = g := ⟨_, rfl⟩
  have HV := Lib.hid (show ringC a b c d x y u v e f r = if (o2 || t2) = true then 2 else if (I && !l1' && !l2') = true then 2 else if (o1 || t1) = true then 1 else if (O || l3' || l4') = true then 0 else 1 by
    unfold ringC
    rw [if_pos ⟨ho, ra⟩, h1, h2, hI, hO, hn, hm, hS, sqI_sym u v x y, hB, ← w1, ← w2, ← w3, ← w4]
    exact ringK_steps (h1 ▸ disc_three _ _ _) (h2 ▸ disc_three _ _ _) (by rw [← up_dn Nb.1 m2]; exact k1) k2 k3 (by rw [← up_dn Mb.1 m2]; exact k4))
  have C1 := Lib.hid (fun w => discClass_is h1 a0 ac c1 b0 bd d1 u0 u1 v0 v1 rb w)
  have C2 := Lib.hid (fun w => discClass_is h2 a0 ac c1 b0 bd d1 e0 e1 f0 f1 rb w)
  have CS := Lib.hid (fun w => ringSpread_is hI hO a0 ac c1 b0 bd d1 x0 x1 y0 y1 u0 u1 v0 v1 e0 e1 f0 f1 w)
  have CB := Lib.hid (fun w => ringSquare_is hB u0 u1 v0 v1 x0 x1 y0 y1 w)
  have CN := Lib.hid (fun w => near_is hn a0 ac c1 b0 bd d1 x0 x1 y0 y1 w)
  have CM := Lib.hid (fun w => most_is hm a0 ac c1 b0 bd d1 x0 x1 y0 y1 w)
  have CL1 := Lib.hid (fun w => ringLonger_is k1 Bb.1 Bb.2 Nb.1 Nb.2 m2 (by omega) w)
  have CL2 := Lib.hid (fun w => ringLonger_is k2 Mb.1 Mb.2 Bb.1 Bb.2 m2 (by omega) w)
  have CL3 := Lib.hid (fun w => ringLonger_is k3 Nb.1 Nb.2 Bb.1 Bb.2 m2 (by omega) w)
  have CL4 := Lib.hid (fun w => ringLonger_is k4 Bb.1 Bb.2 Mb.1 Mb.2 m2 (by omega) w)
  have ew : IntKind.i64.wrap (r * r) = S := by rw [hS]; exact IntWalk.i64_in _ (by omega)
  clear hE ho ra h1 h2 hB hn hm hS hI hO Bb Nb Mb m1 m2 k1 k2 k3 k4 a0 ac c1 b0 bd d1 x0 x1 y0 y1 u0 u1 v0 v1 e0 e1 f0 f1 rb
  go_enter Try.func15, Try.ntmps15
  go_wp2_with fail
  generalize (((w.alloc (.cells #[.int .i64 a, .int .i64 b, .int .i64 c, .int .i64 d] 23)).alloc (.cells #[.int .i64 x, .int .i64 y] 25)).alloc (.cells #[.int .i64 u, .int .i64 v] 25)).alloc (.cells #[.int .i64 e, .int .i64 f] 25) = W at *
  obtain ⟨⟨i0, i1, i2, i3, il⟩, ⟨j0, j1, jl⟩, ⟨l0, l1, ll⟩, ⟨n0, n1, nl⟩⟩ := X0.out
  have i0 := cell_regrown i0
  have i1 := cell_regrown i1
  have i2 := cell_regrown i2
  have i3 := cell_regrown i3
  have j0 := cell_regrown j0
  have j1 := cell_regrown j1
  have l0 := cell_regrown l0
  have l1 := cell_regrown l1
  have n0 := cell_regrown n0
  have n1 := cell_regrown n1
  have D1 := Lib.hid (fun p : Regrown => Calls.regrown_of (CE.out (grow (redrawn W p.d) p.os)))
  have D2 := Lib.hid (fun p : Regrown => Calls.regrown_of (CC.out (grow (redrawn W p.d) p.os)))
  have D3 := Lib.hid (fun p : Regrown => Calls.regrown_of (CH.out (grow (redrawn W p.d) p.os)))
  refine wp_region_quiet_below (by kernel_rfl) (by kernel_rfl) ?_
  repeat (go_big_quiet_step (first | with_reducible exact D1.out _ | with_reducible exact D2.out _ | with_reducible exact D3.out _))
  refine wpQuiet_nil ?_
  intro _ hw'
  obtain ⟨⟨dq, osq⟩, hw''⟩ := hw'
  subst hw''
  have bz := below_regrown W dq osq
  have X1 := Lib.hid (X0.out.later bz)
  have B1 := Lib.hid (bel_trans B0.out bz)
  clear bz i0 i1 i2 i3 il j0 j1 jl l0 l1 ll n0 n1 nl X0 B0 D1 D2 D3 CE CC CH J
  generalize grow (redrawn W dq) osq = v1' at *
  obtain ⟨⟨i0, i1, i2, i3, il⟩, ⟨j0, j1, jl⟩, ⟨l0, l1, ll⟩, ⟨n0, n1, nl⟩⟩ := X1.out
  go_upto_region 3 with (fail)
  have i0 := cell_regrown i0
  have i1 := cell_regrown i1
  have i2 := cell_regrown i2
  have i3 := cell_regrown i3
  have j0 := cell_regrown j0
  have j1 := cell_regrown j1
  have l0 := cell_regrown l0
  have l1 := cell_regrown l1
  have n0 := cell_regrown n0
  have n1 := cell_regrown n1
  have D1 := Lib.hid (fun p : Regrown => Calls.regrown_of (C1.out (grow (redrawn v1' p.d) p.os)))
  have D2 := Lib.hid (fun p : Regrown => Calls.regrown_of (C2.out (grow (redrawn v1' p.d) p.os)))
  refine wp_region_quiet_below (by kernel_rfl) (by kernel_rfl) ?_
  repeat (go_big_quiet_step (first | with_reducible exact D1.out _ | with_reducible exact D2.out _))
  refine wpQuiet_nil ?_
  intro _ hw'
  obtain ⟨⟨dq, osq⟩, hw''⟩ := hw'
  subst hw''
  have bz := below_regrown v1' dq osq
  have X3 := Lib.hid (X1.out.later bz)
  have B3 := Lib.hid (bel_trans B1.out bz)
  clear bz i0 i1 i2 i3 il j0 j1 jl l0 l1 ll n0 n1 nl X1 B1 D1 D2 C1 C2
  generalize grow (redrawn v1' dq) osq = v3' at *
  obtain ⟨⟨i0, i1, i2, i3, il⟩, ⟨j0, j1, jl⟩, ⟨l0, l1, ll⟩, ⟨n0, n1, nl⟩⟩ := X3.out
  go_wp2_with fail
  refine (CS.out _).mono ?_; rintro e' w4' ⟨rfl, z⟩
  have X4 := Lib.hid (X3.out.later z)
  have B4 := Lib.hid (bel_trans B3.out z)
  clear z X3 B3 i0 i1 i2 i3 il j0 j1 jl l0 l1 ll n0 n1 nl CS
  obtain ⟨⟨i0, i1, i2, i3, il⟩, ⟨j0, j1, jl⟩, ⟨l0, l1, ll⟩, ⟨n0, n1, nl⟩⟩ := X4.out
  go_upto_region 5 with (fail)
  have i0 := cell_regrown i0
  have i1 := cell_regrown i1
  have i2 := cell_regrown i2
  have i3 := cell_regrown i3
  have j0 := cell_regrown j0
  have j1 := cell_regrown j1
  have l0 := cell_regrown l0
  have l1 := cell_regrown l1
  have n0 := cell_regrown n0
  have n1 := cell_regrown n1
  have D1 := Lib.hid (fun p : Regrown => Calls.regrown_of (CB.out (grow (redrawn w4' p.d) p.os)))
  have D2 := Lib.hid (fun p : Regrown => Calls.regrown_of (CN.out (grow (redrawn w4' p.d) p.os)))
  have D3 := Lib.hid (fun p : Regrown => Calls.regrown_of (CM.out (grow (redrawn w4' p.d) p.os)))
  refine wp_region_quiet_below (by kernel_rfl) (by kernel_rfl) ?_
  repeat (go_big_quiet_step (first | with_reducible exact D1.out _ | with_reducible exact D2.out _ | with_reducible exact D3.out _))
  refine wpQuiet_nil ?_
  intro _ hw'
  obtain ⟨⟨dq, osq⟩, hw''⟩ := hw'
  subst hw''
  have bz := below_regrown w4' dq osq
  have B5 := Lib.hid (bel_trans B4.out bz)
  clear bz i0 i1 i2 i3 il j0 j1 jl l0 l1 ll n0 n1 nl X4 B4 D1 D2 D3 CB CN CM
  generalize grow (redrawn w4' dq) osq = v5' at *
  revert HV
  intro HV
  cases o2 with
  | true =>
    go_wp2
    go_ret
    exact ⟨by rw [HV.out]; rfl, B5.out⟩
  | false =>
    cases t2 with
    | true =>
      go_wp2
      go_ret
      exact ⟨by rw [HV.out]; rfl, B5.out⟩
    | false =>
      cases I with
      | true =>
        go_wp2_with fail
        refine (CL1.out _).mono ?_; rintro e' wB6 ⟨rfl, z⟩
        have B6 := Lib.hid (bel_trans B5.out z)
        clear z CL1
        cases l1' with
        | true =>
          as_aux_lemma =>
            cases o1 with
            | true =>
              go_wp2
              go_ret
              exact ⟨by rw [HV.out]; rfl, B6.out⟩
            | false =>
              cases t1 with
              | true =>
                go_wp2
                go_ret
                exact ⟨by rw [HV.out]; rfl, B6.out⟩
              | false =>
                cases O with
                | true =>
                  go_wp2
                  go_ret
                  exact ⟨by rw [HV.out]; rfl, B6.out⟩
                | false =>
                  go_wp2_with fail
                  refine (CL3.out _).mono ?_; rintro e' wB8 ⟨rfl, z⟩
                  have B8 := Lib.hid (bel_trans B6.out z)
                  clear z CL3
                  cases l3' with
                  | true =>
                    go_wp2
                    go_ret
                    exact ⟨by rw [HV.out]; rfl, B8.out⟩
                  | false =>
                    go_wp2_with fail
                    refine (CL4.out _).mono ?_; rintro e' wB9 ⟨rfl, z⟩
                    have B9 := Lib.hid (bel_trans B8.out z)
                    clear z CL4
                    cases l4' with
                    | true =>
                      go_wp2
                      go_ret
                      exact ⟨by rw [HV.out]; rfl, B9.out⟩
                    | false =>
                      go_wp2
                      go_ret
                      exact ⟨by rw [HV.out]; rfl, B9.out⟩
        | false =>
          go_wp2_with fail
          refine (CL2.out _).mono ?_; rintro e' wB7 ⟨rfl, z⟩
          have B7 := Lib.hid (bel_trans B6.out z)
          clear z CL2
          cases l2' with
          | true =>
            as_aux_lemma =>
              cases o1 with
              | true =>
                go_wp2
                go_ret
                exact ⟨by rw [HV.out]; rfl, B7.out⟩
              | false =>
                cases t1 with
                | true =>
                  go_wp2
                  go_ret
                  exact ⟨by rw [HV.out]; rfl, B7.out⟩
                | false =>
                  cases O with
                  | true =>
                    go_wp2
                    go_ret
                    exact ⟨by rw [HV.out]; rfl, B7.out⟩
                  | false =>
                    go_wp2_with fail
                    refine (CL3.out _).mono ?_; rintro e' wB8 ⟨rfl, z⟩
                    have B8 := Lib.hid (bel_trans B7.out z)
                    clear z CL3
                    cases l3' with
                    | true =>
                      go_wp2
                      go_ret
                      exact ⟨by rw [HV.out]; rfl, B8.out⟩
                    | false =>
                      go_wp2_with fail
                      refine (CL4.out _).mono ?_; rintro e' wB9 ⟨rfl, z⟩
                      have B9 := Lib.hid (bel_trans B8.out z)
                      clear z CL4
                      cases l4' with
                      | true =>
                        go_wp2
                        go_ret
                        exact ⟨by rw [HV.out]; rfl, B9.out⟩
                      | false =>
                        go_wp2
                        go_ret
                        exact ⟨by rw [HV.out]; rfl, B9.out⟩
          | false =>
            go_wp2
            go_ret
            exact ⟨by rw [HV.out]; rfl, B7.out⟩
      | false =>
        as_aux_lemma =>
          cases o1 with
          | true =>
            go_wp2
            go_ret
            exact ⟨by rw [HV.out]; rfl, B5.out⟩
          | false =>
            cases t1 with
            | true =>
              go_wp2
              go_ret
              exact ⟨by rw [HV.out]; rfl, B5.out⟩
            | false =>
              cases O with
              | true =>
                go_wp2
                go_ret
                exact ⟨by rw [HV.out]; rfl, B5.out⟩
              | false =>
                go_wp2_with fail
                refine (CL3.out _).mono ?_; rintro e' wB8 ⟨rfl, z⟩
                have B8 := Lib.hid (bel_trans B5.out z)
                clear z CL3
                cases l3' with
                | true =>
                  go_wp2
                  go_ret
                  exact ⟨by rw [HV.out]; rfl, B8.out⟩
                | false =>
                  go_wp2_with fail
                  refine (CL4.out _).mono ?_; rintro e' wB9 ⟨rfl, z⟩
                  have B9 := Lib.hid (bel_trans B8.out z)
                  clear z CL4
                  cases l4' with
                  | true =>
                    go_wp2
                    go_ret
                    exact ⟨by rw [HV.out]; rfl, B9.out⟩
                  | false =>
                    go_wp2
                    go_ret
                    exact ⟨by rw [HV.out]; rfl, B9.out⟩
theorem ringClass_is {a b c d x y u v e f r : Int} {hh : Int} (h' : ringC a b c d x y u v e f r = hh) (a0 : -536870912 ≤ a) (ac : a ≤ c) (c1 : c ≤ 536870912) (b0 : -536870912 ≤ b) (bd : b ≤ d) (d1 : d ≤ 536870912) (x0 : -536870912 ≤ x) (x1 : x ≤ 536870912) (y0 : -536870912 ≤ y) (y1 : y ≤ 536870912) (u0 : -536870912 ≤ u) (u1 : u ≤ 536870912) (v0 : -536870912 ≤ v) (v1 : v ≤ 536870912) (e0 : -536870912 ≤ e) (e1 : e ≤ 536870912) (f0 : -536870912 ≤ f) (f1 : f ≤ 536870912) (rb : r ≤ 1073741824) (w : World) :
    Calls Try.prog 15 #[boxV a b c d, ptV x y, ptV u v, ptV e f, .int .i64 r] w fun e' w' => e' = .returned (.int .i64 hh) ∧ Below w.heap.size w w' := h' ▸ ringClass_any a b c d x y u v e f r a0 ac c1 b0 bd d1 x0 x1 y0 y1 u0 u1 v0 v1 e0 e1 f0 f1 rb w
end Go.Proofs.Ytoofbbmddddlcaa
