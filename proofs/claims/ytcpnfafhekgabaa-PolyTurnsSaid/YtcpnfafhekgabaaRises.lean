/- Contracts of package poly: which edges a ray crosses. -/
import Derived.Test.YtcpnfafhekgabaaBoxN
import Derived.Test.YtcpnfafhekgabaaContour
namespace Go.Proofs.Ytcpnfafhekgabaa
open Go.RowKit

/-- Whether an edge comes from below a ray, and crosses it. -/
def risB (x y u v s t : Int) : Bool := decide (y ≤ t ∧ t < v ∧ 0 < crI x y u v s t)
theorem cut_rises (x y u v s t : Int) : cutE ((x, y), (u, v)) (s, t) = (risB x y u v s t || risB u v x y s t) := by
  unfold cutE crE risB
  simp only []
  rw [cr_swap x y u v s t, ← Bool.decide_or, decide_eq_decide]
  omega
theorem rises_any (x y u v s t : Int) (x0 : -536870912 ≤ x) (x1 : x ≤ 536870912) (y0 : -536870912 ≤ y) (y1 : y ≤ 536870912) (u0 : -536870912 ≤ u) (u1 : u ≤ 536870912) (v0 : -536870912 ≤ v) (v1 : v ≤ 536870912) (s0 : -536870912 ≤ s) (s1 : s ≤ 536870912) (t0 : -536870912 ≤ t) (t1 : t ≤ 536870912) (w : World) :
    Calls Try.prog 29 #[ptV x y, ptV u v, ptV s t] w fun e w' => e = .returned (.bool (risB x y u v s t)) ∧ Below w.heap.size w w' := by
  have B0 := Lib.hid (bel_alloc (bel_alloc (bel_alloc (bel_refl w) (.cells #[.int .i64 x, .int .i64 y] 23)) (.cells #[.int .i64 u, .int .i64 v] 23)) (.cells #[.int .i64 s, .int .i64 t] 23))
  by_cases h1 : y ≤ t
  · by_cases h2 : t < v
    · obtain ⟨k, hk⟩ : ∃ k, crI x y u v s t = k := ⟨_, rfl⟩
      have H := Lib.hid (show risB x y u v s t = decide (0 < k) by unfold risB; rw [hk, decide_eq_decide]; omega)
      have K := Lib.hid (fun w => cross_is hk x0 x1 y0 y1 u0 u1 v0 v1 s0 s1 t0 t1 w)
      clear hk
      go_enter Try.func29, Try.ntmps29
      go_wp2_with (go_at_call 32; ((with_reducible refine (K.out _).mono ?_); rintro e w1 ⟨rfl, b1⟩))
      go_ret
      exact ⟨by rw [H.out]; rfl, bel_trans B0.out b1⟩
    · have H := Lib.hid (show risB x y u v s t = false by unfold risB; exact decide_eq_false (by omega))
      go_enter Try.func29, Try.ntmps29
      go_wp2
      go_ret
      exact ⟨by rw [H.out]; rfl, B0.out⟩
  · have H := Lib.hid (show risB x y u v s t = false by unfold risB; exact decide_eq_false (by omega))
    go_enter Try.func29, Try.ntmps29
    go_wp2
    go_ret
    exact ⟨by rw [H.out]; rfl, B0.out⟩
theorem rises_is {x y u v s t : Int} {r : Bool} (h : risB x y u v s t = r) (x0 : -536870912 ≤ x) (x1 : x ≤ 536870912) (y0 : -536870912 ≤ y) (y1 : y ≤ 536870912) (u0 : -536870912 ≤ u) (u1 : u ≤ 536870912) (v0 : -536870912 ≤ v) (v1 : v ≤ 536870912) (s0 : -536870912 ≤ s) (s1 : s ≤ 536870912) (t0 : -536870912 ≤ t) (t1 : t ≤ 536870912) (w : World) :
    Calls Try.prog 29 #[ptV x y, ptV u v, ptV s t] w fun e w' => e = .returned (.bool r) ∧ Below w.heap.size w w' := h ▸ rises_any x y u v s t x0 x1 y0 y1 u0 u1 v0 v1 s0 s1 t0 t1 w
set_option maxHeartbeats 1000000 in
theorem crosses_any (x y u v s t : Int) (x0 : -536870912 ≤ x) (x1 : x ≤ 536870912) (y0 : -536870912 ≤ y) (y1 : y ≤ 536870912) (u0 : -536870912 ≤ u) (u1 : u ≤ 536870912) (v0 : -536870912 ≤ v) (v1 : v ≤ 536870912) (s0 : -536870912 ≤ s) (s1 : s ≤ 536870912) (t0 : -536870912 ≤ t) (t1 : t ≤ 536870912) (w : World) :
    Calls Try.prog 25 #[ptV x y, ptV u v, ptV s t] w fun e w' => e = .returned (.bool (cutE ((x, y), (u, v)) (s, t))) ∧ Below w.heap.size w w' := by
  obtain ⟨r, hr⟩ : ∃ r, risB x y u v s t = r := ⟨_, rfl⟩
  obtain ⟨q, hq⟩ : ∃ q, risB u v x y s t = q := ⟨_, rfl⟩
  have H := Lib.hid (show cutE ((x, y), (u, v)) (s, t) = (r || q) by rw [cut_rises, hr, hq])
  have K1 := Lib.hid (fun w => rises_is hr x0 x1 y0 y1 u0 u1 v0 v1 s0 s1 t0 t1 w)
  have K2 := Lib.hid (fun w => rises_is hq u0 u1 v0 v1 x0 x1 y0 y1 s0 s1 t0 t1 w)
  clear hr hq
  have P0 := ((ptAt_new w x y 23).alloc (.cells #[.int .i64 u, .int .i64 v] 23)).alloc (.cells #[.int .i64 s, .int .i64 t] 23)
  have Q0 := (ptAt_new (w.alloc (.cells #[.int .i64 x, .int .i64 y] 23)) u v 23).alloc (.cells #[.int .i64 s, .int .i64 t] 23)
  have R0 := ptAt_new ((w.alloc (.cells #[.int .i64 x, .int .i64 y] 23)).alloc (.cells #[.int .i64 u, .int .i64 v] 23)) s t 23
  have B0 := Lib.hid (bel_alloc (bel_alloc (bel_alloc (bel_refl w) (.cells #[.int .i64 x, .int .i64 y] 23)) (.cells #[.int .i64 u, .int .i64 v] 23)) (.cells #[.int .i64 s, .int .i64 t] 23))
  rw [show (w.alloc (.cells #[.int .i64 x, .int .i64 y] 23)).heap.size = w.heap.size + 1 by simp] at Q0
  rw [show ((w.alloc (.cells #[.int .i64 x, .int .i64 y] 23)).alloc (.cells #[.int .i64 u, .int .i64 v] 23)).heap.size = w.heap.size + 1 + 1 by simp] at R0
  have P0 := Lib.hid P0
  have Q0 := Lib.hid Q0
  have R0 := Lib.hid R0
  go_enter Try.func25, Try.ntmps25
  go_wp2_with fail
  refine (K1.out _).mono ?_; rintro e w1 ⟨rfl, b1⟩
  have P1 := P0.out.later b1
  have Q1 := Q0.out.later b1
  have R1 := R0.out.later b1
  have B1 := Lib.hid (bel_trans B0.out b1)
  clear b1 P0 Q0 R0 B0
  obtain ⟨p0, p1, pl⟩ := P1
  obtain ⟨q0, q1, ql⟩ := Q1
  obtain ⟨r0, r1, rl⟩ := R1
  cases r with
  | true =>
    go_wp2
    go_ret
    exact ⟨by rw [H.out]; rfl, B1.out⟩
  | false =>
    go_wp2_with fail
    refine (K2.out _).mono ?_; rintro e w2 ⟨rfl, b2⟩
    go_wp2
    go_ret
    exact ⟨by rw [H.out]; rfl, bel_trans B1.out b2⟩
end Go.Proofs.Ytcpnfafhekgabaa
