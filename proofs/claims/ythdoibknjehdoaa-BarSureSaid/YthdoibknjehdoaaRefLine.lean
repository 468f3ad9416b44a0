/- Contracts of the document's answer for layer 7: what LineHas and Line return for every point up to Far, every box that may be, all ends up to Far and every radius up to 2 to the 30. -/
import Derived.Test.YthdoibknjehdoaaRefWide
import Derived.Test.YthdoibknjehdoaaRefMost
import Derived.Test.YthdoibknjehdoaaLine
import Derived.Test.YthdoibknjehdoaaTally
namespace Go.Proofs.Ythdoibknjehdoaa
open Go.RowKit

theorem refSq_is {a h l : Int} (hh : mulHi (absI a) (absI a) = h) (hl : mulLo (absI a) (absI a) = l) (h0 : -9223372036854775808 ≤ a) (h1 : a ≤ 9223372036854775807) (w : World) :
    Calls Try.prog 35 #[.int .i64 a] w fun e w' => e = .returned (wide h l) ∧ Below w.heap.size w w' := hh ▸ hl ▸ refSq_any a h0 h1 w
theorem refMul_is {a b h l : Int} (hh : mulHi a b = h) (hl : mulLo a b = l) (h0 : 0 ≤ a) (h1 : a ≤ 18446744073709551615) (h2 : 0 ≤ b) (h3 : b ≤ 18446744073709551615) (w : World) :
    Calls Try.prog 36 #[.int .u64 a, .int .u64 b] w fun e w' => e = .returned (wide h l) ∧ Below w.heap.size w w' := hh ▸ hl ▸ refMul_any a b h0 h1 h2 h3 w
theorem refCmp_is {a b c d q : Int} (hq : cmpWide a b c d = q) (hb : 0 ≤ b) (hb' : b ≤ 18446744073709551615) (hd : 0 ≤ d) (hd' : d ≤ 18446744073709551615) (w : World) :
    Calls Try.prog 34 #[wide a b, wide c d] w fun e w' => e = .returned (.int .i64 q) ∧ Below w.heap.size w w' := hq ▸ refCmp_any a b c d hb hb' hd hd' w
set_option maxHeartbeats 1000000 in
theorem refDot_any (x y u v s t : Int) (x0 : -536870912 ≤ x) (x1 : x ≤ 536870912) (y0 : -536870912 ≤ y) (y1 : y ≤ 536870912) (u0 : -536870912 ≤ u) (u1 : u ≤ 536870912) (v0 : -536870912 ≤ v) (v1 : v ≤ 536870912) (s0 : -536870912 ≤ s) (s1 : s ≤ 536870912) (t0 : -536870912 ≤ t) (t1 : t ≤ 536870912) (w : World) :
    Calls Try.prog 27 #[ptV x y, ptV u v, ptV s t] w fun e w' => e = .returned (.int .i64 (dotI x y u v s t)) ∧ Below w.heap.size w w' := by
  have m1 := mul_bd (X := u - x) (Y := s - x) (by omega) (by omega) (by omega) (by omega)
  have m2 := mul_bd (X := v - y) (Y := t - y) (by omega) (by omega) (by omega) (by omega)
  have H := Lib.hid (show dotI x y u v s t = (u - x) * (s - x) + (v - y) * (t - y) from rfl)
  go_enter Try.func27, Try.ntmps27
  go_wp2
  go_ret
  exact ⟨by rw [H.out]; rfl, bel_alloc (bel_alloc (bel_alloc (bel_refl w) _) _) _⟩
theorem refDot_is {x y u v s t k : Int} (h : dotI x y u v s t = k) (x0 : -536870912 ≤ x) (x1 : x ≤ 536870912) (y0 : -536870912 ≤ y) (y1 : y ≤ 536870912) (u0 : -536870912 ≤ u) (u1 : u ≤ 536870912) (v0 : -536870912 ≤ v) (v1 : v ≤ 536870912) (s0 : -536870912 ≤ s) (s1 : s ≤ 536870912) (t0 : -536870912 ≤ t) (t1 : t ≤ 536870912) (w : World) :
    Calls Try.prog 27 #[ptV x y, ptV u v, ptV s t] w fun e w' => e = .returned (.int .i64 k) ∧ Below w.heap.size w w' := h ▸ refDot_any x y u v s t x0 x1 y0 y1 u0 u1 v0 v1 s0 s1 t0 t1 w
theorem refDist_is {x y u v k : Int} (h : sqI x y u v = k) (x0 : -536870912 ≤ x) (x1 : x ≤ 536870912) (y0 : -536870912 ≤ y) (y1 : y ≤ 536870912) (u0 : -536870912 ≤ u) (u1 : u ≤ 536870912) (v0 : -536870912 ≤ v) (v1 : v ≤ 536870912) (w : World) :
    Calls Try.prog 26 #[ptV x y, ptV u v] w fun e w' => e = .returned (.int .i64 k) ∧ Below w.heap.size w w' := h ▸ dist_any x y u v x0 x1 y0 y1 u0 u1 v0 v1 w
set_option maxHeartbeats 4000000 in
theorem refWithin_any (k r L : Int) (k0 : -2305843009213693952 ≤ k) (k1 : k ≤ 2305843009213693952) (ra : 1 ≤ r) (rb : r ≤ 1073741824) (L0 : 0 ≤ L) (L1 : L ≤ 2305843009213693952) (w : World) :
    Calls Try.prog 29 #[.int .i64 k, .int .i64 r, .int .i64 L] w fun e w' => e = .returned (.bool (decide (k * k ≤ r * r * L))) ∧ Below w.heap.size w w' := by
  obtain ⟨q, hq⟩ : ∃ q, r * r = q := ⟨_, rfl⟩
  have m1 := mul_bd (X := r) (Y := r) (by omega) rb (by omega) rb
  have m2 := sq_nonneg r
  rw [hq] at m1 m2
  obtain ⟨h, hh⟩ : ∃ h, mulHi (absI k) (absI k) = h := ⟨_, rfl⟩
  obtain ⟨l, hl⟩ : ∃ l, mulLo (absI k) (absI k) = l := ⟨_, rfl⟩
  obtain ⟨h', hh'⟩ : ∃ h, mulHi q L = h := ⟨_, rfl⟩
  obtain ⟨l', hl'⟩ : ∃ l, mulLo q L = l := ⟨_, rfl⟩
  obtain ⟨z, hz⟩ : ∃ z, cmpWide h l h' l' = z := ⟨_, rfl⟩
  have lb := mulLo_bd (absI k) (absI k)
  rw [hl] at lb
  have lb' := mulLo_bd q L
  rw [hl'] at lb'
  have HC := Lib.hid (show decide (k * k ≤ r * r * L) = decide (z ≤ 0) by rw [← hz, ← hh, ← hl, ← hh', ← hl', hq]; exact (cmp_sqs' k L q).symm)
  have C4 := Lib.hid (fun w => refSq_is hh hl (by omega) (by omega) w)
  have C5 := Lib.hid (fun w => refMul_is hh' hl' (by omega) (by omega) (by omega) (by omega) w)
  have C6 := Lib.hid (fun w => refCmp_is hz lb.1 lb.2 lb'.1 lb'.2 w)
  have e2 : IntKind.u64.wrap L = L := by rw [IntKind.wrap_u64]; omega
  have e3 : IntKind.u64.wrap q = q := by rw [IntKind.wrap_u64]; omega
  have e4 : IntKind.i64.wrap (r * r) = q := by rw [hq]; exact IntWalk.i64_in _ (by omega)
  clear hh hl hh' hl' hz lb lb' hq
  go_enter Try.func29, Try.ntmps29
  go_wp2_with fail
  refine (C4.out _).mono ?_; rintro e w2 ⟨rfl, z2⟩
  go_wp2_with fail
  refine (C5.out _).mono ?_; rintro e w3 ⟨rfl, z3⟩
  have B4 := Lib.hid (bel_trans z2 z3)
  clear z2 z3
  go_wp2_with fail
  refine (C6.out _).mono ?_; rintro e w4 ⟨rfl, z4⟩
  go_wp2
  go_ret
  exact ⟨by rw [HC.out]; rfl, bel_trans B4.out z4⟩
theorem refWithin_is {k r L : Int} {g : Bool} (hg : decide (k * k ≤ r * r * L) = g) (k0 : -2305843009213693952 ≤ k) (k1 : k ≤ 2305843009213693952) (ra : 1 ≤ r) (rb : r ≤ 1073741824) (L0 : 0 ≤ L) (L1 : L ≤ 2305843009213693952) (w : World) :
    Calls Try.prog 29 #[.int .i64 k, .int .i64 r, .int .i64 L] w fun e w' => e = .returned (.bool g) ∧ Below w.heap.size w w' := hg ▸ refWithin_any k r L k0 k1 ra rb L0 L1 w

end Go.Proofs.Ythdoibknjehdoaa
