/- Contracts of package box: distances, cross products, quarters. -/
import Derived.Test.YtoofbbmddddlcaaBox
import Derived.Test.YtoofbbmddddlcaaRow
import Derived.BigQuiet
import Derived.Lib.QuietBelow
namespace Go.Proofs.Ytoofbbmddddlcaa
open Go.RowKit
open Go.Sort (grow)

/-- A contract that leaves the world alone, as one that makes memory. -/
theorem as_below {f : FuncId} {args : Array Value} {v : Value} {w : World} (h : Calls Try.prog f args w fun e w' => e = .returned v ∧ w = w') : Calls Try.prog f args w fun e w' => e = .returned v ∧ Below w.heap.size w w' :=
  h.mono fun _ _ hh => ⟨hh.1, hh.2 ▸ bel_refl _⟩
/-- What a call leaves of a box and of a point that lie in blocks of the caller's own. -/
structure BoxAt (w : World) (b : Nat) (x0 y0 x1 y1 : Int) : Prop where
  c0 : w.cell? ⟨b, 0, none⟩ = some (.int .i64 x0)
  c1 : w.cell? ⟨b, 1, none⟩ = some (.int .i64 y0)
  c2 : w.cell? ⟨b, 2, none⟩ = some (.int .i64 x1)
  c3 : w.cell? ⟨b, 3, none⟩ = some (.int .i64 y1)
  lt : b < w.heap.size
structure PtAt (w : World) (b : Nat) (x y : Int) : Prop where
  c0 : w.cell? ⟨b, 0, none⟩ = some (.int .i64 x)
  c1 : w.cell? ⟨b, 1, none⟩ = some (.int .i64 y)
  lt : b < w.heap.size
theorem boxAt_new (w : World) (a b c d : Int) (n : TypeId) : BoxAt (w.alloc (.cells #[.int .i64 a, .int .i64 b, .int .i64 c, .int .i64 d] n)) w.heap.size a b c d :=
  ⟨by simp, by simp, by simp, by simp, by simp⟩
theorem ptAt_new (w : World) (x y : Int) (n : TypeId) : PtAt (w.alloc (.cells #[.int .i64 x, .int .i64 y] n)) w.heap.size x y :=
  ⟨by simp, by simp, by simp⟩
theorem BoxAt.later {w w1 : World} {b : Nat} {x0 y0 x1 y1 : Int} (h : BoxAt w b x0 y0 x1 y1) (k : Below w.heap.size w w1) : BoxAt w1 b x0 y0 x1 y1 :=
  ⟨(k.cell (p := ⟨b, 0, none⟩) h.lt).trans h.c0, (k.cell (p := ⟨b, 1, none⟩) h.lt).trans h.c1, (k.cell (p := ⟨b, 2, none⟩) h.lt).trans h.c2, (k.cell (p := ⟨b, 3, none⟩) h.lt).trans h.c3, Nat.lt_of_lt_of_le h.lt k.size⟩
theorem PtAt.later {w w1 : World} {b : Nat} {x y : Int} (h : PtAt w b x y) (k : Below w.heap.size w w1) : PtAt w1 b x y :=
  ⟨(k.cell (p := ⟨b, 0, none⟩) h.lt).trans h.c0, (k.cell (p := ⟨b, 1, none⟩) h.lt).trans h.c1, Nat.lt_of_lt_of_le h.lt k.size⟩
theorem BoxAt.alloc {w : World} {b : Nat} {x0 y0 x1 y1 : Int} (h : BoxAt w b x0 y0 x1 y1) (o : Obj) : BoxAt (w.alloc o) b x0 y0 x1 y1 := h.later (bel_alloc (bel_refl w) o)
theorem PtAt.alloc {w : World} {b : Nat} {x y : Int} (h : PtAt w b x y) (o : Obj) : PtAt (w.alloc o) b x y := h.later (bel_alloc (bel_refl w) o)

set_option maxHeartbeats 1000000 in
theorem square_any (x y u v : Int) (x0 : -536870912 ≤ x) (x1 : x ≤ 536870912) (y0 : -536870912 ≤ y) (y1 : y ≤ 536870912) (u0 : -536870912 ≤ u) (u1 : u ≤ 536870912) (v0 : -536870912 ≤ v) (v1 : v ≤ 536870912) (w : World) :
    Calls Try.prog 51 #[ptV x y, ptV u v] w fun e w' => e = .returned (.int .i64 (sqI x y u v)) ∧ Below w.heap.size w w' := by
  have m1 := mul_bd (X := u - x) (Y := u - x) (by omega) (by omega) (by omega) (by omega)
  have m2 := mul_bd (X := v - y) (Y := v - y) (by omega) (by omega) (by omega) (by omega)
  have H := Lib.hid (show sqI x y u v = (u - x) * (u - x) + (v - y) * (v - y) from rfl)
  go_enter Try.func51, Try.ntmps51
  go_wp2
  go_region
  go_wp2
  go_ret
  exact ⟨by rw [H.out]; rfl, bel_drew (bel_alloc (bel_alloc (bel_refl w) _) _)⟩
set_option maxHeartbeats 1000000 in
theorem cross_any (x y u v s t : Int) (x0 : -536870912 ≤ x) (x1 : x ≤ 536870912) (y0 : -536870912 ≤ y) (y1 : y ≤ 536870912) (u0 : -536870912 ≤ u) (u1 : u ≤ 536870912) (v0 : -536870912 ≤ v) (v1 : v ≤ 536870912) (s0 : -536870912 ≤ s) (s1 : s ≤ 536870912) (t0 : -536870912 ≤ t) (t1 : t ≤ 536870912) (w : World) :
    Calls Try.prog 60 #[ptV x y, ptV u v, ptV s t] w fun e w' => e = .returned (.int .i64 (crI x y u v s t)) ∧ Below w.heap.size w w' := by
  have m1 := mul_bd (X := u - x) (Y := t - y) (by omega) (by omega) (by omega) (by omega)
  have m2 := mul_bd (X := v - y) (Y := s - x) (by omega) (by omega) (by omega) (by omega)
  have H := Lib.hid (show crI x y u v s t = (u - x) * (t - y) - (v - y) * (s - x) from rfl)
  go_enter Try.func60, Try.ntmps60
  go_wp2
  go_ret
  exact ⟨by rw [H.out]; rfl, bel_alloc (bel_alloc (bel_alloc (bel_refl w) _) _) _⟩

set_option maxHeartbeats 1000000 in
theorem near_any (a b c d x y : Int) (a0 : -536870912 ≤ a) (ac : a ≤ c) (c1 : c ≤ 536870912) (b0 : -536870912 ≤ b) (bd : b ≤ d) (d1 : d ≤ 536870912) (x0 : -536870912 ≤ x) (x1 : x ≤ 536870912) (y0 : -536870912 ≤ y) (y1 : y ≤ 536870912) (w : World) :
    Calls Try.prog 35 #[boxV a b c d, ptV x y] w fun e w' => e = .returned (.int .i64 (nearS a b c d x y)) ∧ Below w.heap.size w w' := by
  obtain ⟨m, hm⟩ : ∃ m, nearI x a c = m := ⟨_, rfl⟩
  obtain ⟨n, hn⟩ : ∃ n, nearI y b d = n := ⟨_, rfl⟩
  have im := nearI_in x ac
  have inn := nearI_in y bd
  rw [hm] at im
  rw [hn] at inn
  have H := Lib.hid (show nearS a b c d x y = sqI x y m n by unfold nearS; rw [hm, hn])
  have C1 := Lib.hid (fun w => hm ▸ nearest_any x a c w)
  have C2 := Lib.hid (fun w => hn ▸ nearest_any y b d w)
  have C3 := Lib.hid (fun w => square_any x y m n x0 x1 y0 y1 (by omega) (by omega) (by omega) (by omega) w)
  clear hm hn
  go_enter Try.func35, Try.ntmps35
  go_wp2_with fail
  have bA := bel_alloc (bel_alloc (bel_refl w) (.cells #[.int .i64 a, .int .i64 b, .int .i64 c, .int .i64 d] 23)) (.cells #[.int .i64 x, .int .i64 y] 25)
  have bx := (boxAt_new w a b c d 23).alloc (.cells #[.int .i64 x, .int .i64 y] 25)
  have pt := ptAt_new (w.alloc (.cells #[.int .i64 a, .int .i64 b, .int .i64 c, .int .i64 d] 23)) x y 25
  rw [show (w.alloc (.cells #[.int .i64 a, .int .i64 b, .int .i64 c, .int .i64 d] 23)).heap.size = w.heap.size + 1 by simp] at pt
  generalize (w.alloc (.cells #[.int .i64 a, .int .i64 b, .int .i64 c, .int .i64 d] 23)).alloc (.cells #[.int .i64 x, .int .i64 y] 25) = W at *
  obtain ⟨q0, q1, q2, q3, ql⟩ := bx
  obtain ⟨p0, p1, pl⟩ := pt
  have q0 := cell_regrown q0
  have q1 := cell_regrown q1
  have q2 := cell_regrown q2
  have q3 := cell_regrown q3
  have p0 := cell_regrown p0
  have p1 := cell_regrown p1
  have D1 := Lib.hid (fun p : Regrown => Calls.regrown_of (as_below (C1.out (grow (redrawn W p.d) p.os))))
  have D2 := Lib.hid (fun p : Regrown => Calls.regrown_of (as_below (C2.out (grow (redrawn W p.d) p.os))))
  have D3 := Lib.hid (fun p : Regrown => Calls.regrown_of (C3.out (grow (redrawn W p.d) p.os)))
  refine wp_region_quiet_below (by kernel_rfl) (by kernel_rfl) ?_
  repeat (go_big_quiet_step (first | with_reducible exact D1.out _ | with_reducible exact D2.out _ | with_reducible exact D3.out _))
  refine wpQuiet_nil ?_
  intro _ hw'
  obtain ⟨⟨dq, osq⟩, hw''⟩ := hw'
  subst hw''
  go_wp2
  go_ret
  exact ⟨by rw [H.out]; rfl, bel_trans bA (below_regrown W dq osq)⟩
end Go.Proofs.Ytoofbbmddddlcaa
