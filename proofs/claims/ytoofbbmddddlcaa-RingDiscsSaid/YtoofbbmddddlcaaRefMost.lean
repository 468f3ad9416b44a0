/- Contract of the document's Most of layer 4: the greatest of the distances to the corners. -/
import Derived.Test.YtoofbbmddddlcaaRefBoxM
namespace Go.Proofs.Ytoofbbmddddlcaa
open Go.RowKit
open Go.Sort (grow)

theorem sq_diff (a c x : Int) : (c - x) * (c - x) - (a - x) * (a - x) = (c - a) * ((c - x) + (a - x)) := by
  have e : c - a = (c - x) - (a - x) := by omega
  rw [e]
  generalize c - x = C
  generalize a - x = A
  rw [Int.sub_mul, Int.mul_add, Int.mul_add, Int.mul_comm A C]
  omega
theorem far_sq {x a c : Int} (h : a ≤ c) : (a - x) * (a - x) ≤ (farI x a c - x) * (farI x a c - x) ∧ (c - x) * (c - x) ≤ (farI x a c - x) * (farI x a c - x) ∧
    ((farI x a c - x) * (farI x a c - x) = (a - x) * (a - x) ∨ (farI x a c - x) * (farI x a c - x) = (c - x) * (c - x)) := by
  have e := sq_diff a c x
  unfold farI
  split
  · have p := mul_pp (show 0 ≤ c - a by omega) (show 0 ≤ (c - x) + (a - x) by omega)
    omega
  · have p := mul_pn (show 0 ≤ c - a by omega) (show (c - x) + (a - x) ≤ 0 by omega)
    omega
theorem most_max {a b c d x y : Int} (h : a ≤ c) (k : b ≤ d) : mxI (mxI (mxI (sqI x y a b) (sqI x y c b)) (sqI x y a d)) (sqI x y c d) = mostS a b c d x y := by
  obtain ⟨f1, f2, f3⟩ := far_sq (x := x) h
  obtain ⟨g1, g2, g3⟩ := far_sq (x := y) k
  unfold mostS sqI at *
  generalize (farI x a c - x) * (farI x a c - x) = F at *
  generalize (farI y b d - y) * (farI y b d - y) = G at *
  generalize (a - x) * (a - x) = A at *
  generalize (c - x) * (c - x) = C at *
  generalize (b - y) * (b - y) = B at *
  generalize (d - y) * (d - y) = D at *
  unfold mxI
  split <;> split <;> split <;> omega
theorem dist_is {x y u v k : Int} (h : sqI x y u v = k) (x0 : -536870912 ≤ x) (x1 : x ≤ 536870912) (y0 : -536870912 ≤ y) (y1 : y ≤ 536870912) (u0 : -536870912 ≤ u) (u1 : u ≤ 536870912) (v0 : -536870912 ≤ v) (v1 : v ≤ 536870912) (w : World) :
    Calls Try.prog 38 #[ptV x y, ptV u v] w fun e w' => e = .returned (.int .i64 k) ∧ Below w.heap.size w w' := h ▸ dist_any x y u v x0 x1 y0 y1 u0 u1 v0 v1 w

theorem run_max_int4 (ts : Array TypeId) (t : TypeId) (k l m n p q r : Int) (hp : (if k < l then l else k) = p) (hq : (if p < m then m else p) = q) (hr : (if q < n then n else q) = r) (w : World) :
    (Builtin.max_ ts t #[.int .i64 k, .int .i64 l, .int .i64 m, .int .i64 n]).run Try.prog w = .ok (.int .i64 r) w := by
  simp [Builtin.max_, Builtin.max2, hp, hq, hr]
set_option maxHeartbeats 4000000 in
theorem refMost_any (a b c d x y : Int) (a0 : -536870912 ≤ a) (ac : a ≤ c) (c1 : c ≤ 536870912) (b0 : -536870912 ≤ b) (bd : b ≤ d) (d1 : d ≤ 536870912) (x0 : -536870912 ≤ x) (x1 : x ≤ 536870912) (y0 : -536870912 ≤ y) (y1 : y ≤ 536870912) (w : World) :
    Calls Try.prog 45 #[boxV a b c d, ptV x y] w fun e w' => e = .returned (.int .i64 (mostS a b c d x y)) ∧ Below w.heap.size w w' := by
  obtain ⟨k, hk⟩ : ∃ k, sqI x y a b = k := ⟨_, rfl⟩
  obtain ⟨l, hl⟩ : ∃ k, sqI x y c b = k := ⟨_, rfl⟩
  obtain ⟨m, hm⟩ : ∃ k, sqI x y a d = k := ⟨_, rfl⟩
  obtain ⟨n, hn⟩ : ∃ k, sqI x y c d = k := ⟨_, rfl⟩
  obtain ⟨p, hp⟩ : ∃ k', (if k < l then l else k) = k' := ⟨_, rfl⟩
  obtain ⟨q, hq⟩ : ∃ k', (if p < m then m else p) = k' := ⟨_, rfl⟩
  obtain ⟨r, hr⟩ : ∃ k', (if q < n then n else q) = k' := ⟨_, rfl⟩
  have e1 : mxI k l = p := hp
  have e2 : mxI p m = q := hq
  have e3 : mxI q n = r := hr
  have H := Lib.hid (show mostS a b c d x y = r by rw [← most_max ac bd, hk, hl, hm, hn, e1, e2, e3])
  have C0 := Lib.hid (fun w => dist_is hk x0 x1 y0 y1 (by omega) (by omega) (by omega) (by omega) w)
  have C1 := Lib.hid (fun w => dist_is hl x0 x1 y0 y1 (by omega) (by omega) (by omega) (by omega) w)
  have C2 := Lib.hid (fun w => dist_is hm x0 x1 y0 y1 (by omega) (by omega) (by omega) (by omega) w)
  have C3 := Lib.hid (fun w => dist_is hn x0 x1 y0 y1 (by omega) (by omega) (by omega) (by omega) w)
  have C := Lib.hid (fun w => refCorners_any a b c d w)
  have P0 := Lib.hid (ptAt_new (w.alloc (.cells #[.int .i64 a, .int .i64 b, .int .i64 c, .int .i64 d] 23)) x y 25)
  have B0 := Lib.hid (bel_alloc (bel_alloc (bel_refl w) (.cells #[.int .i64 a, .int .i64 b, .int .i64 c, .int .i64 d] 23)) (.cells #[.int .i64 x, .int .i64 y] 25))
  clear hk hl hm hn e1 e2 e3
  go_enter Try.func45, Try.ntmps45
  go_wp2_with fail
  refine (C.out _).mono ?_; rintro e w1 ⟨rfl, b1⟩
  have P1 := P0.out.later b1
  rw [show (w.alloc (.cells #[.int .i64 a, .int .i64 b, .int .i64 c, .int .i64 d] 23)).heap.size = w.heap.size + 1 by simp] at P1
  have P2 := Lib.hid (P1.alloc (.cells #[.int .i64 a, .int .i64 b, .int .i64 c, .int .i64 b, .int .i64 a, .int .i64 d, .int .i64 c, .int .i64 d] 48))
  have B2 := Lib.hid (bel_alloc (bel_trans B0.out b1) (.cells #[.int .i64 a, .int .i64 b, .int .i64 c, .int .i64 b, .int .i64 a, .int .i64 d, .int .i64 c, .int .i64 d] 48))
  have E2 := Lib.hid (eightAt_new w1 a b c d 48)
  clear b1 P1 P0 B0 C
  go_wp2_with fail
  generalize w1.alloc (.cells #[.int .i64 a, .int .i64 b, .int .i64 c, .int .i64 b, .int .i64 a, .int .i64 d, .int .i64 c, .int .i64 d] 48) = W at *
  obtain ⟨p0, p1, pl⟩ := P2.out
  obtain ⟨g0, g1, g2, g3, g4, g5, g6, g7, gl⟩ := E2.out
  have p0 := cell_regrown p0
  have p1 := cell_regrown p1
  have h0 := cell_regrown g0
  have h1 := cell_regrown g1
  have h2 := cell_regrown g2
  have h3 := cell_regrown g3
  have h4 := cell_regrown g4
  have h5 := cell_regrown g5
  have h6 := cell_regrown g6
  have h7 := cell_regrown g7
  clear pl gl g0 g1 g2 g3 g4 g5 g6 g7
  have D0 := Lib.hid (fun p : Regrown => Calls.regrown_of (C0.out (grow (redrawn W p.d) p.os)))
  have D1 := Lib.hid (fun p : Regrown => Calls.regrown_of (C1.out (grow (redrawn W p.d) p.os)))
  have D2 := Lib.hid (fun p : Regrown => Calls.regrown_of (C2.out (grow (redrawn W p.d) p.os)))
  have D3 := Lib.hid (fun p : Regrown => Calls.regrown_of (C3.out (grow (redrawn W p.d) p.os)))
  clear C0 C1 C2 C3
  refine wp_region_quiet_below (by kernel_rfl) (by kernel_rfl) ?_
  repeat (go_big_quiet_step (first | with_reducible exact D0.out _ | with_reducible exact D1.out _ | with_reducible exact D2.out _ | with_reducible exact D3.out _))
  refine wpQuiet_step (fun K hK => ?_)
  go_simp
  refine ⟨.int .i64 r, fun a => ?_, ?_⟩
  · rw [run_max_int4 _ _ k l m n p q r hp hq hr]; exact ⟨rfl, rfl⟩
  refine hK _ ?_
  clear hK K
  repeat (go_big_quiet_step (first | with_reducible exact D0.out _))
  refine wpQuiet_nil ?_
  intro _ hw'
  obtain ⟨⟨dq, osq⟩, hw''⟩ := hw'
  subst hw''
  go_wp2
  go_ret
  exact ⟨by rw [H.out]; rfl, bel_trans B2.out (below_regrown W dq osq)⟩
end Go.Proofs.Ytoofbbmddddlcaa
