/- Contracts of the document's answer for layer 5: what Disc and DiscHas return for every box that may be, every point up to Far and every radius up to 2 to the 30. -/
import Derived.Test.YtoofbbmddddlcaaRefMost
import Derived.Test.YtoofbbmddddlcaaDiscMath
namespace Go.Proofs.Ytoofbbmddddlcaa
open Go.RowKit

theorem refNear_is {a b c d x y n : Int} (hn : nearS a b c d x y = n) (a0 : -536870912 ≤ a) (ac : a ≤ c) (c1 : c ≤ 536870912) (b0 : -536870912 ≤ b) (bd : b ≤ d) (d1 : d ≤ 536870912) (x0 : -536870912 ≤ x) (x1 : x ≤ 536870912) (y0 : -536870912 ≤ y) (y1 : y ≤ 536870912) (w : World) :
    Calls Try.prog 43 #[boxV a b c d, ptV x y] w fun e w' => e = .returned (.int .i64 n) ∧ Below w.heap.size w w' := hn ▸ refNear_any a b c d x y a0 ac c1 b0 bd d1 x0 x1 y0 y1 w
theorem refMost_is {a b c d x y n : Int} (hn : mostS a b c d x y = n) (a0 : -536870912 ≤ a) (ac : a ≤ c) (c1 : c ≤ 536870912) (b0 : -536870912 ≤ b) (bd : b ≤ d) (d1 : d ≤ 536870912) (x0 : -536870912 ≤ x) (x1 : x ≤ 536870912) (y0 : -536870912 ≤ y) (y1 : y ≤ 536870912) (w : World) :
    Calls Try.prog 45 #[boxV a b c d, ptV x y] w fun e w' => e = .returned (.int .i64 n) ∧ Below w.heap.size w w' := hn ▸ refMost_any a b c d x y a0 ac c1 b0 bd d1 x0 x1 y0 y1 w

set_option maxHeartbeats 4000000 in
theorem refDisc_any (a b c d x y r : Int) (a0 : -536870912 ≤ a) (ac : a ≤ c) (c1 : c ≤ 536870912) (b0 : -536870912 ≤ b) (bd : b ≤ d) (d1 : d ≤ 536870912) (x0 : -536870912 ≤ x) (x1 : x ≤ 536870912) (y0 : -536870912 ≤ y) (y1 : y ≤ 536870912) (hr : r ≤ 1073741824) (w : World) :
    Calls Try.prog 41 #[boxV a b c d, ptV x y, .int .i64 r] w fun e w' => e = .returned (.int .i64 (discK r (nearS a b c d x y) (mostS a b c d x y))) ∧ Below w.heap.size w w' := by
  obtain ⟨n, hn⟩ : ∃ n, nearS a b c d x y = n := ⟨_, rfl⟩
  obtain ⟨m, hm⟩ : ∃ m, mostS a b c d x y = m := ⟨_, rfl⟩
  have C1 := Lib.hid (fun w => refNear_is hn a0 ac c1 b0 bd d1 x0 x1 y0 y1 w)
  have C2 := Lib.hid (fun w => refMost_is hm a0 ac c1 b0 bd d1 x0 x1 y0 y1 w)
  have X0 := Lib.hid ((boxAt_new w a b c d 23).alloc (.cells #[.int .i64 x, .int .i64 y] 25))
  have P0 := ptAt_new (w.alloc (.cells #[.int .i64 a, .int .i64 b, .int .i64 c, .int .i64 d] 23)) x y 25
  rw [show (w.alloc (.cells #[.int .i64 a, .int .i64 b, .int .i64 c, .int .i64 d] 23)).heap.size = w.heap.size + 1 by simp] at P0
  have P0 := Lib.hid P0
  have B0 := Lib.hid (bel_alloc (bel_alloc (bel_refl w) (.cells #[.int .i64 a, .int .i64 b, .int .i64 c, .int .i64 d] 23)) (.cells #[.int .i64 x, .int .i64 y] 25))
  rw [hn, hm]
  by_cases hr1 : r < 1
  · have H := Lib.hid (discK_out hr1 n m)
    go_enter Try.func41, Try.ntmps41
    go_wp2
    go_ret
    exact ⟨by rw [H.out]; rfl, B0.out⟩
  · have m1 := mul_bd (X := r) (Y := r) (by omega) hr (by omega) hr
    rcases discK_cases r (r * r) n m rfl with ⟨h1, H⟩ | ⟨h1, h2, H⟩ | ⟨h1, h2, h3, H⟩ | ⟨h1, h2, h3, H⟩
    · exact absurd h1 hr1
    · clear hn hm a0 ac c1 b0 bd d1 x0 x1 y0 y1 hr hr1
      go_enter Try.func41, Try.ntmps41
      go_wp2_with fail
      refine (C1.out _).mono ?_; rintro e w1 ⟨rfl, z1⟩
      have B1 := Lib.hid (bel_trans B0.out z1)
      clear z1 X0 P0 B0
      go_wp2
      go_ret
      exact ⟨by rw [H.out]; rfl, B1.out⟩
    all_goals
      clear hn hm a0 ac c1 b0 bd d1 x0 x1 y0 y1 hr hr1
      go_enter Try.func41, Try.ntmps41
      go_wp2_with fail
      refine (C1.out _).mono ?_; rintro e w1 ⟨rfl, z1⟩
      have X1 := Lib.hid (X0.out.later z1)
      have P1 := Lib.hid (P0.out.later z1)
      have B1 := Lib.hid (bel_trans B0.out z1)
      clear z1 X0 P0 B0
      obtain ⟨c0, c1, c2, c3, cl⟩ := X1.out
      obtain ⟨p0, p1, pl⟩ := P1.out
      go_wp2_with fail
      refine (C2.out _).mono ?_; rintro e w2 ⟨rfl, z2⟩
      have B2 := Lib.hid (bel_trans B1.out z2)
      clear z2 X1 P1 B1 c0 c1 c2 c3 cl p0 p1 pl
      go_wp2
      go_ret
      exact ⟨by rw [H.out]; rfl, B2.out⟩
theorem distR_is {x y u v k : Int} (h : sqI u v x y = k) (x0 : -536870912 ≤ x) (x1 : x ≤ 536870912) (y0 : -536870912 ≤ y) (y1 : y ≤ 536870912) (u0 : -536870912 ≤ u) (u1 : u ≤ 536870912) (v0 : -536870912 ≤ v) (v1 : v ≤ 536870912) (w : World) :
    Calls Try.prog 38 #[ptV x y, ptV u v] w fun e w' => e = .returned (.int .i64 k) ∧ Below w.heap.size w w' := h ▸ sqI_comm x y u v ▸ dist_any x y u v x0 x1 y0 y1 u0 u1 v0 v1 w
set_option maxHeartbeats 4000000 in
theorem refDiscHas_any (x y u v r : Int) (x0 : -536870912 ≤ x) (x1 : x ≤ 536870912) (y0 : -536870912 ≤ y) (y1 : y ≤ 536870912) (u0 : -536870912 ≤ u) (u1 : u ≤ 536870912) (v0 : -536870912 ≤ v) (v1 : v ≤ 536870912) (hr : r ≤ 1073741824) (w : World) :
    Calls Try.prog 46 #[ptV x y, ptV u v, .int .i64 r] w fun e w' => e = .returned (.bool (discB r (sqI u v x y))) ∧ Below w.heap.size w w' := by
  obtain ⟨n, hn⟩ : ∃ n, sqI u v x y = n := ⟨_, rfl⟩
  have C1 := Lib.hid (fun w => distR_is hn x0 x1 y0 y1 u0 u1 v0 v1 w)
  have B0 := Lib.hid (bel_alloc (bel_alloc (bel_refl w) (.cells #[.int .i64 x, .int .i64 y] 25)) (.cells #[.int .i64 u, .int .i64 v] 25))
  rw [hn]
  rcases discB_cases r (r * r) n rfl with ⟨h1, H⟩ | ⟨h1, h2, H⟩ | ⟨h1, h2, H⟩
  · go_enter Try.func46, Try.ntmps46
    go_wp2
    go_ret
    exact ⟨by rw [H.out]; rfl, B0.out⟩
  all_goals
    have m1 := mul_bd (X := r) (Y := r) (by omega) hr (by omega) hr
    clear hn x0 x1 y0 y1 u0 u1 v0 v1 hr
    go_enter Try.func46, Try.ntmps46
    go_wp2_with fail
    refine (C1.out _).mono ?_; rintro e w1 ⟨rfl, z1⟩
    have B1 := Lib.hid (bel_trans B0.out z1)
    clear z1 B0
    go_wp2
    go_ret
    exact ⟨by rw [H.out]; rfl, B1.out⟩
end Go.Proofs.Ytoofbbmddddlcaa
