/- Contracts of package disc: what Class and Has return for every box that may be, every point up to Far and every radius up to 2 to the 30. -/
import Derived.Test.YtoofbbmddddlcaaBoxS
import Derived.Test.YtoofbbmddddlcaaDiscMath
namespace Go.Proofs.Ytoofbbmddddlcaa
open Go.RowKit

theorem discSquare_any {r q : Int} (hq : r * r = q) (h0 : 0 ≤ r) (h1 : r ≤ 1073741824) (w : World) :
    Calls Try.prog 49 #[.int .i64 r] w fun e w' => e = .returned (.int .i64 q) ∧ w = w' := by
  have m1 := mul_bd (X := r) (Y := r) (by omega) (by omega) (by omega) (by omega)
  have e1 : (if 2147483648 < r then 2147483648 else r) = r := if_neg (by omega)
  have H := Lib.hid hq
  go_enter Try.func49, Try.ntmps49
  go_wp2
  go_ret
  exact ⟨by rw [← H.out]; rfl, rfl⟩
theorem bare_no {a b c d : Int} (h : a ≤ c) (k : b ≤ d) (w : World) :
    Calls Try.prog 50 #[boxV a b c d] w fun e w' => e = .returned (.bool false) ∧ Below w.heap.size w w' := by
  have h1 : ¬ c < a := by omega
  have h2 : ¬ d < b := by omega
  go_enter Try.func50, Try.ntmps50
  go_wp2
  go_ret
  exact ⟨rfl, bel_alloc (bel_refl w) _⟩
theorem near_is {a b c d x y n : Int} (hn : nearS a b c d x y = n) (a0 : -536870912 ≤ a) (ac : a ≤ c) (c1 : c ≤ 536870912) (b0 : -536870912 ≤ b) (bd : b ≤ d) (d1 : d ≤ 536870912) (x0 : -536870912 ≤ x) (x1 : x ≤ 536870912) (y0 : -536870912 ≤ y) (y1 : y ≤ 536870912) (w : World) :
    Calls Try.prog 35 #[boxV a b c d, ptV x y] w fun e w' => e = .returned (.int .i64 n) ∧ Below w.heap.size w w' := hn ▸ near_any a b c d x y a0 ac c1 b0 bd d1 x0 x1 y0 y1 w
theorem most_is {a b c d x y n : Int} (hn : mostS a b c d x y = n) (a0 : -536870912 ≤ a) (ac : a ≤ c) (c1 : c ≤ 536870912) (b0 : -536870912 ≤ b) (bd : b ≤ d) (d1 : d ≤ 536870912) (x0 : -536870912 ≤ x) (x1 : x ≤ 536870912) (y0 : -536870912 ≤ y) (y1 : y ≤ 536870912) (w : World) :
    Calls Try.prog 36 #[boxV a b c d, ptV x y] w fun e w' => e = .returned (.int .i64 n) ∧ Below w.heap.size w w' := hn ▸ most_any a b c d x y a0 ac c1 b0 bd d1 x0 x1 y0 y1 w

set_option maxHeartbeats 4000000 in
theorem class_any (a b c d x y r : Int) (a0 : -536870912 ≤ a) (ac : a ≤ c) (c1 : c ≤ 536870912) (b0 : -536870912 ≤ b) (bd : b ≤ d) (d1 : d ≤ 536870912) (x0 : -536870912 ≤ x) (x1 : x ≤ 536870912) (y0 : -536870912 ≤ y) (y1 : y ≤ 536870912) (hr : r ≤ 1073741824) (w : World) :
    Calls Try.prog 32 #[boxV a b c d, ptV x y, .int .i64 r] w fun e w' => e = .returned (.int .i64 (discK r (nearS a b c d x y) (mostS a b c d x y))) ∧ Below w.heap.size w w' := by
  obtain ⟨n, hn⟩ : ∃ n, nearS a b c d x y = n := ⟨_, rfl⟩
  obtain ⟨m, hm⟩ : ∃ m, mostS a b c d x y = m := ⟨_, rfl⟩
  obtain ⟨q, hq⟩ : ∃ q, r * r = q := ⟨_, rfl⟩
  have C1 := Lib.hid (fun w => near_is hn a0 ac c1 b0 bd d1 x0 x1 y0 y1 w)
  have C2 := Lib.hid (fun w => most_is hm a0 ac c1 b0 bd d1 x0 x1 y0 y1 w)
  have C3 := Lib.hid (fun w => bare_no ac bd w)
  have X0 := Lib.hid ((boxAt_new w a b c d 23).alloc (.cells #[.int .i64 x, .int .i64 y] 25))
  have P0 := ptAt_new (w.alloc (.cells #[.int .i64 a, .int .i64 b, .int .i64 c, .int .i64 d] 23)) x y 25
  rw [show (w.alloc (.cells #[.int .i64 a, .int .i64 b, .int .i64 c, .int .i64 d] 23)).heap.size = w.heap.size + 1 by simp] at P0
  have P0 := Lib.hid P0
  have B0 := Lib.hid (bel_alloc (bel_alloc (bel_refl w) (.cells #[.int .i64 a, .int .i64 b, .int .i64 c, .int .i64 d] 23)) (.cells #[.int .i64 x, .int .i64 y] 25))
  rw [hn, hm]
  by_cases hr1 : r < 1
  · have H := Lib.hid (discK_out hr1 n m)
    go_enter Try.func32, Try.ntmps32
    go_wp2
    go_ret
    exact ⟨by rw [H.out]; rfl, B0.out⟩
  · have C4 := Lib.hid (fun w => discSquare_any hq (by omega) hr w)
    rcases discK_cases r q n m hq with ⟨h1, H⟩ | ⟨h1, h2, H⟩ | ⟨h1, h2, h3, H⟩ | ⟨h1, h2, h3, H⟩
    · exact absurd h1 hr1
    · clear hn hm hq a0 ac c1 b0 bd d1 x0 x1 y0 y1 hr hr1
      go_enter Try.func32, Try.ntmps32
      go_wp2_with fail
      refine (C3.out _).mono ?_; rintro e w1 ⟨rfl, z1⟩
      have X1 := Lib.hid (X0.out.later z1)
      have P1 := Lib.hid (P0.out.later z1)
      have B1 := Lib.hid (bel_trans B0.out z1)
      clear z1 X0 P0 B0
      obtain ⟨c0, c1, c2, c3, cl⟩ := X1.out
      obtain ⟨p0, p1, pl⟩ := P1.out
      go_wp2_with fail
      refine (C1.out _).mono ?_; rintro e w2 ⟨rfl, z2⟩
      have B2 := Lib.hid (bel_trans B1.out z2)
      clear z2 c0 c1 c2 c3 cl p0 p1 pl
      go_wp2_with fail
      refine (C4.out _).mono ?_; rintro e w3 ⟨rfl, rfl⟩
      go_wp2
      go_ret
      exact ⟨by rw [H.out]; rfl, B2.out⟩
    all_goals
      clear hn hm hq a0 ac c1 b0 bd d1 x0 x1 y0 y1 hr hr1
      go_enter Try.func32, Try.ntmps32
      go_wp2_with fail
      refine (C3.out _).mono ?_; rintro e w1 ⟨rfl, z1⟩
      have X1 := Lib.hid (X0.out.later z1)
      have P1 := Lib.hid (P0.out.later z1)
      have B1 := Lib.hid (bel_trans B0.out z1)
      clear z1 X0 P0 B0
      obtain ⟨c0, c1, c2, c3, cl⟩ := X1.out
      obtain ⟨p0, p1, pl⟩ := P1.out
      go_wp2_with fail
      refine (C1.out _).mono ?_; rintro e w2 ⟨rfl, z2⟩
      have X2 := Lib.hid (X1.out.later z2)
      have P2 := Lib.hid (P1.out.later z2)
      have B2 := Lib.hid (bel_trans B1.out z2)
      clear z2 X1 P1 B1 c0 c1 c2 c3 cl p0 p1 pl
      obtain ⟨c0, c1, c2, c3, cl⟩ := X2.out
      obtain ⟨p0, p1, pl⟩ := P2.out
      go_wp2_with fail
      refine (C4.out _).mono ?_; rintro e w3 ⟨rfl, rfl⟩
      go_wp2_with fail
      refine (C2.out _).mono ?_; rintro e w4 ⟨rfl, z4⟩
      have B4 := Lib.hid (bel_trans B2.out z4)
      clear z4 c0 c1 c2 c3 cl p0 p1 pl X2 P2 B2
      go_wp2_with fail
      refine (C4.out _).mono ?_; rintro e w5 ⟨rfl, rfl⟩
      go_wp2
      go_ret
      exact ⟨by rw [H.out]; rfl, B4.out⟩
set_option maxHeartbeats 4000000 in
theorem discHas_any (x y u v r : Int) (x0 : -536870912 ≤ x) (x1 : x ≤ 536870912) (y0 : -536870912 ≤ y) (y1 : y ≤ 536870912) (u0 : -536870912 ≤ u) (u1 : u ≤ 536870912) (v0 : -536870912 ≤ v) (v1 : v ≤ 536870912) (hr : r ≤ 1073741824) (w : World) :
    Calls Try.prog 28 #[ptV x y, ptV u v, .int .i64 r] w fun e w' => e = .returned (.bool (discB r (sqI u v x y))) ∧ Below w.heap.size w w' := by
  obtain ⟨n, hn⟩ : ∃ n, sqI u v x y = n := ⟨_, rfl⟩
  obtain ⟨q, hq⟩ : ∃ q, r * r = q := ⟨_, rfl⟩
  have C1 := Lib.hid (fun w => near_is ((near_dot x y u v).trans hn) x0 (by omega) x1 y0 (by omega) y1 u0 u1 v0 v1 w)
  have B0 := Lib.hid (bel_alloc (bel_alloc (bel_alloc (bel_refl w) (.cells #[.int .i64 x, .int .i64 y] 25)) (.cells #[.int .i64 u, .int .i64 v] 25)) (.cells #[.int .i64 x, .int .i64 y, .int .i64 x, .int .i64 y] 23))
  rw [hn]
  rcases discB_cases r q n hq with ⟨h1, H⟩ | ⟨h1, h2, H⟩ | ⟨h1, h2, H⟩
  · go_enter Try.func28, Try.ntmps28
    go_wp2
    go_ret
    exact ⟨by rw [H.out]; rfl, B0.out⟩
  all_goals
    have C4 := Lib.hid (fun w => discSquare_any hq (by omega) hr w)
    clear hn hq x0 x1 y0 y1 u0 u1 v0 v1 hr
    go_enter Try.func28, Try.ntmps28
    go_wp2_with fail
    refine (C1.out _).mono ?_; rintro e w1 ⟨rfl, z1⟩
    have B1 := Lib.hid (bel_trans B0.out z1)
    clear z1 B0
    go_wp2_with fail
    refine (C4.out _).mono ?_; rintro e w2 ⟨rfl, rfl⟩
    go_wp2
    go_ret
    exact ⟨by rw [H.out]; rfl, B1.out⟩
end Go.Proofs.Ytoofbbmddddlcaa
