/- Contract of package box's Meets. -/
import Derived.Test.YtfknddjclkjhoaaBoxM
namespace Go.Proofs.Ytfknddjclkjhoaa
open Go.RowKit
open Go.Sort (grow)

theorem apart_is {a b c d e f g h : Int} {r : Bool} (hr : apB a b c d e f g h = r) (w : World) :
    Calls Try.prog 38 #[boxV a b c d, boxV e f g h] w fun e w' => e = .returned (.bool r) ∧ Below w.heap.size w w' := hr ▸ apart_any a b c d e f g h w

set_option maxHeartbeats 4000000 in
theorem meets_any (a b c d x y u v : Int) (a0 : -536870912 ≤ a) (ac : a ≤ c) (c1 : c ≤ 536870912) (b0 : -536870912 ≤ b) (bd : b ≤ d) (d1 : d ≤ 536870912) (x0 : -536870912 ≤ x) (x1 : x ≤ 536870912) (y0 : -536870912 ≤ y) (y1 : y ≤ 536870912) (u0 : -536870912 ≤ u) (u1 : u ≤ 536870912) (v0 : -536870912 ≤ v) (v1 : v ≤ 536870912) (w : World) :
    Calls Try.prog 25 #[boxV a b c d, ptV x y, ptV u v] w fun e w' => e = .returned (.bool (meetB a b c d x y u v)) ∧ Below w.heap.size w w' := by
  obtain ⟨k, hk⟩ : ∃ k, (if u < x then u else x) = k := ⟨_, rfl⟩
  have ek : mnI x u = k := hk
  obtain ⟨l, hl⟩ : ∃ k, (if v < y then v else y) = k := ⟨_, rfl⟩
  have el : mnI y v = l := hl
  obtain ⟨m, hm⟩ : ∃ k, (if x < u then u else x) = k := ⟨_, rfl⟩
  have em : mxI x u = m := hm
  obtain ⟨n, hn⟩ : ∃ k, (if y < v then v else y) = k := ⟨_, rfl⟩
  have en : mxI y v = n := hn
  obtain ⟨r, hr⟩ : ∃ r, apB a b c d k l m n = r := ⟨_, rfl⟩
  obtain ⟨s, hs⟩ : ∃ s, sideB a b c d x y u v = s := ⟨_, rfl⟩
  have H := Lib.hid (show meetB a b c d x y u v = (!r && !s) by unfold meetB; rw [ek, el, em, en, hr, hs])
  have HA := Lib.hid (fun w => apart_is hr w)
  have HS := Lib.hid (fun w => hs ▸ beside_any a b c d x y u v a0 ac c1 b0 bd d1 x0 x1 y0 y1 u0 u1 v0 v1 w)
  have X0 := Lib.hid ((((boxAt_new w a b c d 23).alloc (.cells #[.int .i64 x, .int .i64 y] 25)).alloc (.cells #[.int .i64 u, .int .i64 v] 25)).alloc (.cells #[.int .i64 k, .int .i64 l, .int .i64 m, .int .i64 n] 23))
  have P0 := ((ptAt_new (w.alloc (.cells #[.int .i64 a, .int .i64 b, .int .i64 c, .int .i64 d] 23)) x y 25).alloc (.cells #[.int .i64 u, .int .i64 v] 25)).alloc (.cells #[.int .i64 k, .int .i64 l, .int .i64 m, .int .i64 n] 23)
  have Q0 := (ptAt_new ((w.alloc (.cells #[.int .i64 a, .int .i64 b, .int .i64 c, .int .i64 d] 23)).alloc (.cells #[.int .i64 x, .int .i64 y] 25)) u v 25).alloc (.cells #[.int .i64 k, .int .i64 l, .int .i64 m, .int .i64 n] 23)
  have B0 := Lib.hid (bel_alloc (bel_alloc (bel_alloc (bel_alloc (bel_refl w) (.cells #[.int .i64 a, .int .i64 b, .int .i64 c, .int .i64 d] 23)) (.cells #[.int .i64 x, .int .i64 y] 25)) (.cells #[.int .i64 u, .int .i64 v] 25)) (.cells #[.int .i64 k, .int .i64 l, .int .i64 m, .int .i64 n] 23))
  rw [show (w.alloc (.cells #[.int .i64 a, .int .i64 b, .int .i64 c, .int .i64 d] 23)).heap.size = w.heap.size + 1 by simp] at P0
  rw [show ((w.alloc (.cells #[.int .i64 a, .int .i64 b, .int .i64 c, .int .i64 d] 23)).alloc (.cells #[.int .i64 x, .int .i64 y] 25)).heap.size = w.heap.size + 1 + 1 by simp] at Q0
  have P0 := Lib.hid P0
  have Q0 := Lib.hid Q0
  clear hr hs ek el em en
  go_enter Try.func25, Try.ntmps25
  go_wp2_with fail
  refine (HA.out _).mono ?_; rintro e w1 ⟨rfl, b1⟩
  have X1 := X0.out.later b1
  have P1 := P0.out.later b1
  have Q1 := Q0.out.later b1
  have B1 := bel_trans B0.out b1
  clear b1 X0 P0 Q0 B0 hk hl hm hn
  obtain ⟨f0, f1, f2, f3, fl⟩ := X1
  obtain ⟨p0, p1, pl⟩ := P1
  obtain ⟨q0, q1, ql⟩ := Q1
  cases r with
  | true =>
    go_wp2
    go_ret
    exact ⟨by rw [H.out]; rfl, B1⟩
  | false =>
    go_wp2_with fail
    refine (HS.out _).mono ?_; rintro e w2 ⟨rfl, b2⟩
    go_wp2
    go_ret
    exact ⟨by rw [H.out]; rfl, bel_trans B1 b2⟩
end Go.Proofs.Ytfknddjclkjhoaa
