/- Contract of package line's Class: for every box that may be, all ends up to Far and every radius up to 2 to the 30. -/
import Derived.Test.YtfknddjclkjhoaaLine
import Derived.Test.YtfknddjclkjhoaaTally
namespace Go.Proofs.Ytfknddjclkjhoaa
open Go.RowKit

theorem boxHas_is {a b c d x y : Int} {r : Bool} (h : hasB a b c d x y = r) (w : World) :
    Calls Try.prog 24 #[boxV a b c d, ptV x y] w fun e w' => e = .returned (.bool r) ∧ Below w.heap.size w w' := h ▸ has_any a b c d x y w
theorem boxMeets_is {a b c d x y u v : Int} {r : Bool} (h : meetB a b c d x y u v = r) (a0 : -536870912 ≤ a) (ac : a ≤ c) (c1 : c ≤ 536870912) (b0 : -536870912 ≤ b) (bd : b ≤ d) (d1 : d ≤ 536870912) (x0 : -536870912 ≤ x) (x1 : x ≤ 536870912) (y0 : -536870912 ≤ y) (y1 : y ≤ 536870912) (u0 : -536870912 ≤ u) (u1 : u ≤ 536870912) (v0 : -536870912 ≤ v) (v1 : v ≤ 536870912) (w : World) :
    Calls Try.prog 25 #[boxV a b c d, ptV x y, ptV u v] w fun e w' => e = .returned (.bool r) ∧ Below w.heap.size w w' := h ▸ meets_any a b c d x y u v a0 ac c1 b0 bd d1 x0 x1 y0 y1 u0 u1 v0 v1 w

set_option maxRecDepth 100000 in
set_option maxHeartbeats 16000000 in
theorem lineClass_any (a b c d x y u v r : Int) (a0 : -536870912 ≤ a) (ac : a ≤ c) (c1 : c ≤ 536870912) (b0 : -536870912 ≤ b) (bd : b ≤ d) (d1 : d ≤ 536870912) (x0 : -536870912 ≤ x) (x1 : x ≤ 536870912) (y0 : -536870912 ≤ y) (y1 : y ≤ 536870912) (u0 : -536870912 ≤ u) (u1 : u ≤ 536870912) (v0 : -536870912 ≤ v) (v1 : v ≤ 536870912) (rb : r ≤ 1073741824) (w : World) :
    Calls Try.prog 11 #[boxV a b c d, ptV x y, ptV u v, .int .i64 r] w fun e w' => e = .returned (.int .i64 (lineK a b c d x y u v r)) ∧ Below w.heap.size w w' := by
  have X0 := Lib.hid (bxpp_new w a b c d x y u v 23 25)
  have B0 := Lib.hid (bel_alloc (bel_alloc (bel_alloc (bel_refl w) (.cells #[.int .i64 a, .int .i64 b, .int .i64 c, .int .i64 d] 23)) (.cells #[.int .i64 x, .int .i64 y] 25)) (.cells #[.int .i64 u, .int .i64 v] 25))
  have CC := Lib.hid (fun w => corners_any a b c d w)
  by_cases hr : r < 1
  · have H := Lib.hid (lineK_out hr a b c d x y u v)
    clear a0 ac c1 b0 bd d1 x0 x1 y0 y1 u0 u1 v0 v1 rb
    go_enter Try.func11, Try.ntmps11
    go_wp2_with fail
    generalize (((w.alloc (.cells #[.int .i64 a, .int .i64 b, .int .i64 c, .int .i64 d] 23)).alloc (.cells #[.int .i64 x, .int .i64 y] 25)).alloc (.cells #[.int .i64 u, .int .i64 v] 25)) = W at *
    obtain ⟨⟨i0, i1, i2, i3, il⟩, ⟨j0, j1, jl⟩, ⟨l0, l1, ll⟩⟩ := X0.out
    go_wp2_with fail
    refine (CC.out _).mono ?_; rintro e w1 ⟨rfl, z1⟩
    have B1 := Lib.hid (bel_alloc (bel_trans B0.out z1) (.cells #[.int .i64 a, .int .i64 b, .int .i64 c, .int .i64 b, .int .i64 a, .int .i64 d, .int .i64 c, .int .i64 d] 36))
    clear z1 X0 B0 i0 i1 i2 i3 il j0 j1 jl l0 l1 ll
    go_wp2
    go_ret
    exact ⟨by rw [H.out]; rfl, B1.out⟩
  have ra : 1 ≤ r := by omega
  obtain ⟨h0, he0⟩ : ∃ h, lineB x y u v r a b = h := ⟨_, rfl⟩
  obtain ⟨h1, he1⟩ : ∃ h, lineB x y u v r c b = h := ⟨_, rfl⟩
  obtain ⟨h2, he2⟩ : ∃ h, lineB x y u v r a d = h := ⟨_, rfl⟩
  obtain ⟨h3, he3⟩ : ∃ h, lineB x y u v r c d = h := ⟨_, rfl⟩
  obtain ⟨hm, hem⟩ : ∃ h, meetB a b c d x y u v = h := ⟨_, rfl⟩
  obtain ⟨m1, hm1⟩ : ∃ m, nearS a b c d x y = m := ⟨_, rfl⟩
  obtain ⟨m2, hm2⟩ : ∃ m, nearS a b c d u v = m := ⟨_, rfl⟩
  obtain ⟨g1, hg1⟩ : ∃ g, nearB r m1 = g := ⟨_, rfl⟩
  obtain ⟨g2, hg2⟩ : ∃ g, nearB r m2 = g := ⟨_, rfl⟩
  have HK := Lib.hid (fun n hn => lineK_at (n := n) hr he0 he1 he2 he3 hem hm1 hm2 hg1 hg2 hn)
  have CHas := Lib.hid (fun w => boxHas_is (hasB_yes (Int.le_refl a) ac (Int.le_refl b) bd) w)
  have CH0 := Lib.hid (fun w => lineHas_is he0 (by omega) (by omega) (by omega) (by omega) x0 x1 y0 y1 u0 u1 v0 v1 rb w)
  have CH1 := Lib.hid (fun w => lineHas_is he1 (by omega) (by omega) (by omega) (by omega) x0 x1 y0 y1 u0 u1 v0 v1 rb w)
  have CH2 := Lib.hid (fun w => lineHas_is he2 (by omega) (by omega) (by omega) (by omega) x0 x1 y0 y1 u0 u1 v0 v1 rb w)
  have CH3 := Lib.hid (fun w => lineHas_is he3 (by omega) (by omega) (by omega) (by omega) x0 x1 y0 y1 u0 u1 v0 v1 rb w)
  have CM := Lib.hid (fun w => boxMeets_is hem a0 ac c1 b0 bd d1 x0 x1 y0 y1 u0 u1 v0 v1 w)
  have CN1 := Lib.hid (fun w => lineNear_is hm1 hg1 a0 ac c1 b0 bd d1 x0 x1 y0 y1 (by omega) (by omega) w)
  have CN2 := Lib.hid (fun w => lineNear_is hm2 hg2 a0 ac c1 b0 bd d1 u0 u1 v0 v1 (by omega) (by omega) w)
  have hr1 : decide (r < 1) = false := decide_eq_false hr
  clear he0 he1 he2 he3 hem hm1 hm2 hg1 hg2 a0 ac c1 b0 bd d1 x0 x1 y0 y1 u0 u1 v0 v1 rb
  go_enter Try.func11, Try.ntmps11
  go_wp2_with fail
  generalize (((w.alloc (.cells #[.int .i64 a, .int .i64 b, .int .i64 c, .int .i64 d] 23)).alloc (.cells #[.int .i64 x, .int .i64 y] 25)).alloc (.cells #[.int .i64 u, .int .i64 v] 25)) = W at *
  obtain ⟨⟨i0, i1, i2, i3, il⟩, ⟨j0, j1, jl⟩, ⟨l0, l1, ll⟩⟩ := X0.out
  go_wp2_with fail
  refine (CC.out _).mono ?_; rintro e w1 ⟨rfl, z1⟩
  have X1 := Lib.hid ((X0.out.later z1).alloc (.cells #[.int .i64 a, .int .i64 b, .int .i64 c, .int .i64 b, .int .i64 a, .int .i64 d, .int .i64 c, .int .i64 d] 36))
  have B1 := Lib.hid (bel_alloc (bel_trans B0.out z1) (.cells #[.int .i64 a, .int .i64 b, .int .i64 c, .int .i64 b, .int .i64 a, .int .i64 d, .int .i64 c, .int .i64 d] 36))
  have E1 := eightAt_new w1 a b c d 36
  clear z1 X0 B0 i0 i1 i2 i3 il j0 j1 jl l0 l1 ll CC
  obtain ⟨m, hm'⟩ : ∃ m, w1.heap.size = m := ⟨_, rfl⟩
  go_upto_region 2 with (fail)
  rw [hm'] at E1
  generalize w1.alloc (.cells #[.int .i64 a, .int .i64 b, .int .i64 c, .int .i64 b, .int .i64 a, .int .i64 d, .int .i64 c, .int .i64 d] 36) = W1 at *
  try rw [hm']
  clear hm'
  have E1 := Lib.hid E1
  obtain ⟨⟨i0, i1, i2, i3, il⟩, _, _⟩ := X1.out
  obtain ⟨e0, e1, e2, e3, e4, e5, e6, e7, el⟩ := E1.out
  go_wp2_with fail
  refine (CHas.out _).mono ?_; rintro e w2 ⟨rfl, z2⟩
  have X2 := Lib.hid (X1.out.later z2)
  have B2 := Lib.hid (bel_trans B1.out z2)
  have E2 := Lib.hid (E1.out.later z2)
  clear z2 X1 B1 E1 i0 i1 i2 i3 il e0 e1 e2 e3 e4 e5 e6 e7 el CHas hr1
  obtain ⟨e0, e1, e2, e3, e4, e5, e6, e7, el⟩ := E2.out
  go_wp2_with fail
  go_loopw [10, 25] (fun sn si wr => TallyAt w.heap.size w a b c d x y u v h0 h1 h2 h3 sn si wr) (fun _ si _ => (4 - intOf si).toNat)
  case atStart => exact ⟨0, rfl, .inl ⟨rfl, ⟨rfl⟩⟩, X2.out, B2.out⟩
  case round =>
    obtain ⟨n, rfl, hc, hS, hB⟩ := hrel
    clear X2 B2 E2 e0 e1 e2 e3 e4 e5 e6 e7 el
    have S := Lib.hid hS
    have B := Lib.hid hB
    clear hS hB
    rcases hc with ⟨rfl, hF⟩ | ⟨rfl, hF⟩ | ⟨rfl, hF⟩ | ⟨rfl, hF⟩ | ⟨rfl, hF⟩
    · obtain ⟨n0, n4⟩ : 0 ≤ n ∧ n ≤ 4 := by rw [hF.eq]; exact found_bd h0 h1 h2 h3 0
      obtain ⟨n', hn'⟩ : ∃ n' : Int, n' = if h0 then n + 1 else n := ⟨_, rfl⟩
      have hF2 := Lib.hid (tally0 hF hn')
      have hn' := Lib.hid hn'
      clear hF
      obtain ⟨_, ⟨j0, j1, jl⟩, ⟨l0, l1, ll⟩⟩ := S.out
      have J := fun w => corner0 a b c d w
      go_wp2_with fail
      clear J
      refine (CH0.out _).mono ?_; rintro e w3 ⟨rfl, z3⟩
      have zz := bel_trans (bel_alloc (bel_refl wr) (.cells #[.int .i64 a, .int .i64 b] 25)) z3
      have S2 := Lib.hid (S.out.later zz)
      have B3 := Lib.hid (bel_trans B.out zz)
      clear z3 zz j0 j1 jl l0 l1 ll S B
      cases h0
      all_goals
        go_wp2_with fail
        go_roundw
        case rel => exact ⟨n', by rw [hn'.out]; rfl, .inr (.inl (⟨rfl, hF2.out⟩)), S2.out, B3.out⟩
        case measure => simp [intOf]
    · obtain ⟨n0, n4⟩ : 0 ≤ n ∧ n ≤ 4 := by rw [hF.eq]; exact found_bd h0 h1 h2 h3 1
      obtain ⟨n', hn'⟩ : ∃ n' : Int, n' = if h1 then n + 1 else n := ⟨_, rfl⟩
      have hF2 := Lib.hid (tally1 hF hn')
      have hn' := Lib.hid hn'
      clear hF
      obtain ⟨_, ⟨j0, j1, jl⟩, ⟨l0, l1, ll⟩⟩ := S.out
      have J := fun w => corner1 a b c d w
      go_wp2_with fail
      clear J
      refine (CH1.out _).mono ?_; rintro e w3 ⟨rfl, z3⟩
      have zz := bel_trans (bel_alloc (bel_refl wr) (.cells #[.int .i64 c, .int .i64 b] 25)) z3
      have S2 := Lib.hid (S.out.later zz)
      have B3 := Lib.hid (bel_trans B.out zz)
      clear z3 zz j0 j1 jl l0 l1 ll S B
      cases h1
      all_goals
        go_wp2_with fail
        go_roundw
        case rel => exact ⟨n', by rw [hn'.out]; rfl, .inr (.inr (.inl (⟨rfl, hF2.out⟩))), S2.out, B3.out⟩
        case measure => simp [intOf]
    · obtain ⟨n0, n4⟩ : 0 ≤ n ∧ n ≤ 4 := by rw [hF.eq]; exact found_bd h0 h1 h2 h3 2
      obtain ⟨n', hn'⟩ : ∃ n' : Int, n' = if h2 then n + 1 else n := ⟨_, rfl⟩
      have hF2 := Lib.hid (tally2 hF hn')
      have hn' := Lib.hid hn'
      clear hF
      obtain ⟨_, ⟨j0, j1, jl⟩, ⟨l0, l1, ll⟩⟩ := S.out
      have J := fun w => corner2 a b c d w
      go_wp2_with fail
      clear J
      refine (CH2.out _).mono ?_; rintro e w3 ⟨rfl, z3⟩
      have zz := bel_trans (bel_alloc (bel_refl wr) (.cells #[.int .i64 a, .int .i64 d] 25)) z3
      have S2 := Lib.hid (S.out.later zz)
      have B3 := Lib.hid (bel_trans B.out zz)
      clear z3 zz j0 j1 jl l0 l1 ll S B
      cases h2
      all_goals
        go_wp2_with fail
        go_roundw
        case rel => exact ⟨n', by rw [hn'.out]; rfl, .inr (.inr (.inr (.inl (⟨rfl, hF2.out⟩)))), S2.out, B3.out⟩
        case measure => simp [intOf]
    · obtain ⟨n0, n4⟩ : 0 ≤ n ∧ n ≤ 4 := by rw [hF.eq]; exact found_bd h0 h1 h2 h3 3
      obtain ⟨n', hn'⟩ : ∃ n' : Int, n' = if h3 then n + 1 else n := ⟨_, rfl⟩
      have hF2 := Lib.hid (tally3 hF hn')
      have hn' := Lib.hid hn'
      clear hF
      obtain ⟨_, ⟨j0, j1, jl⟩, ⟨l0, l1, ll⟩⟩ := S.out
      have J := fun w => corner3 a b c d w
      go_wp2_with fail
      clear J
      refine (CH3.out _).mono ?_; rintro e w3 ⟨rfl, z3⟩
      have zz := bel_trans (bel_alloc (bel_refl wr) (.cells #[.int .i64 c, .int .i64 d] 25)) z3
      have S2 := Lib.hid (S.out.later zz)
      have B3 := Lib.hid (bel_trans B.out zz)
      clear z3 zz j0 j1 jl l0 l1 ll S B
      cases h3
      all_goals
        go_wp2_with fail
        go_roundw
        case rel => exact ⟨n', by rw [hn'.out]; rfl, .inr (.inr (.inr (.inr ((⟨rfl, hF2.out⟩))))), S2.out, B3.out⟩
        case measure => simp [intOf]
    · have H := HK.out n hF.eq
      obtain ⟨n0, n4⟩ : 0 ≤ n ∧ n ≤ 4 := by rw [hF.eq]; exact found_bd h0 h1 h2 h3 4
      clear hF HK CH0 CH1 CH2 CH3
      obtain ⟨⟨i0, i1, i2, i3, il⟩, ⟨j0, j1, jl⟩, ⟨l0, l1, ll⟩⟩ := S.out
      by_cases hn4 : n = 4
      · rw [if_pos hn4] at H
        subst hn4
        have H := Lib.hid H
        go_wp2
        go_ret
        exact ⟨by rw [H.out]; rfl, B.out⟩
      rw [if_neg hn4] at H
      by_cases hn0 : 0 < n
      · rw [if_pos hn0] at H
        have H := Lib.hid H
        have k1 : decide (0 < n) = true := decide_eq_true hn0
        go_wp2
        go_ret
        exact ⟨by rw [H.out]; rfl, B.out⟩
      rw [if_neg hn0] at H
      have H := Lib.hid H
      have k1 : decide (0 < n) = false := decide_eq_false hn0
      go_wp2_with fail
      refine (CM.out _).mono ?_; rintro e w3 ⟨rfl, z3⟩
      have S3 := Lib.hid (S.out.later z3)
      have B3 := Lib.hid (bel_trans B.out z3)
      clear z3 S B i0 i1 i2 i3 il j0 j1 jl l0 l1 ll CM
      cases hm with
      | true =>
        go_wp2
        go_ret
        exact ⟨by rw [H.out]; rfl, B3.out⟩
      | false =>
        obtain ⟨⟨i0, i1, i2, i3, il⟩, ⟨j0, j1, jl⟩, ⟨l0, l1, ll⟩⟩ := S3.out
        go_wp2_with fail
        refine (CN1.out _).mono ?_; rintro e w4 ⟨rfl, z4⟩
        have S4 := Lib.hid (S3.out.later z4)
        have B4 := Lib.hid (bel_trans B3.out z4)
        clear z4 S3 B3 i0 i1 i2 i3 il j0 j1 jl l0 l1 ll CN1
        cases g1 with
        | true =>
          go_wp2
          go_ret
          exact ⟨by rw [H.out]; rfl, B4.out⟩
        | false =>
          obtain ⟨⟨i0, i1, i2, i3, il⟩, ⟨j0, j1, jl⟩, ⟨l0, l1, ll⟩⟩ := S4.out
          go_wp2_with fail
          refine (CN2.out _).mono ?_; rintro e w5 ⟨rfl, z5⟩
          cases g2
          all_goals
            go_wp2
            go_ret
            exact ⟨by rw [H.out]; rfl, bel_trans B4.out z5⟩
theorem lineClass_is {a b c d x y u v r k : Int} (hk : lineK a b c d x y u v r = k) (a0 : -536870912 ≤ a) (ac : a ≤ c) (c1 : c ≤ 536870912) (b0 : -536870912 ≤ b) (bd : b ≤ d) (d1 : d ≤ 536870912) (x0 : -536870912 ≤ x) (x1 : x ≤ 536870912) (y0 : -536870912 ≤ y) (y1 : y ≤ 536870912) (u0 : -536870912 ≤ u) (u1 : u ≤ 536870912) (v0 : -536870912 ≤ v) (v1 : v ≤ 536870912) (rb : r ≤ 1073741824) (w : World) :
    Calls Try.prog 11 #[boxV a b c d, ptV x y, ptV u v, .int .i64 r] w fun e w' => e = .returned (.int .i64 k) ∧ Below w.heap.size w w' := hk ▸ lineClass_any a b c d x y u v r a0 ac c1 b0 bd d1 x0 x1 y0 y1 u0 u1 v0 v1 rb w
end Go.Proofs.Ytfknddjclkjhoaa
