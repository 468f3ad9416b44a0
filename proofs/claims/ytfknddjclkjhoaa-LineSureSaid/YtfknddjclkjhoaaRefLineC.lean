/- Contract of the document's answer for layer 7: the class of a box. -/
import Derived.Test.YtfknddjclkjhoaaRefLine
import Derived.Lib.QuietBelow
namespace Go.Proofs.Ytfknddjclkjhoaa
open Go.RowKit
open Go.Sort (grow)

theorem docMeets_is {a b c d x y u v : Int} {r : Bool} (h : meetB a b c d x y u v = r) (a0 : -536870912 ≤ a) (ac : a ≤ c) (c1 : c ≤ 536870912) (b0 : -536870912 ≤ b) (bd : b ≤ d) (d1 : d ≤ 536870912) (x0 : -536870912 ≤ x) (x1 : x ≤ 536870912) (y0 : -536870912 ≤ y) (y1 : y ≤ 536870912) (u0 : -536870912 ≤ u) (u1 : u ≤ 536870912) (v0 : -536870912 ≤ v) (v1 : v ≤ 536870912) (w : World) :
    Calls Try.prog 20 #[boxV a b c d, ptV x y, ptV u v] w fun e w' => e = .returned (.bool r) ∧ Below w.heap.size w w' := h ▸ refMeets_any a b c d x y u v a0 ac c1 b0 bd d1 x0 x1 y0 y1 u0 u1 v0 v1 w
theorem docNear_is {a b c d x y n : Int} (hn : nearS a b c d x y = n) (a0 : -536870912 ≤ a) (ac : a ≤ c) (c1 : c ≤ 536870912) (b0 : -536870912 ≤ b) (bd : b ≤ d) (d1 : d ≤ 536870912) (x0 : -536870912 ≤ x) (x1 : x ≤ 536870912) (y0 : -536870912 ≤ y) (y1 : y ≤ 536870912) (w : World) :
    Calls Try.prog 28 #[boxV a b c d, ptV x y] w fun e w' => e = .returned (.int .i64 n) ∧ Below w.heap.size w w' := hn ▸ refNear_any a b c d x y a0 ac c1 b0 bd d1 x0 x1 y0 y1 w
/-- The head of a round. -/
def TallyE (N g : Nat) (w : World) (a b c d x y u v : Int) (h0 h1 h2 h3 : Bool) (sn si : Value) (wr : World) : Prop := EightAt wr g a b c d ∧ TallyAt N w a b c d x y u v h0 h1 h2 h3 sn si wr

set_option maxRecDepth 100000 in
set_option maxHeartbeats 16000000 in
theorem refLine_any (a b c d x y u v r : Int) (a0 : -536870912 ≤ a) (ac : a ≤ c) (c1 : c ≤ 536870912) (b0 : -536870912 ≤ b) (bd : b ≤ d) (d1 : d ≤ 536870912) (x0 : -536870912 ≤ x) (x1 : x ≤ 536870912) (y0 : -536870912 ≤ y) (y1 : y ≤ 536870912) (u0 : -536870912 ≤ u) (u1 : u ≤ 536870912) (v0 : -536870912 ≤ v) (v1 : v ≤ 536870912) (rb : r ≤ 1073741824) (w : World) :
    Calls Try.prog 16 #[boxV a b c d, ptV x y, ptV u v, .int .i64 r] w fun e w' => e = .returned (.int .i64 (lineK a b c d x y u v r)) ∧ Below w.heap.size w w' := by
  have X0 := Lib.hid (bxpp_new w a b c d x y u v 23 25)
  have B0 := Lib.hid (bel_alloc (bel_alloc (bel_alloc (bel_refl w) (.cells #[.int .i64 a, .int .i64 b, .int .i64 c, .int .i64 d] 23)) (.cells #[.int .i64 x, .int .i64 y] 25)) (.cells #[.int .i64 u, .int .i64 v] 25))
  by_cases hr : r < 1
  · have H := Lib.hid (lineK_out hr a b c d x y u v)
    clear a0 ac c1 b0 bd d1 x0 x1 y0 y1 u0 u1 v0 v1 rb
    go_enter Try.func16, Try.ntmps16
    go_wp2
    go_ret
    exact ⟨by rw [H.out]; rfl, B0.out⟩
  have ra : 1 ≤ r := by omega
  have mr := mul_bd (X := r) (Y := r) (by omega) rb (by omega) rb
  have CC := Lib.hid (fun w => refCorners_any a b c d w)
  obtain ⟨h0, he0⟩ : ∃ h, lineB x y u v r a b = h := ⟨_, rfl⟩
  obtain ⟨h1, he1⟩ : ∃ h, lineB x y u v r c b = h := ⟨_, rfl⟩
  obtain ⟨h2, he2⟩ : ∃ h, lineB x y u v r a d = h := ⟨_, rfl⟩
  obtain ⟨h3, he3⟩ : ∃ h, lineB x y u v r c d = h := ⟨_, rfl⟩
  obtain ⟨hm, hem⟩ : ∃ h, meetB a b c d x y u v = h := ⟨_, rfl⟩
  obtain ⟨m1, hm1⟩ : ∃ m, nearS a b c d x y = m := ⟨_, rfl⟩
  obtain ⟨m2, hm2⟩ : ∃ m, nearS a b c d u v = m := ⟨_, rfl⟩
  obtain ⟨q, hq⟩ : ∃ q, r * r = q := ⟨_, rfl⟩
  have HK := Lib.hid (fun n hn => lineK_of (n := n) hr he0 he1 he2 he3 hem hm1 hm2 hq hn)
  have CH0 := Lib.hid (fun w => refLineHas_is he0 (by omega) (by omega) (by omega) (by omega) x0 x1 y0 y1 u0 u1 v0 v1 rb w)
  have CH1 := Lib.hid (fun w => refLineHas_is he1 (by omega) (by omega) (by omega) (by omega) x0 x1 y0 y1 u0 u1 v0 v1 rb w)
  have CH2 := Lib.hid (fun w => refLineHas_is he2 (by omega) (by omega) (by omega) (by omega) x0 x1 y0 y1 u0 u1 v0 v1 rb w)
  have CH3 := Lib.hid (fun w => refLineHas_is he3 (by omega) (by omega) (by omega) (by omega) x0 x1 y0 y1 u0 u1 v0 v1 rb w)
  have CM := Lib.hid (fun w => docMeets_is hem a0 ac c1 b0 bd d1 x0 x1 y0 y1 u0 u1 v0 v1 w)
  have CN1 := Lib.hid (fun w => docNear_is hm1 a0 ac c1 b0 bd d1 x0 x1 y0 y1 w)
  have CN2 := Lib.hid (fun w => docNear_is hm2 a0 ac c1 b0 bd d1 u0 u1 v0 v1 w)
  have hr1 : decide (r < 1) = false := decide_eq_false hr
  rw [hq] at mr
  have HQ := Lib.hid (show IntKind.i64.wrap (r * r) = q by rw [hq]; exact IntWalk.i64_in _ (by omega))
  clear he0 he1 he2 he3 hem hm1 hm2 hq a0 ac c1 b0 bd d1 x0 x1 y0 y1 u0 u1 v0 v1 rb mr
  go_enter Try.func16, Try.ntmps16
  go_wp2_with fail
  generalize (((w.alloc (.cells #[.int .i64 a, .int .i64 b, .int .i64 c, .int .i64 d] 23)).alloc (.cells #[.int .i64 x, .int .i64 y] 25)).alloc (.cells #[.int .i64 u, .int .i64 v] 25)) = W at *
  obtain ⟨⟨i0, i1, i2, i3, il⟩, ⟨j0, j1, jl⟩, ⟨l0, l1, ll⟩⟩ := X0.out
  go_wp2_with fail
  refine (CC.out _).mono ?_; rintro e w1 ⟨rfl, z1⟩
  have X1 := Lib.hid ((X0.out.later z1).alloc (.cells #[.int .i64 a, .int .i64 b, .int .i64 c, .int .i64 b, .int .i64 a, .int .i64 d, .int .i64 c, .int .i64 d] 36))
  have B1 := Lib.hid (bel_alloc (bel_trans B0.out z1) (.cells #[.int .i64 a, .int .i64 b, .int .i64 c, .int .i64 b, .int .i64 a, .int .i64 d, .int .i64 c, .int .i64 d] 36))
  have E1 := eightAt_new w1 a b c d 36
  clear z1 X0 B0 i0 i1 i2 i3 il j0 j1 jl l0 l1 ll CC hr1
  obtain ⟨m, hm'⟩ : ∃ m, w1.heap.size = m := ⟨_, rfl⟩
  go_upto_region 4 with (fail)
  rw [hm'] at E1
  generalize w1.alloc (.cells #[.int .i64 a, .int .i64 b, .int .i64 c, .int .i64 b, .int .i64 a, .int .i64 d, .int .i64 c, .int .i64 d] 36) = W1 at *
  try rw [hm']
  clear hm'
  have E1 := Lib.hid E1
  go_wp2_with fail
  go_loopw [10, 11] (fun sn si wr => TallyE w.heap.size m w a b c d x y u v h0 h1 h2 h3 sn si wr) (fun _ si _ => (4 - intOf si).toNat)
  case atStart => exact ⟨E1.out, 0, rfl, .inl ⟨rfl, ⟨rfl⟩⟩, X1.out, B1.out⟩
  case round =>
    obtain ⟨hE, n, rfl, hc, hS, hB⟩ := hrel
    clear X1 B1 E1
    have E := Lib.hid hE
    have S := Lib.hid hS
    have B := Lib.hid hB
    clear hS hB hE
    rcases hc with ⟨rfl, hF⟩ | ⟨rfl, hF⟩ | ⟨rfl, hF⟩ | ⟨rfl, hF⟩ | ⟨rfl, hF⟩
    · obtain ⟨n0, n4⟩ : 0 ≤ n ∧ n ≤ 4 := by rw [hF.eq]; exact found_bd h0 h1 h2 h3 0
      obtain ⟨n', hn'⟩ : ∃ n' : Int, n' = if h0 then n + 1 else n := ⟨_, rfl⟩
      have hF2 := Lib.hid (tally0 hF hn')
      have hn' := Lib.hid hn'
      clear hF
      obtain ⟨_, ⟨j0, j1, jl⟩, ⟨l0, l1, ll⟩⟩ := S.out
      obtain ⟨g0, g1, g2, g3, g4, g5, g6, g7, gl⟩ := E.out
      go_wp2_with fail
      have j0 := cell_regrown j0
      have j1 := cell_regrown j1
      have l0 := cell_regrown l0
      have l1 := cell_regrown l1
      have r0 := cell_regrown g0
      have r1 := cell_regrown g1
      clear jl ll g0 g1 g2 g3 g4 g5 g6 g7 gl
      have D1 := Lib.hid (fun p : Regrown => Calls.regrown_of (CH0.out (grow (redrawn wr p.d) p.os)))
      refine wp_region_quiet_below (by kernel_rfl) (by kernel_rfl) ?_
      repeat (go_big_quiet_step (with_reducible exact D1.out _))
      refine wpQuiet_nil ?_
      intro _ hw'
      obtain ⟨⟨dt, ost⟩, hw''⟩ := hw'
      subst hw''
      clear r0 r1 j0 j1 l0 l1 D1
      have zz := below_regrown wr dt ost
      have S2 := Lib.hid (S.out.later zz)
      have E2 := Lib.hid (E.out.later zz)
      have B2 := Lib.hid (bel_trans B.out zz)
      clear S B E zz
      generalize grow (redrawn wr dt) ost = U at *
      cases h0
      all_goals
        go_wp2_with fail
        go_roundw
        case rel => exact ⟨E2.out, n', by rw [hn'.out]; rfl, .inr (.inl (⟨rfl, hF2.out⟩)), S2.out, B2.out⟩
        case measure => simp [intOf]
    · obtain ⟨n0, n4⟩ : 0 ≤ n ∧ n ≤ 4 := by rw [hF.eq]; exact found_bd h0 h1 h2 h3 1
      obtain ⟨n', hn'⟩ : ∃ n' : Int, n' = if h1 then n + 1 else n := ⟨_, rfl⟩
      have hF2 := Lib.hid (tally1 hF hn')
      have hn' := Lib.hid hn'
      clear hF
      obtain ⟨_, ⟨j0, j1, jl⟩, ⟨l0, l1, ll⟩⟩ := S.out
      obtain ⟨g0, g1, g2, g3, g4, g5, g6, g7, gl⟩ := E.out
      go_wp2_with fail
      have j0 := cell_regrown j0
      have j1 := cell_regrown j1
      have l0 := cell_regrown l0
      have l1 := cell_regrown l1
      have r0 := cell_regrown g2
      have r1 := cell_regrown g3
      clear jl ll g0 g1 g2 g3 g4 g5 g6 g7 gl
      have D1 := Lib.hid (fun p : Regrown => Calls.regrown_of (CH1.out (grow (redrawn wr p.d) p.os)))
      refine wp_region_quiet_below (by kernel_rfl) (by kernel_rfl) ?_
      repeat (go_big_quiet_step (with_reducible exact D1.out _))
      refine wpQuiet_nil ?_
      intro _ hw'
      obtain ⟨⟨dt, ost⟩, hw''⟩ := hw'
      subst hw''
      clear r0 r1 j0 j1 l0 l1 D1
      have zz := below_regrown wr dt ost
      have S2 := Lib.hid (S.out.later zz)
      have E2 := Lib.hid (E.out.later zz)
      have B2 := Lib.hid (bel_trans B.out zz)
      clear S B E zz
      generalize grow (redrawn wr dt) ost = U at *
      cases h1
      all_goals
        go_wp2_with fail
        go_roundw
        case rel => exact ⟨E2.out, n', by rw [hn'.out]; rfl, .inr (.inr (.inl (⟨rfl, hF2.out⟩))), S2.out, B2.out⟩
        case measure => simp [intOf]
    · obtain ⟨n0, n4⟩ : 0 ≤ n ∧ n ≤ 4 := by rw [hF.eq]; exact found_bd h0 h1 h2 h3 2
      obtain ⟨n', hn'⟩ : ∃ n' : Int, n' = if h2 then n + 1 else n := ⟨_, rfl⟩
      have hF2 := Lib.hid (tally2 hF hn')
      have hn' := Lib.hid hn'
      clear hF
      obtain ⟨_, ⟨j0, j1, jl⟩, ⟨l0, l1, ll⟩⟩ := S.out
      obtain ⟨g0, g1, g2, g3, g4, g5, g6, g7, gl⟩ := E.out
      go_wp2_with fail
      have j0 := cell_regrown j0
      have j1 := cell_regrown j1
      have l0 := cell_regrown l0
      have l1 := cell_regrown l1
      have r0 := cell_regrown g4
      have r1 := cell_regrown g5
      clear jl ll g0 g1 g2 g3 g4 g5 g6 g7 gl
      have D1 := Lib.hid (fun p : Regrown => Calls.regrown_of (CH2.out (grow (redrawn wr p.d) p.os)))
      refine wp_region_quiet_below (by kernel_rfl) (by kernel_rfl) ?_
      repeat (go_big_quiet_step (with_reducible exact D1.out _))
      refine wpQuiet_nil ?_
      intro _ hw'
      obtain ⟨⟨dt, ost⟩, hw''⟩ := hw'
      subst hw''
      clear r0 r1 j0 j1 l0 l1 D1
      have zz := below_regrown wr dt ost
      have S2 := Lib.hid (S.out.later zz)
      have E2 := Lib.hid (E.out.later zz)
      have B2 := Lib.hid (bel_trans B.out zz)
      clear S B E zz
      generalize grow (redrawn wr dt) ost = U at *
      cases h2
      all_goals
        go_wp2_with fail
        go_roundw
        case rel => exact ⟨E2.out, n', by rw [hn'.out]; rfl, .inr (.inr (.inr (.inl (⟨rfl, hF2.out⟩)))), S2.out, B2.out⟩
        case measure => simp [intOf]
    · obtain ⟨n0, n4⟩ : 0 ≤ n ∧ n ≤ 4 := by rw [hF.eq]; exact found_bd h0 h1 h2 h3 3
      obtain ⟨n', hn'⟩ : ∃ n' : Int, n' = if h3 then n + 1 else n := ⟨_, rfl⟩
      have hF2 := Lib.hid (tally3 hF hn')
      have hn' := Lib.hid hn'
      clear hF
      obtain ⟨_, ⟨j0, j1, jl⟩, ⟨l0, l1, ll⟩⟩ := S.out
      obtain ⟨g0, g1, g2, g3, g4, g5, g6, g7, gl⟩ := E.out
      go_wp2_with fail
      have j0 := cell_regrown j0
      have j1 := cell_regrown j1
      have l0 := cell_regrown l0
      have l1 := cell_regrown l1
      have r0 := cell_regrown g6
      have r1 := cell_regrown g7
      clear jl ll g0 g1 g2 g3 g4 g5 g6 g7 gl
      have D1 := Lib.hid (fun p : Regrown => Calls.regrown_of (CH3.out (grow (redrawn wr p.d) p.os)))
      refine wp_region_quiet_below (by kernel_rfl) (by kernel_rfl) ?_
      repeat (go_big_quiet_step (with_reducible exact D1.out _))
      refine wpQuiet_nil ?_
      intro _ hw'
      obtain ⟨⟨dt, ost⟩, hw''⟩ := hw'
      subst hw''
      clear r0 r1 j0 j1 l0 l1 D1
      have zz := below_regrown wr dt ost
      have S2 := Lib.hid (S.out.later zz)
      have E2 := Lib.hid (E.out.later zz)
      have B2 := Lib.hid (bel_trans B.out zz)
      clear S B E zz
      generalize grow (redrawn wr dt) ost = U at *
      cases h3
      all_goals
        go_wp2_with fail
        go_roundw
        case rel => exact ⟨E2.out, n', by rw [hn'.out]; rfl, .inr (.inr (.inr (.inr ((⟨rfl, hF2.out⟩))))), S2.out, B2.out⟩
        case measure => simp [intOf]
    · have H := HK.out n hF.eq
      obtain ⟨n0, n4⟩ : 0 ≤ n ∧ n ≤ 4 := by rw [hF.eq]; exact found_bd h0 h1 h2 h3 4
      clear hF HK CH0 CH1 CH2 CH3 E
      obtain ⟨⟨i0, i1, i2, i3, il⟩, ⟨j0, j1, jl⟩, ⟨l0, l1, ll⟩⟩ := S.out
      have hq := HQ.out
      by_cases hn4 : n = 4
      · rw [if_pos hn4] at H
        subst hn4
        have H := Lib.hid H
        go_wp2
        go_ret
        exact ⟨by rw [H.out]; rfl, B.out⟩
      rw [if_neg hn4] at H
      by_cases hn0 : 0 < n
      · rw [if_pos hn0] at H
        have H := Lib.hid H
        have k1 : decide (0 < n) = true := decide_eq_true hn0
        go_wp2
        go_ret
        exact ⟨by rw [H.out]; rfl, B.out⟩
      rw [if_neg hn0] at H
      have k1 : decide (0 < n) = false := decide_eq_false hn0
      cases hm with
      | true =>
        have H := Lib.hid H
        go_wp2_with fail
        refine (CM.out _).mono ?_; rintro e w3 ⟨rfl, z3⟩
        go_wp2
        go_ret
        exact ⟨by rw [H.out]; rfl, bel_trans B.out z3⟩
      | false =>
        rw [if_neg (by simp)] at H
        by_cases d1 : m1 ≤ q
        · rw [if_pos d1] at H
          have H := Lib.hid H
          have d1' : decide (m1 ≤ q) = true := decide_eq_true d1
          go_wp2_with fail
          refine (CM.out _).mono ?_; rintro e w3 ⟨rfl, z3⟩
          have S3 := Lib.hid (S.out.later z3)
          have B3 := Lib.hid (bel_trans B.out z3)
          clear z3 S B i0 i1 i2 i3 il j0 j1 jl l0 l1 ll CM
          obtain ⟨⟨i0, i1, i2, i3, il⟩, ⟨j0, j1, jl⟩, ⟨l0, l1, ll⟩⟩ := S3.out
          go_wp2_with fail
          refine (CN1.out _).mono ?_; rintro e w4 ⟨rfl, z4⟩
          go_wp2
          go_ret
          exact ⟨by rw [H.out]; rfl, bel_trans B3.out z4⟩
        · rw [if_neg d1] at H
          have d1' : decide (m1 ≤ q) = false := decide_eq_false d1
          have fin : ∀ (g : Bool), decide (m2 ≤ q) = g → lineK a b c d x y u v r = if g then 1 else 0 := by intro g hg; rw [H, ← hg]; simp
          obtain ⟨g, hg⟩ : ∃ g, decide (m2 ≤ q) = g := ⟨_, rfl⟩
          have H := Lib.hid (fin g hg)
          clear fin
          go_wp2_with fail
          refine (CM.out _).mono ?_; rintro e w3 ⟨rfl, z3⟩
          have S3 := Lib.hid (S.out.later z3)
          have B3 := Lib.hid (bel_trans B.out z3)
          clear z3 S B i0 i1 i2 i3 il j0 j1 jl l0 l1 ll CM
          obtain ⟨⟨i0, i1, i2, i3, il⟩, ⟨j0, j1, jl⟩, ⟨l0, l1, ll⟩⟩ := S3.out
          go_wp2_with fail
          refine (CN1.out _).mono ?_; rintro e w4 ⟨rfl, z4⟩
          have S4 := Lib.hid (S3.out.later z4)
          have B4 := Lib.hid (bel_trans B3.out z4)
          clear z4 S3 B3 i0 i1 i2 i3 il j0 j1 jl l0 l1 ll CN1
          obtain ⟨⟨i0, i1, i2, i3, il⟩, ⟨j0, j1, jl⟩, ⟨l0, l1, ll⟩⟩ := S4.out
          go_wp2_with fail
          refine (CN2.out _).mono ?_; rintro e w5 ⟨rfl, z5⟩
          cases g
          all_goals
            go_wp2
            go_ret
            exact ⟨by rw [H.out]; rfl, bel_trans B4.out z5⟩
theorem refLine_is {a b c d x y u v r k : Int} (hk : lineK a b c d x y u v r = k) (a0 : -536870912 ≤ a) (ac : a ≤ c) (c1 : c ≤ 536870912) (b0 : -536870912 ≤ b) (bd : b ≤ d) (d1 : d ≤ 536870912) (x0 : -536870912 ≤ x) (x1 : x ≤ 536870912) (y0 : -536870912 ≤ y) (y1 : y ≤ 536870912) (u0 : -536870912 ≤ u) (u1 : u ≤ 536870912) (v0 : -536870912 ≤ v) (v1 : v ≤ 536870912) (rb : r ≤ 1073741824) (w : World) :
    Calls Try.prog 16 #[boxV a b c d, ptV x y, ptV u v, .int .i64 r] w fun e w' => e = .returned (.int .i64 k) ∧ Below w.heap.size w w' := hk ▸ refLine_any a b c d x y u v r a0 ac c1 b0 bd d1 x0 x1 y0 y1 u0 u1 v0 v1 rb w
end Go.Proofs.Ytfknddjclkjhoaa
