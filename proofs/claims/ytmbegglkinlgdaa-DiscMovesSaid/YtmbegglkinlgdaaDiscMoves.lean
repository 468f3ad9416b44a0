/- A box and a disc that are moved, mirrored and turned together have the same class; a smaller box has no other class that is sure, and a greater disc no lesser one: for every box, centre, radius and move that the law makes of any ten numbers of 64 bits. No condition. -/
import Derived.Test.YtmbegglkinlgdaaRows
import Derived.Test.YtmbegglkinlgdaaAwake5
import Derived.Test.YtmbegglkinlgdaaTame5
import Derived.Test.YtmbegglkinlgdaaCloseN
import Derived.Test.YtmbegglkinlgdaaHeld5
import Derived.Test.YtmbegglkinlgdaaFloat
import Derived.Test.YtmbegglkinlgdaaMoveMath
import Derived.ProofKit
import Derived.OpenShut
import Derived.ShutString
import Derived.ChangeOld
import Derived.Below
import Derived.Lib.SmallJoins
import Derived.Lib.QuietBelow
import Derived.BigQuiet
namespace Go.Proofs.Ytmbegglkinlgdaa.discMoves
open Go.ChangeShapes Go.WideShapes Go.ChangeAt Go.RowKit Go.Joins
open Go.Sort (grow)

theorem close_below {a b x y n k : Int} (h0 : 0 ≤ n) (h1 : n ≤ 1000000000) (hk : n + 1 = k) (h : a.tmod k = x) (g : b.tmod k = y) (w : World) :
    Calls Try.prog 14 #[ptV a b, .int .i64 n] w fun e w' => e = .returned (ptV x y) ∧ Below w.heap.size w w' := (closeN h0 h1 hk h g w).mono fun _ _ k => ⟨k.1, k.2 ▸ bel_drew (bel_alloc (bel_alloc (bel_refl w) _) _)⟩
theorem r_below {a r : Int} (h : ∀ w, Calls Try.prog 8 #[.int .i64 a] w fun e w' => e = .returned (.int .i64 r) ∧ w = w') (w : World) :
    Calls Try.prog 8 #[.int .i64 a] w fun e w' => e = .returned (.int .i64 r) ∧ Below w.heap.size w w' := as_below (h w)
/-- The box, the centre and the move; the box and the centre moved, turned and mirrored. -/
structure St (n m : Nat) (a b c d x y ex ey : Int) (wr : World) : Prop where
  box : BoxAt wr n a b c d
  ctr : PtAt wr (n + 1) x y
  mov : PtAt wr (n + 1 + 1) ex ey
  one : BoxAt wr m (a + ex) (b + ey) (c + ex) (d + ey)
  two : BoxAt wr (m + 1) (-d) a (-b) c
  six : BoxAt wr (m + 1 + 1) (-c) b (-a) d
theorem St.later {n m : Nat} {a b c d x y ex ey : Int} {w w1 : World} (h : St n m a b c d x y ex ey w) (k : Below w.heap.size w w1) : St n m a b c d x y ex ey w1 := ⟨h.box.later k, h.ctr.later k, h.mov.later k, h.one.later k, h.two.later k, h.six.later k⟩
theorem st_new {n : Nat} {a b c d x y ex ey : Int} {w : World} (h : BPP n a b c d x y ex ey w) (t : TypeId) :
    St n w.heap.size a b c d x y ex ey (((w.alloc (.cells #[.int .i64 (a + ex), .int .i64 (b + ey), .int .i64 (c + ex), .int .i64 (d + ey)] t)).alloc (.cells #[.int .i64 (-d), .int .i64 a, .int .i64 (-b), .int .i64 c] t)).alloc (.cells #[.int .i64 (-c), .int .i64 b, .int .i64 (-a), .int .i64 d] t)) := by
  refine ⟨((h.b.at_.alloc _).alloc _).alloc _, ((h.c.at_.alloc _).alloc _).alloc _, ((h.p.at_.alloc _).alloc _).alloc _, ((boxAt_new _ _ _ _ _ _).alloc _).alloc _, ?_, ?_⟩
  · have k := (boxAt_new (w.alloc (.cells #[.int .i64 (a + ex), .int .i64 (b + ey), .int .i64 (c + ex), .int .i64 (d + ey)] t)) (-d) a (-b) c t).alloc (.cells #[.int .i64 (-c), .int .i64 b, .int .i64 (-a), .int .i64 d] t)
    rw [show (w.alloc (.cells #[.int .i64 (a + ex), .int .i64 (b + ey), .int .i64 (c + ex), .int .i64 (d + ey)] t)).heap.size = w.heap.size + 1 by simp] at k
    exact k
  · have k := boxAt_new ((w.alloc (.cells #[.int .i64 (a + ex), .int .i64 (b + ey), .int .i64 (c + ex), .int .i64 (d + ey)] t)).alloc (.cells #[.int .i64 (-d), .int .i64 a, .int .i64 (-b), .int .i64 c] t)) (-c) b (-a) d t
    rw [show ((w.alloc (.cells #[.int .i64 (a + ex), .int .i64 (b + ey), .int .i64 (c + ex), .int .i64 (d + ey)] t)).alloc (.cells #[.int .i64 (-d), .int .i64 a, .int .i64 (-b), .int .i64 c] t)).heap.size = w.heap.size + 1 + 1 by simp] at k
    exact k

set_option maxRecDepth 100000 in
set_option maxHeartbeats 32000000 in
theorem core (b0 b1 b2 b3 e0 e1 rr f0 f1 more : Int) (a b c d x y ex ey r1 r' s1 s' : Int)
    (X1 : ∀ w, Calls Try.prog 13 #[boxV b0 b1 b2 b3] w fun e w' => e = .returned (boxV a b c d) ∧ Below w.heap.size w w')
    (X2 : ∀ w, Calls Try.prog 14 #[ptV e0 e1, .int .i64 20] w fun e w' => e = .returned (ptV x y) ∧ Below w.heap.size w w')
    (X3 : ∀ w, Calls Try.prog 14 #[ptV f0 f1, .int .i64 100000000] w fun e w' => e = .returned (ptV ex ey) ∧ Below w.heap.size w w')
    (X4 : ∀ w, Calls Try.prog 8 #[.int .i64 rr] w fun e w' => e = .returned (.int .i64 r1) ∧ Below w.heap.size w w')
    (X5 : ∀ w, Calls Try.prog 8 #[.int .i64 more] w fun e w' => e = .returned (.int .i64 s1) ∧ Below w.heap.size w w')
    (ha : -19 ≤ a ∧ a ≤ c ∧ c ≤ a + 7 ∧ a ≤ 19) (hb : -19 ≤ b ∧ b ≤ d ∧ d ≤ b + 7 ∧ b ≤ 19) (x0 : -20 ≤ x) (x1 : x ≤ 20) (y0 : -20 ≤ y) (y1 : y ≤ 20) (ex0 : -100000000 ≤ ex) (ex1 : ex ≤ 100000000) (ey0 : -100000000 ≤ ey) (ey1 : ey ≤ 100000000)
    (hr : r1.tmod 25 = r') (r0' : 0 ≤ r') (r1' : r' ≤ 24) (hs : s1.tmod 9 = s') (s0' : 0 ≤ s') (s1' : s' ≤ 8) (w : World) :
    Calls Try.prog 6 #[boxV b0 b1 b2 b3, ptV e0 e1, .int .i64 rr, ptV f0 f1, .int .i64 more] w fun e w' => e = .returned (.bool true) ∧ Below w.heap.size w w' := by
  have HX1 := Lib.hid X1
  have HX2 := Lib.hid X2
  have HX3 := Lib.hid X3
  have HX4 := Lib.hid X4
  have HX5 := Lib.hid X5
  have HA := Lib.hid ha
  have HB := Lib.hid hb
  have HR := Lib.hid hr
  have HS := Lib.hid hs
  have F0 := bpp_new w b0 b1 b2 b3 e0 e1 f0 f1 28 23
  have B0 := bel_newBPP w b0 b1 b2 b3 e0 e1 f0 f1 28 23
  unfold newBPP at F0 B0
  have F0 := Lib.hid F0
  have B0 := Lib.hid B0
  clear X1 X2 X3 X4 X5 ha hb hr hs
  go_enter Try.func6, Try.ntmps6
  go_wp2_with fail
  generalize (((w.alloc (.cells #[.int .i64 b0, .int .i64 b1, .int .i64 b2, .int .i64 b3] 28)).alloc (.cells #[.int .i64 e0, .int .i64 e1] 23)).alloc (.cells #[.int .i64 f0, .int .i64 f1] 23)) = V at *
  obtain ⟨⟨⟨i0, i1, i2, i3, il⟩, fr⟩, ⟨⟨j0, j1, jl⟩, fs⟩, ⟨⟨l0, l1, ll⟩, ft⟩⟩ := F0.out
  have i0 := cell_regrown i0
  have i1 := cell_regrown i1
  have i2 := cell_regrown i2
  have i3 := cell_regrown i3
  have j0 := cell_regrown j0
  have j1 := cell_regrown j1
  have l0 := cell_regrown l0
  have l1 := cell_regrown l1
  have D1 := Lib.hid (fun p : Regrown => Calls.regrown_of (HX1.out (grow (redrawn V p.d) p.os)))
  have D2 := Lib.hid (fun p : Regrown => Calls.regrown_of (HX2.out (grow (redrawn V p.d) p.os)))
  have D3 := Lib.hid (fun p : Regrown => Calls.regrown_of (HX3.out (grow (redrawn V p.d) p.os)))
  have D4 := Lib.hid (fun p : Regrown => Calls.regrown_of (HX4.out (grow (redrawn V p.d) p.os)))
  clear HX1 HX2 HX3 HX4
  refine wp_region_any (by kernel_rfl) ?_
  change wpAny _ _ _ _ 14 _ _ (World.drew _)
  refine any_heads_below (n := 8) (g := 6) (e := #[true, true, true, true, true, true, true, true, false, false, false, false, false, false]) (by kernel_rfl) ?_
  simp only [List.take_succ_cons, List.take_zero]
  repeat (go_big_quiet_step (first | with_reducible exact D1.out _ | with_reducible exact D2.out _ | with_reducible exact D3.out _ | with_reducible exact D4.out _))
  refine wpQuiet_nil ?_
  intro _ hw'
  obtain ⟨⟨dr, osr⟩, hw''⟩ := hw'
  subst hw''
  clear i0 i1 i2 i3 j0 j1 l0 l1 D1 D2 D3 D4 il fr jl fs ll ft
  have zz := below_regrown V dr osr
  have F1 := Lib.hid (F0.out.later zz)
  have B1 := Lib.hid (bel_trans B0.out zz)
  clear F0 B0 zz
  generalize grow (redrawn V dr) osr = V1 at *
  have hr := HR.out
  have s1 : IntKind.i64.wrap (r' + 1) = r' + 1 := IntWalk.i64_in _ (by omega)
  refine any_take 8 25 (.int .i64 r') rfl rfl (by kernel_rfl) (by kernel_rfl) (by kernel_rfl) (fun _ _ _ h => h) (by rfl) (fun w => by go_simp) ?_
  refine any_take 9 26 (.int .i64 (r' + 1)) rfl rfl (by kernel_rfl) (by kernel_rfl) (by kernel_rfl) (fun _ _ _ h => h) (by rfl) (fun w => by go_simp) ?_
  refine any_tail (n := 10) rfl (by kernel_rfl) ?_
  simp only [List.drop_succ_cons, List.drop_zero, Act.put, List.setIfInBounds_toArray, List.set_cons_zero, List.set_cons_succ]
  clear hr s1 HR
  obtain ⟨r, hr⟩ : ∃ r, r' + 1 = r := ⟨_, rfl⟩
  have ra : 1 ≤ r := by omega
  have rb : r ≤ 25 := by omega
  rw [hr]
  obtain ⟨⟨⟨i0, i1, i2, i3, il⟩, fr⟩, ⟨⟨j0, j1, jl⟩, fs⟩, ⟨⟨l0, l1, ll⟩, ft⟩⟩ := F1.out
  go_upto_region 2 with (fail)
  clear i0 i1 i2 i3 il fr j0 j1 jl fs l0 l1 ll ft hr r0' r1'
  have F2 := F1.out.stored a b c d x y ex ey
  have B2 := bel_bpp B1.out (Nat.le_refl _) a b c d x y ex ey
  unfold setBPP setBP at F2 B2
  have F2 := Lib.hid F2
  have B2 := Lib.hid B2
  clear F1 B1
  generalize ((((((((V1.setCell ⟨w.heap.size, 0, none⟩ (.int .i64 a)).setCell ⟨w.heap.size, 1, none⟩ (.int .i64 b)).setCell ⟨w.heap.size, 2, none⟩ (.int .i64 c)).setCell ⟨w.heap.size, 3, none⟩ (.int .i64 d)).setCell ⟨w.heap.size + 1, 0, none⟩ (.int .i64 x)).setCell ⟨w.heap.size + 1, 1, none⟩ (.int .i64 y)).setCell ⟨w.heap.size + 1 + 1, 0, none⟩ (.int .i64 ex)).setCell ⟨w.heap.size + 1 + 1, 1, none⟩ (.int .i64 ey)) = V2 at *
  obtain ⟨xa, xb, xc, xd⟩ := HA.out
  obtain ⟨ya, yb, yc, yd⟩ := HB.out
  obtain ⟨k, hk⟩ : ∃ k, discK r (nearS a b c d x y) (mostS a b c d x y) = k := ⟨_, rfl⟩
  obtain ⟨j, hj⟩ : ∃ j, discK r (nearS a b a d x y) (mostS a b a d x y) = j := ⟨_, rfl⟩
  obtain ⟨s, hs⟩ : ∃ s, r + s' = s := ⟨_, rfl⟩
  obtain ⟨l, hl⟩ : ∃ l, discK s (nearS a b c d x y) (mostS a b c d x y) = l := ⟨_, rfl⟩
  have KJ := Lib.hid (keeps_class ra (near_within (x := x) (y := y) (e := a) (f := b) (g := a) (h := d) (Int.le_refl a) (Int.le_refl a) xb (Int.le_refl b) yb (Int.le_refl d)) (near_most (Int.le_refl a) yb) (most_within (x := x) (y := y) (e := a) (f := b) (g := a) (h := d) (Int.le_refl a) (Int.le_refl a) xb (Int.le_refl b) yb (Int.le_refl d)) hk hj)
  have KL := Lib.hid (greater_class ra (show r ≤ s by omega) hk hl)
  have CK := Lib.hid (fun w => class_is hk (by omega) (by omega) (by omega) (by omega) (by omega) (by omega) (by omega) (by omega) (by omega) (by omega) (by omega) w)
  have C1 := Lib.hid (fun w => class_is (r := r) (k := k) (by rw [near_move a b c d x y ex ey, most_move a b c d x y ex ey]; exact hk) (a := a + ex) (b := b + ey) (c := c + ex) (d := d + ey) (x := x + ex) (y := y + ey) (by omega) (by omega) (by omega) (by omega) (by omega) (by omega) (by omega) (by omega) (by omega) (by omega) (by omega) w)
  have C2 := Lib.hid (fun w => class_is (r := r) (k := k) (by rw [near_turn yb, most_turn]; exact hk) (a := -d) (b := a) (c := -b) (d := c) (x := -y) (y := x) (by omega) (by omega) (by omega) (by omega) (by omega) (by omega) (by omega) (by omega) (by omega) (by omega) (by omega) w)
  have C3 := Lib.hid (fun w => class_is (r := r) (k := k) (by rw [near_mirror xb, most_mirror]; exact hk) (a := -c) (b := b) (c := -a) (d := d) (x := -x) (y := y) (by omega) (by omega) (by omega) (by omega) (by omega) (by omega) (by omega) (by omega) (by omega) (by omega) (by omega) w)
  have C4 := Lib.hid (fun w => class_is hj (by omega) (by omega) (by omega) (by omega) (by omega) (by omega) (by omega) (by omega) (by omega) (by omega) (by omega) w)
  have C5 := Lib.hid (fun w => class_is hl (by omega) (by omega) (by omega) (by omega) (by omega) (by omega) (by omega) (by omega) (by omega) (by omega) (by omega) w)
  have HS2 := Lib.hid hs
  clear hk hj hl hs
  obtain ⟨⟨⟨i0, i1, i2, i3, il⟩, fr⟩, ⟨⟨j0, j1, jl⟩, fs⟩, ⟨⟨l0, l1, ll⟩, ft⟩⟩ := F2.out
  go_wp2_with fail
  refine (CK.out _).mono ?_; rintro e w1 ⟨rfl, z1⟩
  have F3 := Lib.hid (F2.out.later z1)
  have B3 := Lib.hid (bel_trans B2.out z1)
  clear z1 i0 i1 i2 i3 il fr j0 j1 jl fs l0 l1 ll ft F2 B2 CK
  obtain ⟨⟨⟨i0, i1, i2, i3, il⟩, fr⟩, ⟨⟨j0, j1, jl⟩, fs⟩, ⟨⟨l0, l1, ll⟩, ft⟩⟩ := F3.out
  go_upto_region 6 with (fail)
  have S3 := st_new F3.out 28
  have B4 := Lib.hid (bel_alloc (bel_alloc (bel_alloc B3.out (.cells #[.int .i64 (a + ex), .int .i64 (b + ey), .int .i64 (c + ex), .int .i64 (d + ey)] 28)) (.cells #[.int .i64 (-d), .int .i64 a, .int .i64 (-b), .int .i64 c] 28)) (.cells #[.int .i64 (-c), .int .i64 b, .int .i64 (-a), .int .i64 d] 28))
  clear i0 i1 i2 i3 il fr j0 j1 jl fs l0 l1 ll ft F3 B3
  obtain ⟨m, hm⟩ : ∃ m, w1.heap.size = m := ⟨_, rfl⟩
  rw [hm] at S3
  have S3 := Lib.hid S3
  generalize ((w1.alloc (.cells #[.int .i64 (a + ex), .int .i64 (b + ey), .int .i64 (c + ex), .int .i64 (d + ey)] 28)).alloc (.cells #[.int .i64 (-d), .int .i64 a, .int .i64 (-b), .int .i64 c] 28)).alloc (.cells #[.int .i64 (-c), .int .i64 b, .int .i64 (-a), .int .i64 d] 28) = W at *
  try rw [hm]
  clear hm
  obtain ⟨_, ⟨j0, j1, jl⟩, ⟨l0, l1, ll⟩, ⟨i0, i1, i2, i3, il⟩, _, _⟩ := S3.out
  go_wp2_with fail
  refine (C1.out _).mono ?_; rintro e w2 ⟨rfl, z2⟩
  have S4 := Lib.hid (S3.out.later z2)
  have B5 := Lib.hid (bel_trans B4.out z2)
  clear z2 i0 i1 i2 i3 il j0 j1 jl l0 l1 ll S3 B4 C1
  obtain ⟨_, ⟨j0, j1, jl⟩, _, _, ⟨i0, i1, i2, i3, il⟩, _⟩ := S4.out
  go_wp2_with fail
  refine (C2.out _).mono ?_; rintro e w3 ⟨rfl, z3⟩
  have S5 := Lib.hid (S4.out.later z3)
  have B6 := Lib.hid (bel_trans B5.out z3)
  clear z3 i0 i1 i2 i3 il j0 j1 jl S4 B5 C2
  obtain ⟨_, ⟨j0, j1, jl⟩, _, _, _, ⟨i0, i1, i2, i3, il⟩⟩ := S5.out
  go_wp2_with fail
  refine (C3.out _).mono ?_; rintro e w4 ⟨rfl, z4⟩
  have S6 := Lib.hid (S5.out.later z4)
  have B7 := Lib.hid (bel_trans B6.out z4)
  clear z4 i0 i1 i2 i3 il j0 j1 jl S5 B6 C3
  obtain ⟨⟨i0, i1, i2, i3, il⟩, ⟨j0, j1, jl⟩, _, _, _, _⟩ := S6.out
  go_wp2_with fail
  refine (C4.out _).mono ?_; rintro e w5 ⟨rfl, z5⟩
  have zz := bel_trans (bel_alloc (bel_refl w4) (.cells #[.int .i64 a, .int .i64 b, .int .i64 a, .int .i64 d] 28)) z5
  have S7 := Lib.hid (S6.out.later zz)
  have B8 := Lib.hid (bel_trans B7.out zz)
  clear z5 zz i0 i1 i2 i3 il j0 j1 jl S6 B7 C4
  obtain ⟨⟨i0, i1, i2, i3, il⟩, ⟨j0, j1, jl⟩, _, _, _, _⟩ := S7.out
  go_wp2_with fail
  have i0 := cell_regrown i0
  have i1 := cell_regrown i1
  have i2 := cell_regrown i2
  have i3 := cell_regrown i3
  have j0 := cell_regrown j0
  have j1 := cell_regrown j1
  have D1 := Lib.hid (fun p : Regrown => Calls.regrown_of (HX5.out (grow (redrawn w5 p.d) p.os)))
  have D2 := Lib.hid (fun p : Regrown => Calls.regrown_of (C5.out (grow (redrawn w5 p.d) p.os)))
  have D3 := Lib.hid (fun p : Regrown => Calls.regrown_of (awake_any (grow (redrawn w5 p.d) p.os)))
  have hs1 := HS.out
  have hs2 : IntKind.i64.wrap (r + s') = s := by rw [IntWalk.i64_in _ (by omega)]; exact HS2.out
  have hkl : decide (k ≤ l) = true := decide_eq_true KL.out
  have hkj := KJ.out
  clear C5 HX5 KL KJ il jl S7 xa xb xc xd ya yb yc yd x0 x1 y0 y1 ex0 ex1 ey0 ey1 HA HB
  by_cases hk1 : k = 1
  · subst hk1
    clear hkj
    refine wp_region_quiet_below (by kernel_rfl) (by kernel_rfl) ?_
    repeat (go_big_quiet_step (first | with_reducible exact D1.out _ | with_reducible exact D2.out _ | with_reducible exact D3.out _))
    refine wpQuiet_nil ?_
    intro _ hw'
    obtain ⟨⟨dt, ost⟩, hw''⟩ := hw'
    subst hw''
    go_wp2
    go_ret
    exact ⟨rfl, bel_trans B8.out (below_regrown w5 dt ost)⟩
  · have hjk : j = k := by omega
    subst hjk
    clear hkj
    have hk2 : (j == 1) = false := by simpa using hk1
    clear hk1
    refine wp_region_quiet_below (by kernel_rfl) (by kernel_rfl) ?_
    repeat (go_big_quiet_step (first | with_reducible exact D1.out _ | with_reducible exact D2.out _ | with_reducible exact D3.out _))
    refine wpQuiet_nil ?_
    intro _ hw'
    obtain ⟨⟨dt, ost⟩, hw''⟩ := hw'
    subst hw''
    go_wp2
    go_ret
    exact ⟨rfl, bel_trans B8.out (below_regrown w5 dt ost)⟩
theorem walk (b0 b1 b2 b3 e0 e1 rr f0 f1 more : Int) (_ : -9223372036854775808 ≤ b0) (_ : b0 ≤ 9223372036854775807) (_ : -9223372036854775808 ≤ b1) (_ : b1 ≤ 9223372036854775807) (_ : -9223372036854775808 ≤ b2) (_ : b2 ≤ 9223372036854775807) (_ : -9223372036854775808 ≤ b3) (_ : b3 ≤ 9223372036854775807) (_ : -9223372036854775808 ≤ e0) (_ : e0 ≤ 9223372036854775807) (_ : -9223372036854775808 ≤ e1) (_ : e1 ≤ 9223372036854775807) (_ : -9223372036854775808 ≤ rr) (_ : rr ≤ 9223372036854775807) (_ : -9223372036854775808 ≤ f0) (_ : f0 ≤ 9223372036854775807) (_ : -9223372036854775808 ≤ f1) (_ : f1 ≤ 9223372036854775807) (_ : -9223372036854775808 ≤ more) (_ : more ≤ 9223372036854775807) (w : World) :
    Calls Try.prog 6 #[boxV b0 b1 b2 b3, ptV e0 e1, .int .i64 rr, ptV f0 f1, .int .i64 more] w fun e w' => e = .returned (.bool true) ∧ Below w.heap.size w w' := by
  obtain ⟨a, b, c, d, ha, hb, X1⟩ := small_form b0 b1 b2 b3
  obtain ⟨x, x2, x3, hx⟩ := tmod_at e0 21 (by omega)
  obtain ⟨y, y2, y3, hy⟩ := tmod_at e1 21 (by omega)
  obtain ⟨ex, u2, u3, hex⟩ := tmod_at f0 100000001 (by omega)
  obtain ⟨ey, v2, v3, hey⟩ := tmod_at f1 100000001 (by omega)
  obtain ⟨r, r1, r2, X4⟩ := r_form rr
  obtain ⟨s, s1, s2, X5⟩ := r_form more
  obtain ⟨r', r3, r4, hr⟩ := tmod_at r 25 (by omega)
  obtain ⟨s', s3, s4, hs⟩ := tmod_at s 9 (by omega)
  have r5 : 0 ≤ r' := by rw [← hr, Int.tmod_eq_emod_of_nonneg (by omega)]; omega
  have s5 : 0 ≤ s' := by rw [← hs, Int.tmod_eq_emod_of_nonneg (by omega)]; omega
  exact core b0 b1 b2 b3 e0 e1 rr f0 f1 more a b c d x y ex ey r r' s s' X1 (fun w => close_below (by omega) (by omega) rfl hx hy w) (fun w => close_below (by omega) (by omega) rfl hex hey w) (fun w => r_below X4 w) (fun w => r_below X5 w) ha hb (by omega) (by omega) (by omega) (by omega) (by omega) (by omega) (by omega) (by omega) hr r5 (by omega) hs s5 (by omega) w
theorem own : ownKnob Try.prog.godebug = none := by kernel_rfl
set_option maxRecDepth 100000 in
set_option maxHeartbeats 4000000 in
theorem lifted (os : Os) (started : os.Started) (H : Type) (enc : TypeId × Value → H) :
    ReturnsInHanded {} Try.checked os 6 .any (Rows.discMovesSpec.pre6 enc Try.prog Try.f6 Rows.discMovesRow.domain false) (Rows.discMovesSpec.post enc Try.prog Try.f6 false true false false) := by
  refine returnsInHanded_of_change (C := Try.checked) own started (by kernel_rfl) Try.func6
    (ChangeSpec.witness6 (enc := enc) (C := Try.checked) false ⟨#[], #[.agg #[.int .i64 0, .int .i64 0, .int .i64 0, .int .i64 0], .agg #[.int .i64 0, .int .i64 0], .int .i64 0, .agg #[.int .i64 0, .int .i64 0], .int .i64 0], []⟩ 8 (by kernel_rfl) (by kernel_rfl) (by kernel_rfl) (by kernel_rfl)) ?_
  intro W base args ds gs before hval0 hW _ _
  have hval : ∀ (j : Nat) t v, Try.f6.params[j]? = some t → args[j]? = some v → Value.okWide Try.prog W .any base t v := hval0
  have hW' := hW
  obtain ⟨p, q, hA0, hV, rfl, hfz, hnd⟩ := hW
  have hA : DataW.TrodAll enc Try.prog W 0 (fun _ => true) true Try.f6.params.toList args.toList ds p := hA0
  rw [Try.params6] at hA hval
  obtain ⟨v0, vs0, d0, ds0, p0, q0, hargs, rfl, rfl, h0, r0⟩ := trodAll_cons hA
  obtain ⟨v1, vs1, d1, ds1, p1, q1, rfl, rfl, rfl, h1, r1⟩ := trodAll_cons r0
  obtain ⟨v2, vs2, d2, ds2, p2, q2, rfl, rfl, rfl, h2, r2⟩ := trodAll_cons r1
  obtain ⟨v3, vs3, d3, ds3, p3, q3, rfl, rfl, rfl, h3, r3⟩ := trodAll_cons r2
  obtain ⟨v4, vs4, d4, ds4, p4, q4, rfl, rfl, rfl, h4, r4⟩ := trodAll_cons r3
  obtain ⟨rfl, rfl, rfl⟩ := trodAll_nil r4
  obtain rfl : args = #[v0, v1, v2, v3, v4] := by cases args; simp_all
  obtain ⟨rfl, rfl⟩ := trodVars_none hV
  obtain ⟨c0_0, c0_1, c0_2, c0_3, y0_0, y0_1, y0_2, y0_3, m0, rfl, rfl, rfl, k0_0, k0_1, k0_2, k0_3⟩ := open_agg4 Try.underlying28 (by kernel_rfl) (by kernel_rfl) (hval 0 28 v0 rfl rfl) h0
  obtain ⟨a0_0, ea0_0, rfl, wa0_0⟩ := DataW.trod_int Try.underlying2 k0_0
  simp at ea0_0; subst ea0_0
  obtain ⟨a0_1, ea0_1, rfl, wa0_1⟩ := DataW.trod_int Try.underlying2 k0_1
  simp at ea0_1; subst ea0_1
  obtain ⟨a0_2, ea0_2, rfl, wa0_2⟩ := DataW.trod_int Try.underlying2 k0_2
  simp at ea0_2; subst ea0_2
  obtain ⟨a0_3, ea0_3, rfl, wa0_3⟩ := DataW.trod_int Try.underlying2 k0_3
  simp at ea0_3; subst ea0_3
  obtain ⟨c1_0, c1_1, y1_0, y1_1, m1, rfl, rfl, rfl, k1_0, k1_1⟩ := open_agg2 Try.underlying23 (by kernel_rfl) (by kernel_rfl) (hval 1 23 v1 rfl rfl) h1
  obtain ⟨a1_0, ea1_0, rfl, wa1_0⟩ := DataW.trod_int Try.underlying2 k1_0
  simp at ea1_0; subst ea1_0
  obtain ⟨a1_1, ea1_1, rfl, wa1_1⟩ := DataW.trod_int Try.underlying2 k1_1
  simp at ea1_1; subst ea1_1
  obtain ⟨a2, rfl, rfl, rfl, w2⟩ := open_int Try.underlying2 (hval 2 2 v2 rfl rfl) h2
  obtain ⟨c3_0, c3_1, y3_0, y3_1, m3, rfl, rfl, rfl, k3_0, k3_1⟩ := open_agg2 Try.underlying23 (by kernel_rfl) (by kernel_rfl) (hval 3 23 v3 rfl rfl) h3
  obtain ⟨a3_0, ea3_0, rfl, wa3_0⟩ := DataW.trod_int Try.underlying2 k3_0
  simp at ea3_0; subst ea3_0
  obtain ⟨a3_1, ea3_1, rfl, wa3_1⟩ := DataW.trod_int Try.underlying2 k3_1
  simp at ea3_1; subst ea3_1
  obtain ⟨a4, rfl, rfl, rfl, w4⟩ := open_int Try.underlying2 (hval 4 2 v4 rfl rfl) h4
  have s0 : ∀ (W' : World) (sp : Nat → Bool), DataW.Trod enc Try.prog W' 0 sp true 28 (.agg #[.int .i64 a0_0, .int .i64 a0_1, .int .i64 a0_2, .int .i64 a0_3]) (.agg [.lit (.int .i64 a0_0), .lit (.int .i64 a0_1), .lit (.int .i64 a0_2), .lit (.int .i64 a0_3)]) [] := fun W' sp =>
    shut_agg4 (y0 := (.lit (.int .i64 a0_0), [])) (y1 := (.lit (.int .i64 a0_1), [])) (y2 := (.lit (.int .i64 a0_2), [])) (y3 := (.lit (.int .i64 a0_3), [])) Try.underlying28 (by kernel_rfl) (by kernel_rfl) ⟨1, by simp [DataW.trod, Try.underlying2, wa0_0]⟩ ⟨1, by simp [DataW.trod, Try.underlying2, wa0_1]⟩ ⟨1, by simp [DataW.trod, Try.underlying2, wa0_2]⟩ ⟨1, by simp [DataW.trod, Try.underlying2, wa0_3]⟩
  have s1 : ∀ (W' : World) (sp : Nat → Bool), DataW.Trod enc Try.prog W' 0 sp true 23 (.agg #[.int .i64 a1_0, .int .i64 a1_1]) (.agg [.lit (.int .i64 a1_0), .lit (.int .i64 a1_1)]) [] := fun W' sp =>
    shut_agg2 (y0 := (.lit (.int .i64 a1_0), [])) (y1 := (.lit (.int .i64 a1_1), [])) Try.underlying23 (by kernel_rfl) (by kernel_rfl) ⟨1, by simp [DataW.trod, Try.underlying2, wa1_0]⟩ ⟨1, by simp [DataW.trod, Try.underlying2, wa1_1]⟩
  have s3 : ∀ (W' : World) (sp : Nat → Bool), DataW.Trod enc Try.prog W' 0 sp true 23 (.agg #[.int .i64 a3_0, .int .i64 a3_1]) (.agg [.lit (.int .i64 a3_0), .lit (.int .i64 a3_1)]) [] := fun W' sp =>
    shut_agg2 (y0 := (.lit (.int .i64 a3_0), [])) (y1 := (.lit (.int .i64 a3_1), [])) Try.underlying23 (by kernel_rfl) (by kernel_rfl) ⟨1, by simp [DataW.trod, Try.underlying2, wa3_0]⟩ ⟨1, by simp [DataW.trod, Try.underlying2, wa3_1]⟩
  clear hA0 hval0
  simp only [List.append_nil] at hW'
  refine (walk a0_0 a0_1 a0_2 a0_3 a1_0 a1_1 a2 a3_0 a3_1 a4 (bounds_i64 wa0_0).1 (bounds_i64 wa0_0).2 (bounds_i64 wa0_1).1 (bounds_i64 wa0_1).2 (bounds_i64 wa0_2).1 (bounds_i64 wa0_2).2 (bounds_i64 wa0_3).1 (bounds_i64 wa0_3).2 (bounds_i64 wa1_0).1 (bounds_i64 wa1_0).2 (bounds_i64 wa1_1).1 (bounds_i64 wa1_1).2 (bounds_i64 w2).1 (bounds_i64 w2).2 (bounds_i64 wa3_0).1 (bounds_i64 wa3_0).2 (bounds_i64 wa3_1).1 (bounds_i64 wa3_1).2 (bounds_i64 w4).1 (bounds_i64 w4).2 W).mono fun e W' ⟨he, bel⟩ => ?_
  subst he
  exact ⟨_, rfl, _, _, _, [], _, [], hW', trodAll_mk1 (shut_bool Try.underlying4 _), (trodAll_cons_mk (s0 _ _) (trodAll_cons_mk (s1 _ _) (trodAll_cons_mk (shut_int Try.underlying2 w2) (trodAll_cons_mk (s3 _ _) (trodAll_cons_mk (shut_int Try.underlying2 w4) trodAll_mk0))))), rfl, bel.frame _, fun h => by cases h⟩
theorem over : Rows.discMovesRow.holds Try.pinned (OpenSpec.ofChange Rows.discMovesSpec) :=
  OpenClaim.holds_of_wide 6 Try.f6 rfl rfl rfl rfl rfl rfl rfl ⟨rfl, rfl, rfl, rfl, rfl⟩ rfl rfl rfl rfl rfl (by kernel_rfl) Try.func6 (by kernel_rfl)
    (of_decide_eq_true (by kernel_rfl)) (by unfold Func.isWrapper; first | (rw [if_pos (by decide +kernel)]; kernel_rfl) | (rw [if_neg (by decide +kernel)]; exact ⟨rfl, rfl⟩))
    (fun os started H enc _ => lifted os started H enc)
theorem proved : Rows.DiscMovesSaid := over
#print axioms proved
end Go.Proofs.Ytmbegglkinlgdaa.discMoves
