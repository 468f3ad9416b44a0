/- In and Out are sure: a box is In a disc just if its four corners are in it, Out just if its nearest point is not, and a point of the box is in the disc where the box is In, and not where it is Out: for every box, centre, radius and point of the box that the law makes of any nine numbers of 64 bits, great and small. No condition. -/
import Derived.Test.YtmbegglkinlgdaaRows
import Derived.Test.YtmbegglkinlgdaaAwake5
import Derived.Test.YtmbegglkinlgdaaTame5
import Derived.Test.YtmbegglkinlgdaaCloseN
import Derived.Test.YtmbegglkinlgdaaHeld5
import Derived.Test.YtmbegglkinlgdaaFloat
import Derived.Test.YtmbegglkinlgdaaSureMath
import Derived.ProofKit
import Derived.OpenShut
import Derived.ShutString
import Derived.ChangeOld
import Derived.Below
import Derived.Lib.SmallJoins
import Derived.Lib.QuietBelow
import Derived.BigQuiet
namespace Go.Proofs.Ytmbegglkinlgdaa.discSure
open Go.ChangeShapes Go.WideShapes Go.ChangeAt Go.RowKit Go.Joins
open Go.Sort (grow)

theorem pt_below {a b x y : Int} (h : ∀ w, Calls Try.prog 7 #[ptV a b] w fun e w' => e = .returned (ptV x y) ∧ (w.alloc (.cells #[.int .i64 a, .int .i64 b] 23)).alloc (.cells #[.int .i64 x, .int .i64 y] 23) = w') (w : World) :
    Calls Try.prog 7 #[ptV a b] w fun e w' => e = .returned (ptV x y) ∧ Below w.heap.size w w' := (h w).mono fun _ _ k => ⟨k.1, k.2 ▸ bel_alloc (bel_alloc (bel_refl w) _) _⟩
theorem close_below {a b x y : Int} (h : a.tmod 21 = x) (g : b.tmod 21 = y) (w : World) :
    Calls Try.prog 14 #[ptV a b, .int .i64 20] w fun e w' => e = .returned (ptV x y) ∧ Below w.heap.size w w' := (closeN (n := 20) (by omega) (by omega) rfl h g w).mono fun _ _ k => ⟨k.1, k.2 ▸ bel_drew (bel_alloc (bel_alloc (bel_refl w) _) _)⟩
theorem r_below {a r : Int} (h : ∀ w, Calls Try.prog 8 #[.int .i64 a] w fun e w' => e = .returned (.int .i64 r) ∧ w = w') (w : World) :
    Calls Try.prog 8 #[.int .i64 a] w fun e w' => e = .returned (.int .i64 r) ∧ Below w.heap.size w w' := as_below (h w)
/-- A box that may be, a centre that is not too far, a radius that may be, in their blocks. -/
def Fin (w : World) (s2 : Value) (wc : World) : Prop :=
  ∃ a b c d x y r : Int, s2 = .int .i64 r ∧ ((-536870912 ≤ a ∧ a ≤ c ∧ c ≤ 536870912) ∧ (-536870912 ≤ b ∧ b ≤ d ∧ d ≤ 536870912) ∧ (-536870912 ≤ x ∧ x ≤ 536870912 ∧ -536870912 ≤ y ∧ y ≤ 536870912) ∧ 1 ≤ r ∧ r ≤ 536870912) ∧
    BP w.heap.size a b c d x y wc ∧ Below w.heap.size w wc
/-- The box, the centre, the point of the box and the corners. -/
structure St (n m g : Nat) (a b c d x y u v : Int) (wr : World) : Prop where
  box : BoxAt wr n a b c d
  ctr : PtAt wr (n + 1) x y
  pnt : PtAt wr m u v
  crn : EightAt wr g a b c d
theorem St.later {n m g : Nat} {a b c d x y u v : Int} {w w1 : World} (h : St n m g a b c d x y u v w) (k : Below w.heap.size w w1) : St n m g a b c d x y u v w1 := ⟨h.box.later k, h.ctr.later k, h.pnt.later k, h.crn.later k⟩
theorem St.alloc {n m g : Nat} {a b c d x y u v : Int} {w : World} (h : St n m g a b c d x y u v w) (o : Obj) : St n m g a b c d x y u v (w.alloc o) := h.later (bel_alloc (bel_refl w) o)
/-- How many have been found. -/
structure Fd (h0 h1 h2 h3 : Bool) (j : Nat) (n : Int) : Prop where
  eq : n = found h0 h1 h2 h3 j
/-- The head of a round: how many corners before it are in the disc. -/
def HeadAt (w : World) (m g : Nat) (a b c d x y u v : Int) (h0 h1 h2 h3 : Bool) (sn si : Value) (wr : World) : Prop :=
  ∃ n : Int, sn = .int .i64 n ∧ ((si = .int .i64 0 ∧ Fd h0 h1 h2 h3 0 n) ∨ (si = .int .i64 1 ∧ Fd h0 h1 h2 h3 1 n) ∨ (si = .int .i64 2 ∧ Fd h0 h1 h2 h3 2 n) ∨ (si = .int .i64 3 ∧ Fd h0 h1 h2 h3 3 n) ∨ (si = .int .i64 4 ∧ Fd h0 h1 h2 h3 4 n)) ∧
    St w.heap.size m g a b c d x y u v wr ∧ Below w.heap.size w wr
theorem step0 {h1 h2 h3 h0 : Bool} {n m : Int} (h : Fd h0 h1 h2 h3 0 n) (k : m = if h0 then n + 1 else n) : Fd h0 h1 h2 h3 1 m := by
  obtain ⟨rfl⟩ := h; refine ⟨?_⟩; rw [k]; unfold found; cases h0 <;> simp
theorem step1 {h0 h1 h2 h3 : Bool} {n m : Int} (h : Fd h0 h1 h2 h3 1 n) (k : m = if h1 then n + 1 else n) : Fd h0 h1 h2 h3 2 m := by
  obtain ⟨rfl⟩ := h; refine ⟨?_⟩; rw [k]; unfold found; cases h1 <;> simp
theorem step2 {h0 h1 h2 h3 : Bool} {n m : Int} (h : Fd h0 h1 h2 h3 2 n) (k : m = if h2 then n + 1 else n) : Fd h0 h1 h2 h3 3 m := by
  obtain ⟨rfl⟩ := h; refine ⟨?_⟩; rw [k]; unfold found; cases h2 <;> simp
theorem step3 {h0 h1 h2 h3 : Bool} {n m : Int} (h : Fd h0 h1 h2 h3 3 n) (k : m = if h3 then n + 1 else n) : Fd h0 h1 h2 h3 4 m := by
  obtain ⟨rfl⟩ := h; refine ⟨?_⟩; rw [k]; unfold found; cases h3 <;> simp

set_option maxRecDepth 100000 in
set_option maxHeartbeats 32000000 in
theorem core (b0 b1 b2 b3 e0 e1 rr xx yy : Int) (small : Bool) (a b c d x y r : Int)
    (X1 : ∀ w, Calls Try.prog 12 #[boxV b0 b1 b2 b3] w fun e w' => e = .returned (boxV a b c d) ∧ Below w.heap.size w w')
    (X2 : ∀ w, Calls Try.prog 7 #[ptV e0 e1] w fun e w' => e = .returned (ptV x y) ∧ Below w.heap.size w w')
    (X3 : ∀ w, Calls Try.prog 8 #[.int .i64 rr] w fun e w' => e = .returned (.int .i64 r) ∧ Below w.heap.size w w')
    (hbd : (-536870912 ≤ a ∧ a ≤ c ∧ c ≤ 536870912) ∧ (-536870912 ≤ b ∧ b ≤ d ∧ d ≤ 536870912) ∧ (-536870912 ≤ x ∧ x ≤ 536870912 ∧ -536870912 ≤ y ∧ y ≤ 536870912) ∧ 1 ≤ r ∧ r ≤ 536870912) (w : World) :
    Calls Try.prog 5 #[boxV b0 b1 b2 b3, ptV e0 e1, .int .i64 rr, .int .i64 xx, .int .i64 yy, .bool small] w fun e w' => e = .returned (.bool true) ∧ Below w.heap.size w w' := by
  have HX1 := Lib.hid X1
  have HX2 := Lib.hid X2
  have HX3 := Lib.hid X3
  have HBD := Lib.hid hbd
  have F0 := bp_new w b0 b1 b2 b3 e0 e1 28 23
  have B0 := bel_newBP w b0 b1 b2 b3 e0 e1 28 23
  unfold newBP at F0 B0
  have F0 := Lib.hid F0
  have B0 := Lib.hid B0
  clear X1 X2 X3 hbd
  go_enter Try.func5, Try.ntmps5
  go_wp2_with fail
  generalize ((w.alloc (.cells #[.int .i64 b0, .int .i64 b1, .int .i64 b2, .int .i64 b3] 28)).alloc (.cells #[.int .i64 e0, .int .i64 e1] 23)) = V at *
  obtain ⟨⟨⟨i0, i1, i2, i3, il⟩, fr⟩, ⟨⟨j0, j1, jl⟩, fs⟩⟩ := F0.out
  have i0 := cell_regrown i0
  have i1 := cell_regrown i1
  have i2 := cell_regrown i2
  have i3 := cell_regrown i3
  have j0 := cell_regrown j0
  have j1 := cell_regrown j1
  have D1 := Lib.hid (fun p : Regrown => Calls.regrown_of (HX1.out (grow (redrawn V p.d) p.os)))
  have D2 := Lib.hid (fun p : Regrown => Calls.regrown_of (HX2.out (grow (redrawn V p.d) p.os)))
  have D3 := Lib.hid (fun p : Regrown => Calls.regrown_of (HX3.out (grow (redrawn V p.d) p.os)))
  clear HX1 HX2 HX3
  refine region_below_tail 6 (by kernel_rfl) (by kernel_rfl) ?_
  simp only [List.take_succ_cons, List.take_zero]
  repeat (go_big_quiet_step (first | with_reducible exact D1.out _ | with_reducible exact D2.out _ | with_reducible exact D3.out _))
  refine wpQuiet_nil ?_
  intro _ hw'
  obtain ⟨⟨dr, osr⟩, hw''⟩ := hw'
  subst hw''
  clear i0 i1 i2 i3 j0 j1 D1 D2 D3 il fr jl fs
  have zz := below_regrown V dr osr
  have F1 := Lib.hid (F0.out.later zz)
  have B1 := Lib.hid (bel_trans B0.out zz)
  clear F0 B0 zz
  generalize grow (redrawn V dr) osr = V1 at *
  simp only [List.drop_succ_cons, List.drop_zero]
  obtain ⟨⟨⟨i0, i1, i2, i3, il⟩, fr⟩, ⟨⟨j0, j1, jl⟩, fs⟩⟩ := F1.out
  go_upto_if 25 with (fail)
  clear i0 i1 i2 i3 il fr j0 j1 jl fs
  have F2 := F1.out.stored a b c d x y
  have B2 := bel_bp B1.out (Nat.le_refl _) a b c d x y
  unfold setBP at F2 B2
  have F2 := Lib.hid F2
  have B2 := Lib.hid B2
  clear F1 B1
  generalize ((((((V1.setCell ⟨w.heap.size, 0, none⟩ (.int .i64 a)).setCell ⟨w.heap.size, 1, none⟩ (.int .i64 b)).setCell ⟨w.heap.size, 2, none⟩ (.int .i64 c)).setCell ⟨w.heap.size, 3, none⟩ (.int .i64 d)).setCell ⟨w.heap.size + 1, 0, none⟩ (.int .i64 x)).setCell ⟨w.heap.size + 1, 1, none⟩ (.int .i64 y)) = V2 at *
  go_cut [2] (fun s2 wc => Fin w s2 wc)
  case first =>
    cases small with
    | false =>
      go_wp2
      go_meet
      exact ⟨a, b, c, d, x, y, r, rfl, HBD.out, F2.out, B2.out⟩
    | true =>
      obtain ⟨a', b', c', d', ha, hb, Y1⟩ := small_form a b c d
      obtain ⟨x', x2, x3, ex⟩ := tmod_at x 21 (by omega)
      obtain ⟨y', y2, y3, ey⟩ := tmod_at y 21 (by omega)
      obtain ⟨r', r2, r3, er⟩ := tmod_at r 25 (by omega)
      have r4 : 0 ≤ r' := by
        have := HBD.out.2.2.2
        rw [← er, Int.tmod_eq_emod_of_nonneg (by omega)]; omega
      have HB2 := Lib.hid (show ((-536870912 ≤ a' ∧ a' ≤ c' ∧ c' ≤ 536870912) ∧ (-536870912 ≤ b' ∧ b' ≤ d' ∧ d' ≤ 536870912) ∧ (-536870912 ≤ x' ∧ x' ≤ 536870912 ∧ -536870912 ≤ y' ∧ y' ≤ 536870912) ∧ 1 ≤ r' + 1 ∧ r' + 1 ≤ 536870912) by omega)
      have Y2 := Lib.hid (fun w => close_below ex ey w)
      have HY1 := Lib.hid Y1
      clear ex ey Y1 ha hb x2 x3 y2 y3
      go_wp2_with fail
      obtain ⟨⟨⟨i0, i1, i2, i3, il⟩, fr⟩, ⟨⟨j0, j1, jl⟩, fs⟩⟩ := F2.out
      have i0 := cell_regrown i0
      have i1 := cell_regrown i1
      have i2 := cell_regrown i2
      have i3 := cell_regrown i3
      have j0 := cell_regrown j0
      have j1 := cell_regrown j1
      have D1 := Lib.hid (fun p : Regrown => Calls.regrown_of (HY1.out (grow (redrawn V2 p.d) p.os)))
      have D2 := Lib.hid (fun p : Regrown => Calls.regrown_of (Y2.out (grow (redrawn V2 p.d) p.os)))
      have s1 : IntKind.i64.wrap (r' + 1) = r' + 1 := IntWalk.i64_in _ (by omega)
      clear HY1 Y2
      refine wp_region_any (by kernel_rfl) ?_
      change wpAny _ _ _ _ _ _ _ (World.drew _)
      refine any_take 4 30 (.int .i64 r) rfl rfl (by kernel_rfl) (by kernel_rfl) (by kernel_rfl) (fun _ _ _ h => h) (by rfl) (fun w => by go_simp) ?_
      refine any_take 5 31 (.int .i64 r') rfl rfl (by kernel_rfl) (by kernel_rfl) (by kernel_rfl) (fun _ _ _ h => h) (by rfl) (fun w => by go_simp) ?_
      refine any_take 6 32 (.int .i64 (r' + 1)) rfl rfl (by kernel_rfl) (by kernel_rfl) (by kernel_rfl) (fun _ _ _ h => h) (by rfl) (fun w => by go_simp) ?_
      refine any_heads_below (n := 4) (g := 3) (e := #[true, true, true, true, true, true, true, false, false, false]) (by kernel_rfl) ?_
      simp only [List.take_succ_cons, List.take_zero, Act.put, List.setIfInBounds_toArray, List.set_cons_zero, List.set_cons_succ]
      repeat (go_big_quiet_step (first | with_reducible exact D1.out _ | with_reducible exact D2.out _))
      refine wpQuiet_nil ?_
      intro _ hw'
      obtain ⟨⟨ds, oss⟩, hw''⟩ := hw'
      subst hw''
      clear i0 i1 i2 i3 j0 j1 D1 D2 il fr jl fs
      have zz := below_regrown V2 ds oss
      have F3 := Lib.hid (F2.out.later zz)
      have B3 := Lib.hid (bel_trans B2.out zz)
      clear F2 B2 zz
      generalize grow (redrawn V2 ds) oss = V3 at *
      refine any_tail (n := 7) rfl (by kernel_rfl) ?_
      simp only [List.drop_succ_cons, List.drop_zero]
      obtain ⟨⟨⟨i0, i1, i2, i3, il⟩, fr⟩, ⟨⟨j0, j1, jl⟩, fs⟩⟩ := F3.out
      go_wp2
      go_meet
      exact ⟨a', b', c', d', x', y', r' + 1, rfl, HB2.out, F3.out.stored a' b' c' d' x' y', bel_bp B3.out (Nat.le_refl _) a' b' c' d' x' y'⟩
  case rest =>
    obtain ⟨a, b, c, d, x, y, r, rfl, hbd, hF, hB⟩ := hcut
    clear F2 B2 HBD
    obtain ⟨⟨xa, xb, xc⟩, ⟨ya, yb, yc⟩, ⟨ma, mb, mc, md⟩, ra, rb⟩ := hbd
    obtain ⟨u, v, ⟨au, uc, bv, vd⟩, hI⟩ := in_form a b c d xx yy xa xb xc ya yb yc
    obtain ⟨k, hk⟩ : ∃ k, discK r (nearS a b c d x y) (mostS a b c d x y) = k := ⟨_, rfl⟩
    obtain ⟨h0, he0⟩ : ∃ h, discB r (sqI x y a b) = h := ⟨_, rfl⟩
    obtain ⟨h1, he1⟩ : ∃ h, discB r (sqI x y c b) = h := ⟨_, rfl⟩
    obtain ⟨h2, he2⟩ : ∃ h, discB r (sqI x y a d) = h := ⟨_, rfl⟩
    obtain ⟨h3, he3⟩ : ∃ h, discB r (sqI x y c d) = h := ⟨_, rfl⟩
    obtain ⟨hn, hen⟩ : ∃ h, discB r (sqI x y (nearI x a c) (nearI y b d)) = h := ⟨_, rfl⟩
    obtain ⟨hp, hep⟩ : ∃ h, discB r (sqI x y u v) = h := ⟨_, rfl⟩
    have SC := Lib.hid (fun n hf => sure_cases (n := n) ra xb yb au uc bv vd hk he0 he1 he2 he3 hen hep hf)
    obtain ⟨k1, hk1⟩ : ∃ k, (if x < a then a else x) = k := ⟨_, rfl⟩
    obtain ⟨nx, hnx⟩ : ∃ m, (if c < k1 then c else k1) = m := ⟨_, rfl⟩
    obtain ⟨k2, hk2⟩ : ∃ l, (if y < b then b else y) = l := ⟨_, rfl⟩
    obtain ⟨ny, hny⟩ : ∃ n, (if d < k2 then d else k2) = n := ⟨_, rfl⟩
    have em : nearI x a c = nx := by unfold nearI mxI mnI; rw [hk1, hnx]
    have en : nearI y b d = ny := by unfold nearI mxI mnI; rw [hk2, hny]
    have im := nearI_in x xb
    have inn := nearI_in y yb
    rw [em] at im
    rw [en] at inn
    rw [em, en] at hen
    have CK := Lib.hid (fun w => class_is hk xa xb xc ya yb yc ma mb mc md (by omega) w)
    have CI := Lib.hid hI
    have CC := Lib.hid (fun w => refCorners_any a b c d w)
    have CH0 := Lib.hid (fun w => discHas_is he0 (by omega) (by omega) (by omega) (by omega) ma mb mc md (by omega) w)
    have CH1 := Lib.hid (fun w => discHas_is he1 (by omega) (by omega) (by omega) (by omega) ma mb mc md (by omega) w)
    have CH2 := Lib.hid (fun w => discHas_is he2 (by omega) (by omega) (by omega) (by omega) ma mb mc md (by omega) w)
    have CH3 := Lib.hid (fun w => discHas_is he3 (by omega) (by omega) (by omega) (by omega) ma mb mc md (by omega) w)
    have CN := Lib.hid (fun w => discHas_is hen (by omega) (by omega) (by omega) (by omega) ma mb mc md (by omega) w)
    have CP := Lib.hid (fun w => discHas_is hep (by omega) (by omega) (by omega) (by omega) ma mb mc md (by omega) w)
    have HK1 := Lib.hid hk1
    have HNX := Lib.hid hnx
    have HK2 := Lib.hid hk2
    have HNY := Lib.hid hny
    clear hk he0 he1 he2 he3 hen hep hk1 hnx hk2 hny em en im inn hI au uc bv vd xa xb xc ya yb yc ma mb mc md ra rb
    have X := Lib.hid hF.b.at_
    have C := Lib.hid hF.c.at_
    have B := Lib.hid hB
    clear hF hB
    obtain ⟨i0, i1, i2, i3, il⟩ := X.out
    go_wp2_with fail
    refine (CI.out _).mono ?_; rintro e w1 ⟨rfl, z1⟩
    have X1 := Lib.hid ((X.out.later z1).alloc (.cells #[.int .i64 u, .int .i64 v] 23))
    have C1 := Lib.hid ((C.out.later z1).alloc (.cells #[.int .i64 u, .int .i64 v] 23))
    have P1 := Lib.hid (ptAt_new w1 u v 23)
    have B1 := Lib.hid (bel_alloc (bel_trans B.out z1) (.cells #[.int .i64 u, .int .i64 v] 23))
    clear z1 i0 i1 i2 i3 il X C B CI
    obtain ⟨m, hm⟩ : ∃ m, w1.heap.size = m := ⟨_, rfl⟩
    go_upto_region 5 with (fail)
    rw [hm] at P1
    generalize w1.alloc (.cells #[.int .i64 u, .int .i64 v] 23) = W1 at *
    try rw [hm]
    clear hm
    obtain ⟨i0, i1, i2, i3, il⟩ := X1.out
    obtain ⟨j0, j1, jl⟩ := C1.out
    go_wp2_with fail
    refine (CK.out _).mono ?_; rintro e w2 ⟨rfl, z2⟩
    have X2 := Lib.hid (X1.out.later z2)
    have C2 := Lib.hid (C1.out.later z2)
    have P2 := Lib.hid (P1.out.later z2)
    have B2 := Lib.hid (bel_trans B1.out z2)
    clear z2 i0 i1 i2 i3 il j0 j1 jl X1 C1 P1 B1 CK
    obtain ⟨i0, i1, i2, i3, il⟩ := X2.out
    go_wp2_with fail
    refine (CC.out _).mono ?_; rintro e w3 ⟨rfl, z3⟩
    have S3 := St.mk (n := w.heap.size) ((X2.out.later z3).alloc (.cells #[.int .i64 a, .int .i64 b, .int .i64 c, .int .i64 b, .int .i64 a, .int .i64 d, .int .i64 c, .int .i64 d] 37)) ((C2.out.later z3).alloc _) ((P2.out.later z3).alloc _) (eightAt_new w3 a b c d 37)
    have B3 := Lib.hid (bel_alloc (bel_trans B2.out z3) (.cells #[.int .i64 a, .int .i64 b, .int .i64 c, .int .i64 b, .int .i64 a, .int .i64 d, .int .i64 c, .int .i64 d] 37))
    clear z3 i0 i1 i2 i3 il X2 C2 P2 B2 CC
    obtain ⟨g, hg⟩ : ∃ g, w3.heap.size = g := ⟨_, rfl⟩
    rw [hg] at S3
    have S3 := Lib.hid S3
    go_upto_region 7 with (fail)
    generalize w3.alloc (.cells #[.int .i64 a, .int .i64 b, .int .i64 c, .int .i64 b, .int .i64 a, .int .i64 d, .int .i64 c, .int .i64 d] 37) = W3 at *
    try rw [hg]
    clear hg
    go_wp2_with fail
    go_loopw [16, 17] (fun sn si wr => HeadAt w m g a b c d x y u v h0 h1 h2 h3 sn si wr) (fun _ si _ => (4 - intOf si).toNat)
    case atStart => exact ⟨0, rfl, .inl ⟨rfl, ⟨rfl⟩⟩, S3.out, B3.out⟩
    case round =>
      obtain ⟨n, rfl, hc, hS, hB⟩ := hrel
      clear S3 B3
      have S := Lib.hid hS
      have B := Lib.hid hB
      clear hS hB
      rcases hc with ⟨rfl, hF⟩ | ⟨rfl, hF⟩ | ⟨rfl, hF⟩ | ⟨rfl, hF⟩ | ⟨rfl, hF⟩
      · obtain ⟨n0, n4⟩ : 0 ≤ n ∧ n ≤ 4 := by rw [hF.eq]; exact found_bd h0 h1 h2 h3 0
        obtain ⟨n', hn'⟩ : ∃ n' : Int, n' = if h0 then n + 1 else n := ⟨_, rfl⟩
        have hF2 := Lib.hid (step0 hF hn')
        have hn' := Lib.hid hn'
        clear hF
        obtain ⟨_, ⟨j0, j1, jl⟩, _, ⟨g0, g1, g2, g3, g4, g5, g6, g7, gl⟩⟩ := S.out
        go_wp2_with fail
        have j0 := cell_regrown j0
        have j1 := cell_regrown j1
        have r0 := cell_regrown g0
        have r1 := cell_regrown g1
        clear jl g0 g1 g2 g3 g4 g5 g6 g7 gl
        have D1 := Lib.hid (fun p : Regrown => Calls.regrown_of (CH0.out (grow (redrawn wr p.d) p.os)))
        refine wp_region_quiet_below (by kernel_rfl) (by kernel_rfl) ?_
        repeat (go_big_quiet_step (with_reducible exact D1.out _))
        refine wpQuiet_nil ?_
        intro _ hw'
        obtain ⟨⟨dt, ost⟩, hw''⟩ := hw'
        subst hw''
        clear r0 r1 j0 j1 D1
        have zz := below_regrown wr dt ost
        have S2 := Lib.hid (S.out.later zz)
        have B2 := Lib.hid (bel_trans B.out zz)
        clear S B zz
        generalize grow (redrawn wr dt) ost = U at *
        cases h0
        all_goals
          go_wp2_with fail
          go_roundw
          case rel => exact ⟨n', by rw [hn'.out]; rfl, .inr (.inl ⟨rfl, hF2.out⟩), S2.out, B2.out⟩
          case measure => simp [intOf]
      · obtain ⟨n0, n4⟩ : 0 ≤ n ∧ n ≤ 4 := by rw [hF.eq]; exact found_bd h0 h1 h2 h3 1
        obtain ⟨n', hn'⟩ : ∃ n' : Int, n' = if h1 then n + 1 else n := ⟨_, rfl⟩
        have hF2 := Lib.hid (step1 hF hn')
        have hn' := Lib.hid hn'
        clear hF
        obtain ⟨_, ⟨j0, j1, jl⟩, _, ⟨g0, g1, g2, g3, g4, g5, g6, g7, gl⟩⟩ := S.out
        go_wp2_with fail
        have j0 := cell_regrown j0
        have j1 := cell_regrown j1
        have r0 := cell_regrown g2
        have r1 := cell_regrown g3
        clear jl g0 g1 g2 g3 g4 g5 g6 g7 gl
        have D1 := Lib.hid (fun p : Regrown => Calls.regrown_of (CH1.out (grow (redrawn wr p.d) p.os)))
        refine wp_region_quiet_below (by kernel_rfl) (by kernel_rfl) ?_
        repeat (go_big_quiet_step (with_reducible exact D1.out _))
        refine wpQuiet_nil ?_
        intro _ hw'
        obtain ⟨⟨dt, ost⟩, hw''⟩ := hw'
        subst hw''
        clear r0 r1 j0 j1 D1
        have zz := below_regrown wr dt ost
        have S2 := Lib.hid (S.out.later zz)
        have B2 := Lib.hid (bel_trans B.out zz)
        clear S B zz
        generalize grow (redrawn wr dt) ost = U at *
        cases h1
        all_goals
          go_wp2_with fail
          go_roundw
          case rel => exact ⟨n', by rw [hn'.out]; rfl, .inr (.inr (.inl ⟨rfl, hF2.out⟩)), S2.out, B2.out⟩
          case measure => simp [intOf]
      · obtain ⟨n0, n4⟩ : 0 ≤ n ∧ n ≤ 4 := by rw [hF.eq]; exact found_bd h0 h1 h2 h3 2
        obtain ⟨n', hn'⟩ : ∃ n' : Int, n' = if h2 then n + 1 else n := ⟨_, rfl⟩
        have hF2 := Lib.hid (step2 hF hn')
        have hn' := Lib.hid hn'
        clear hF
        obtain ⟨_, ⟨j0, j1, jl⟩, _, ⟨g0, g1, g2, g3, g4, g5, g6, g7, gl⟩⟩ := S.out
        go_wp2_with fail
        have j0 := cell_regrown j0
        have j1 := cell_regrown j1
        have r0 := cell_regrown g4
        have r1 := cell_regrown g5
        clear jl g0 g1 g2 g3 g4 g5 g6 g7 gl
        have D1 := Lib.hid (fun p : Regrown => Calls.regrown_of (CH2.out (grow (redrawn wr p.d) p.os)))
        refine wp_region_quiet_below (by kernel_rfl) (by kernel_rfl) ?_
        repeat (go_big_quiet_step (with_reducible exact D1.out _))
        refine wpQuiet_nil ?_
        intro _ hw'
        obtain ⟨⟨dt, ost⟩, hw''⟩ := hw'
        subst hw''
        clear r0 r1 j0 j1 D1
        have zz := below_regrown wr dt ost
        have S2 := Lib.hid (S.out.later zz)
        have B2 := Lib.hid (bel_trans B.out zz)
        clear S B zz
        generalize grow (redrawn wr dt) ost = U at *
        cases h2
        all_goals
          go_wp2_with fail
          go_roundw
          case rel => exact ⟨n', by rw [hn'.out]; rfl, .inr (.inr (.inr (.inl ⟨rfl, hF2.out⟩))), S2.out, B2.out⟩
          case measure => simp [intOf]
      · obtain ⟨n0, n4⟩ : 0 ≤ n ∧ n ≤ 4 := by rw [hF.eq]; exact found_bd h0 h1 h2 h3 3
        obtain ⟨n', hn'⟩ : ∃ n' : Int, n' = if h3 then n + 1 else n := ⟨_, rfl⟩
        have hF2 := Lib.hid (step3 hF hn')
        have hn' := Lib.hid hn'
        clear hF
        obtain ⟨_, ⟨j0, j1, jl⟩, _, ⟨g0, g1, g2, g3, g4, g5, g6, g7, gl⟩⟩ := S.out
        go_wp2_with fail
        have j0 := cell_regrown j0
        have j1 := cell_regrown j1
        have r0 := cell_regrown g6
        have r1 := cell_regrown g7
        clear jl g0 g1 g2 g3 g4 g5 g6 g7 gl
        have D1 := Lib.hid (fun p : Regrown => Calls.regrown_of (CH3.out (grow (redrawn wr p.d) p.os)))
        refine wp_region_quiet_below (by kernel_rfl) (by kernel_rfl) ?_
        repeat (go_big_quiet_step (with_reducible exact D1.out _))
        refine wpQuiet_nil ?_
        intro _ hw'
        obtain ⟨⟨dt, ost⟩, hw''⟩ := hw'
        subst hw''
        clear r0 r1 j0 j1 D1
        have zz := below_regrown wr dt ost
        have S2 := Lib.hid (S.out.later zz)
        have B2 := Lib.hid (bel_trans B.out zz)
        clear S B zz
        generalize grow (redrawn wr dt) ost = U at *
        cases h3
        all_goals
          go_wp2_with fail
          go_roundw
          case rel => exact ⟨n', by rw [hn'.out]; rfl, .inr (.inr (.inr (.inr (⟨rfl, hF2.out⟩)))), S2.out, B2.out⟩
          case measure => simp [intOf]
      · have hcase := SC.out n hF.eq
        clear hF SC CH0 CH1 CH2 CH3
        obtain ⟨⟨i0, i1, i2, i3, il⟩, ⟨j0, j1, jl⟩, ⟨p0, p1, pl⟩, _⟩ := S.out
        have hk1 := HK1.out
        have hnx := HNX.out
        have hk2 := HK2.out
        have hny := HNY.out
        go_upto_region 14 with (fail)
        have S1 := Lib.hid (S.out.alloc (.cells #[.int .i64 nx, .int .i64 ny] 23))
        have N1 := Lib.hid (ptAt_new wr nx ny 23)
        have B1 := Lib.hid (bel_alloc B.out (.cells #[.int .i64 nx, .int .i64 ny] 23))
        clear i0 i1 i2 i3 il j0 j1 jl p0 p1 pl hk1 hnx hk2 hny HK1 HNX HK2 HNY S B
        obtain ⟨q, hq⟩ : ∃ q, wr.heap.size = q := ⟨_, rfl⟩
        rw [hq] at N1
        generalize wr.alloc (.cells #[.int .i64 nx, .int .i64 ny] 23) = W at *
        rw [hq]
        clear hq
        obtain ⟨_, ⟨j0, j1, jl⟩, _, _⟩ := S1.out
        obtain ⟨q0, q1, ql⟩ := N1.out
        rcases hcase with ⟨rfl, hn4, rfl, rfl⟩ | ⟨rfl, hn4, rfl, rfl⟩ | ⟨rfl, hn4, rfl⟩
        · go_wp2_with fail
          refine (CN.out _).mono ?_; rintro e w2 ⟨rfl, z2⟩
          have S2 := Lib.hid (S1.out.later z2)
          have B2 := Lib.hid (bel_trans B1.out z2)
          clear z2 S1 B1 j0 j1 jl q0 q1 ql
          obtain ⟨_, ⟨j0, j1, jl⟩, ⟨p0, p1, pl⟩, _⟩ := S2.out
          go_wp2_with fail
          refine (CP.out _).mono ?_; rintro e w3 ⟨rfl, z3⟩
          go_wp2_with fail
          refine (awake_any _).mono ?_; rintro e w4 ⟨rfl, z4⟩
          go_wp2
          go_ret
          exact ⟨rfl, bel_trans (bel_trans B2.out z3) z4⟩
        · go_wp2_with fail
          refine (CN.out _).mono ?_; rintro e w2 ⟨rfl, z2⟩
          have S2 := Lib.hid (S1.out.later z2)
          have B2 := Lib.hid (bel_trans B1.out z2)
          clear z2 S1 B1 j0 j1 jl q0 q1 ql
          obtain ⟨_, ⟨j0, j1, jl⟩, ⟨p0, p1, pl⟩, _⟩ := S2.out
          go_wp2_with fail
          refine (CP.out _).mono ?_; rintro e w3 ⟨rfl, z3⟩
          go_wp2_with fail
          refine (awake_any _).mono ?_; rintro e w4 ⟨rfl, z4⟩
          go_wp2
          go_ret
          exact ⟨rfl, bel_trans (bel_trans B2.out z3) z4⟩
        · go_wp2_with fail
          refine (CN.out _).mono ?_; rintro e w2 ⟨rfl, z2⟩
          go_wp2_with fail
          refine (awake_any _).mono ?_; rintro e w4 ⟨rfl, z4⟩
          go_wp2
          go_ret
          exact ⟨rfl, bel_trans (bel_trans B1.out z2) z4⟩
theorem walk (b0 b1 b2 b3 e0 e1 rr xx yy : Int) (small : Bool) (_ : -9223372036854775808 ≤ b0) (_ : b0 ≤ 9223372036854775807) (_ : -9223372036854775808 ≤ b1) (_ : b1 ≤ 9223372036854775807) (_ : -9223372036854775808 ≤ b2) (_ : b2 ≤ 9223372036854775807) (_ : -9223372036854775808 ≤ b3) (_ : b3 ≤ 9223372036854775807) (_ : -9223372036854775808 ≤ e0) (_ : e0 ≤ 9223372036854775807) (_ : -9223372036854775808 ≤ e1) (_ : e1 ≤ 9223372036854775807) (_ : -9223372036854775808 ≤ rr) (_ : rr ≤ 9223372036854775807) (_ : -9223372036854775808 ≤ xx) (_ : xx ≤ 9223372036854775807) (_ : -9223372036854775808 ≤ yy) (_ : yy ≤ 9223372036854775807) (w : World) :
    Calls Try.prog 5 #[boxV b0 b1 b2 b3, ptV e0 e1, .int .i64 rr, .int .i64 xx, .int .i64 yy, .bool small] w fun e w' => e = .returned (.bool true) ∧ Below w.heap.size w w' := by
  obtain ⟨a, b, c, d, h1, h2, h3, h4, h5, h6, X1⟩ := boxT_form b0 b1 b2 b3
  obtain ⟨x, y, k1, k2, k3, k4, X2⟩ := pt_form e0 e1
  obtain ⟨r, r1, r2, X3⟩ := r_form rr
  exact core b0 b1 b2 b3 e0 e1 rr xx yy small a b c d x y r X1 (fun w => pt_below X2 w) (fun w => r_below X3 w) ⟨⟨h1, h2, h3⟩, ⟨h4, h5, h6⟩, ⟨k1, k2, k3, k4⟩, r1, r2⟩ w
theorem own : ownKnob Try.prog.godebug = none := by kernel_rfl
set_option maxRecDepth 100000 in
set_option maxHeartbeats 4000000 in
theorem lifted (os : Os) (started : os.Started) (H : Type) (enc : TypeId × Value → H) :
    ReturnsInHanded {} Try.checked os 5 .any (Rows.discSureSpec.pre6 enc Try.prog Try.f5 Rows.discSureRow.domain false) (Rows.discSureSpec.post enc Try.prog Try.f5 false true false false) := by
  refine returnsInHanded_of_change (C := Try.checked) own started (by kernel_rfl) Try.func5
    (ChangeSpec.witness6 (enc := enc) (C := Try.checked) false ⟨#[], #[.agg #[.int .i64 0, .int .i64 0, .int .i64 0, .int .i64 0], .agg #[.int .i64 0, .int .i64 0], .int .i64 0, .int .i64 0, .int .i64 0, .bool false], []⟩ 8 (by kernel_rfl) (by kernel_rfl) (by kernel_rfl) (by kernel_rfl)) ?_
  intro W base args ds gs before hval0 hW _ _
  have hval : ∀ (j : Nat) t v, Try.f5.params[j]? = some t → args[j]? = some v → Value.okWide Try.prog W .any base t v := hval0
  have hW' := hW
  obtain ⟨p, q, hA0, hV, rfl, hfz, hnd⟩ := hW
  have hA : DataW.TrodAll enc Try.prog W 0 (fun _ => true) true Try.f5.params.toList args.toList ds p := hA0
  rw [Try.params5] at hA hval
  obtain ⟨v0, vs0, d0, ds0, p0, q0, hargs, rfl, rfl, h0, r0⟩ := trodAll_cons hA
  obtain ⟨v1, vs1, d1, ds1, p1, q1, rfl, rfl, rfl, h1, r1⟩ := trodAll_cons r0
  obtain ⟨v2, vs2, d2, ds2, p2, q2, rfl, rfl, rfl, h2, r2⟩ := trodAll_cons r1
  obtain ⟨v3, vs3, d3, ds3, p3, q3, rfl, rfl, rfl, h3, r3⟩ := trodAll_cons r2
  obtain ⟨v4, vs4, d4, ds4, p4, q4, rfl, rfl, rfl, h4, r4⟩ := trodAll_cons r3
  obtain ⟨v5, vs5, d5, ds5, p5, q5, rfl, rfl, rfl, h5, r5⟩ := trodAll_cons r4
  obtain ⟨rfl, rfl, rfl⟩ := trodAll_nil r5
  obtain rfl : args = #[v0, v1, v2, v3, v4, v5] := by cases args; simp_all
  obtain ⟨rfl, rfl⟩ := trodVars_none hV
  obtain ⟨c0_0, c0_1, c0_2, c0_3, y0_0, y0_1, y0_2, y0_3, m0, rfl, rfl, rfl, k0_0, k0_1, k0_2, k0_3⟩ := open_agg4 Try.underlying28 (by kernel_rfl) (by kernel_rfl) (hval 0 28 v0 rfl rfl) h0
  obtain ⟨a0_0, ea0_0, rfl, wa0_0⟩ := DataW.trod_int Try.underlying2 k0_0
  simp at ea0_0; subst ea0_0
  obtain ⟨a0_1, ea0_1, rfl, wa0_1⟩ := DataW.trod_int Try.underlying2 k0_1
  simp at ea0_1; subst ea0_1
  obtain ⟨a0_2, ea0_2, rfl, wa0_2⟩ := DataW.trod_int Try.underlying2 k0_2
  simp at ea0_2; subst ea0_2
  obtain ⟨a0_3, ea0_3, rfl, wa0_3⟩ := DataW.trod_int Try.underlying2 k0_3
  simp at ea0_3; subst ea0_3
  obtain ⟨c1_0, c1_1, y1_0, y1_1, m1, rfl, rfl, rfl, k1_0, k1_1⟩ := open_agg2 Try.underlying23 (by kernel_rfl) (by kernel_rfl) (hval 1 23 v1 rfl rfl) h1
  obtain ⟨a1_0, ea1_0, rfl, wa1_0⟩ := DataW.trod_int Try.underlying2 k1_0
  simp at ea1_0; subst ea1_0
  obtain ⟨a1_1, ea1_1, rfl, wa1_1⟩ := DataW.trod_int Try.underlying2 k1_1
  simp at ea1_1; subst ea1_1
  obtain ⟨a2, rfl, rfl, rfl, w2⟩ := open_int Try.underlying2 (hval 2 2 v2 rfl rfl) h2
  obtain ⟨a3, rfl, rfl, rfl, w3⟩ := open_int Try.underlying2 (hval 3 2 v3 rfl rfl) h3
  obtain ⟨a4, rfl, rfl, rfl, w4⟩ := open_int Try.underlying2 (hval 4 2 v4 rfl rfl) h4
  obtain ⟨a5, rfl, rfl, rfl⟩ := open_bool Try.underlying4 (hval 5 4 v5 rfl rfl) h5
  have s0 : ∀ (W' : World) (sp : Nat → Bool), DataW.Trod enc Try.prog W' 0 sp true 28 (.agg #[.int .i64 a0_0, .int .i64 a0_1, .int .i64 a0_2, .int .i64 a0_3]) (.agg [.lit (.int .i64 a0_0), .lit (.int .i64 a0_1), .lit (.int .i64 a0_2), .lit (.int .i64 a0_3)]) [] := fun W' sp =>
    shut_agg4 (y0 := (.lit (.int .i64 a0_0), [])) (y1 := (.lit (.int .i64 a0_1), [])) (y2 := (.lit (.int .i64 a0_2), [])) (y3 := (.lit (.int .i64 a0_3), [])) Try.underlying28 (by kernel_rfl) (by kernel_rfl) ⟨1, by simp [DataW.trod, Try.underlying2, wa0_0]⟩ ⟨1, by simp [DataW.trod, Try.underlying2, wa0_1]⟩ ⟨1, by simp [DataW.trod, Try.underlying2, wa0_2]⟩ ⟨1, by simp [DataW.trod, Try.underlying2, wa0_3]⟩
  have s1 : ∀ (W' : World) (sp : Nat → Bool), DataW.Trod enc Try.prog W' 0 sp true 23 (.agg #[.int .i64 a1_0, .int .i64 a1_1]) (.agg [.lit (.int .i64 a1_0), .lit (.int .i64 a1_1)]) [] := fun W' sp =>
    shut_agg2 (y0 := (.lit (.int .i64 a1_0), [])) (y1 := (.lit (.int .i64 a1_1), [])) Try.underlying23 (by kernel_rfl) (by kernel_rfl) ⟨1, by simp [DataW.trod, Try.underlying2, wa1_0]⟩ ⟨1, by simp [DataW.trod, Try.underlying2, wa1_1]⟩
  clear hA0 hval0
  simp only [List.append_nil] at hW'
  refine (walk a0_0 a0_1 a0_2 a0_3 a1_0 a1_1 a2 a3 a4 a5 (bounds_i64 wa0_0).1 (bounds_i64 wa0_0).2 (bounds_i64 wa0_1).1 (bounds_i64 wa0_1).2 (bounds_i64 wa0_2).1 (bounds_i64 wa0_2).2 (bounds_i64 wa0_3).1 (bounds_i64 wa0_3).2 (bounds_i64 wa1_0).1 (bounds_i64 wa1_0).2 (bounds_i64 wa1_1).1 (bounds_i64 wa1_1).2 (bounds_i64 w2).1 (bounds_i64 w2).2 (bounds_i64 w3).1 (bounds_i64 w3).2 (bounds_i64 w4).1 (bounds_i64 w4).2 W).mono fun e W' ⟨he, bel⟩ => ?_
  subst he
  exact ⟨_, rfl, _, _, _, [], _, [], hW', trodAll_mk1 (shut_bool Try.underlying4 _), (trodAll_cons_mk (s0 _ _) (trodAll_cons_mk (s1 _ _) (trodAll_cons_mk (shut_int Try.underlying2 w2) (trodAll_cons_mk (shut_int Try.underlying2 w3) (trodAll_cons_mk (shut_int Try.underlying2 w4) (trodAll_cons_mk (shut_bool Try.underlying4 a5) trodAll_mk0)))))), rfl, bel.frame _, fun h => by cases h⟩
theorem over : Rows.discSureRow.holds Try.pinned (OpenSpec.ofChange Rows.discSureSpec) :=
  OpenClaim.holds_of_wide 5 Try.f5 rfl rfl rfl rfl rfl rfl rfl ⟨rfl, rfl, rfl, rfl, rfl⟩ rfl rfl rfl rfl rfl (by kernel_rfl) Try.func5 (by kernel_rfl)
    (of_decide_eq_true (by kernel_rfl)) (by unfold Func.isWrapper; first | (rw [if_pos (by decide +kernel)]; kernel_rfl) | (rw [if_neg (by decide +kernel)]; exact ⟨rfl, rfl⟩))
    (fun os started H enc _ => lifted os started H enc)
theorem proved : Rows.DiscSureSaid := over
#print axioms proved
end Go.Proofs.Ytmbegglkinlgdaa.discSure
