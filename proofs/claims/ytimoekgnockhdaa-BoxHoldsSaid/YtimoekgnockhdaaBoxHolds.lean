/- No point of a box is nearer than Near or farther than Most, Near is 0 just at the points of the box, the quarters are boxes within it whose corners are its own, every point of it is in one of them, and a segment that begins in it meets it: for every box and points that the law makes of any eight numbers of 64 bits. No condition. -/
import Derived.Test.YtimoekgnockhdaaRows
import Derived.Test.YtimoekgnockhdaaAwake4
import Derived.Test.YtimoekgnockhdaaTame4
import Derived.Test.YtimoekgnockhdaaQuietTail
import Derived.Test.YtimoekgnockhdaaHoldMath
import Derived.ProofKit
import Derived.OpenShut
import Derived.ShutString
import Derived.ChangeOld
import Derived.Below
import Derived.Lib.SmallJoins
import Derived.Lib.QuietBelow
import Derived.BigQuiet
import Derived.IntWalk
import Derived.Deep.RegionHeld3
namespace Go.Proofs.Ytimoekgnockhdaa.boxHolds
open Go.ChangeShapes Go.WideShapes Go.ChangeAt Go.RowKit Go.Joins
open Go.Sort (grow)

/-- The box, the other point and the point of the box, in their blocks. -/
structure Three (n m : Nat) (a b c d x y u v : Int) (wr : World) : Prop where
  b : BoxAt wr n a b c d
  p : PtAt wr (n + 1) x y
  q : PtAt wr m u v
theorem Three.later {n m : Nat} {w w1 : World} {a b c d x y u v : Int} (h : Three n m a b c d x y u v w) (k : Below w.heap.size w w1) : Three n m a b c d x y u v w1 := ⟨h.b.later k, h.p.later k, h.q.later k⟩
theorem Three.alloc {n m : Nat} {w : World} {a b c d x y u v : Int} (h : Three n m a b c d x y u v w) (o : Obj) : Three n m a b c d x y u v (w.alloc o) := h.later (bel_alloc (bel_refl w) o)
theorem pt_below {a b x y : Int} (h : ∀ w, Calls Try.prog 11 #[ptV a b] w fun e w' => e = .returned (ptV x y) ∧ (w.alloc (.cells #[.int .i64 a, .int .i64 b] 26)).alloc (.cells #[.int .i64 x, .int .i64 y] 26) = w') (w : World) :
    Calls Try.prog 11 #[ptV a b] w fun e w' => e = .returned (ptV x y) ∧ Below w.heap.size w w' := (h w).mono fun _ _ k => ⟨k.1, k.2 ▸ bel_alloc (bel_alloc (bel_refl w) _) _⟩
theorem has_is {a b c d x y : Int} {r : Bool} (h : hasB a b c d x y = r) (w : World) :
    Calls Try.prog 8 #[boxV a b c d, ptV x y] w fun e w' => e = .returned (.bool r) ∧ Below w.heap.size w w' := h ▸ has_any a b c d x y w
/-- The remainder of a number of 64 bits as an offset into a side. -/
theorem rem_at (e D : Int) (hD : 1 ≤ D) (hD' : D ≤ 1073741825) : ∃ ux r : Int, IntKind.u64.wrap e = ux ∧ 0 ≤ ux ∧ ux ≤ 18446744073709551615 ∧ ux.tmod D = r ∧ ux % D = r ∧ 0 ≤ r ∧ r < D := by
  have h0 : 0 ≤ IntKind.u64.wrap e ∧ IntKind.u64.wrap e ≤ 18446744073709551615 := by rw [IntKind.wrap_u64]; omega
  refine ⟨_, _, rfl, h0.1, h0.2, Int.tmod_eq_emod_of_nonneg h0.1, rfl, Int.emod_nonneg _ (by omega), Int.emod_lt_of_pos _ (by omega)⟩

/-- The head of a round where the box can't be split: there is none. -/
def NoneAt (w : World) (m : Nat) (a b c d x y u v : Int) (sn si : Value) (wr : World) : Prop := sn = .int .i64 0 ∧ si = .int .i64 0 ∧ Three w.heap.size m a b c d x y u v wr ∧ Below w.heap.size w wr
/-- How many have been found. -/
structure Fd (h0 h1 h2 h3 : Bool) (j : Nat) (n : Int) : Prop where
  eq : n = found h0 h1 h2 h3 j
/-- The head of a round: how many quarters before it have the point, and the row of quarters. -/
def HoldAt (w : World) (m g : Nat) (a b c d x y u v X Y : Int) (h0 h1 h2 h3 : Bool) (sn si : Value) (wr : World) : Prop :=
  ∃ n : Int, sn = .int .i64 n ∧ ((si = .int .i64 0 ∧ Fd h0 h1 h2 h3 0 n) ∨ (si = .int .i64 1 ∧ Fd h0 h1 h2 h3 1 n) ∨ (si = .int .i64 2 ∧ Fd h0 h1 h2 h3 2 n) ∨ (si = .int .i64 3 ∧ Fd h0 h1 h2 h3 3 n) ∨ (si = .int .i64 4 ∧ Fd h0 h1 h2 h3 4 n)) ∧
    Three w.heap.size m a b c d x y u v wr ∧ wr.heap[g]? = some (.cells #[.int .i64 a, .int .i64 b, .int .i64 X, .int .i64 Y, .int .i64 X, .int .i64 b, .int .i64 c, .int .i64 Y, .int .i64 a, .int .i64 Y, .int .i64 X, .int .i64 d, .int .i64 X, .int .i64 Y, .int .i64 c, .int .i64 d] 30 (0, 0)) ∧ Below w.heap.size w wr
theorem step0 {h0 h1 h2 h3 : Bool} {n m : Int} (h : Fd h0 h1 h2 h3 0 n) (k : m = if h0 then n + 1 else n) : Fd h0 h1 h2 h3 1 m := by
  obtain ⟨rfl⟩ := h; refine ⟨?_⟩; rw [k]; unfold found; cases h0 <;> simp
theorem step1 {h0 h1 h2 h3 : Bool} {n m : Int} (h : Fd h0 h1 h2 h3 1 n) (k : m = if h1 then n + 1 else n) : Fd h0 h1 h2 h3 2 m := by
  obtain ⟨rfl⟩ := h; refine ⟨?_⟩; rw [k]; unfold found; cases h1 <;> simp
theorem step2 {h0 h1 h2 h3 : Bool} {n m : Int} (h : Fd h0 h1 h2 h3 2 n) (k : m = if h2 then n + 1 else n) : Fd h0 h1 h2 h3 3 m := by
  obtain ⟨rfl⟩ := h; refine ⟨?_⟩; rw [k]; unfold found; cases h2 <;> simp
theorem step3 {h0 h1 h2 h3 : Bool} {n m : Int} (h : Fd h0 h1 h2 h3 3 n) (k : m = if h3 then n + 1 else n) : Fd h0 h1 h2 h3 4 m := by
  obtain ⟨rfl⟩ := h; refine ⟨?_⟩; rw [k]; unfold found; cases h3 <;> simp

set_option maxRecDepth 100000 in
set_option maxHeartbeats 16000000 in
theorem core (b0 b1 b2 b3 e f p0 p1 a b c d x y ux uy rx ry u v dd nr ms : Int) (hp : Bool)
    (X1 : ∀ w, Calls Try.prog 20 #[boxV b0 b1 b2 b3] w fun e w' => e = .returned (boxV a b c d) ∧ Below w.heap.size w w')
    (X2 : ∀ w, Calls Try.prog 11 #[ptV p0 p1] w fun e w' => e = .returned (ptV x y) ∧ Below w.heap.size w w')
    (a0 : -536870912 ≤ a) (ac : a ≤ c) (c1 : c ≤ 536870912) (b0' : -536870912 ≤ b) (bd : b ≤ d) (d1 : d ≤ 536870912) (x0 : -536870912 ≤ x) (x1 : x ≤ 536870912) (y0 : -536870912 ≤ y) (y1 : y ≤ 536870912)
    (hux : IntKind.u64.wrap e = ux) (ux0 : 0 ≤ ux) (ux1 : ux ≤ 18446744073709551615) (hrx : ux.tmod (c - a + 1) = rx) (hrx' : ux % (c - a + 1) = rx) (rx0 : 0 ≤ rx) (rx1 : rx < c - a + 1) (hu : a + rx = u)
    (huy : IntKind.u64.wrap f = uy) (uy0 : 0 ≤ uy) (uy1 : uy ≤ 18446744073709551615) (hry : uy.tmod (d - b + 1) = ry) (hry' : uy % (d - b + 1) = ry) (ry0 : 0 ≤ ry) (ry1 : ry < d - b + 1) (hv : b + ry = v)
    (hdd : (x - u) * (x - u) + (y - v) * (y - v) = dd) (hnr : nearS a b c d x y = nr) (hms : mostS a b c d x y = ms) (hhp : hasB a b c d x y = hp) (w : World) :
    Calls Try.prog 6 #[boxV b0 b1 b2 b3, .int .i64 e, .int .i64 f, ptV p0 p1] w fun e w' => e = .returned (.bool true) ∧ Below w.heap.size w w' := by
  have au : a ≤ u := by omega
  have uc : u ≤ c := by omega
  have bv : b ≤ v := by omega
  have vd : v ≤ d := by omega
  have t1 : decide (dd < nr) = false := decide_eq_false (by have := near_le (x := x) (y := y) ac bd au uc bv vd; omega)
  have t2 : decide (ms < dd) = false := decide_eq_false (by have := most_ge (x := x) (y := y) au uc bv vd; omega)
  have t3 : (nr == 0) = hp := by rw [← hnr, ← hhp]; exact near_zero ac bd
  have T1 := Lib.hid t1
  have T2 := Lib.hid t2
  have T3 := Lib.hid t3
  have HX1 := Lib.hid X1
  have HX2 := Lib.hid X2
  have C1 := Lib.hid (fun w => has_is (hasB_yes au uc bv vd) w)
  have C2 := Lib.hid (fun w => hnr ▸ near_any a b c d x y a0 ac c1 b0' bd d1 x0 x1 y0 y1 w)
  have C3 := Lib.hid (fun w => hms ▸ most_any a b c d x y a0 ac c1 b0' bd d1 x0 x1 y0 y1 w)
  have C4 := Lib.hid (fun w => has_is hhp w)
  have C5 := Lib.hid (fun w => meet_in (u := x) (v := y) au uc bv vd ▸ meets_any a b c d u v x y a0 ac c1 b0' bd d1 (by omega) (by omega) (by omega) (by omega) x0 x1 y0 y1 w)
  have Hux := Lib.hid hux
  have Huy := Lib.hid huy
  have Hrx := Lib.hid hrx
  have Hry := Lib.hid hry
  have Hrx' := Lib.hid hrx'
  have Hry' := Lib.hid hry'
  have Hu := Lib.hid hu
  have Hv := Lib.hid hv
  have Hdd := Lib.hid hdd
  have I0 := Lib.hid ((boxIn_new w b0 b1 b2 b3 23).alloc (.cells #[.int .i64 p0, .int .i64 p1] 26))
  have P0 := ptIn_new (w.alloc (.cells #[.int .i64 b0, .int .i64 b1, .int .i64 b2, .int .i64 b3] 23)) p0 p1 26
  rw [show (w.alloc (.cells #[.int .i64 b0, .int .i64 b1, .int .i64 b2, .int .i64 b3] 23)).heap.size = w.heap.size + 1 by simp] at P0
  have P0 := Lib.hid P0
  have B0 := Lib.hid (bel_alloc (bel_alloc (bel_refl w) (.cells #[.int .i64 b0, .int .i64 b1, .int .i64 b2, .int .i64 b3] 23)) (.cells #[.int .i64 p0, .int .i64 p1] 26))
  clear X1 X2 t1 t2 t3 hnr hms hhp hux huy hrx hry hrx' hry' hu hv hdd
  go_enter Try.func6, Try.ntmps6
  go_wp2_with fail
  generalize (w.alloc (.cells #[.int .i64 b0, .int .i64 b1, .int .i64 b2, .int .i64 b3] 23)).alloc (.cells #[.int .i64 p0, .int .i64 p1] 26) = V at *
  obtain ⟨⟨i0, i1, i2, i3, il⟩, fr⟩ := I0.out
  obtain ⟨⟨j0, j1, jl⟩, fs⟩ := P0.out
  have i0 := cell_regrown i0
  have i1 := cell_regrown i1
  have i2 := cell_regrown i2
  have i3 := cell_regrown i3
  have j0 := cell_regrown j0
  have j1 := cell_regrown j1
  have D1 := Lib.hid (fun p : Regrown => Calls.regrown_of (HX1.out (grow (redrawn V p.d) p.os)))
  have D2 := Lib.hid (fun p : Regrown => Calls.regrown_of (HX2.out (grow (redrawn V p.d) p.os)))
  clear HX1 HX2
  refine region_below_tail 4 (by kernel_rfl) (by kernel_rfl) ?_
  simp only [List.take_succ_cons, List.take_zero]
  repeat (go_big_quiet_step (first | with_reducible exact D1.out _ | with_reducible exact D2.out _))
  refine wpQuiet_nil ?_
  intro _ hw'
  obtain ⟨⟨dr, osr⟩, hw''⟩ := hw'
  subst hw''
  clear i0 i1 i2 i3 j0 j1 D1 D2 il fr jl fs
  have zz := below_regrown V dr osr
  have I1 := Lib.hid (I0.out.later zz)
  have P1 := Lib.hid (P0.out.later zz)
  have B1 := Lib.hid (bel_trans B0.out zz)
  clear I0 P0 B0 zz
  generalize grow (redrawn V dr) osr = V1 at *
  simp only [List.drop_succ_cons, List.drop_zero]
  obtain ⟨⟨i0, i1, i2, i3, il⟩, fr⟩ := I1.out
  obtain ⟨⟨j0, j1, jl⟩, fs⟩ := P1.out
  go_upto_region 2 with (fail)
  clear i0 i1 i2 i3 il fr j0 j1 jl fs
  have X2 := ((((I1.out.stored a b c d).far (c := w.heap.size + 1) (by omega) 0 (.int .i64 x)).far (c := w.heap.size + 1) (by omega) 1 (.int .i64 y))).at_
  have P2 := Lib.hid ((((((P1.out.far (c := w.heap.size) (by omega) 0 (.int .i64 a)).far (c := w.heap.size) (by omega) 1 (.int .i64 b)).far (c := w.heap.size) (by omega) 2 (.int .i64 c)).far (c := w.heap.size) (by omega) 3 (.int .i64 d)).stored x y)).at_
  have B2 := Lib.hid (bel_set (bel_set (bel_set (bel_set (bel_set (bel_set B1.out (b := w.heap.size) (by omega) 0 (.int .i64 a)) (b := w.heap.size) (by omega) 1 (.int .i64 b)) (b := w.heap.size) (by omega) 2 (.int .i64 c)) (b := w.heap.size) (by omega) 3 (.int .i64 d)) (b := w.heap.size + 1) (by omega) 0 (.int .i64 x)) (b := w.heap.size + 1) (by omega) 1 (.int .i64 y))
  clear I1 P1 B1
  generalize ((((((V1.setCell ⟨w.heap.size, 0, none⟩ (.int .i64 a)).setCell ⟨w.heap.size, 1, none⟩ (.int .i64 b)).setCell ⟨w.heap.size, 2, none⟩ (.int .i64 c)).setCell ⟨w.heap.size, 3, none⟩ (.int .i64 d)).setCell ⟨w.heap.size + 1, 0, none⟩ (.int .i64 x)).setCell ⟨w.heap.size + 1, 1, none⟩ (.int .i64 y)) = V2 at *
  obtain ⟨q0, q1, q2, q3, ql⟩ := X2
  have X2 := Lib.hid (BoxAt.mk q0 q1 q2 q3 ql)
  have ne : V2.heap.size ≠ w.heap.size := by omega
  have hux := Hux.out
  have huy := Huy.out
  have hrx := Hrx.out
  have hry := Hry.out
  have hrx' := Hrx'.out
  have hry' := Hry'.out
  have hu := Hu.out
  have hv := Hv.out
  have s1 : IntKind.i64.wrap (c - a) = c - a := IntWalk.i64_in _ (by omega)
  have s2 : IntKind.i64.wrap (c - a + 1) = c - a + 1 := IntWalk.i64_in _ (by omega)
  have s3 : IntKind.u64.wrap (c - a + 1) = c - a + 1 := by rw [IntKind.wrap_u64]; omega
  have s4 : IntKind.i64.wrap rx = rx := IntWalk.i64_in _ (by omega)
  have s5 : IntKind.i64.wrap u = u := IntWalk.i64_in _ (by omega)
  have s6 : IntKind.i64.wrap (d - b) = d - b := IntWalk.i64_in _ (by omega)
  have s7 : IntKind.i64.wrap (d - b + 1) = d - b + 1 := IntWalk.i64_in _ (by omega)
  have s8 : IntKind.u64.wrap (d - b + 1) = d - b + 1 := by rw [IntKind.wrap_u64]; omega
  have s9 : IntKind.i64.wrap ry = ry := IntWalk.i64_in _ (by omega)
  have s10 : IntKind.i64.wrap v = v := IntWalk.i64_in _ (by omega)
  have z1 : ¬ c - a + 1 = 0 := by omega
  have z2 : ¬ d - b + 1 = 0 := by omega
  clear ql
  go_region_held3 (fun w' => w'.cell? ⟨w.heap.size, 0, none⟩ = some (.int .i64 a) ∧ w'.cell? ⟨w.heap.size, 1, none⟩ = some (.int .i64 b) ∧ w'.cell? ⟨w.heap.size, 2, none⟩ = some (.int .i64 c) ∧ w'.cell? ⟨w.heap.size, 3, none⟩ = some (.int .i64 d)) (simp (maxDischargeDepth := 40) [q0, q1, q2, q3, ne, World.cell?_alloc_some, World.cell?_setCell_far])
    (first | fail)
  have TH := Lib.hid (Three.mk (X2.out.alloc (.cells #[.int .i64 u, .int .i64 v] 26)).drew (P2.out.alloc (.cells #[.int .i64 u, .int .i64 v] 26)).drew (ptAt_new V2 u v 26).drew)
  have B3 := Lib.hid (bel_drew (bel_alloc B2.out (.cells #[.int .i64 u, .int .i64 v] 26)))
  clear X2 P2 B2 q0 q1 q2 q3 ne hux huy hrx hry hrx' hry' hu hv s1 s2 s3 s4 s5 s6 s7 s8 s9 s10 z1 z2 Hux Huy Hrx Hry Hrx' Hry' Hu Hv
  have hm : ∃ m, V2.heap.size = m := ⟨_, rfl⟩
  obtain ⟨m, hm⟩ := hm
  rw [hm] at TH
  generalize (V2.alloc (.cells #[.int .i64 u, .int .i64 v] 26)).drew = V3 at *
  obtain ⟨⟨k0, k1, k2, k3, kl⟩, ⟨j0, j1, jl⟩, ⟨g0, g1, gl⟩⟩ := TH.out
  have m1 := mul_bd (X := x - u) (Y := x - u) (by omega) (by omega) (by omega) (by omega)
  have m2 := mul_bd (X := y - v) (Y := y - v) (by omega) (by omega) (by omega) (by omega)
  have hdd := Hdd.out
  rw [hm]
  clear hm
  go_wp2_with fail
  have k0 := cell_regrown k0
  have k1 := cell_regrown k1
  have k2 := cell_regrown k2
  have k3 := cell_regrown k3
  have j0 := cell_regrown j0
  have j1 := cell_regrown j1
  have g0 := cell_regrown g0
  have g1 := cell_regrown g1
  clear m1 m2 hdd Hdd kl jl gl
  have t1 := T1.out
  have t2 := T2.out
  have t3 := T3.out
  have D1 := Lib.hid (fun p : Regrown => Calls.regrown_of (C1.out (grow (redrawn V3 p.d) p.os)))
  have D2 := Lib.hid (fun p : Regrown => Calls.regrown_of (C2.out (grow (redrawn V3 p.d) p.os)))
  have D3 := Lib.hid (fun p : Regrown => Calls.regrown_of (C3.out (grow (redrawn V3 p.d) p.os)))
  have D4 := Lib.hid (fun p : Regrown => Calls.regrown_of (C4.out (grow (redrawn V3 p.d) p.os)))
  clear C1 C2 C3 C4
  refine wp_region_quiet_below (by kernel_rfl) (by kernel_rfl) ?_
  repeat (go_big_quiet_step (first | with_reducible exact D1.out _ | with_reducible exact D2.out _ | with_reducible exact D3.out _ | with_reducible exact D4.out _))
  refine wpQuiet_nil ?_
  intro _ hw'
  obtain ⟨⟨ds, oss⟩, hw''⟩ := hw'
  subst hw''
  clear k0 k1 k2 k3 j0 j1 g0 g1 D1 D2 D3 D4 t1 t2 t3 T1 T2 T3
  have zz := below_regrown V3 ds oss
  have TH4 := Lib.hid (TH.out.later zz)
  have B4 := Lib.hid (bel_trans B3.out zz)
  clear TH B3 zz
  generalize grow (redrawn V3 ds) oss = V4 at *
  obtain ⟨⟨k0, k1, k2, k3, kl⟩, ⟨j0, j1, jl⟩, ⟨g0, g1, gl⟩⟩ := TH4.out
  cases hsp : splB a b c d with
  | false =>
    have S := Lib.hid (fun w => (splV_no hsp) ▸ split_any a b c d w)
    clear hsp
    go_wp2_with fail
    refine (S.out _).mono ?_; rintro e w5 ⟨rfl, z5⟩
    have TH5 := Lib.hid ((TH4.out.later z5).alloc (.cells #[.int .i64 0, .int .i64 0, .int .i64 0, .int .i64 0, .int .i64 0, .int .i64 0, .int .i64 0, .int .i64 0, .int .i64 0, .int .i64 0, .int .i64 0, .int .i64 0, .int .i64 0, .int .i64 0, .int .i64 0, .int .i64 0] 30))
    have B5 := Lib.hid (bel_alloc (bel_trans B4.out z5) (.cells #[.int .i64 0, .int .i64 0, .int .i64 0, .int .i64 0, .int .i64 0, .int .i64 0, .int .i64 0, .int .i64 0, .int .i64 0, .int .i64 0, .int .i64 0, .int .i64 0, .int .i64 0, .int .i64 0, .int .i64 0, .int .i64 0] 30))
    clear z5 k0 k1 k2 k3 kl j0 j1 jl g0 g1 gl TH4 B4
    go_wp2_with ((with_reducible (refine wpList_store_row ?za1 30 (.tmp 11) (.tmp 102) ?za2 w5.heap.size #[.int .i64 0, .int .i64 0, .int .i64 0, .int .i64 0, .int .i64 0, .int .i64 0, .int .i64 0, .int .i64 0, .int .i64 0, .int .i64 0, .int .i64 0, .int .i64 0, .int .i64 0, .int .i64 0, .int .i64 0, .int .i64 0] ?zh1 ?zh2 _ _ (row_new _ _ _) ?zh3 ?zh4 ?zh5 ?zh6)); (case za1 => rfl); (case za2 => rfl); (case zh1 => rfl); (case zh2 => rfl); (case zh3 => kernel_rfl); (case zh4 => rfl); (case zh5 => kernel_rfl); rw [setRow_new])
    go_loopw [13, 14] (fun sn si wr => NoneAt w m a b c d x y u v sn si wr) (fun _ _ _ => 0)
    case atStart => exact ⟨rfl, rfl, TH5.out, B5.out⟩
    case round =>
      obtain ⟨rfl, rfl, hT, hB⟩ := hrel
      clear TH5 B5
      have TH6 := Lib.hid hT
      have B6 := Lib.hid hB
      clear hT hB
      obtain ⟨⟨k0, k1, k2, k3, kl⟩, ⟨j0, j1, jl⟩, ⟨g0, g1, gl⟩⟩ := TH6.out
      go_wp2_with fail
      refine (C5.out _).mono ?_; rintro e w7 ⟨rfl, z7⟩
      have B7 := Lib.hid (bel_trans B6.out z7)
      clear z7 k0 k1 k2 k3 kl j0 j1 jl g0 g1 gl
      go_wp2_with fail
      refine (awake_any _).mono ?_; rintro e w8 ⟨rfl, z8⟩
      go_wp2
      go_ret
      exact ⟨rfl, bel_trans B7.out z8⟩
  | true =>
    obtain ⟨X, hX⟩ : ∃ X, a + (c - a) / 2 = X := ⟨_, rfl⟩
    obtain ⟨Y, hY⟩ : ∃ Y, b + (d - b) / 2 = Y := ⟨_, rfl⟩
    have hS : splV a b c d = .tuple #[fourV a b c d X Y, .bool true] := by rw [splV_yes hsp, hX, hY]
    have S := Lib.hid (fun w => hS ▸ split_any a b c d w)
    have aX : a ≤ X := by omega
    have Xc : X ≤ c := by omega
    have bY : b ≤ Y := by omega
    have Yd : Y ≤ d := by omega
    obtain ⟨h0, e0⟩ : ∃ h, hasB a b X Y u v = h := ⟨_, rfl⟩
    obtain ⟨h1, e1⟩ : ∃ h, hasB X b c Y u v = h := ⟨_, rfl⟩
    obtain ⟨h2, e2⟩ : ∃ h, hasB a Y X d u v = h := ⟨_, rfl⟩
    obtain ⟨h3, e3⟩ : ∃ h, hasB X Y c d u v = h := ⟨_, rfl⟩
    have one := found_one aX Xc bY Yd au uc bv vd
    rw [e0, e1, e2, e3] at one
    have ONE := Lib.hid one
    have HH0 := Lib.hid (fun w => has_is e0 w)
    have HO0 := Lib.hid (fun w => ok_is (okX_yes (a := a) (b := b) (c := X) (d := Y) (by omega) (by omega) (by omega) (by omega) (by omega) (by omega)) w)
    have HP0 := Lib.hid (fun w => apart_is (apB_in (a := a) (b := b) (c := X) (d := Y) (e := a) (f := b) (g := c) (h := d) (by omega) (by omega) (by omega) (by omega) (by omega) (by omega)) w)
    have HC0 := Lib.hid (fun w => has_is (hasB_yes (a := a) (b := b) (c := c) (d := d) (x := a) (y := b) (by omega) (by omega) (by omega) (by omega)) w)
    have HK0 := Lib.hid (fun w => corners_any a b X Y w)
    have HH1 := Lib.hid (fun w => has_is e1 w)
    have HO1 := Lib.hid (fun w => ok_is (okX_yes (a := X) (b := b) (c := c) (d := Y) (by omega) (by omega) (by omega) (by omega) (by omega) (by omega)) w)
    have HP1 := Lib.hid (fun w => apart_is (apB_in (a := X) (b := b) (c := c) (d := Y) (e := a) (f := b) (g := c) (h := d) (by omega) (by omega) (by omega) (by omega) (by omega) (by omega)) w)
    have HC1 := Lib.hid (fun w => has_is (hasB_yes (a := a) (b := b) (c := c) (d := d) (x := c) (y := b) (by omega) (by omega) (by omega) (by omega)) w)
    have HK1 := Lib.hid (fun w => corners_any X b c Y w)
    have HH2 := Lib.hid (fun w => has_is e2 w)
    have HO2 := Lib.hid (fun w => ok_is (okX_yes (a := a) (b := Y) (c := X) (d := d) (by omega) (by omega) (by omega) (by omega) (by omega) (by omega)) w)
    have HP2 := Lib.hid (fun w => apart_is (apB_in (a := a) (b := Y) (c := X) (d := d) (e := a) (f := b) (g := c) (h := d) (by omega) (by omega) (by omega) (by omega) (by omega) (by omega)) w)
    have HC2 := Lib.hid (fun w => has_is (hasB_yes (a := a) (b := b) (c := c) (d := d) (x := a) (y := d) (by omega) (by omega) (by omega) (by omega)) w)
    have HK2 := Lib.hid (fun w => corners_any a Y X d w)
    have HH3 := Lib.hid (fun w => has_is e3 w)
    have HO3 := Lib.hid (fun w => ok_is (okX_yes (a := X) (b := Y) (c := c) (d := d) (by omega) (by omega) (by omega) (by omega) (by omega) (by omega)) w)
    have HP3 := Lib.hid (fun w => apart_is (apB_in (a := X) (b := Y) (c := c) (d := d) (e := a) (f := b) (g := c) (h := d) (by omega) (by omega) (by omega) (by omega) (by omega) (by omega)) w)
    have HC3 := Lib.hid (fun w => has_is (hasB_yes (a := a) (b := b) (c := c) (d := d) (x := c) (y := d) (by omega) (by omega) (by omega) (by omega)) w)
    have HK3 := Lib.hid (fun w => corners_any X Y c d w)
    have HKB := Lib.hid (fun w => corners_any a b c d w)
    clear hX hY hS hsp e0 e1 e2 e3 one
    go_wp2_with fail
    refine (S.out _).mono ?_; rintro e w5 ⟨rfl, z5⟩
    have TH5 := Lib.hid ((TH4.out.later z5).alloc (.cells #[.int .i64 a, .int .i64 b, .int .i64 X, .int .i64 Y, .int .i64 X, .int .i64 b, .int .i64 c, .int .i64 Y, .int .i64 a, .int .i64 Y, .int .i64 X, .int .i64 d, .int .i64 X, .int .i64 Y, .int .i64 c, .int .i64 d] 30))
    have B5 := Lib.hid (bel_alloc (bel_trans B4.out z5) (.cells #[.int .i64 a, .int .i64 b, .int .i64 X, .int .i64 Y, .int .i64 X, .int .i64 b, .int .i64 c, .int .i64 Y, .int .i64 a, .int .i64 Y, .int .i64 X, .int .i64 d, .int .i64 X, .int .i64 Y, .int .i64 c, .int .i64 d] 30))
    have R5 := Lib.hid (row_new w5 #[.int .i64 a, .int .i64 b, .int .i64 X, .int .i64 Y, .int .i64 X, .int .i64 b, .int .i64 c, .int .i64 Y, .int .i64 a, .int .i64 Y, .int .i64 X, .int .i64 d, .int .i64 X, .int .i64 Y, .int .i64 c, .int .i64 d] 30)
    clear z5 k0 k1 k2 k3 kl j0 j1 jl g0 g1 gl TH4 B4 S
    go_wp2_with ((with_reducible (refine wpList_store_row ?ya1 30 (.tmp 11) (.tmp 102) ?ya2 w5.heap.size #[.int .i64 a, .int .i64 b, .int .i64 X, .int .i64 Y, .int .i64 X, .int .i64 b, .int .i64 c, .int .i64 Y, .int .i64 a, .int .i64 Y, .int .i64 X, .int .i64 d, .int .i64 X, .int .i64 Y, .int .i64 c, .int .i64 d] ?yh1 ?yh2 _ _ (row_new _ _ _) ?yh3 ?yh4 ?yh5 ?yh6)); (case ya1 => rfl); (case ya2 => rfl); (case yh1 => rfl); (case yh2 => rfl); (case yh3 => kernel_rfl); (case yh4 => rfl); (case yh5 => kernel_rfl); rw [setRow_new])
    go_loopw [13, 14] (fun sn si wr => HoldAt w m w5.heap.size a b c d x y u v X Y h0 h1 h2 h3 sn si wr) (fun _ si _ => (4 - intOf si).toNat)
    case atStart => exact ⟨0, rfl, .inl ⟨rfl, ⟨rfl⟩⟩, TH5.out, R5.out, B5.out⟩
    case round =>
      obtain ⟨n, rfl, hc, hT, hR, hB⟩ := hrel
      clear TH5 B5 R5
      have TH6 := Lib.hid hT
      have R6 := Lib.hid hR
      have B6 := Lib.hid hB
      clear hT hR hB
      rcases hc with ⟨rfl, hF⟩ | ⟨rfl, hF⟩ | ⟨rfl, hF⟩ | ⟨rfl, hF⟩ | ⟨rfl, hF⟩
      · obtain ⟨n0, n4⟩ : 0 ≤ n ∧ n ≤ 4 := by rw [hF.eq]; exact found_bd h0 h1 h2 h3 0
        have hF := Lib.hid hF
        obtain ⟨n', hn'⟩ : ∃ n' : Int, n' = if h0 then n + 1 else n := ⟨_, rfl⟩
        have hF2 := Lib.hid (step0 hF.out hn')
        have hn' := Lib.hid hn'
        obtain ⟨⟨k0, k1, k2, k3, kl⟩, ⟨j0, j1, jl⟩, ⟨g0, g1, gl⟩⟩ := TH6.out
        go_wp2_with fail
        have r0 := cell_of_row wr w5.heap.size 0 _ _ _ R6.out
        have r1 := cell_of_row wr w5.heap.size 1 _ _ _ R6.out
        have r2 := cell_of_row wr w5.heap.size 2 _ _ _ R6.out
        have r3 := cell_of_row wr w5.heap.size 3 _ _ _ R6.out
        have r0 : wr.cell? ⟨w5.heap.size, 0, none⟩ = some (.int .i64 a) := r0
        have r1 : wr.cell? ⟨w5.heap.size, 1, none⟩ = some (.int .i64 b) := r1
        have r2 : wr.cell? ⟨w5.heap.size, 2, none⟩ = some (.int .i64 X) := r2
        have r3 : wr.cell? ⟨w5.heap.size, 3, none⟩ = some (.int .i64 Y) := r3
        have r0 := cell_regrown r0
        have r1 := cell_regrown r1
        have r2 := cell_regrown r2
        have r3 := cell_regrown r3
        have g0 := cell_regrown g0
        have g1 := cell_regrown g1
        clear k0 k1 k2 k3 kl j0 j1 jl gl
        have D1 := Lib.hid (fun p : Regrown => Calls.regrown_of (HH0.out (grow (redrawn wr p.d) p.os)))
        refine wp_region_quiet_below (by kernel_rfl) (by kernel_rfl) ?_
        repeat (go_big_quiet_step (with_reducible exact D1.out _))
        refine wpQuiet_nil ?_
        intro _ hw'
        obtain ⟨⟨dt, ost⟩, hw''⟩ := hw'
        subst hw''
        clear r0 r1 r2 r3 g0 g1 D1
        have zz := below_regrown wr dt ost
        have TH7 := Lib.hid (TH6.out.later zz)
        have R7 := Lib.hid (row_later R6.out zz)
        have B7 := Lib.hid (bel_trans B6.out zz)
        clear TH6 R6 B6 zz
        generalize grow (redrawn wr dt) ost = U at *
        go_upto_if 115 with (fail)
        go_cut [13] (fun s13 wx => s13 = .int .i64 n' ∧ U = wx)
        case first =>
          cases h0
          · go_wp2
            go_meet
            exact ⟨by rw [hn'.out]; rfl, rfl⟩
          · go_wp2
            go_meet
            exact ⟨by rw [hn'.out]; rfl, rfl⟩
        case rest =>
          obtain ⟨rfl, rfl⟩ := hcut
          obtain ⟨⟨k0, k1, k2, k3, kl⟩, ⟨j0, j1, jl⟩, ⟨g0, g1, gl⟩⟩ := TH7.out
          go_wp2_with fail
          have r0 := cell_of_row U w5.heap.size 0 _ _ _ R7.out
          have r1 := cell_of_row U w5.heap.size 1 _ _ _ R7.out
          have r2 := cell_of_row U w5.heap.size 2 _ _ _ R7.out
          have r3 := cell_of_row U w5.heap.size 3 _ _ _ R7.out
          have r0 : U.cell? ⟨w5.heap.size, 0, none⟩ = some (.int .i64 a) := r0
          have r1 : U.cell? ⟨w5.heap.size, 1, none⟩ = some (.int .i64 b) := r1
          have r2 : U.cell? ⟨w5.heap.size, 2, none⟩ = some (.int .i64 X) := r2
          have r3 : U.cell? ⟨w5.heap.size, 3, none⟩ = some (.int .i64 Y) := r3
          have r0 := cell_regrown r0
          have r1 := cell_regrown r1
          have r2 := cell_regrown r2
          have r3 := cell_regrown r3
          have k0 := cell_regrown k0
          have k1 := cell_regrown k1
          have k2 := cell_regrown k2
          have k3 := cell_regrown k3
          clear kl j0 j1 jl g0 g1 gl
          have D1 := Lib.hid (fun p : Regrown => Calls.regrown_of (HO0.out (grow (redrawn U p.d) p.os)))
          have D2 := Lib.hid (fun p : Regrown => Calls.regrown_of (HP0.out (grow (redrawn U p.d) p.os)))
          have D3 := Lib.hid (fun p : Regrown => Calls.regrown_of (HC0.out (grow (redrawn U p.d) p.os)))
          have D4 := Lib.hid (fun p : Regrown => Calls.regrown_of (HK0.out (grow (redrawn U p.d) p.os)))
          have D5 := Lib.hid (fun p : Regrown => Calls.regrown_of (HKB.out (grow (redrawn U p.d) p.os)))
          have J1 := fun w => corner0 a b X Y w
          have J2 := fun w => corner0 a b c d w
          refine wp_region_quiet_below (by kernel_rfl) (by kernel_rfl) ?_
          repeat (go_big_quiet_step (first | with_reducible exact D1.out _ | with_reducible exact D2.out _ | with_reducible exact D3.out _ | with_reducible exact D4.out _ | with_reducible exact D5.out _))
          refine wpQuiet_nil ?_
          intro _ hw'
          obtain ⟨⟨dv, osv⟩, hw''⟩ := hw'
          subst hw''
          clear r0 r1 r2 r3 k0 k1 k2 k3 D1 D2 D3 D4 D5 J1 J2
          have zz := below_regrown U dv osv
          have TH8 := Lib.hid (TH7.out.later zz)
          have R8 := Lib.hid (row_later R7.out zz)
          have B8 := Lib.hid (bel_trans B7.out zz)
          clear TH7 R7 B7 zz
          generalize grow (redrawn U dv) osv = U2 at *
          go_wp2_with fail
          go_roundw
          case rel => exact ⟨n', rfl, .inr (.inl ⟨rfl, hF2.out⟩), TH8.out, R8.out, B8.out⟩
          case measure => simp [intOf]
      · obtain ⟨n0, n4⟩ : 0 ≤ n ∧ n ≤ 4 := by rw [hF.eq]; exact found_bd h0 h1 h2 h3 1
        have hF := Lib.hid hF
        obtain ⟨n', hn'⟩ : ∃ n' : Int, n' = if h1 then n + 1 else n := ⟨_, rfl⟩
        have hF2 := Lib.hid (step1 hF.out hn')
        have hn' := Lib.hid hn'
        obtain ⟨⟨k0, k1, k2, k3, kl⟩, ⟨j0, j1, jl⟩, ⟨g0, g1, gl⟩⟩ := TH6.out
        go_wp2_with fail
        have r0 := cell_of_row wr w5.heap.size 4 _ _ _ R6.out
        have r1 := cell_of_row wr w5.heap.size 5 _ _ _ R6.out
        have r2 := cell_of_row wr w5.heap.size 6 _ _ _ R6.out
        have r3 := cell_of_row wr w5.heap.size 7 _ _ _ R6.out
        have r0 : wr.cell? ⟨w5.heap.size, 4, none⟩ = some (.int .i64 X) := r0
        have r1 : wr.cell? ⟨w5.heap.size, 5, none⟩ = some (.int .i64 b) := r1
        have r2 : wr.cell? ⟨w5.heap.size, 6, none⟩ = some (.int .i64 c) := r2
        have r3 : wr.cell? ⟨w5.heap.size, 7, none⟩ = some (.int .i64 Y) := r3
        have r0 := cell_regrown r0
        have r1 := cell_regrown r1
        have r2 := cell_regrown r2
        have r3 := cell_regrown r3
        have g0 := cell_regrown g0
        have g1 := cell_regrown g1
        clear k0 k1 k2 k3 kl j0 j1 jl gl
        have D1 := Lib.hid (fun p : Regrown => Calls.regrown_of (HH1.out (grow (redrawn wr p.d) p.os)))
        refine wp_region_quiet_below (by kernel_rfl) (by kernel_rfl) ?_
        repeat (go_big_quiet_step (with_reducible exact D1.out _))
        refine wpQuiet_nil ?_
        intro _ hw'
        obtain ⟨⟨dt, ost⟩, hw''⟩ := hw'
        subst hw''
        clear r0 r1 r2 r3 g0 g1 D1
        have zz := below_regrown wr dt ost
        have TH7 := Lib.hid (TH6.out.later zz)
        have R7 := Lib.hid (row_later R6.out zz)
        have B7 := Lib.hid (bel_trans B6.out zz)
        clear TH6 R6 B6 zz
        generalize grow (redrawn wr dt) ost = U at *
        go_upto_if 115 with (fail)
        go_cut [13] (fun s13 wx => s13 = .int .i64 n' ∧ U = wx)
        case first =>
          cases h1
          · go_wp2
            go_meet
            exact ⟨by rw [hn'.out]; rfl, rfl⟩
          · go_wp2
            go_meet
            exact ⟨by rw [hn'.out]; rfl, rfl⟩
        case rest =>
          obtain ⟨rfl, rfl⟩ := hcut
          obtain ⟨⟨k0, k1, k2, k3, kl⟩, ⟨j0, j1, jl⟩, ⟨g0, g1, gl⟩⟩ := TH7.out
          go_wp2_with fail
          have r0 := cell_of_row U w5.heap.size 4 _ _ _ R7.out
          have r1 := cell_of_row U w5.heap.size 5 _ _ _ R7.out
          have r2 := cell_of_row U w5.heap.size 6 _ _ _ R7.out
          have r3 := cell_of_row U w5.heap.size 7 _ _ _ R7.out
          have r0 : U.cell? ⟨w5.heap.size, 4, none⟩ = some (.int .i64 X) := r0
          have r1 : U.cell? ⟨w5.heap.size, 5, none⟩ = some (.int .i64 b) := r1
          have r2 : U.cell? ⟨w5.heap.size, 6, none⟩ = some (.int .i64 c) := r2
          have r3 : U.cell? ⟨w5.heap.size, 7, none⟩ = some (.int .i64 Y) := r3
          have r0 := cell_regrown r0
          have r1 := cell_regrown r1
          have r2 := cell_regrown r2
          have r3 := cell_regrown r3
          have k0 := cell_regrown k0
          have k1 := cell_regrown k1
          have k2 := cell_regrown k2
          have k3 := cell_regrown k3
          clear kl j0 j1 jl g0 g1 gl
          have D1 := Lib.hid (fun p : Regrown => Calls.regrown_of (HO1.out (grow (redrawn U p.d) p.os)))
          have D2 := Lib.hid (fun p : Regrown => Calls.regrown_of (HP1.out (grow (redrawn U p.d) p.os)))
          have D3 := Lib.hid (fun p : Regrown => Calls.regrown_of (HC1.out (grow (redrawn U p.d) p.os)))
          have D4 := Lib.hid (fun p : Regrown => Calls.regrown_of (HK1.out (grow (redrawn U p.d) p.os)))
          have D5 := Lib.hid (fun p : Regrown => Calls.regrown_of (HKB.out (grow (redrawn U p.d) p.os)))
          have J1 := fun w => corner1 X b c Y w
          have J2 := fun w => corner1 a b c d w
          refine wp_region_quiet_below (by kernel_rfl) (by kernel_rfl) ?_
          repeat (go_big_quiet_step (first | with_reducible exact D1.out _ | with_reducible exact D2.out _ | with_reducible exact D3.out _ | with_reducible exact D4.out _ | with_reducible exact D5.out _))
          refine wpQuiet_nil ?_
          intro _ hw'
          obtain ⟨⟨dv, osv⟩, hw''⟩ := hw'
          subst hw''
          clear r0 r1 r2 r3 k0 k1 k2 k3 D1 D2 D3 D4 D5 J1 J2
          have zz := below_regrown U dv osv
          have TH8 := Lib.hid (TH7.out.later zz)
          have R8 := Lib.hid (row_later R7.out zz)
          have B8 := Lib.hid (bel_trans B7.out zz)
          clear TH7 R7 B7 zz
          generalize grow (redrawn U dv) osv = U2 at *
          go_wp2_with fail
          go_roundw
          case rel => exact ⟨n', rfl, .inr (.inr (.inl ⟨rfl, hF2.out⟩)), TH8.out, R8.out, B8.out⟩
          case measure => simp [intOf]
      · obtain ⟨n0, n4⟩ : 0 ≤ n ∧ n ≤ 4 := by rw [hF.eq]; exact found_bd h0 h1 h2 h3 2
        have hF := Lib.hid hF
        obtain ⟨n', hn'⟩ : ∃ n' : Int, n' = if h2 then n + 1 else n := ⟨_, rfl⟩
        have hF2 := Lib.hid (step2 hF.out hn')
        have hn' := Lib.hid hn'
        obtain ⟨⟨k0, k1, k2, k3, kl⟩, ⟨j0, j1, jl⟩, ⟨g0, g1, gl⟩⟩ := TH6.out
        go_wp2_with fail
        have r0 := cell_of_row wr w5.heap.size 8 _ _ _ R6.out
        have r1 := cell_of_row wr w5.heap.size 9 _ _ _ R6.out
        have r2 := cell_of_row wr w5.heap.size 10 _ _ _ R6.out
        have r3 := cell_of_row wr w5.heap.size 11 _ _ _ R6.out
        have r0 : wr.cell? ⟨w5.heap.size, 8, none⟩ = some (.int .i64 a) := r0
        have r1 : wr.cell? ⟨w5.heap.size, 9, none⟩ = some (.int .i64 Y) := r1
        have r2 : wr.cell? ⟨w5.heap.size, 10, none⟩ = some (.int .i64 X) := r2
        have r3 : wr.cell? ⟨w5.heap.size, 11, none⟩ = some (.int .i64 d) := r3
        have r0 := cell_regrown r0
        have r1 := cell_regrown r1
        have r2 := cell_regrown r2
        have r3 := cell_regrown r3
        have g0 := cell_regrown g0
        have g1 := cell_regrown g1
        clear k0 k1 k2 k3 kl j0 j1 jl gl
        have D1 := Lib.hid (fun p : Regrown => Calls.regrown_of (HH2.out (grow (redrawn wr p.d) p.os)))
        refine wp_region_quiet_below (by kernel_rfl) (by kernel_rfl) ?_
        repeat (go_big_quiet_step (with_reducible exact D1.out _))
        refine wpQuiet_nil ?_
        intro _ hw'
        obtain ⟨⟨dt, ost⟩, hw''⟩ := hw'
        subst hw''
        clear r0 r1 r2 r3 g0 g1 D1
        have zz := below_regrown wr dt ost
        have TH7 := Lib.hid (TH6.out.later zz)
        have R7 := Lib.hid (row_later R6.out zz)
        have B7 := Lib.hid (bel_trans B6.out zz)
        clear TH6 R6 B6 zz
        generalize grow (redrawn wr dt) ost = U at *
        go_upto_if 115 with (fail)
        go_cut [13] (fun s13 wx => s13 = .int .i64 n' ∧ U = wx)
        case first =>
          cases h2
          · go_wp2
            go_meet
            exact ⟨by rw [hn'.out]; rfl, rfl⟩
          · go_wp2
            go_meet
            exact ⟨by rw [hn'.out]; rfl, rfl⟩
        case rest =>
          obtain ⟨rfl, rfl⟩ := hcut
          obtain ⟨⟨k0, k1, k2, k3, kl⟩, ⟨j0, j1, jl⟩, ⟨g0, g1, gl⟩⟩ := TH7.out
          go_wp2_with fail
          have r0 := cell_of_row U w5.heap.size 8 _ _ _ R7.out
          have r1 := cell_of_row U w5.heap.size 9 _ _ _ R7.out
          have r2 := cell_of_row U w5.heap.size 10 _ _ _ R7.out
          have r3 := cell_of_row U w5.heap.size 11 _ _ _ R7.out
          have r0 : U.cell? ⟨w5.heap.size, 8, none⟩ = some (.int .i64 a) := r0
          have r1 : U.cell? ⟨w5.heap.size, 9, none⟩ = some (.int .i64 Y) := r1
          have r2 : U.cell? ⟨w5.heap.size, 10, none⟩ = some (.int .i64 X) := r2
          have r3 : U.cell? ⟨w5.heap.size, 11, none⟩ = some (.int .i64 d) := r3
          have r0 := cell_regrown r0
          have r1 := cell_regrown r1
          have r2 := cell_regrown r2
          have r3 := cell_regrown r3
          have k0 := cell_regrown k0
          have k1 := cell_regrown k1
          have k2 := cell_regrown k2
          have k3 := cell_regrown k3
          clear kl j0 j1 jl g0 g1 gl
          have D1 := Lib.hid (fun p : Regrown => Calls.regrown_of (HO2.out (grow (redrawn U p.d) p.os)))
          have D2 := Lib.hid (fun p : Regrown => Calls.regrown_of (HP2.out (grow (redrawn U p.d) p.os)))
          have D3 := Lib.hid (fun p : Regrown => Calls.regrown_of (HC2.out (grow (redrawn U p.d) p.os)))
          have D4 := Lib.hid (fun p : Regrown => Calls.regrown_of (HK2.out (grow (redrawn U p.d) p.os)))
          have D5 := Lib.hid (fun p : Regrown => Calls.regrown_of (HKB.out (grow (redrawn U p.d) p.os)))
          have J1 := fun w => corner2 a Y X d w
          have J2 := fun w => corner2 a b c d w
          refine wp_region_quiet_below (by kernel_rfl) (by kernel_rfl) ?_
          repeat (go_big_quiet_step (first | with_reducible exact D1.out _ | with_reducible exact D2.out _ | with_reducible exact D3.out _ | with_reducible exact D4.out _ | with_reducible exact D5.out _))
          refine wpQuiet_nil ?_
          intro _ hw'
          obtain ⟨⟨dv, osv⟩, hw''⟩ := hw'
          subst hw''
          clear r0 r1 r2 r3 k0 k1 k2 k3 D1 D2 D3 D4 D5 J1 J2
          have zz := below_regrown U dv osv
          have TH8 := Lib.hid (TH7.out.later zz)
          have R8 := Lib.hid (row_later R7.out zz)
          have B8 := Lib.hid (bel_trans B7.out zz)
          clear TH7 R7 B7 zz
          generalize grow (redrawn U dv) osv = U2 at *
          go_wp2_with fail
          go_roundw
          case rel => exact ⟨n', rfl, .inr (.inr (.inr (.inl ⟨rfl, hF2.out⟩))), TH8.out, R8.out, B8.out⟩
          case measure => simp [intOf]
      · obtain ⟨n0, n4⟩ : 0 ≤ n ∧ n ≤ 4 := by rw [hF.eq]; exact found_bd h0 h1 h2 h3 3
        have hF := Lib.hid hF
        obtain ⟨n', hn'⟩ : ∃ n' : Int, n' = if h3 then n + 1 else n := ⟨_, rfl⟩
        have hF2 := Lib.hid (step3 hF.out hn')
        have hn' := Lib.hid hn'
        obtain ⟨⟨k0, k1, k2, k3, kl⟩, ⟨j0, j1, jl⟩, ⟨g0, g1, gl⟩⟩ := TH6.out
        go_wp2_with fail
        have r0 := cell_of_row wr w5.heap.size 12 _ _ _ R6.out
        have r1 := cell_of_row wr w5.heap.size 13 _ _ _ R6.out
        have r2 := cell_of_row wr w5.heap.size 14 _ _ _ R6.out
        have r3 := cell_of_row wr w5.heap.size 15 _ _ _ R6.out
        have r0 : wr.cell? ⟨w5.heap.size, 12, none⟩ = some (.int .i64 X) := r0
        have r1 : wr.cell? ⟨w5.heap.size, 13, none⟩ = some (.int .i64 Y) := r1
        have r2 : wr.cell? ⟨w5.heap.size, 14, none⟩ = some (.int .i64 c) := r2
        have r3 : wr.cell? ⟨w5.heap.size, 15, none⟩ = some (.int .i64 d) := r3
        have r0 := cell_regrown r0
        have r1 := cell_regrown r1
        have r2 := cell_regrown r2
        have r3 := cell_regrown r3
        have g0 := cell_regrown g0
        have g1 := cell_regrown g1
        clear k0 k1 k2 k3 kl j0 j1 jl gl
        have D1 := Lib.hid (fun p : Regrown => Calls.regrown_of (HH3.out (grow (redrawn wr p.d) p.os)))
        refine wp_region_quiet_below (by kernel_rfl) (by kernel_rfl) ?_
        repeat (go_big_quiet_step (with_reducible exact D1.out _))
        refine wpQuiet_nil ?_
        intro _ hw'
        obtain ⟨⟨dt, ost⟩, hw''⟩ := hw'
        subst hw''
        clear r0 r1 r2 r3 g0 g1 D1
        have zz := below_regrown wr dt ost
        have TH7 := Lib.hid (TH6.out.later zz)
        have R7 := Lib.hid (row_later R6.out zz)
        have B7 := Lib.hid (bel_trans B6.out zz)
        clear TH6 R6 B6 zz
        generalize grow (redrawn wr dt) ost = U at *
        go_upto_if 115 with (fail)
        go_cut [13] (fun s13 wx => s13 = .int .i64 n' ∧ U = wx)
        case first =>
          cases h3
          · go_wp2
            go_meet
            exact ⟨by rw [hn'.out]; rfl, rfl⟩
          · go_wp2
            go_meet
            exact ⟨by rw [hn'.out]; rfl, rfl⟩
        case rest =>
          obtain ⟨rfl, rfl⟩ := hcut
          obtain ⟨⟨k0, k1, k2, k3, kl⟩, ⟨j0, j1, jl⟩, ⟨g0, g1, gl⟩⟩ := TH7.out
          go_wp2_with fail
          have r0 := cell_of_row U w5.heap.size 12 _ _ _ R7.out
          have r1 := cell_of_row U w5.heap.size 13 _ _ _ R7.out
          have r2 := cell_of_row U w5.heap.size 14 _ _ _ R7.out
          have r3 := cell_of_row U w5.heap.size 15 _ _ _ R7.out
          have r0 : U.cell? ⟨w5.heap.size, 12, none⟩ = some (.int .i64 X) := r0
          have r1 : U.cell? ⟨w5.heap.size, 13, none⟩ = some (.int .i64 Y) := r1
          have r2 : U.cell? ⟨w5.heap.size, 14, none⟩ = some (.int .i64 c) := r2
          have r3 : U.cell? ⟨w5.heap.size, 15, none⟩ = some (.int .i64 d) := r3
          have r0 := cell_regrown r0
          have r1 := cell_regrown r1
          have r2 := cell_regrown r2
          have r3 := cell_regrown r3
          have k0 := cell_regrown k0
          have k1 := cell_regrown k1
          have k2 := cell_regrown k2
          have k3 := cell_regrown k3
          clear kl j0 j1 jl g0 g1 gl
          have D1 := Lib.hid (fun p : Regrown => Calls.regrown_of (HO3.out (grow (redrawn U p.d) p.os)))
          have D2 := Lib.hid (fun p : Regrown => Calls.regrown_of (HP3.out (grow (redrawn U p.d) p.os)))
          have D3 := Lib.hid (fun p : Regrown => Calls.regrown_of (HC3.out (grow (redrawn U p.d) p.os)))
          have D4 := Lib.hid (fun p : Regrown => Calls.regrown_of (HK3.out (grow (redrawn U p.d) p.os)))
          have D5 := Lib.hid (fun p : Regrown => Calls.regrown_of (HKB.out (grow (redrawn U p.d) p.os)))
          have J1 := fun w => corner3 X Y c d w
          have J2 := fun w => corner3 a b c d w
          refine wp_region_quiet_below (by kernel_rfl) (by kernel_rfl) ?_
          repeat (go_big_quiet_step (first | with_reducible exact D1.out _ | with_reducible exact D2.out _ | with_reducible exact D3.out _ | with_reducible exact D4.out _ | with_reducible exact D5.out _))
          refine wpQuiet_nil ?_
          intro _ hw'
          obtain ⟨⟨dv, osv⟩, hw''⟩ := hw'
          subst hw''
          clear r0 r1 r2 r3 k0 k1 k2 k3 D1 D2 D3 D4 D5 J1 J2
          have zz := below_regrown U dv osv
          have TH8 := Lib.hid (TH7.out.later zz)
          have R8 := Lib.hid (row_later R7.out zz)
          have B8 := Lib.hid (bel_trans B7.out zz)
          clear TH7 R7 B7 zz
          generalize grow (redrawn U dv) osv = U2 at *
          go_wp2_with fail
          go_roundw
          case rel => exact ⟨n', rfl, .inr (.inr (.inr (.inr (⟨rfl, hF2.out⟩)))), TH8.out, R8.out, B8.out⟩
          case measure => simp [intOf]
      · have n1 : 1 ≤ n := by rw [hF.eq]; exact ONE.out
        clear hF
        obtain ⟨⟨k0, k1, k2, k3, kl⟩, ⟨j0, j1, jl⟩, ⟨g0, g1, gl⟩⟩ := TH6.out
        go_wp2_with fail
        refine (C5.out _).mono ?_; rintro e w7 ⟨rfl, z7⟩
        have B7 := Lib.hid (bel_trans B6.out z7)
        clear z7 k0 k1 k2 k3 kl j0 j1 jl g0 g1 gl
        go_wp2_with fail
        refine (awake_any _).mono ?_; rintro e w8 ⟨rfl, z8⟩
        go_wp2
        go_ret
        exact ⟨rfl, bel_trans B7.out z8⟩
theorem walk (b0 b1 b2 b3 e f p0 p1 : Int) (_ : -9223372036854775808 ≤ b0) (_ : b0 ≤ 9223372036854775807) (_ : -9223372036854775808 ≤ b1) (_ : b1 ≤ 9223372036854775807) (_ : -9223372036854775808 ≤ b2) (_ : b2 ≤ 9223372036854775807) (_ : -9223372036854775808 ≤ b3) (_ : b3 ≤ 9223372036854775807) (_ : -9223372036854775808 ≤ e) (_ : e ≤ 9223372036854775807) (_ : -9223372036854775808 ≤ f) (_ : f ≤ 9223372036854775807) (_ : -9223372036854775808 ≤ p0) (_ : p0 ≤ 9223372036854775807) (_ : -9223372036854775808 ≤ p1) (_ : p1 ≤ 9223372036854775807) (w : World) :
    Calls Try.prog 6 #[boxV b0 b1 b2 b3, .int .i64 e, .int .i64 f, ptV p0 p1] w fun e w' => e = .returned (.bool true) ∧ Below w.heap.size w w' := by
  obtain ⟨a, b, c, d, a0, ac, c1, b0', bd, d1, X1⟩ := boxT_form b0 b1 b2 b3
  obtain ⟨x, y, x0, x1, y0, y1, X2⟩ := pt_form p0 p1
  obtain ⟨ux, rx, hux, ux0, ux1, hrx, hrx', rx0, rx1⟩ := rem_at e (c - a + 1) (by omega) (by omega)
  obtain ⟨uy, ry, huy, uy0, uy1, hry, hry', ry0, ry1⟩ := rem_at f (d - b + 1) (by omega) (by omega)
  exact core b0 b1 b2 b3 e f p0 p1 a b c d x y ux uy rx ry _ _ _ _ _ _ X1 (fun w => pt_below X2 w) a0 ac c1 b0' bd d1 x0 x1 y0 y1 hux ux0 ux1 hrx hrx' rx0 rx1 rfl huy uy0 uy1 hry hry' ry0 ry1 rfl rfl rfl rfl rfl w
theorem own : ownKnob Try.prog.godebug = none := by kernel_rfl
set_option maxRecDepth 100000 in
set_option maxHeartbeats 4000000 in
theorem lifted (os : Os) (started : os.Started) (H : Type) (enc : TypeId × Value → H) :
    ReturnsInHanded {} Try.checked os 6 .any (Rows.boxHoldsSpec.pre6 enc Try.prog Try.f6 Rows.boxHoldsRow.domain false) (Rows.boxHoldsSpec.post enc Try.prog Try.f6 false true false false) := by
  refine returnsInHanded_of_change (C := Try.checked) own started (by kernel_rfl) Try.func6
    (ChangeSpec.witness6 (enc := enc) (C := Try.checked) false ⟨#[], #[.agg #[.int .i64 0, .int .i64 0, .int .i64 0, .int .i64 0], .int .i64 0, .int .i64 0, .agg #[.int .i64 0, .int .i64 0]], []⟩ 8 (by kernel_rfl) (by kernel_rfl) (by kernel_rfl) (by kernel_rfl)) ?_
  intro W base args ds gs before hval0 hW _ _
  have hval : ∀ (j : Nat) t v, Try.f6.params[j]? = some t → args[j]? = some v → Value.okWide Try.prog W .any base t v := hval0
  have hW' := hW
  obtain ⟨p, q, hA0, hV, rfl, hfz, hnd⟩ := hW
  have hA : DataW.TrodAll enc Try.prog W 0 (fun _ => true) true Try.f6.params.toList args.toList ds p := hA0
  rw [Try.params6] at hA hval
  obtain ⟨v0, vs0, d0, ds0, p0, q0, hargs, rfl, rfl, h0, r0⟩ := trodAll_cons hA
  obtain ⟨v1, vs1, d1, ds1, p1, q1, rfl, rfl, rfl, h1, r1⟩ := trodAll_cons r0
  obtain ⟨v2, vs2, d2, ds2, p2, q2, rfl, rfl, rfl, h2, r2⟩ := trodAll_cons r1
  obtain ⟨v3, vs3, d3, ds3, p3, q3, rfl, rfl, rfl, h3, r3⟩ := trodAll_cons r2
  obtain ⟨rfl, rfl, rfl⟩ := trodAll_nil r3
  obtain rfl : args = #[v0, v1, v2, v3] := by cases args; simp_all
  obtain ⟨rfl, rfl⟩ := trodVars_none hV
  obtain ⟨c0_0, c0_1, c0_2, c0_3, y0_0, y0_1, y0_2, y0_3, m0, rfl, rfl, rfl, k0_0, k0_1, k0_2, k0_3⟩ := open_agg4 Try.underlying23 (by kernel_rfl) (by kernel_rfl) (hval 0 23 v0 rfl rfl) h0
  obtain ⟨a0_0, ea0_0, rfl, wa0_0⟩ := DataW.trod_int Try.underlying2 k0_0
  simp at ea0_0; subst ea0_0
  obtain ⟨a0_1, ea0_1, rfl, wa0_1⟩ := DataW.trod_int Try.underlying2 k0_1
  simp at ea0_1; subst ea0_1
  obtain ⟨a0_2, ea0_2, rfl, wa0_2⟩ := DataW.trod_int Try.underlying2 k0_2
  simp at ea0_2; subst ea0_2
  obtain ⟨a0_3, ea0_3, rfl, wa0_3⟩ := DataW.trod_int Try.underlying2 k0_3
  simp at ea0_3; subst ea0_3
  obtain ⟨a1, rfl, rfl, rfl, w1⟩ := open_int Try.underlying2 (hval 1 2 v1 rfl rfl) h1
  obtain ⟨a2, rfl, rfl, rfl, w2⟩ := open_int Try.underlying2 (hval 2 2 v2 rfl rfl) h2
  obtain ⟨c3_0, c3_1, y3_0, y3_1, m3, rfl, rfl, rfl, k3_0, k3_1⟩ := open_agg2 Try.underlying26 (by kernel_rfl) (by kernel_rfl) (hval 3 26 v3 rfl rfl) h3
  obtain ⟨a3_0, ea3_0, rfl, wa3_0⟩ := DataW.trod_int Try.underlying2 k3_0
  simp at ea3_0; subst ea3_0
  obtain ⟨a3_1, ea3_1, rfl, wa3_1⟩ := DataW.trod_int Try.underlying2 k3_1
  simp at ea3_1; subst ea3_1
  have s0 : ∀ (W' : World) (sp : Nat → Bool), DataW.Trod enc Try.prog W' 0 sp true 23 (.agg #[.int .i64 a0_0, .int .i64 a0_1, .int .i64 a0_2, .int .i64 a0_3]) (.agg [.lit (.int .i64 a0_0), .lit (.int .i64 a0_1), .lit (.int .i64 a0_2), .lit (.int .i64 a0_3)]) [] := fun W' sp =>
    shut_agg4 (y0 := (.lit (.int .i64 a0_0), [])) (y1 := (.lit (.int .i64 a0_1), [])) (y2 := (.lit (.int .i64 a0_2), [])) (y3 := (.lit (.int .i64 a0_3), [])) Try.underlying23 (by kernel_rfl) (by kernel_rfl) ⟨1, by simp [DataW.trod, Try.underlying2, wa0_0]⟩ ⟨1, by simp [DataW.trod, Try.underlying2, wa0_1]⟩ ⟨1, by simp [DataW.trod, Try.underlying2, wa0_2]⟩ ⟨1, by simp [DataW.trod, Try.underlying2, wa0_3]⟩
  have s3 : ∀ (W' : World) (sp : Nat → Bool), DataW.Trod enc Try.prog W' 0 sp true 26 (.agg #[.int .i64 a3_0, .int .i64 a3_1]) (.agg [.lit (.int .i64 a3_0), .lit (.int .i64 a3_1)]) [] := fun W' sp =>
    shut_agg2 (y0 := (.lit (.int .i64 a3_0), [])) (y1 := (.lit (.int .i64 a3_1), [])) Try.underlying26 (by kernel_rfl) (by kernel_rfl) ⟨1, by simp [DataW.trod, Try.underlying2, wa3_0]⟩ ⟨1, by simp [DataW.trod, Try.underlying2, wa3_1]⟩
  clear hA0 hval0
  simp only [List.append_nil] at hW'
  refine (walk a0_0 a0_1 a0_2 a0_3 a1 a2 a3_0 a3_1 (bounds_i64 wa0_0).1 (bounds_i64 wa0_0).2 (bounds_i64 wa0_1).1 (bounds_i64 wa0_1).2 (bounds_i64 wa0_2).1 (bounds_i64 wa0_2).2 (bounds_i64 wa0_3).1 (bounds_i64 wa0_3).2 (bounds_i64 w1).1 (bounds_i64 w1).2 (bounds_i64 w2).1 (bounds_i64 w2).2 (bounds_i64 wa3_0).1 (bounds_i64 wa3_0).2 (bounds_i64 wa3_1).1 (bounds_i64 wa3_1).2 W).mono fun e W' ⟨he, bel⟩ => ?_
  subst he
  exact ⟨_, rfl, _, _, _, [], _, [], hW', trodAll_mk1 (shut_bool Try.underlying4 _), (trodAll_cons_mk (s0 _ _) (trodAll_cons_mk (shut_int Try.underlying2 w1) (trodAll_cons_mk (shut_int Try.underlying2 w2) (trodAll_cons_mk (s3 _ _) trodAll_mk0)))), rfl, bel.frame _, fun h => by cases h⟩
theorem over : Rows.boxHoldsRow.holds Try.pinned (OpenSpec.ofChange Rows.boxHoldsSpec) :=
  OpenClaim.holds_of_wide 6 Try.f6 rfl rfl rfl rfl rfl rfl rfl ⟨rfl, rfl, rfl, rfl, rfl⟩ rfl rfl rfl rfl rfl (by kernel_rfl) Try.func6 (by kernel_rfl)
    (of_decide_eq_true (by kernel_rfl)) (by unfold Func.isWrapper; first | (rw [if_pos (by decide +kernel)]; kernel_rfl) | (rw [if_neg (by decide +kernel)]; exact ⟨rfl, rfl⟩))
    (fun os started H enc _ => lifted os started H enc)
theorem proved : Rows.BoxHoldsSaid := over
#print axioms proved
end Go.Proofs.Ytimoekgnockhdaa.boxHolds
