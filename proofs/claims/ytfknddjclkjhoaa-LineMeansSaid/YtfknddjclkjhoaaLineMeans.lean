/- A stroke is the same from both its ends; of one point it is a disc; the discs of each quarter of the segment are in it: for every box, segment, radius, point and quarter that the law makes of any twelve numbers of 64 bits. No condition. -/
import Derived.Test.YtfknddjclkjhoaaRows
import Derived.Test.YtfknddjclkjhoaaAwake7
import Derived.Test.YtfknddjclkjhoaaLaws7
import Derived.Test.YtfknddjclkjhoaaHeld7
import Derived.Test.YtfknddjclkjhoaaFloat
import Derived.Test.YtfknddjclkjhoaaDiscIs
import Derived.Test.YtfknddjclkjhoaaLexTab
import Derived.ProofKit
import Derived.OpenShut
import Derived.ShutString
import Derived.ChangeOld
import Derived.Below
import Derived.Lib.SmallJoins
import Derived.Lib.QuietBelow
import Derived.BigQuiet
namespace Go.Proofs.Ytfknddjclkjhoaa.lineMeans
open Go.ChangeShapes Go.WideShapes Go.ChangeAt Go.RowKit Go.Joins
open Go.Sort (grow)

/-- All that the law reads. -/
structure All (N m : Nat) (a b c d x y u v s t e1 e2 m1 m2 : Int) (wr : World) : Prop where
  box : BoxAt wr N a b c d
  one : PtAt wr (N + 1) x y
  two : PtAt wr (N + 1 + 1) u v
  pnt : PtAt wr (N + 1 + 1 + 1) s t
  far : PtAt wr (m + 1) e1 e2
  mid : PtAt wr (m + 1 + 1) m1 m2
theorem all_new {N : Nat} {a b c d x y u v s t d1 d2 e1 e2 m1 m2 : Int} {w : World} (h : BPPP N a b c d x y u v s t w) (n : TypeId) :
    All N w.heap.size a b c d x y u v s t e1 e2 m1 m2 (((w.alloc (.cells #[.int .i64 d1, .int .i64 d2] n)).alloc (.cells #[.int .i64 e1, .int .i64 e2] n)).alloc (.cells #[.int .i64 m1, .int .i64 m2] n)) := by
  refine ⟨((h.f0.at_.alloc _).alloc _).alloc _, ((h.f1.at_.alloc _).alloc _).alloc _, ((h.f2.at_.alloc _).alloc _).alloc _, ((h.f3.at_.alloc _).alloc _).alloc _, ?_, ?_⟩
  · have k := (ptAt_new (w.alloc (.cells #[.int .i64 d1, .int .i64 d2] n)) e1 e2 n).alloc (.cells #[.int .i64 m1, .int .i64 m2] n)
    rw [show (w.alloc (.cells #[.int .i64 d1, .int .i64 d2] n)).heap.size = w.heap.size + 1 by simp] at k
    exact k
  · have k := ptAt_new ((w.alloc (.cells #[.int .i64 d1, .int .i64 d2] n)).alloc (.cells #[.int .i64 e1, .int .i64 e2] n)) m1 m2 n
    rw [show ((w.alloc (.cells #[.int .i64 d1, .int .i64 d2] n)).alloc (.cells #[.int .i64 e1, .int .i64 e2] n)).heap.size = w.heap.size + 1 + 1 by simp] at k
    exact k
theorem kd_bd {k d : Int} (k0 : 0 ≤ k) (k3 : k ≤ 3) (d0 : -40 ≤ d) (d1 : d ≤ 40) : -120 ≤ k * d ∧ k * d ≤ 120 := by
  obtain rfl | rfl | rfl | rfl : k = 0 ∨ k = 1 ∨ k = 2 ∨ k = 3 := by omega
  all_goals omega

/-- The table of the law's last region. -/
def tab6 : List LexRow := [⟨[], some 69, [6]⟩,
  ⟨[], some 70, [7]⟩,
  ⟨[], some 71, [8]⟩,
  ⟨[], some 72, [3]⟩,
  ⟨[0, 1, 2, 3], some 73, [69, 70, 71, 72]⟩,
  ⟨[], some 74, [6]⟩,
  ⟨[], some 75, [8]⟩,
  ⟨[], some 76, [7]⟩,
  ⟨[], some 77, [3]⟩,
  ⟨[5, 6, 7, 8, 4], some 78, [74, 75, 76, 77]⟩,
  ⟨[4, 9], some 79, [73, 78]⟩,
  ⟨[10, 9], some 80, [79]⟩,
  ⟨[11], some 81, [10, 80]⟩,
  ⟨[11], some 82, [7, 80]⟩,
  ⟨[11], some 83, [8, 80]⟩,
  ⟨[11], some 84, [3, 80]⟩,
  ⟨[12, 13, 14, 15, 11, 11], some 85, [81, 82, 83, 84, 80]⟩,
  ⟨[11], some 86, [10, 80]⟩,
  ⟨[11], some 87, [8, 80]⟩,
  ⟨[11], some 88, [7, 80]⟩,
  ⟨[11], some 89, [3, 80]⟩,
  ⟨[17, 18, 19, 20, 16, 11], some 90, [86, 87, 88, 89, 80]⟩,
  ⟨[16, 21, 11], some 91, [85, 90, 80]⟩,
  ⟨[11, 22], some 92, [80, 91]⟩,
  ⟨[23, 21], some 93, [92]⟩,
  ⟨[24], some 94, [6, 93]⟩,
  ⟨[24], some 95, [7, 93]⟩,
  ⟨[24], some 96, [7, 93]⟩,
  ⟨[24], some 97, [3, 93]⟩,
  ⟨[25, 26, 27, 28, 24, 24], some 98, [94, 95, 96, 97, 93]⟩,
  ⟨[24], some 99, [6, 93]⟩,
  ⟨[24], some 100, [7, 93]⟩,
  ⟨[24], some 101, [3, 93]⟩,
  ⟨[30, 31, 32, 29, 24], some 102, [99, 100, 101, 93]⟩,
  ⟨[29, 33, 24], some 103, [98, 102, 93]⟩,
  ⟨[24, 34], some 104, [93, 103]⟩,
  ⟨[35, 33], some 105, [104]⟩,
  ⟨[36], some 106, [10, 105]⟩,
  ⟨[36], some 107, [7, 105]⟩,
  ⟨[36], some 108, [7, 105]⟩,
  ⟨[36], some 109, [3, 105]⟩,
  ⟨[37, 38, 39, 40, 36, 36], some 110, [106, 107, 108, 109, 105]⟩,
  ⟨[36], some 111, [10, 105]⟩,
  ⟨[36], some 112, [7, 105]⟩,
  ⟨[36], some 113, [3, 105]⟩,
  ⟨[42, 43, 44, 41, 36], some 114, [111, 112, 113, 105]⟩,
  ⟨[41, 45, 36], some 115, [110, 114, 105]⟩,
  ⟨[36, 46], some 116, [105, 115]⟩,
  ⟨[47, 45], some 117, [116]⟩,
  ⟨[48], some 118, [10, 117]⟩,
  ⟨[48], some 119, [15, 117]⟩,
  ⟨[48], some 120, [3, 117]⟩,
  ⟨[49, 50, 51, 48, 48], some 121, [118, 119, 120, 117]⟩,
  ⟨[52, 48], some 122, [121, 117]⟩,
  ⟨[53, 52, 48], some 123, [122, 117]⟩,
  ⟨[54], some 124, [10, 123]⟩,
  ⟨[54], some 125, [7, 123]⟩,
  ⟨[54], some 126, [14, 123]⟩,
  ⟨[54], some 127, [3, 123]⟩,
  ⟨[55, 56, 57, 58, 54, 54], some 128, [124, 125, 126, 127, 123]⟩,
  ⟨[54, 59, 48], some 129, [123, 128, 117]⟩,
  ⟨[48, 60], some 130, [117, 129]⟩,
  ⟨[61, 59], some 131, [130]⟩,
  ⟨[62], some 132, [6, 131]⟩,
  ⟨[62], some 133, [15, 131]⟩,
  ⟨[62], some 134, [3, 131]⟩,
  ⟨[63, 64, 65, 62, 62], some 135, [132, 133, 134, 131]⟩,
  ⟨[66, 62], some 136, [135, 131]⟩,
  ⟨[67, 66, 62], some 137, [136, 131]⟩,
  ⟨[68], some 138, [6, 137]⟩,
  ⟨[68], some 139, [7, 137]⟩,
  ⟨[68], some 140, [14, 137]⟩,
  ⟨[68], some 141, [3, 137]⟩,
  ⟨[69, 70, 71, 72, 68, 68], some 142, [138, 139, 140, 141, 137]⟩,
  ⟨[73, 68], some 143, [142, 137]⟩,
  ⟨[68, 74, 62], some 144, [137, 143, 131]⟩,
  ⟨[62, 75], some 145, [131, 144]⟩,
  ⟨[76, 73], some 146, [145]⟩,
  ⟨[77], some 147, [6, 146]⟩,
  ⟨[77], some 148, [7, 146]⟩,
  ⟨[77], some 149, [14, 146]⟩,
  ⟨[77], some 150, [3, 146]⟩,
  ⟨[78, 79, 80, 81, 77, 77], some 151, [147, 148, 149, 150, 146]⟩,
  ⟨[82, 77], some 152, [151, 146]⟩,
  ⟨[83, 82, 77], some 153, [152, 146]⟩,
  ⟨[84], some 154, [6, 153]⟩,
  ⟨[84], some 155, [15, 153]⟩,
  ⟨[84], some 156, [3, 153]⟩,
  ⟨[85, 86, 87, 84, 84], some 157, [154, 155, 156, 153]⟩,
  ⟨[88, 84], some 158, [157, 153]⟩,
  ⟨[84, 89, 77], some 159, [153, 158, 146]⟩,
  ⟨[77, 90], some 160, [146, 159]⟩,
  ⟨[91, 88], some 161, [160]⟩,
  ⟨[92, 92], some 162, [161]⟩,
  ⟨[92, 93], some 163, [161, 162]⟩,
  ⟨[94, 93, 0, 1, 2, 3, 4, 5, 6, 7, 8, 9, 10, 11, 12, 13, 14, 15, 16, 17, 18, 19, 20, 21, 22, 23, 24, 25, 26, 27, 28, 29, 30, 31, 32, 33, 34, 35, 36, 37, 38, 39, 40, 41, 42, 43, 44, 45, 46, 47, 48, 49, 50, 51, 52, 53, 54, 55, 56, 57, 58, 59, 60, 61, 62, 63, 64, 65, 66, 67, 68, 69, 70, 71, 72, 73, 74, 75, 76, 77, 78, 79, 80, 81, 82, 83, 84, 85, 86, 87, 88, 89, 90, 91, 92, 93, 94], some 12, [163]⟩]

set_option maxRecDepth 100000 in
set_option maxHeartbeats 64000000 in
theorem core (b0 b1 b2 b3 e0 e1 f0 f1 rr p0 p1 kk : Int) (a b c d x y u v s t r1 r' k : Int)
    (X1 : ∀ w, Calls Try.prog 8 #[boxV b0 b1 b2 b3] w fun e w' => e = .returned (boxV a b c d) ∧ Below w.heap.size w w')
    (X2 : ∀ w, Calls Try.prog 9 #[ptV e0 e1, .int .i64 20] w fun e w' => e = .returned (ptV x y) ∧ Below w.heap.size w w')
    (X3 : ∀ w, Calls Try.prog 9 #[ptV f0 f1, .int .i64 20] w fun e w' => e = .returned (ptV u v) ∧ Below w.heap.size w w')
    (X4 : ∀ w, Calls Try.prog 9 #[ptV p0 p1, .int .i64 40] w fun e w' => e = .returned (ptV s t) ∧ Below w.heap.size w w')
    (X5 : ∀ w, Calls Try.prog 10 #[.int .i64 rr] w fun e w' => e = .returned (.int .i64 r1) ∧ Below w.heap.size w w')
    (ha : -19 ≤ a ∧ a ≤ c ∧ c ≤ a + 7 ∧ a ≤ 19) (hb : -19 ≤ b ∧ b ≤ d ∧ d ≤ b + 7 ∧ b ≤ 19) (hx : -20 ≤ x ∧ x ≤ 20 ∧ -20 ≤ y ∧ y ≤ 20) (hu : -20 ≤ u ∧ u ≤ 20 ∧ -20 ≤ v ∧ v ≤ 20) (hs : -40 ≤ s ∧ s ≤ 40 ∧ -40 ≤ t ∧ t ≤ 40)
    (hr : r1.tmod 12 = r') (ra : 0 ≤ r') (rb : r' ≤ 11) (hk : bits .and .i64 kk 3 = k) (ka : 0 ≤ k) (kb : k ≤ 3) (w : World) :
    Calls Try.prog 6 #[boxV b0 b1 b2 b3, ptV e0 e1, ptV f0 f1, .int .i64 rr, ptV p0 p1, .int .i64 kk] w fun e w' => e = .returned (.bool true) ∧ Below w.heap.size w w' := by
  have HX1 := Lib.hid X1
  have HX2 := Lib.hid X2
  have HX3 := Lib.hid X3
  have HX4 := Lib.hid X4
  have HX5 := Lib.hid X5
  have HA := Lib.hid ha
  have HB := Lib.hid hb
  have HX := Lib.hid hx
  have HU := Lib.hid hu
  have HS := Lib.hid hs
  have HR := Lib.hid hr
  have F0 := bppp_new w b0 b1 b2 b3 e0 e1 f0 f1 p0 p1 23 25
  have B0 := bel_newBPPP w b0 b1 b2 b3 e0 e1 f0 f1 p0 p1 23 25
  unfold newBPPP at F0 B0
  have F0 := Lib.hid F0
  have B0 := Lib.hid B0
  clear X1 X2 X3 X4 X5 ha hb hx hu hs hr
  go_enter Try.func6, Try.ntmps6
  go_wp2_with fail
  generalize ((((w.alloc (.cells #[.int .i64 b0, .int .i64 b1, .int .i64 b2, .int .i64 b3] 23)).alloc (.cells #[.int .i64 e0, .int .i64 e1] 25)).alloc (.cells #[.int .i64 f0, .int .i64 f1] 25)).alloc (.cells #[.int .i64 p0, .int .i64 p1] 25)) = V at *
  obtain ⟨⟨⟨i0, i1, i2, i3, il⟩, fi⟩, ⟨⟨j0, j1, jl⟩, fj⟩, ⟨⟨l0, l1, ll⟩, fl⟩, ⟨⟨n0, n1, nl⟩, fn⟩⟩ := F0.out
  have i0 := cell_regrown i0
  have i1 := cell_regrown i1
  have i2 := cell_regrown i2
  have i3 := cell_regrown i3
  have j0 := cell_regrown j0
  have j1 := cell_regrown j1
  have l0 := cell_regrown l0
  have l1 := cell_regrown l1
  have n0 := cell_regrown n0
  have n1 := cell_regrown n1
  have D1 := Lib.hid (fun p : Regrown => Calls.regrown_of (HX1.out (grow (redrawn V p.d) p.os)))
  have D2 := Lib.hid (fun p : Regrown => Calls.regrown_of (HX2.out (grow (redrawn V p.d) p.os)))
  have D3 := Lib.hid (fun p : Regrown => Calls.regrown_of (HX3.out (grow (redrawn V p.d) p.os)))
  have D4 := Lib.hid (fun p : Regrown => Calls.regrown_of (HX4.out (grow (redrawn V p.d) p.os)))
  have D5 := Lib.hid (fun p : Regrown => Calls.regrown_of (HX5.out (grow (redrawn V p.d) p.os)))
  clear HX1 HX2 HX3 HX4 HX5
  refine wp_region_any (by kernel_rfl) ?_
  change wpAny _ _ _ _ 17 _ _ (World.drew _)
  refine any_heads_below (n := 10) (g := 7) (e := #[true, true, true, true, true, true, true, true, true, true, false, false, false, false, false, false, false]) (by kernel_rfl) ?_
  simp only [List.take_succ_cons, List.take_zero]
  repeat (go_big_quiet_step (first | with_reducible exact D1.out _ | with_reducible exact D2.out _ | with_reducible exact D3.out _ | with_reducible exact D4.out _ | with_reducible exact D5.out _))
  refine wpQuiet_nil ?_
  intro _ hw'
  obtain ⟨⟨dr, osr⟩, hw''⟩ := hw'
  subst hw''
  clear i0 i1 i2 i3 j0 j1 l0 l1 n0 n1 D1 D2 D3 D4 D5 il fi jl fj ll fl nl fn
  have zz := below_regrown V dr osr
  have F1 := Lib.hid (F0.out.later zz)
  have B1 := Lib.hid (bel_trans B0.out zz)
  clear F0 B0 zz
  generalize grow (redrawn V dr) osr = V1 at *
  have hr := HR.out
  have s1 : IntKind.i64.wrap (r' + 1) = r' + 1 := IntWalk.i64_in _ (by omega)
  refine any_take 10 26 (.int .i64 r') rfl rfl (by kernel_rfl) (by kernel_rfl) (by kernel_rfl) (fun _ _ _ h => h) (by rfl) (fun w => by go_simp) ?_
  refine any_take 11 27 (.int .i64 (r' + 1)) rfl rfl (by kernel_rfl) (by kernel_rfl) (by kernel_rfl) (fun _ _ _ h => h) (by rfl) (fun w => by go_simp) ?_
  refine any_tail (n := 12) rfl (by kernel_rfl) ?_
  simp only [List.drop_succ_cons, List.drop_zero, Act.put, List.setIfInBounds_toArray, List.set_cons_zero, List.set_cons_succ]
  clear hr s1 HR
  obtain ⟨r, hr⟩ : ∃ r, r' + 1 = r := ⟨_, rfl⟩
  have rc : 1 ≤ r := by omega
  have rd : r ≤ 12 := by omega
  rw [hr]
  clear hr ra rb
  obtain ⟨⟨⟨i0, i1, i2, i3, il⟩, fi⟩, ⟨⟨j0, j1, jl⟩, fj⟩, ⟨⟨l0, l1, ll⟩, fl⟩, ⟨⟨n0, n1, nl⟩, fn⟩⟩ := F1.out
  go_upto_region 2 with (fail)
  clear i0 i1 i2 i3 j0 j1 l0 l1 n0 n1 il fi jl fj ll fl nl fn
  have F2 := F1.out.stored a b c d x y u v s t
  have B2 := bel_bppp B1.out (Nat.le_refl _) a b c d x y u v s t
  unfold setBPPP at F2 B2
  have F2 := Lib.hid F2
  have B2 := Lib.hid B2
  clear F1 B1
  generalize ((((((((((V1.setCell ⟨w.heap.size, 0, none⟩ (.int .i64 a)).setCell ⟨w.heap.size, 1, none⟩ (.int .i64 b)).setCell ⟨w.heap.size, 2, none⟩ (.int .i64 c)).setCell ⟨w.heap.size, 3, none⟩ (.int .i64 d)).setCell ⟨w.heap.size + 1, 0, none⟩ (.int .i64 x)).setCell ⟨w.heap.size + 1, 1, none⟩ (.int .i64 y)).setCell ⟨w.heap.size + 1 + 1, 0, none⟩ (.int .i64 u)).setCell ⟨w.heap.size + 1 + 1, 1, none⟩ (.int .i64 v)).setCell ⟨w.heap.size + 1 + 1 + 1, 0, none⟩ (.int .i64 s)).setCell ⟨w.heap.size + 1 + 1 + 1, 1, none⟩ (.int .i64 t)) = V2 at *
  obtain ⟨ga, gb, gc, gd⟩ := HA.out
  obtain ⟨ge, gf, gg, gh⟩ := HB.out
  obtain ⟨gi, gj, gk, gl⟩ := HX.out
  obtain ⟨gm, gn, go, gp⟩ := HU.out
  obtain ⟨gq, gr, gs, gt⟩ := HS.out
  obtain ⟨d1, hd1⟩ : ∃ z, u - x = z := ⟨_, rfl⟩
  obtain ⟨d2, hd2⟩ : ∃ z, v - y = z := ⟨_, rfl⟩
  have kd1 := kd_bd (d := d1) ka kb (by omega) (by omega)
  have kd2 := kd_bd (d := d2) ka kb (by omega) (by omega)
  obtain ⟨LD1, LD2, LD3⟩ := line_discs (a := a) (b := b) (c := c) (d := d) (a1 := x) (a2 := y) (d1 := d1) (d2 := d2) (r := r) (k := k) (s := s) (t := t) gb gf rc ka kb
  obtain ⟨e1, he1⟩ : ∃ z, x + 4 * d1 = z := ⟨_, rfl⟩
  obtain ⟨e2, he2⟩ : ∃ z, y + 4 * d2 = z := ⟨_, rfl⟩
  obtain ⟨m1, hm1⟩ : ∃ z, x + k * d1 = z := ⟨_, rfl⟩
  obtain ⟨m2, hm2⟩ : ∃ z, y + k * d2 = z := ⟨_, rfl⟩
  rw [he1, he2, hm1, hm2] at LD1 LD2 LD3
  obtain ⟨k1, hk1⟩ : ∃ z, lineK a b c d x y u v r = z := ⟨_, rfl⟩
  obtain ⟨k2, hk2⟩ : ∃ z, lineK a b c d x y x y r = z := ⟨_, rfl⟩
  obtain ⟨k3, hk3⟩ : ∃ z, discK r (nearS a b c d m1 m2) (mostS a b c d m1 m2) = z := ⟨_, rfl⟩
  obtain ⟨k4, hk4⟩ : ∃ z, lineK a b c d x y e1 e2 r = z := ⟨_, rfl⟩
  obtain ⟨h1, hh1⟩ : ∃ z, lineB x y u v r s t = z := ⟨_, rfl⟩
  obtain ⟨h2, hh2⟩ : ∃ z, lineB x y x y r s t = z := ⟨_, rfl⟩
  obtain ⟨h3, hh3⟩ : ∃ z, discB r (sqI m1 m2 s t) = z := ⟨_, rfl⟩
  obtain ⟨h4, hh4⟩ : ∃ z, lineB x y e1 e2 r s t = z := ⟨_, rfl⟩
  rw [hh3, hh4] at LD1
  rw [hk3, hk4] at LD2 LD3
  have HH4 := Lib.hid LD1
  have HK4 := Lib.hid LD2
  have HK0 := Lib.hid LD3
  have CK1 := Lib.hid (fun w => lineClass_is hk1 (by omega) (by omega) (by omega) (by omega) (by omega) (by omega) (by omega) (by omega) (by omega) (by omega) (by omega) (by omega) (by omega) (by omega) (by omega) w)
  have CK1' := Lib.hid (fun w => lineClass_is ((lineK_swap rc).trans hk1) (by omega) (by omega) (by omega) (by omega) (by omega) (by omega) (by omega) (by omega) (by omega) (by omega) (by omega) (by omega) (by omega) (by omega) (by omega) w)
  have CK2 := Lib.hid (fun w => lineClass_is hk2 (by omega) (by omega) (by omega) (by omega) (by omega) (by omega) (by omega) (by omega) (by omega) (by omega) (by omega) (by omega) (by omega) (by omega) (by omega) w)
  have CK2' := Lib.hid (fun w => discClass_is ((lineK_dot gb gf rc).symm.trans hk2) (by omega) (by omega) (by omega) (by omega) (by omega) (by omega) (by omega) (by omega) (by omega) (by omega) (by omega) w)
  have CK3 := Lib.hid (fun w => discClass_is hk3 (by omega) (by omega) (by omega) (by omega) (by omega) (by omega) (by omega) (by omega) (by omega) (by omega) (by omega) w)
  have CK4 := Lib.hid (fun w => lineClass_is hk4 (by omega) (by omega) (by omega) (by omega) (by omega) (by omega) (by omega) (by omega) (by omega) (by omega) (by omega) (by omega) (by omega) (by omega) (by omega) w)
  have CH1 := Lib.hid (fun w => lineHas_is hh1 (by omega) (by omega) (by omega) (by omega) (by omega) (by omega) (by omega) (by omega) (by omega) (by omega) (by omega) (by omega) (by omega) w)
  have CH1' := Lib.hid (fun w => lineHas_is ((lineB_swap rc).trans hh1) (by omega) (by omega) (by omega) (by omega) (by omega) (by omega) (by omega) (by omega) (by omega) (by omega) (by omega) (by omega) (by omega) w)
  have CH2 := Lib.hid (fun w => lineHas_is hh2 (by omega) (by omega) (by omega) (by omega) (by omega) (by omega) (by omega) (by omega) (by omega) (by omega) (by omega) (by omega) (by omega) w)
  have CH2' := Lib.hid (fun w => discHad_is (lineB_dot.symm.trans hh2) (by omega) (by omega) (by omega) (by omega) (by omega) (by omega) (by omega) (by omega) (by omega) w)
  have CH3 := Lib.hid (fun w => discHad_is hh3 (by omega) (by omega) (by omega) (by omega) (by omega) (by omega) (by omega) (by omega) (by omega) w)
  have CH4 := Lib.hid (fun w => lineHas_is hh4 (by omega) (by omega) (by omega) (by omega) (by omega) (by omega) (by omega) (by omega) (by omega) (by omega) (by omega) (by omega) (by omega) w)
  have v1 : IntKind.i64.wrap (u - x) = d1 := by rw [hd1]; exact IntWalk.i64_in _ (by omega)
  have v2 : IntKind.i64.wrap (v - y) = d2 := by rw [hd2]; exact IntWalk.i64_in _ (by omega)
  have v3 : IntKind.i64.wrap (4 * d1) = 4 * d1 := IntWalk.i64_in _ (by omega)
  have v4 : IntKind.i64.wrap (4 * d2) = 4 * d2 := IntWalk.i64_in _ (by omega)
  have v5 : IntKind.i64.wrap (x + 4 * d1) = e1 := by rw [he1]; exact IntWalk.i64_in _ (by omega)
  have v6 : IntKind.i64.wrap (y + 4 * d2) = e2 := by rw [he2]; exact IntWalk.i64_in _ (by omega)
  have v7 : IntKind.i64.wrap (k * d1) = k * d1 := IntWalk.i64_in _ (by omega)
  have v8 : IntKind.i64.wrap (k * d2) = k * d2 := IntWalk.i64_in _ (by omega)
  have v9 : IntKind.i64.wrap (x + k * d1) = m1 := by rw [hm1]; exact IntWalk.i64_in _ (by omega)
  have v10 : IntKind.i64.wrap (y + k * d2) = m2 := by rw [hm2]; exact IntWalk.i64_in _ (by omega)
  clear hk1 hk2 hk3 hk4 hh1 hh2 hh3 hh4 LD1 LD2 LD3 hd1 hd2 he1 he2 hm1 hm2 ga gb gc gd ge gf gg gh gi gj gk gl gm gn go gp gq gr gs gt ka kb kd1 kd2 rc rd HA HB HX HU HS
  have A0 := all_new (d1 := d1) (d2 := d2) (e1 := e1) (e2 := e2) (m1 := m1) (m2 := m2) F2.out 25
  have B1 := Lib.hid (bel_alloc (bel_alloc (bel_alloc B2.out (.cells #[.int .i64 d1, .int .i64 d2] 25)) (.cells #[.int .i64 e1, .int .i64 e2] 25)) (.cells #[.int .i64 m1, .int .i64 m2] 25))
  obtain ⟨⟨⟨i0, i1, i2, i3, il⟩, fi⟩, ⟨⟨j0, j1, jl⟩, fj⟩, ⟨⟨l0, l1, ll⟩, fl⟩, ⟨⟨n0, n1, nl⟩, fn⟩⟩ := F2.out
  clear B2 fi fj fl fn n0 n1 nl
  have A0 := Lib.hid A0
  go_upto_region 6 with (fail)
  obtain ⟨m, hm⟩ : ∃ m, V2.heap.size = m := ⟨_, rfl⟩
  rw [hm] at A0
  clear i0 i1 i2 i3 il j0 j1 jl l0 l1 ll F2 v1 v2 v3 v4 v5 v6 v7 v8 v9 v10 hk
  generalize ((V2.alloc (.cells #[.int .i64 d1, .int .i64 d2] 25)).alloc (.cells #[.int .i64 e1, .int .i64 e2] 25)).alloc (.cells #[.int .i64 m1, .int .i64 m2] 25) = W at *
  try rw [hm]
  clear hm
  obtain ⟨⟨i0, i1, i2, i3, il⟩, ⟨j0, j1, jl⟩, ⟨l0, l1, ll⟩, ⟨n0, n1, nl⟩, ⟨q0, q1, ql⟩, ⟨o0, o1, ol⟩⟩ := A0.out
  have i0 := cell_regrown i0
  have i1 := cell_regrown i1
  have i2 := cell_regrown i2
  have i3 := cell_regrown i3
  have j0 := cell_regrown j0
  have j1 := cell_regrown j1
  have l0 := cell_regrown l0
  have l1 := cell_regrown l1
  have n0 := cell_regrown n0
  have n1 := cell_regrown n1
  have q0 := cell_regrown q0
  have q1 := cell_regrown q1
  have o0 := cell_regrown o0
  have o1 := cell_regrown o1
  clear A0 il jl ll nl ql ol
  have D1 := Lib.hid (fun p : Regrown => Calls.regrown_of (CK1.out (grow (redrawn W p.d) p.os)))
  have D2 := Lib.hid (fun p : Regrown => Calls.regrown_of (CK1'.out (grow (redrawn W p.d) p.os)))
  have D3 := Lib.hid (fun p : Regrown => Calls.regrown_of (CK2.out (grow (redrawn W p.d) p.os)))
  have D4 := Lib.hid (fun p : Regrown => Calls.regrown_of (CK2'.out (grow (redrawn W p.d) p.os)))
  have D5 := Lib.hid (fun p : Regrown => Calls.regrown_of (CK3.out (grow (redrawn W p.d) p.os)))
  have D6 := Lib.hid (fun p : Regrown => Calls.regrown_of (CK4.out (grow (redrawn W p.d) p.os)))
  have H1 := Lib.hid (fun p : Regrown => Calls.regrown_of (CH1.out (grow (redrawn W p.d) p.os)))
  have H2 := Lib.hid (fun p : Regrown => Calls.regrown_of (CH1'.out (grow (redrawn W p.d) p.os)))
  have H3 := Lib.hid (fun p : Regrown => Calls.regrown_of (CH2.out (grow (redrawn W p.d) p.os)))
  have H4 := Lib.hid (fun p : Regrown => Calls.regrown_of (CH2'.out (grow (redrawn W p.d) p.os)))
  have H5 := Lib.hid (fun p : Regrown => Calls.regrown_of (CH3.out (grow (redrawn W p.d) p.os)))
  have H6 := Lib.hid (fun p : Regrown => Calls.regrown_of (CH4.out (grow (redrawn W p.d) p.os)))
  have DA := Lib.hid (fun p : Regrown => Calls.regrown_of (awake_any (grow (redrawn W p.d) p.os)))
  have hh4 := HH4.out
  have hk4 := HK4.out
  have hk0 := HK0.out
  clear CK1 CK1' CK2 CK2' CK3 CK4 CH1 CH1' CH2 CH2' CH3 CH4 HH4 HK4 HK0
  go_wp2_with fail
  simp only [List.append]
  refine wp_region_quiet_below (by kernel_rfl) (lexB_of (T := tab6) (by as_aux_lemma => kernel_rfl) (by as_aux_lemma => kernel_rfl) (by as_aux_lemma => kernel_rfl)) ?_
  cases h3 with
  | false =>
    clear hh4
    by_cases q2 : k3 = 2
    · obtain rfl : k4 = 2 := hk4 q2
      subst q2
      clear hk4 hk0
      as_aux_lemma =>
        repeat (go_big_quiet_step (first | with_reducible exact D1.out _ | with_reducible exact D2.out _ | with_reducible exact D3.out _ | with_reducible exact D4.out _ | with_reducible exact D5.out _ | with_reducible exact D6.out _ | with_reducible exact H1.out _ | with_reducible exact H2.out _ | with_reducible exact H3.out _ | with_reducible exact H4.out _ | with_reducible exact H5.out _ | with_reducible exact H6.out _ | with_reducible exact DA.out _))
        refine wpQuiet_nil ?_
        intro _ hw'
        obtain ⟨⟨dt, ost⟩, hw''⟩ := hw'
        subst hw''
        go_wp2
        go_ret
        exact ⟨rfl, bel_trans B1.out (below_regrown W dt ost)⟩
    · by_cases q0 : k4 = 0
      · obtain rfl : k3 = 0 := hk0 q0
        subst q0
        clear hk4 hk0 q2
        as_aux_lemma =>
          repeat (go_big_quiet_step (first | with_reducible exact D1.out _ | with_reducible exact D2.out _ | with_reducible exact D3.out _ | with_reducible exact D4.out _ | with_reducible exact D5.out _ | with_reducible exact D6.out _ | with_reducible exact H1.out _ | with_reducible exact H2.out _ | with_reducible exact H3.out _ | with_reducible exact H4.out _ | with_reducible exact H5.out _ | with_reducible exact H6.out _ | with_reducible exact DA.out _))
          refine wpQuiet_nil ?_
          intro _ hw'
          obtain ⟨⟨dt, ost⟩, hw''⟩ := hw'
          subst hw''
          go_wp2
          go_ret
          exact ⟨rfl, bel_trans B1.out (below_regrown W dt ost)⟩
      · have q2' : (k3 != 2) = true := by rw [bne_iff_ne]; exact q2
        have q0' : (k4 != 0) = true := by rw [bne_iff_ne]; exact q0
        clear hk4 hk0 q2 q0
        as_aux_lemma =>
          repeat (go_big_quiet_step (first | with_reducible exact D1.out _ | with_reducible exact D2.out _ | with_reducible exact D3.out _ | with_reducible exact D4.out _ | with_reducible exact D5.out _ | with_reducible exact D6.out _ | with_reducible exact H1.out _ | with_reducible exact H2.out _ | with_reducible exact H3.out _ | with_reducible exact H4.out _ | with_reducible exact H5.out _ | with_reducible exact H6.out _ | with_reducible exact DA.out _))
          refine wpQuiet_nil ?_
          intro _ hw'
          obtain ⟨⟨dt, ost⟩, hw''⟩ := hw'
          subst hw''
          go_wp2
          go_ret
          exact ⟨rfl, bel_trans B1.out (below_regrown W dt ost)⟩
  | true =>
    obtain rfl : h4 = true := hh4 rfl
    clear hh4
    by_cases q2 : k3 = 2
    · obtain rfl : k4 = 2 := hk4 q2
      subst q2
      clear hk4 hk0
      as_aux_lemma =>
        repeat (go_big_quiet_step (first | with_reducible exact D1.out _ | with_reducible exact D2.out _ | with_reducible exact D3.out _ | with_reducible exact D4.out _ | with_reducible exact D5.out _ | with_reducible exact D6.out _ | with_reducible exact H1.out _ | with_reducible exact H2.out _ | with_reducible exact H3.out _ | with_reducible exact H4.out _ | with_reducible exact H5.out _ | with_reducible exact H6.out _ | with_reducible exact DA.out _))
        refine wpQuiet_nil ?_
        intro _ hw'
        obtain ⟨⟨dt, ost⟩, hw''⟩ := hw'
        subst hw''
        go_wp2
        go_ret
        exact ⟨rfl, bel_trans B1.out (below_regrown W dt ost)⟩
    · by_cases q0 : k4 = 0
      · obtain rfl : k3 = 0 := hk0 q0
        subst q0
        clear hk4 hk0 q2
        as_aux_lemma =>
          repeat (go_big_quiet_step (first | with_reducible exact D1.out _ | with_reducible exact D2.out _ | with_reducible exact D3.out _ | with_reducible exact D4.out _ | with_reducible exact D5.out _ | with_reducible exact D6.out _ | with_reducible exact H1.out _ | with_reducible exact H2.out _ | with_reducible exact H3.out _ | with_reducible exact H4.out _ | with_reducible exact H5.out _ | with_reducible exact H6.out _ | with_reducible exact DA.out _))
          refine wpQuiet_nil ?_
          intro _ hw'
          obtain ⟨⟨dt, ost⟩, hw''⟩ := hw'
          subst hw''
          go_wp2
          go_ret
          exact ⟨rfl, bel_trans B1.out (below_regrown W dt ost)⟩
      · have q2' : (k3 != 2) = true := by rw [bne_iff_ne]; exact q2
        have q0' : (k4 != 0) = true := by rw [bne_iff_ne]; exact q0
        clear hk4 hk0 q2 q0
        as_aux_lemma =>
          repeat (go_big_quiet_step (first | with_reducible exact D1.out _ | with_reducible exact D2.out _ | with_reducible exact D3.out _ | with_reducible exact D4.out _ | with_reducible exact D5.out _ | with_reducible exact D6.out _ | with_reducible exact H1.out _ | with_reducible exact H2.out _ | with_reducible exact H3.out _ | with_reducible exact H4.out _ | with_reducible exact H5.out _ | with_reducible exact H6.out _ | with_reducible exact DA.out _))
          refine wpQuiet_nil ?_
          intro _ hw'
          obtain ⟨⟨dt, ost⟩, hw''⟩ := hw'
          subst hw''
          go_wp2
          go_ret
          exact ⟨rfl, bel_trans B1.out (below_regrown W dt ost)⟩
theorem walk (b0 b1 b2 b3 e0 e1 f0 f1 rr p0 p1 kk : Int) (_ : -9223372036854775808 ≤ b0) (_ : b0 ≤ 9223372036854775807) (_ : -9223372036854775808 ≤ b1) (_ : b1 ≤ 9223372036854775807) (_ : -9223372036854775808 ≤ b2) (_ : b2 ≤ 9223372036854775807) (_ : -9223372036854775808 ≤ b3) (_ : b3 ≤ 9223372036854775807) (_ : -9223372036854775808 ≤ e0) (_ : e0 ≤ 9223372036854775807) (_ : -9223372036854775808 ≤ e1) (_ : e1 ≤ 9223372036854775807) (_ : -9223372036854775808 ≤ f0) (_ : f0 ≤ 9223372036854775807) (_ : -9223372036854775808 ≤ f1) (_ : f1 ≤ 9223372036854775807) (_ : -9223372036854775808 ≤ rr) (_ : rr ≤ 9223372036854775807) (_ : -9223372036854775808 ≤ p0) (_ : p0 ≤ 9223372036854775807) (_ : -9223372036854775808 ≤ p1) (_ : p1 ≤ 9223372036854775807) (_ : -9223372036854775808 ≤ kk) (_ : kk ≤ 9223372036854775807) (w : World) :
    Calls Try.prog 6 #[boxV b0 b1 b2 b3, ptV e0 e1, ptV f0 f1, .int .i64 rr, ptV p0 p1, .int .i64 kk] w fun e w' => e = .returned (.bool true) ∧ Below w.heap.size w w' := by
  obtain ⟨a, b, c, d, ha, hb, X1⟩ := small_form b0 b1 b2 b3
  obtain ⟨x, y, hx, X2⟩ := close_form e0 e1 20 21 (by omega) (by omega) rfl
  obtain ⟨u, v, hu, X3⟩ := close_form f0 f1 20 21 (by omega) (by omega) rfl
  obtain ⟨s, t, hs, X4⟩ := close_form p0 p1 40 41 (by omega) (by omega) rfl
  obtain ⟨r, r1, r2, X5⟩ := r_form rr
  obtain ⟨r', r3, r4, hr⟩ := r_left (n := 12) r1 (by omega)
  obtain ⟨k, k0, k3, hk⟩ := mask_3 kk
  exact core b0 b1 b2 b3 e0 e1 f0 f1 rr p0 p1 kk a b c d x y u v s t r r' k X1 X2 X3 X4 (fun w => r_below X5 w) ha hb hx hu hs hr r3 (by omega) hk k0 k3 w
theorem own : ownKnob Try.prog.godebug = none := by kernel_rfl
set_option maxRecDepth 100000 in
set_option maxHeartbeats 4000000 in
theorem lifted (os : Os) (started : os.Started) (H : Type) (enc : TypeId × Value → H) :
    ReturnsInHanded {} Try.checked os 6 .any (Rows.lineMeansSpec.pre6 enc Try.prog Try.f6 Rows.lineMeansRow.domain false) (Rows.lineMeansSpec.post enc Try.prog Try.f6 false true false false) := by
  refine returnsInHanded_of_change (C := Try.checked) own started (by kernel_rfl) Try.func6
    (ChangeSpec.witness6 (enc := enc) (C := Try.checked) false ⟨#[], #[.agg #[.int .i64 0, .int .i64 0, .int .i64 0, .int .i64 0], .agg #[.int .i64 0, .int .i64 0], .agg #[.int .i64 0, .int .i64 0], .int .i64 0, .agg #[.int .i64 0, .int .i64 0], .int .i64 0], []⟩ 8 (by kernel_rfl) (by kernel_rfl) (by kernel_rfl) (by kernel_rfl)) ?_
  intro W base args ds gs before hval0 hW _ _
  have hval : ∀ (j : Nat) t v, Try.f6.params[j]? = some t → args[j]? = some v → Value.okWide Try.prog W .any base t v := hval0
  have hW' := hW
  obtain ⟨p, q, hA0, hV, rfl, hfz, hnd⟩ := hW
  have hA : DataW.TrodAll enc Try.prog W 0 (fun _ => true) true Try.f6.params.toList args.toList ds p := hA0
  rw [Try.params6] at hA hval
  obtain ⟨v0, vs0, d0, ds0, p0, q0, hargs, rfl, rfl, h0, r0⟩ := trodAll_cons hA
  obtain ⟨v1, vs1, d1, ds1, p1, q1, rfl, rfl, rfl, h1, r1⟩ := trodAll_cons r0
  obtain ⟨v2, vs2, d2, ds2, p2, q2, rfl, rfl, rfl, h2, r2⟩ := trodAll_cons r1
  obtain ⟨v3, vs3, d3, ds3, p3, q3, rfl, rfl, rfl, h3, r3⟩ := trodAll_cons r2
  obtain ⟨v4, vs4, d4, ds4, p4, q4, rfl, rfl, rfl, h4, r4⟩ := trodAll_cons r3
  obtain ⟨v5, vs5, d5, ds5, p5, q5, rfl, rfl, rfl, h5, r5⟩ := trodAll_cons r4
  obtain ⟨rfl, rfl, rfl⟩ := trodAll_nil r5
  obtain rfl : args = #[v0, v1, v2, v3, v4, v5] := by cases args; simp_all
  obtain ⟨rfl, rfl⟩ := trodVars_none hV
  obtain ⟨c0_0, c0_1, c0_2, c0_3, y0_0, y0_1, y0_2, y0_3, m0, rfl, rfl, rfl, k0_0, k0_1, k0_2, k0_3⟩ := open_agg4 Try.underlying23 (by kernel_rfl) (by kernel_rfl) (hval 0 23 v0 rfl rfl) h0
  obtain ⟨a0_0, ea0_0, rfl, wa0_0⟩ := DataW.trod_int Try.underlying2 k0_0
  simp at ea0_0; subst ea0_0
  obtain ⟨a0_1, ea0_1, rfl, wa0_1⟩ := DataW.trod_int Try.underlying2 k0_1
  simp at ea0_1; subst ea0_1
  obtain ⟨a0_2, ea0_2, rfl, wa0_2⟩ := DataW.trod_int Try.underlying2 k0_2
  simp at ea0_2; subst ea0_2
  obtain ⟨a0_3, ea0_3, rfl, wa0_3⟩ := DataW.trod_int Try.underlying2 k0_3
  simp at ea0_3; subst ea0_3
  obtain ⟨c1_0, c1_1, y1_0, y1_1, m1, rfl, rfl, rfl, k1_0, k1_1⟩ := open_agg2 Try.underlying25 (by kernel_rfl) (by kernel_rfl) (hval 1 25 v1 rfl rfl) h1
  obtain ⟨a1_0, ea1_0, rfl, wa1_0⟩ := DataW.trod_int Try.underlying2 k1_0
  simp at ea1_0; subst ea1_0
  obtain ⟨a1_1, ea1_1, rfl, wa1_1⟩ := DataW.trod_int Try.underlying2 k1_1
  simp at ea1_1; subst ea1_1
  obtain ⟨c2_0, c2_1, y2_0, y2_1, m2, rfl, rfl, rfl, k2_0, k2_1⟩ := open_agg2 Try.underlying25 (by kernel_rfl) (by kernel_rfl) (hval 2 25 v2 rfl rfl) h2
  obtain ⟨a2_0, ea2_0, rfl, wa2_0⟩ := DataW.trod_int Try.underlying2 k2_0
  simp at ea2_0; subst ea2_0
  obtain ⟨a2_1, ea2_1, rfl, wa2_1⟩ := DataW.trod_int Try.underlying2 k2_1
  simp at ea2_1; subst ea2_1
  obtain ⟨a3, rfl, rfl, rfl, w3⟩ := open_int Try.underlying2 (hval 3 2 v3 rfl rfl) h3
  obtain ⟨c4_0, c4_1, y4_0, y4_1, m4, rfl, rfl, rfl, k4_0, k4_1⟩ := open_agg2 Try.underlying25 (by kernel_rfl) (by kernel_rfl) (hval 4 25 v4 rfl rfl) h4
  obtain ⟨a4_0, ea4_0, rfl, wa4_0⟩ := DataW.trod_int Try.underlying2 k4_0
  simp at ea4_0; subst ea4_0
  obtain ⟨a4_1, ea4_1, rfl, wa4_1⟩ := DataW.trod_int Try.underlying2 k4_1
  simp at ea4_1; subst ea4_1
  obtain ⟨a5, rfl, rfl, rfl, w5⟩ := open_int Try.underlying2 (hval 5 2 v5 rfl rfl) h5
  have s0 : ∀ (W' : World) (sp : Nat → Bool), DataW.Trod enc Try.prog W' 0 sp true 23 (.agg #[.int .i64 a0_0, .int .i64 a0_1, .int .i64 a0_2, .int .i64 a0_3]) (.agg [.lit (.int .i64 a0_0), .lit (.int .i64 a0_1), .lit (.int .i64 a0_2), .lit (.int .i64 a0_3)]) [] := fun W' sp =>
    shut_agg4 (y0 := (.lit (.int .i64 a0_0), [])) (y1 := (.lit (.int .i64 a0_1), [])) (y2 := (.lit (.int .i64 a0_2), [])) (y3 := (.lit (.int .i64 a0_3), [])) Try.underlying23 (by kernel_rfl) (by kernel_rfl) ⟨1, by simp [DataW.trod, Try.underlying2, wa0_0]⟩ ⟨1, by simp [DataW.trod, Try.underlying2, wa0_1]⟩ ⟨1, by simp [DataW.trod, Try.underlying2, wa0_2]⟩ ⟨1, by simp [DataW.trod, Try.underlying2, wa0_3]⟩
  have s1 : ∀ (W' : World) (sp : Nat → Bool), DataW.Trod enc Try.prog W' 0 sp true 25 (.agg #[.int .i64 a1_0, .int .i64 a1_1]) (.agg [.lit (.int .i64 a1_0), .lit (.int .i64 a1_1)]) [] := fun W' sp =>
    shut_agg2 (y0 := (.lit (.int .i64 a1_0), [])) (y1 := (.lit (.int .i64 a1_1), [])) Try.underlying25 (by kernel_rfl) (by kernel_rfl) ⟨1, by simp [DataW.trod, Try.underlying2, wa1_0]⟩ ⟨1, by simp [DataW.trod, Try.underlying2, wa1_1]⟩
  have s2 : ∀ (W' : World) (sp : Nat → Bool), DataW.Trod enc Try.prog W' 0 sp true 25 (.agg #[.int .i64 a2_0, .int .i64 a2_1]) (.agg [.lit (.int .i64 a2_0), .lit (.int .i64 a2_1)]) [] := fun W' sp =>
    shut_agg2 (y0 := (.lit (.int .i64 a2_0), [])) (y1 := (.lit (.int .i64 a2_1), [])) Try.underlying25 (by kernel_rfl) (by kernel_rfl) ⟨1, by simp [DataW.trod, Try.underlying2, wa2_0]⟩ ⟨1, by simp [DataW.trod, Try.underlying2, wa2_1]⟩
  have s4 : ∀ (W' : World) (sp : Nat → Bool), DataW.Trod enc Try.prog W' 0 sp true 25 (.agg #[.int .i64 a4_0, .int .i64 a4_1]) (.agg [.lit (.int .i64 a4_0), .lit (.int .i64 a4_1)]) [] := fun W' sp =>
    shut_agg2 (y0 := (.lit (.int .i64 a4_0), [])) (y1 := (.lit (.int .i64 a4_1), [])) Try.underlying25 (by kernel_rfl) (by kernel_rfl) ⟨1, by simp [DataW.trod, Try.underlying2, wa4_0]⟩ ⟨1, by simp [DataW.trod, Try.underlying2, wa4_1]⟩
  clear hA0 hval0
  simp only [List.append_nil] at hW'
  refine (walk a0_0 a0_1 a0_2 a0_3 a1_0 a1_1 a2_0 a2_1 a3 a4_0 a4_1 a5 (bounds_i64 wa0_0).1 (bounds_i64 wa0_0).2 (bounds_i64 wa0_1).1 (bounds_i64 wa0_1).2 (bounds_i64 wa0_2).1 (bounds_i64 wa0_2).2 (bounds_i64 wa0_3).1 (bounds_i64 wa0_3).2 (bounds_i64 wa1_0).1 (bounds_i64 wa1_0).2 (bounds_i64 wa1_1).1 (bounds_i64 wa1_1).2 (bounds_i64 wa2_0).1 (bounds_i64 wa2_0).2 (bounds_i64 wa2_1).1 (bounds_i64 wa2_1).2 (bounds_i64 w3).1 (bounds_i64 w3).2 (bounds_i64 wa4_0).1 (bounds_i64 wa4_0).2 (bounds_i64 wa4_1).1 (bounds_i64 wa4_1).2 (bounds_i64 w5).1 (bounds_i64 w5).2 W).mono fun e W' ⟨he, bel⟩ => ?_
  subst he
  exact ⟨_, rfl, _, _, _, [], _, [], hW', trodAll_mk1 (shut_bool Try.underlying4 _), (trodAll_cons_mk (s0 _ _) (trodAll_cons_mk (s1 _ _) (trodAll_cons_mk (s2 _ _) (trodAll_cons_mk (shut_int Try.underlying2 w3) (trodAll_cons_mk (s4 _ _) (trodAll_cons_mk (shut_int Try.underlying2 w5) trodAll_mk0)))))), rfl, bel.frame _, fun h => by cases h⟩
theorem over : Rows.lineMeansRow.holds Try.pinned (OpenSpec.ofChange Rows.lineMeansSpec) :=
  OpenClaim.holds_of_wide 6 Try.f6 rfl rfl rfl rfl rfl rfl rfl ⟨rfl, rfl, rfl, rfl, rfl⟩ rfl rfl rfl rfl rfl (by kernel_rfl) Try.func6 (by kernel_rfl)
    (of_decide_eq_true (by kernel_rfl)) (by unfold Func.isWrapper; first | (rw [if_pos (by decide +kernel)]; kernel_rfl) | (rw [if_neg (by decide +kernel)]; exact ⟨rfl, rfl⟩))
    (fun os started H enc _ => lifted os started H enc)
theorem proved : Rows.LineMeansSaid := over
#print axioms proved
end Go.Proofs.Ytfknddjclkjhoaa.lineMeans
