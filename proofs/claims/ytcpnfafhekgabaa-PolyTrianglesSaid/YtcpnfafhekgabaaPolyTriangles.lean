/- A triangle has just the points that are on one side of all its edges, and those of further points told beside it: for every four points that the law makes of any numbers of 64 bits, great and small. No condition. -/
import Derived.Test.YtcpnfafhekgabaaRows
import Derived.Test.YtcpnfafhekgabaaAwake6
import Derived.Test.YtcpnfafhekgabaaRefBoxM
import Derived.Test.YtcpnfafhekgabaaCloseN
import Derived.Test.YtcpnfafhekgabaaHeldMore
import Derived.Test.YtcpnfafhekgabaaLit6
import Derived.Test.YtcpnfafhekgabaaQuietTail
import Derived.ProofKit
import Derived.OpenShut
import Derived.ShutString
import Derived.ChangeOld
import Derived.Below
import Derived.Lib.SmallJoins
import Derived.Lib.QuietBelow
import Derived.BigQuiet
import Derived.Deep.DeepCutAuto
namespace Go.Proofs.Ytcpnfafhekgabaa.polyTriangles
open Go.ChangeShapes Go.WideShapes Go.ChangeAt Go.RowKit Go.Joins
open Go.Sort (grow)

theorem pt_below {a b x y : Int} (h : a.tmod 536870913 = x) (k : b.tmod 536870913 = y) (w : World) :
    Calls Try.prog 8 #[ptV a b] w fun e w' => e = .returned (ptV x y) ∧ Below w.heap.size w w' := (pt_is h k w).mono fun _ _ k => ⟨k.1, k.2 ▸ bel_alloc (bel_alloc (bel_refl w) _) _⟩
theorem close_below {a b x y : Int} (h : a.tmod 10 = x) (g : b.tmod 10 = y) (w : World) :
    Calls Try.prog 9 #[ptV a b, .int .i64 9] w fun e w' => e = .returned (ptV x y) ∧ Below w.heap.size w w' := (closeN (n := 9) (by omega) (by omega) rfl h g w).mono fun _ _ k => ⟨k.1, k.2 ▸ bel_drew (bel_alloc (bel_alloc (bel_refl w) _) _)⟩
theorem fine_tri (a b c d x f : Int) (h : (-536870912 ≤ a ∧ a ≤ 536870912 ∧ -536870912 ≤ b ∧ b ≤ 536870912) ∧ (-536870912 ≤ c ∧ c ≤ 536870912 ∧ -536870912 ≤ d ∧ d ≤ 536870912) ∧ (-536870912 ≤ x ∧ x ≤ 536870912 ∧ -536870912 ≤ f ∧ f ≤ 536870912)) : Fine [[(a, b), (c, d), (x, f)]] ∧ Fine [[(a, b), (c, d), (x, f)], [], [(a, b)], [(c, d), (c, d)]] := by
  refine ⟨fine_of (by simp) (by simp) fun e he p hp => ?_, fine_of (by simp) (by simp) fun e he p hp => ?_⟩
  · simp only [List.mem_cons, List.not_mem_nil, or_false] at he
    subst he
    simp only [List.mem_cons, List.not_mem_nil, or_false] at hp
    rcases hp with rfl | rfl | rfl <;> simp only [] <;> omega
  · simp only [List.mem_cons, List.not_mem_nil, or_false] at he
    rcases he with rfl | rfl | rfl | rfl <;> simp only [List.mem_cons, List.not_mem_nil, or_false] at hp
    · rcases hp with rfl | rfl | rfl <;> simp only [] <;> omega
    · subst hp; simp only []; omega
    · rcases hp with rfl | rfl <;> simp only [] <;> omega
theorem rows_tri1 (w : World) (a b c d x f : Int) (tp ts : TypeId) : RowsAt ((w.alloc (.cells #[.int .i64 a, .int .i64 b, .int .i64 c, .int .i64 d, .int .i64 x, .int .i64 f] tp)).alloc (.cells #[.slice (some ⟨w.heap.size, 0, none⟩) 3 3] ts)) ((w.alloc (.cells #[.int .i64 a, .int .i64 b, .int .i64 c, .int .i64 d, .int .i64 x, .int .i64 f] tp)).alloc (.cells #[.slice (some ⟨w.heap.size, 0, none⟩) 3 3] ts)).heap.size (.slice (some ⟨w.heap.size + 1, 0, none⟩) 1 1) [[(a, b), (c, d), (x, f)]] := by
  have r := rows_one (t := ts) (PtsAt.new w (cs := #[.int .i64 a, .int .i64 b, .int .i64 c, .int .i64 d, .int .i64 x, .int .i64 f]) (t := tp) (c := [(a, b), (c, d), (x, f)]) rfl (n := 3) rfl)
  rw [show (w.alloc (.cells #[.int .i64 a, .int .i64 b, .int .i64 c, .int .i64 d, .int .i64 x, .int .i64 f] tp)).heap.size = w.heap.size + 1 by simp] at r
  exact r
theorem rows_tri (w : World) (a b c d x f : Int) (tp ts : TypeId) : RowsAt ((((w.alloc (.cells #[.int .i64 a, .int .i64 b, .int .i64 c, .int .i64 d, .int .i64 x, .int .i64 f] tp)).alloc (.cells #[.int .i64 a, .int .i64 b] tp)).alloc (.cells #[.int .i64 c, .int .i64 d, .int .i64 c, .int .i64 d] tp)).alloc (.cells #[.slice (some ⟨w.heap.size, 0, none⟩) 3 3, .slice none 0 0, .slice (some ⟨w.heap.size + 1, 0, none⟩) 1 1, .slice (some ⟨w.heap.size + 1 + 1, 0, none⟩) 2 2] ts))
    ((((w.alloc (.cells #[.int .i64 a, .int .i64 b, .int .i64 c, .int .i64 d, .int .i64 x, .int .i64 f] tp)).alloc (.cells #[.int .i64 a, .int .i64 b] tp)).alloc (.cells #[.int .i64 c, .int .i64 d, .int .i64 c, .int .i64 d] tp)).alloc (.cells #[.slice (some ⟨w.heap.size, 0, none⟩) 3 3, .slice none 0 0, .slice (some ⟨w.heap.size + 1, 0, none⟩) 1 1, .slice (some ⟨w.heap.size + 1 + 1, 0, none⟩) 2 2] ts)).heap.size
    (.slice (some ⟨w.heap.size + 1 + 1 + 1, 0, none⟩) 4 4) [[(a, b), (c, d), (x, f)], [], [(a, b)], [(c, d), (c, d)]] := by
  have s1 : (w.alloc (.cells #[.int .i64 a, .int .i64 b, .int .i64 c, .int .i64 d, .int .i64 x, .int .i64 f] tp)).heap.size = w.heap.size + 1 := by simp
  have s2 : ((w.alloc (.cells #[.int .i64 a, .int .i64 b, .int .i64 c, .int .i64 d, .int .i64 x, .int .i64 f] tp)).alloc (.cells #[.int .i64 a, .int .i64 b] tp)).heap.size = w.heap.size + 1 + 1 := by simp
  have s3 : (((w.alloc (.cells #[.int .i64 a, .int .i64 b, .int .i64 c, .int .i64 d, .int .i64 x, .int .i64 f] tp)).alloc (.cells #[.int .i64 a, .int .i64 b] tp)).alloc (.cells #[.int .i64 c, .int .i64 d, .int .i64 c, .int .i64 d] tp)).heap.size = w.heap.size + 1 + 1 + 1 := by simp
  have p1 := (PtsAt.new w (cs := #[.int .i64 a, .int .i64 b, .int .i64 c, .int .i64 d, .int .i64 x, .int .i64 f]) (t := tp) (c := [(a, b), (c, d), (x, f)]) rfl (n := 3) rfl).on (bel_alloc (bel_alloc (bel_refl _) (.cells #[.int .i64 a, .int .i64 b] tp)) (.cells #[.int .i64 c, .int .i64 d, .int .i64 c, .int .i64 d] tp))
  have p2 := (PtsAt.new (w.alloc (.cells #[.int .i64 a, .int .i64 b, .int .i64 c, .int .i64 d, .int .i64 x, .int .i64 f] tp)) (cs := #[.int .i64 a, .int .i64 b]) (t := tp) (c := [(a, b)]) rfl (n := 1) rfl).on (bel_alloc (bel_refl _) (.cells #[.int .i64 c, .int .i64 d, .int .i64 c, .int .i64 d] tp))
  have p3 := PtsAt.new ((w.alloc (.cells #[.int .i64 a, .int .i64 b, .int .i64 c, .int .i64 d, .int .i64 x, .int .i64 f] tp)).alloc (.cells #[.int .i64 a, .int .i64 b] tp)) (cs := #[.int .i64 c, .int .i64 d, .int .i64 c, .int .i64 d]) (t := tp) (c := [(c, d), (c, d)]) rfl (n := 2) rfl
  rw [s1] at p2
  rw [s2] at p3
  have r := rows_four (t := ts) p1 (PtsAt.nil _ _ 0 none) p2 p3
  rw [s3] at r
  exact r
/-- Four points that are not too far, in their blocks. -/
def Fin (w : World) (wc : World) : Prop :=
  ∃ a b c d e f g h : Int, ((-536870912 ≤ a ∧ a ≤ 536870912 ∧ -536870912 ≤ b ∧ b ≤ 536870912) ∧ (-536870912 ≤ c ∧ c ≤ 536870912 ∧ -536870912 ≤ d ∧ d ≤ 536870912) ∧ (-536870912 ≤ e ∧ e ≤ 536870912 ∧ -536870912 ≤ f ∧ f ≤ 536870912) ∧ -536870912 ≤ g ∧ g ≤ 536870912 ∧ -536870912 ≤ h ∧ h ≤ 536870912) ∧
    P4 w.heap.size a b c d e f g h wc ∧ Below w.heap.size w wc
set_option maxRecDepth 100000 in
set_option maxHeartbeats 16000000 in
theorem walk (k0 k1 l0 l1 m0 m1 n0 n1 : Int) (small : Bool) (_ : -9223372036854775808 ≤ k0) (_ : k0 ≤ 9223372036854775807) (_ : -9223372036854775808 ≤ k1) (_ : k1 ≤ 9223372036854775807) (_ : -9223372036854775808 ≤ l0) (_ : l0 ≤ 9223372036854775807) (_ : -9223372036854775808 ≤ l1) (_ : l1 ≤ 9223372036854775807) (_ : -9223372036854775808 ≤ m0) (_ : m0 ≤ 9223372036854775807) (_ : -9223372036854775808 ≤ m1) (_ : m1 ≤ 9223372036854775807) (_ : -9223372036854775808 ≤ n0) (_ : n0 ≤ 9223372036854775807) (_ : -9223372036854775808 ≤ n1) (_ : n1 ≤ 9223372036854775807) (w : World) :
    Calls Try.prog 3 #[ptV k0 k1, ptV l0 l1, ptV m0 m1, ptV n0 n1, .bool small] w fun e w' => e = .returned (.bool true) ∧ Below w.heap.size w w' := by
  obtain ⟨a, a0, a1, ea⟩ := tmod_at k0 536870913 (by omega)
  obtain ⟨b, b0, b1, eb⟩ := tmod_at k1 536870913 (by omega)
  obtain ⟨c, c0, c1, ec⟩ := tmod_at l0 536870913 (by omega)
  obtain ⟨d, d0, d1, ed⟩ := tmod_at l1 536870913 (by omega)
  obtain ⟨x, e0, e1, ee⟩ := tmod_at m0 536870913 (by omega)
  obtain ⟨f, f0, f1, ef⟩ := tmod_at m1 536870913 (by omega)
  obtain ⟨g, g0, g1, eg⟩ := tmod_at n0 536870913 (by omega)
  obtain ⟨h, h0, h1, eh⟩ := tmod_at n1 536870913 (by omega)
  have HX1 := Lib.hid (fun w => pt_below ea eb w)
  have HX2 := Lib.hid (fun w => pt_below ec ed w)
  have HX3 := Lib.hid (fun w => pt_below ee ef w)
  have HX4 := Lib.hid (fun w => pt_below eg eh w)
  have F0 := p4_new w k0 k1 l0 l1 m0 m1 n0 n1 23
  have B0 := bel_newP4 w k0 k1 l0 l1 m0 m1 n0 n1 23
  unfold newP4 at F0 B0
  have F0 := Lib.hid F0
  have B0 := Lib.hid B0
  clear ea eb ec ed ee ef eg eh
  go_enter Try.func3, Try.ntmps3
  go_wp2_with fail
  generalize ((((w.alloc (.cells #[.int .i64 k0, .int .i64 k1] 23)).alloc (.cells #[.int .i64 l0, .int .i64 l1] 23)).alloc (.cells #[.int .i64 m0, .int .i64 m1] 23)).alloc (.cells #[.int .i64 n0, .int .i64 n1] 23)) = V at *
  obtain ⟨⟨⟨i0, i1, il⟩, fi⟩, ⟨⟨j0, j1, jl⟩, fj⟩, ⟨⟨q0, q1, ql⟩, fq⟩, ⟨⟨r0, r1, rl⟩, fr⟩⟩ := F0.out
  have i0 := cell_regrown i0
  have i1 := cell_regrown i1
  have j0 := cell_regrown j0
  have j1 := cell_regrown j1
  have q0 := cell_regrown q0
  have q1 := cell_regrown q1
  have r0 := cell_regrown r0
  have r1 := cell_regrown r1
  have D1 := Lib.hid (fun p : Regrown => Calls.regrown_of (HX1.out (grow (redrawn V p.d) p.os)))
  have D2 := Lib.hid (fun p : Regrown => Calls.regrown_of (HX2.out (grow (redrawn V p.d) p.os)))
  have D3 := Lib.hid (fun p : Regrown => Calls.regrown_of (HX3.out (grow (redrawn V p.d) p.os)))
  have D4 := Lib.hid (fun p : Regrown => Calls.regrown_of (HX4.out (grow (redrawn V p.d) p.os)))
  clear HX1 HX2 HX3 HX4
  refine region_below_tail 8 (by kernel_rfl) (by kernel_rfl) ?_
  simp only [List.take_succ_cons, List.take_zero]
  repeat (go_big_quiet_step (first | with_reducible exact D1.out _ | with_reducible exact D2.out _ | with_reducible exact D3.out _ | with_reducible exact D4.out _))
  refine wpQuiet_nil ?_
  intro _ hw'
  obtain ⟨⟨dr, osr⟩, hw''⟩ := hw'
  subst hw''
  clear i0 i1 j0 j1 q0 q1 r0 r1 D1 D2 D3 D4 il fi jl fj ql fq rl fr
  have zz := below_regrown V dr osr
  have F1 := Lib.hid (F0.out.later zz)
  have B1 := Lib.hid (bel_trans B0.out zz)
  clear F0 B0 zz
  generalize grow (redrawn V dr) osr = V1 at *
  simp only [List.drop_succ_cons, List.drop_zero]
  obtain ⟨⟨⟨i0, i1, il⟩, fi⟩, ⟨⟨j0, j1, jl⟩, fj⟩, ⟨⟨q0, q1, ql⟩, fq⟩, ⟨⟨r0, r1, rl⟩, fr⟩⟩ := F1.out
  go_upto_if 23 with (fail)
  clear i0 i1 j0 j1 q0 q1 r0 r1 il fi jl fj ql fq rl fr
  have F2 := F1.out.stored a b c d x f g h
  have B2 := bel_p4 B1.out (Nat.le_refl _) a b c d x f g h
  unfold setP4 at F2 B2
  have F2 := Lib.hid F2
  have B2 := Lib.hid B2
  clear F1 B1
  generalize ((((((((V1.setCell ⟨w.heap.size, 0, none⟩ (.int .i64 a)).setCell ⟨w.heap.size, 1, none⟩ (.int .i64 b)).setCell ⟨w.heap.size + 1, 0, none⟩ (.int .i64 c)).setCell ⟨w.heap.size + 1, 1, none⟩ (.int .i64 d)).setCell ⟨w.heap.size + 1 + 1, 0, none⟩ (.int .i64 x)).setCell ⟨w.heap.size + 1 + 1, 1, none⟩ (.int .i64 f)).setCell ⟨w.heap.size + 1 + 1 + 1, 0, none⟩ (.int .i64 g)).setCell ⟨w.heap.size + 1 + 1 + 1, 1, none⟩ (.int .i64 h)) = V2 at *
  go_cut [10] (fun s10 wc => s10 = .bool false ∧ Fin w wc)
  case first =>
    cases small with
    | false =>
      go_wp2
      go_meet
      exact ⟨rfl, a, b, c, d, x, f, g, h, by omega, F2.out, B2.out⟩
    | true =>
      obtain ⟨a', a2, a3, ea⟩ := tmod_at a 10 (by omega)
      obtain ⟨b', b2, b3, eb⟩ := tmod_at b 10 (by omega)
      obtain ⟨c', c2, c3, ec⟩ := tmod_at c 10 (by omega)
      obtain ⟨d', d2, d3, ed⟩ := tmod_at d 10 (by omega)
      obtain ⟨x', x2, x3, ee⟩ := tmod_at x 10 (by omega)
      obtain ⟨f', f2, f3, ef⟩ := tmod_at f 10 (by omega)
      obtain ⟨g', g2, g3, eg⟩ := tmod_at g 10 (by omega)
      obtain ⟨h', h2, h3, eh⟩ := tmod_at h 10 (by omega)
      have HX1 := Lib.hid (fun w => close_below ea eb w)
      have HX2 := Lib.hid (fun w => close_below ec ed w)
      have HX3 := Lib.hid (fun w => close_below ee ef w)
      have HX4 := Lib.hid (fun w => close_below eg eh w)
      have HBD := Lib.hid (show (-536870912 ≤ a' ∧ a' ≤ 536870912 ∧ -536870912 ≤ b' ∧ b' ≤ 536870912) ∧ (-536870912 ≤ c' ∧ c' ≤ 536870912 ∧ -536870912 ≤ d' ∧ d' ≤ 536870912) ∧ (-536870912 ≤ x' ∧ x' ≤ 536870912 ∧ -536870912 ≤ f' ∧ f' ≤ 536870912) ∧ -536870912 ≤ g' ∧ g' ≤ 536870912 ∧ -536870912 ≤ h' ∧ h' ≤ 536870912 by omega)
      clear ea eb ec ed ee ef eg eh a2 a3 b2 b3 c2 c3 d2 d3 x2 x3 f2 f3 g2 g3 h2 h3
      go_wp2_with fail
      obtain ⟨⟨⟨i0, i1, il⟩, fi⟩, ⟨⟨j0, j1, jl⟩, fj⟩, ⟨⟨q0, q1, ql⟩, fq⟩, ⟨⟨r0, r1, rl⟩, fr⟩⟩ := F2.out
      have i0 := cell_regrown i0
      have i1 := cell_regrown i1
      have j0 := cell_regrown j0
      have j1 := cell_regrown j1
      have q0 := cell_regrown q0
      have q1 := cell_regrown q1
      have r0 := cell_regrown r0
      have r1 := cell_regrown r1
      have D1 := Lib.hid (fun p : Regrown => Calls.regrown_of (HX1.out (grow (redrawn V2 p.d) p.os)))
      have D2 := Lib.hid (fun p : Regrown => Calls.regrown_of (HX2.out (grow (redrawn V2 p.d) p.os)))
      have D3 := Lib.hid (fun p : Regrown => Calls.regrown_of (HX3.out (grow (redrawn V2 p.d) p.os)))
      have D4 := Lib.hid (fun p : Regrown => Calls.regrown_of (HX4.out (grow (redrawn V2 p.d) p.os)))
      clear HX1 HX2 HX3 HX4
      refine region_below_tail 8 (by kernel_rfl) (by kernel_rfl) ?_
      simp only [List.take_succ_cons, List.take_zero]
      repeat (go_big_quiet_step (first | with_reducible exact D1.out _ | with_reducible exact D2.out _ | with_reducible exact D3.out _ | with_reducible exact D4.out _))
      refine wpQuiet_nil ?_
      intro _ hw'
      obtain ⟨⟨dr, osr⟩, hw''⟩ := hw'
      subst hw''
      clear i0 i1 j0 j1 q0 q1 r0 r1 D1 D2 D3 D4 il fi jl fj ql fq rl fr
      have zz := below_regrown V2 dr osr
      have F3 := Lib.hid (F2.out.later zz)
      have B3 := Lib.hid (bel_trans B2.out zz)
      clear F2 B2 zz
      generalize grow (redrawn V2 dr) osr = V3 at *
      simp only [List.drop_succ_cons, List.drop_zero]
      obtain ⟨⟨⟨i0, i1, il⟩, fi⟩, ⟨⟨j0, j1, jl⟩, fj⟩, ⟨⟨q0, q1, ql⟩, fq⟩, ⟨⟨r0, r1, rl⟩, fr⟩⟩ := F3.out
      go_wp2_with fail
      go_meet
      exact ⟨rfl, a', b', c', d', x', f', g', h', HBD.out, F3.out.stored a' b' c' d' x' f' g' h', bel_p4 B3.out (Nat.le_refl _) a' b' c' d' x' f' g' h'⟩
  case rest =>
    obtain ⟨rfl, a, b, c, d, x, f, g, h, hbd, hF, hB⟩ := hcut
    clear F2 B2
    have F := Lib.hid hF
    have B := Lib.hid hB
    clear hF hB
    obtain ⟨k, hk⟩ : ∃ k, crI a b c d x f = k := ⟨_, rfl⟩
    have K0 := Lib.hid (fun w => refCross_is hk (by omega) (by omega) (by omega) (by omega) (by omega) (by omega) (by omega) (by omega) (by omega) (by omega) (by omega) (by omega) w)
    obtain ⟨⟨⟨i0, i1, il⟩, fi⟩, ⟨⟨j0, j1, jl⟩, fj⟩, ⟨⟨q0, q1, ql⟩, fq⟩, ⟨⟨r0, r1, rl⟩, fr⟩⟩ := F.out
    have hk := Lib.hid hk
    go_wp2_with fail
    refine (K0.out _).mono ?_; rintro e w5 ⟨rfl, b5⟩
    have F5 := Lib.hid (F.out.later b5)
    have B5 := Lib.hid (bel_trans B.out b5)
    clear b5 F B K0 i0 i1 j0 j1 q0 q1 r0 r1 il fi jl fj ql fq rl fr
    by_cases h0 : k = 0
    · have AW := Lib.hid (awake_any w5)
      go_wp2_with fail
      refine AW.out.mono ?_; rintro e w6 ⟨rfl, b6⟩
      go_wp2
      go_ret
      exact ⟨rfl, bel_trans B5.out b6⟩
    · have T := Lib.hid (tri_mk (by rw [hk.out]; exact h0) g h)
      obtain ⟨X, hX⟩ : ∃ k, crI a b c d g h = k := ⟨_, rfl⟩
      obtain ⟨Y, hY⟩ : ∃ k, crI c d x f g h = k := ⟨_, rfl⟩
      obtain ⟨Z, hZ⟩ : ∃ k, crI x f a b g h = k := ⟨_, rfl⟩
      have T2 := T.out
      rw [hX, hY, hZ] at T2
      have T2 := Lib.hid T2
      have K1 := Lib.hid (fun w => refCross_is hX (by omega) (by omega) (by omega) (by omega) (by omega) (by omega) (by omega) (by omega) (by omega) (by omega) (by omega) (by omega) w)
      have K2 := Lib.hid (fun w => refCross_is hY (by omega) (by omega) (by omega) (by omega) (by omega) (by omega) (by omega) (by omega) (by omega) (by omega) (by omega) (by omega) w)
      have K3 := Lib.hid (fun w => refCross_is hZ (by omega) (by omega) (by omega) (by omega) (by omega) (by omega) (by omega) (by omega) (by omega) (by omega) (by omega) (by omega) w)
      clear hX hY hZ hk T
      obtain ⟨⟨⟨i0, i1, il⟩, fi⟩, ⟨⟨j0, j1, jl⟩, fj⟩, ⟨⟨q0, q1, ql⟩, fq⟩, ⟨⟨r0, r1, rl⟩, fr⟩⟩ := F5.out
      go_wp2_with fail
      have i0 := cell_regrown i0
      have i1 := cell_regrown i1
      have j0 := cell_regrown j0
      have j1 := cell_regrown j1
      have q0 := cell_regrown q0
      have q1 := cell_regrown q1
      have r0 := cell_regrown r0
      have r1 := cell_regrown r1
      have D1 := Lib.hid (fun p : Regrown => Calls.regrown_of (K1.out (grow (redrawn w5 p.d) p.os)))
      have D2 := Lib.hid (fun p : Regrown => Calls.regrown_of (K2.out (grow (redrawn w5 p.d) p.os)))
      have D3 := Lib.hid (fun p : Regrown => Calls.regrown_of (K3.out (grow (redrawn w5 p.d) p.os)))
      clear K1 K2 K3
      refine wp_region_quiet_below (by kernel_rfl) (by kernel_rfl) ?_
      repeat (go_big_quiet_step (first | with_reducible exact D1.out _ | with_reducible exact D2.out _ | with_reducible exact D3.out _))
      refine wpQuiet_nil ?_
      intro _ hw'
      obtain ⟨⟨dr, osr⟩, hw''⟩ := hw'
      subst hw''
      clear i0 i1 j0 j1 q0 q1 r0 r1 D1 D2 D3 il fi jl fj ql fq rl fr
      have zz := below_regrown w5 dr osr
      have F6 := Lib.hid (F5.out.later zz)
      have B6 := Lib.hid (bel_trans B5.out zz)
      clear F5 B5 zz
      generalize grow (redrawn w5 dr) osr = w6 at *
      obtain ⟨o, ho⟩ : ∃ o, oneB X Y Z = o := ⟨_, rfl⟩
      have HO := Lib.hid ho
      clear ho
      go_upto_region 7 with (fail)
      go_cut [14] (fun s14 wc => s14 = .bool o ∧ w6 = wc)
      case first =>
        rcases one_cases X Y Z with ⟨c1, c2, c3, c4, c5, c6, H⟩ | ⟨c1, c2, c3, c4, c5, c6, H⟩ | ⟨c1, c2, c3, c4, c5, c6, H⟩ | ⟨c1, c2, c3, c4, c5, c6, H⟩ | ⟨c1, c2, c3, c4, c5, c6, H⟩ | ⟨c1, c2, c3, c4, c5, c6, H⟩ | ⟨c1, c2, c3, c4, c5, c6, H⟩ | ⟨c1, c2, c3, c4, c5, c6, H⟩ | ⟨c1, c2, c3, c4, c5, c6, H⟩ | ⟨c1, c2, c3, c4, c5, c6, H⟩
        all_goals
          go_wp2
          go_meet
          exact ⟨by rw [← HO.out, H.out], rfl⟩
      case rest =>
        obtain ⟨rfl, rfl⟩ := hcut
        have H1 := Lib.hid ((tri_one T2.out).trans HO.out)
        have H2 := tri_more T2.out
        rw [HO.out] at H2
        have FT := fine_tri a b c d x f ⟨hbd.1, hbd.2.1, hbd.2.2.1⟩
        obtain ⟨g0, g1, h0', h1'⟩ := hbd.2.2.2
        obtain ⟨o2, ho2⟩ : ∃ o2, (o || (g == a && h == b) || (g == c && h == d)) = o2 := ⟨_, rfl⟩
        rw [ho2] at H2
        have HO2 := Lib.hid ho2
        have K1 := Lib.hid (polyHas_is FT.1 H1.out g0 g1 h0' h1' (rows_tri1 w6 a b c d x f 23 29))
        have K2 := Lib.hid (fun w => polyHas_is FT.2 H2 g0 g1 h0' h1' (rows_tri w a b c d x f 23 29))
        have F7 := Lib.hid ((F6.out.later (bel_alloc (bel_alloc (bel_refl _) (.cells #[.int .i64 a, .int .i64 b, .int .i64 c, .int .i64 d, .int .i64 x, .int .i64 f] 23)) (.cells #[.slice (some ⟨w6.heap.size, 0, none⟩) 3 3] 29))))
        have B7 := Lib.hid (bel_alloc (bel_alloc B6.out (.cells #[.int .i64 a, .int .i64 b, .int .i64 c, .int .i64 d, .int .i64 x, .int .i64 f] 23)) (.cells #[.slice (some ⟨w6.heap.size, 0, none⟩) 3 3] 29))
        clear H2 FT ho2
        obtain ⟨⟨⟨i0, i1, il⟩, fi⟩, ⟨⟨j0, j1, jl⟩, fj⟩, ⟨⟨q0, q1, ql⟩, fq⟩, ⟨⟨r0, r1, rl⟩, fr⟩⟩ := F6.out
        go_wp2_with fail
        refine K1.out.mono ?_; rintro e w8 ⟨rfl, b8⟩
        have F8 := Lib.hid (F7.out.later b8)
        have B8 := Lib.hid (bel_trans B7.out b8)
        clear b8 F7 B7 F6 B6 K1 i0 i1 j0 j1 q0 q1 r0 r1 il fi jl fj ql fq rl fr
        have F9 := Lib.hid (F8.out.later (bel_alloc (bel_alloc (bel_alloc (bel_alloc (bel_refl w8) (.cells #[.int .i64 a, .int .i64 b, .int .i64 c, .int .i64 d, .int .i64 x, .int .i64 f] 23)) (.cells #[.int .i64 a, .int .i64 b] 23)) (.cells #[.int .i64 c, .int .i64 d, .int .i64 c, .int .i64 d] 23)) (.cells #[.slice (some ⟨w8.heap.size, 0, none⟩) 3 3, .slice none 0 0, .slice (some ⟨w8.heap.size + 1, 0, none⟩) 1 1, .slice (some ⟨w8.heap.size + 1 + 1, 0, none⟩) 2 2] 29)))
        have B9 := Lib.hid (bel_alloc (bel_alloc (bel_alloc (bel_alloc B8.out (.cells #[.int .i64 a, .int .i64 b, .int .i64 c, .int .i64 d, .int .i64 x, .int .i64 f] 23)) (.cells #[.int .i64 a, .int .i64 b] 23)) (.cells #[.int .i64 c, .int .i64 d, .int .i64 c, .int .i64 d] 23)) (.cells #[.slice (some ⟨w8.heap.size, 0, none⟩) 3 3, .slice none 0 0, .slice (some ⟨w8.heap.size + 1, 0, none⟩) 1 1, .slice (some ⟨w8.heap.size + 1 + 1, 0, none⟩) 2 2] 29))
        obtain ⟨⟨⟨i0, i1, il⟩, fi⟩, ⟨⟨j0, j1, jl⟩, fj⟩, ⟨⟨q0, q1, ql⟩, fq⟩, ⟨⟨r0, r1, rl⟩, fr⟩⟩ := F8.out
        go_wp2_with fail
        refine (K2.out _).mono ?_; rintro e w9 ⟨rfl, b9⟩
        have F10 := Lib.hid (F9.out.later b9)
        have B10 := Lib.hid (bel_trans B9.out b9)
        clear b9 F8 B8 F9 B9 K2 i0 i1 j0 j1 q0 q1 r0 r1 il fi jl fj ql fq rl fr
        have AW := Lib.hid (awake_any w9)
        obtain ⟨⟨⟨i0, i1, il⟩, fi⟩, ⟨⟨j0, j1, jl⟩, fj⟩, ⟨⟨q0, q1, ql⟩, fq⟩, ⟨⟨r0, r1, rl⟩, fr⟩⟩ := F10.out
        cases o with
        | true =>
          obtain rfl : true = o2 := by have := HO2.out; simpa using this
          go_wp2_with fail
          refine AW.out.mono ?_; rintro e w10 ⟨rfl, b10⟩
          go_wp2
          go_ret
          exact ⟨rfl, bel_trans B10.out b10⟩
        | false =>
          by_cases ga : g = a
          · by_cases hb : h = b
            · obtain rfl : true = o2 := by rw [← HO2.out]; simp [ga, hb]
              go_wp2_with fail
              refine AW.out.mono ?_; rintro e w10 ⟨rfl, b10⟩
              go_wp2
              go_ret
              exact ⟨rfl, bel_trans B10.out b10⟩
            · by_cases gc : g = c
              · by_cases hd : h = d
                · obtain rfl : true = o2 := by rw [← HO2.out]; simp [gc, hd]
                  go_wp2_with fail
                  refine AW.out.mono ?_; rintro e w10 ⟨rfl, b10⟩
                  go_wp2
                  go_ret
                  exact ⟨rfl, bel_trans B10.out b10⟩
                · obtain rfl : false = o2 := by rw [← HO2.out]; simp [hb, hd]
                  go_wp2_with fail
                  refine AW.out.mono ?_; rintro e w10 ⟨rfl, b10⟩
                  go_wp2
                  go_ret
                  exact ⟨rfl, bel_trans B10.out b10⟩
              · obtain rfl : false = o2 := by rw [← HO2.out]; simp [hb, gc]
                go_wp2_with fail
                refine AW.out.mono ?_; rintro e w10 ⟨rfl, b10⟩
                go_wp2
                go_ret
                exact ⟨rfl, bel_trans B10.out b10⟩
          · by_cases gc : g = c
            · by_cases hd : h = d
              · obtain rfl : true = o2 := by rw [← HO2.out]; simp [gc, hd]
                go_wp2_with fail
                refine AW.out.mono ?_; rintro e w10 ⟨rfl, b10⟩
                go_wp2
                go_ret
                exact ⟨rfl, bel_trans B10.out b10⟩
              · obtain rfl : false = o2 := by rw [← HO2.out]; simp [ga, hd]
                go_wp2_with fail
                refine AW.out.mono ?_; rintro e w10 ⟨rfl, b10⟩
                go_wp2
                go_ret
                exact ⟨rfl, bel_trans B10.out b10⟩
            · obtain rfl : false = o2 := by rw [← HO2.out]; simp [ga, gc]
              go_wp2_with fail
              refine AW.out.mono ?_; rintro e w10 ⟨rfl, b10⟩
              go_wp2
              go_ret
              exact ⟨rfl, bel_trans B10.out b10⟩

theorem own : ownKnob Try.prog.godebug = none := by kernel_rfl
set_option maxRecDepth 100000 in
set_option maxHeartbeats 4000000 in
theorem lifted (os : Os) (started : os.Started) (H : Type) (enc : TypeId × Value → H) :
    ReturnsInHanded {} Try.checked os 3 .any (Rows.polyTrianglesSpec.pre6 enc Try.prog Try.f3 Rows.polyTrianglesRow.domain false) (Rows.polyTrianglesSpec.post enc Try.prog Try.f3 false true false false) := by
  refine returnsInHanded_of_change (C := Try.checked) own started (by kernel_rfl) Try.func3
    (ChangeSpec.witness6 (enc := enc) (C := Try.checked) false ⟨#[], #[.agg #[.int .i64 0, .int .i64 0], .agg #[.int .i64 0, .int .i64 0], .agg #[.int .i64 0, .int .i64 0], .agg #[.int .i64 0, .int .i64 0], .bool false], []⟩ 8 (by kernel_rfl) (by kernel_rfl) (by kernel_rfl) (by kernel_rfl)) ?_
  intro W base args ds gs before hval0 hW _ _
  have hval : ∀ (j : Nat) t v, Try.f3.params[j]? = some t → args[j]? = some v → Value.okWide Try.prog W .any base t v := hval0
  have hW' := hW
  obtain ⟨p, q, hA0, hV, rfl, hfz, hnd⟩ := hW
  have hA : DataW.TrodAll enc Try.prog W 0 (fun _ => true) true Try.f3.params.toList args.toList ds p := hA0
  rw [Try.params3] at hA hval
  obtain ⟨v0, vs0, d0, ds0, p0, q0, hargs, rfl, rfl, h0, r0⟩ := trodAll_cons hA
  obtain ⟨v1, vs1, d1, ds1, p1, q1, rfl, rfl, rfl, h1, r1⟩ := trodAll_cons r0
  obtain ⟨v2, vs2, d2, ds2, p2, q2, rfl, rfl, rfl, h2, r2⟩ := trodAll_cons r1
  obtain ⟨v3, vs3, d3, ds3, p3, q3, rfl, rfl, rfl, h3, r3⟩ := trodAll_cons r2
  obtain ⟨v4, vs4, d4, ds4, p4, q4, rfl, rfl, rfl, h4, r4⟩ := trodAll_cons r3
  obtain ⟨rfl, rfl, rfl⟩ := trodAll_nil r4
  obtain rfl : args = #[v0, v1, v2, v3, v4] := by cases args; simp_all
  obtain ⟨rfl, rfl⟩ := trodVars_none hV
  obtain ⟨c0_0, c0_1, y0_0, y0_1, m0, rfl, rfl, rfl, k0_0, k0_1⟩ := open_agg2 Try.underlying23 (by kernel_rfl) (by kernel_rfl) (hval 0 23 v0 rfl rfl) h0
  obtain ⟨a0_0, ea0_0, rfl, wa0_0⟩ := DataW.trod_int Try.underlying2 k0_0
  simp at ea0_0; subst ea0_0
  obtain ⟨a0_1, ea0_1, rfl, wa0_1⟩ := DataW.trod_int Try.underlying2 k0_1
  simp at ea0_1; subst ea0_1
  obtain ⟨c1_0, c1_1, y1_0, y1_1, m1, rfl, rfl, rfl, k1_0, k1_1⟩ := open_agg2 Try.underlying23 (by kernel_rfl) (by kernel_rfl) (hval 1 23 v1 rfl rfl) h1
  obtain ⟨a1_0, ea1_0, rfl, wa1_0⟩ := DataW.trod_int Try.underlying2 k1_0
  simp at ea1_0; subst ea1_0
  obtain ⟨a1_1, ea1_1, rfl, wa1_1⟩ := DataW.trod_int Try.underlying2 k1_1
  simp at ea1_1; subst ea1_1
  obtain ⟨c2_0, c2_1, y2_0, y2_1, m2, rfl, rfl, rfl, k2_0, k2_1⟩ := open_agg2 Try.underlying23 (by kernel_rfl) (by kernel_rfl) (hval 2 23 v2 rfl rfl) h2
  obtain ⟨a2_0, ea2_0, rfl, wa2_0⟩ := DataW.trod_int Try.underlying2 k2_0
  simp at ea2_0; subst ea2_0
  obtain ⟨a2_1, ea2_1, rfl, wa2_1⟩ := DataW.trod_int Try.underlying2 k2_1
  simp at ea2_1; subst ea2_1
  obtain ⟨c3_0, c3_1, y3_0, y3_1, m3, rfl, rfl, rfl, k3_0, k3_1⟩ := open_agg2 Try.underlying23 (by kernel_rfl) (by kernel_rfl) (hval 3 23 v3 rfl rfl) h3
  obtain ⟨a3_0, ea3_0, rfl, wa3_0⟩ := DataW.trod_int Try.underlying2 k3_0
  simp at ea3_0; subst ea3_0
  obtain ⟨a3_1, ea3_1, rfl, wa3_1⟩ := DataW.trod_int Try.underlying2 k3_1
  simp at ea3_1; subst ea3_1
  obtain ⟨a4, rfl, rfl, rfl⟩ := open_bool Try.underlying4 (hval 4 4 v4 rfl rfl) h4
  have s0 : ∀ (W' : World) (sp : Nat → Bool), DataW.Trod enc Try.prog W' 0 sp true 23 (.agg #[.int .i64 a0_0, .int .i64 a0_1]) (.agg [.lit (.int .i64 a0_0), .lit (.int .i64 a0_1)]) [] := fun W' sp =>
    shut_agg2 (y0 := (.lit (.int .i64 a0_0), [])) (y1 := (.lit (.int .i64 a0_1), [])) Try.underlying23 (by kernel_rfl) (by kernel_rfl) ⟨1, by simp [DataW.trod, Try.underlying2, wa0_0]⟩ ⟨1, by simp [DataW.trod, Try.underlying2, wa0_1]⟩
  have s1 : ∀ (W' : World) (sp : Nat → Bool), DataW.Trod enc Try.prog W' 0 sp true 23 (.agg #[.int .i64 a1_0, .int .i64 a1_1]) (.agg [.lit (.int .i64 a1_0), .lit (.int .i64 a1_1)]) [] := fun W' sp =>
    shut_agg2 (y0 := (.lit (.int .i64 a1_0), [])) (y1 := (.lit (.int .i64 a1_1), [])) Try.underlying23 (by kernel_rfl) (by kernel_rfl) ⟨1, by simp [DataW.trod, Try.underlying2, wa1_0]⟩ ⟨1, by simp [DataW.trod, Try.underlying2, wa1_1]⟩
  have s2 : ∀ (W' : World) (sp : Nat → Bool), DataW.Trod enc Try.prog W' 0 sp true 23 (.agg #[.int .i64 a2_0, .int .i64 a2_1]) (.agg [.lit (.int .i64 a2_0), .lit (.int .i64 a2_1)]) [] := fun W' sp =>
    shut_agg2 (y0 := (.lit (.int .i64 a2_0), [])) (y1 := (.lit (.int .i64 a2_1), [])) Try.underlying23 (by kernel_rfl) (by kernel_rfl) ⟨1, by simp [DataW.trod, Try.underlying2, wa2_0]⟩ ⟨1, by simp [DataW.trod, Try.underlying2, wa2_1]⟩
  have s3 : ∀ (W' : World) (sp : Nat → Bool), DataW.Trod enc Try.prog W' 0 sp true 23 (.agg #[.int .i64 a3_0, .int .i64 a3_1]) (.agg [.lit (.int .i64 a3_0), .lit (.int .i64 a3_1)]) [] := fun W' sp =>
    shut_agg2 (y0 := (.lit (.int .i64 a3_0), [])) (y1 := (.lit (.int .i64 a3_1), [])) Try.underlying23 (by kernel_rfl) (by kernel_rfl) ⟨1, by simp [DataW.trod, Try.underlying2, wa3_0]⟩ ⟨1, by simp [DataW.trod, Try.underlying2, wa3_1]⟩
  clear hA0 hval0
  simp only [List.append_nil] at hW'
  refine (walk a0_0 a0_1 a1_0 a1_1 a2_0 a2_1 a3_0 a3_1 a4 (bounds_i64 wa0_0).1 (bounds_i64 wa0_0).2 (bounds_i64 wa0_1).1 (bounds_i64 wa0_1).2 (bounds_i64 wa1_0).1 (bounds_i64 wa1_0).2 (bounds_i64 wa1_1).1 (bounds_i64 wa1_1).2 (bounds_i64 wa2_0).1 (bounds_i64 wa2_0).2 (bounds_i64 wa2_1).1 (bounds_i64 wa2_1).2 (bounds_i64 wa3_0).1 (bounds_i64 wa3_0).2 (bounds_i64 wa3_1).1 (bounds_i64 wa3_1).2 W).mono fun e W' ⟨he, bel⟩ => ?_
  subst he
  exact ⟨_, rfl, _, _, _, [], _, [], hW', trodAll_mk1 (shut_bool Try.underlying4 _), (trodAll_cons_mk (s0 _ _) (trodAll_cons_mk (s1 _ _) (trodAll_cons_mk (s2 _ _) (trodAll_cons_mk (s3 _ _) (trodAll_cons_mk (shut_bool Try.underlying4 a4) trodAll_mk0))))), rfl, bel.frame _, fun h => by cases h⟩
theorem over : Rows.polyTrianglesRow.holds Try.pinned (OpenSpec.ofChange Rows.polyTrianglesSpec) :=
  OpenClaim.holds_of_wide 3 Try.f3 rfl rfl rfl rfl rfl rfl rfl ⟨rfl, rfl, rfl, rfl, rfl⟩ rfl rfl rfl rfl rfl (by kernel_rfl) Try.func3 (by kernel_rfl)
    (of_decide_eq_true (by kernel_rfl)) (by unfold Func.isWrapper; first | (rw [if_pos (by decide +kernel)]; kernel_rfl) | (rw [if_neg (by decide +kernel)]; exact ⟨rfl, rfl⟩))
    (fun os started H enc _ => lifted os started H enc)
theorem proved : Rows.PolyTrianglesSaid := over
#print axioms proved
end Go.Proofs.Ytcpnfafhekgabaa.polyTriangles
