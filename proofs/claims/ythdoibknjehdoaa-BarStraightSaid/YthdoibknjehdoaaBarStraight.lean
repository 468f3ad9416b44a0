/- A bar along an axis is a box and has its classes; turned and moved it is the same: for every length, half width, box and move that the law makes of any eight numbers of 64 bits. No condition. -/
import Derived.Test.YthdoibknjehdoaaRows
import Derived.Test.YthdoibknjehdoaaAwake8
import Derived.Test.YthdoibknjehdoaaLaws7
import Derived.Test.YthdoibknjehdoaaHeld5
import Derived.Test.YthdoibknjehdoaaRefBoxM
import Derived.Test.YthdoibknjehdoaaBarMath
import Derived.ProofKit
import Derived.OpenShut
import Derived.ShutString
import Derived.ChangeOld
import Derived.Below
import Derived.Lib.SmallJoins
import Derived.Lib.QuietBelow
import Derived.BigQuiet
namespace Go.Proofs.Ythdoibknjehdoaa.barStraight
open Go.ChangeShapes Go.WideShapes Go.ChangeAt Go.RowKit Go.Joins
open Go.Sort (grow)

theorem BP.drew {n : Nat} {w : World} {a b c d x y : Int} (h : BP n a b c d x y w) : BP n a b c d x y w.drew := ⟨h.b.drew, h.c.drew⟩
/-- A length, a half width, a box and a move, tamed. -/
def Mid (w : World) (l r a b c d x y : Int) (s0 s1 : Value) (wc : World) : Prop := s0 = .int .i64 l ∧ s1 = .int .i64 r ∧ BP w.heap.size a b c d x y wc ∧ Below w.heap.size w wc
/-- The box, the move and the box that the bar is. -/
structure St (N m : Nat) (a b c d x y l r : Int) (wr : World) : Prop where
  box : BoxAt wr N a b c d
  mov : PtAt wr (N + 1) x y
  is_ : BoxAt wr m 0 (-r) l r
theorem St.later {N m : Nat} {a b c d x y l r : Int} {w w1 : World} (h : St N m a b c d x y l r w) (k : Below w.heap.size w w1) : St N m a b c d x y l r w1 := ⟨h.box.later k, h.mov.later k, h.is_.later k⟩
def Want (w : World) (m : Nat) (a b c d x y l r k : Int) (s11 : Value) (wc : World) : Prop := s11 = .int .i64 k ∧ St w.heap.size m a b c d x y l r wc ∧ Below w.heap.size w wc
structure Sx (N m : Nat) (a b c d x y : Int) (wr : World) : Prop where
  mov : PtAt wr (N + 1) x y
  one : BoxAt wr m (-d) a (-b) c
  two : BoxAt wr (m + 1) (a + x) (b + y) (c + x) (d + y)
theorem Sx.later {N m : Nat} {a b c d x y : Int} {w w1 : World} (h : Sx N m a b c d x y w) (k : Below w.heap.size w w1) : Sx N m a b c d x y w1 := ⟨h.mov.later k, h.one.later k, h.two.later k⟩
theorem sx_new {N : Nat} {a b c d x y : Int} {w : World} (h : PtAt w (N + 1) x y) (n : TypeId) :
    Sx N w.heap.size a b c d x y ((w.alloc (.cells #[.int .i64 (-d), .int .i64 a, .int .i64 (-b), .int .i64 c] n)).alloc (.cells #[.int .i64 (a + x), .int .i64 (b + y), .int .i64 (c + x), .int .i64 (d + y)] n)) := by
  refine ⟨(h.alloc _).alloc _, (boxAt_new _ _ _ _ _ _).alloc _, ?_⟩
  have k := boxAt_new (w.alloc (.cells #[.int .i64 (-d), .int .i64 a, .int .i64 (-b), .int .i64 c] n)) (a + x) (b + y) (c + x) (d + y) n
  rw [show (w.alloc (.cells #[.int .i64 (-d), .int .i64 a, .int .i64 (-b), .int .i64 c] n)).heap.size = w.heap.size + 1 by simp] at k
  exact k
theorem away {a b c d l r : Int} (ac : a ≤ c) (bd : b ≤ d) (hl : 1 ≤ l) (hr : 1 ≤ r) : apB a b c d 0 (-r) l r = decide (c < 0 ∨ l < a ∨ d < -r ∨ r < b) := by
  unfold apB
  rw [shB_eq, shB_eq, Bool.eq_iff_iff, Bool.or_eq_true, Bool.not_eq_true', Bool.not_eq_true', decide_eq_false_iff_not, decide_eq_false_iff_not, decide_eq_true_eq]
  omega

set_option maxRecDepth 100000 in
set_option maxHeartbeats 32000000 in
theorem core (g rr b0 b1 b2 b3 p0 p1 : Int) (ul l' r1 r' a b c d x y : Int) (hg : IntKind.u64.wrap g = ul) (_u0 : 0 ≤ ul) (_u1 : ul ≤ 18446744073709551615) (hl1 : ul.tmod 40 = l') (_hl2 : ul % 40 = l') (l0 : 0 ≤ l') (l1 : l' < 40)
    (X1 : ∀ w, Calls Try.prog 10 #[.int .i64 rr] w fun e w' => e = .returned (.int .i64 r1) ∧ w = w') (hr1 : r1.tmod 12 = r') (ra : 0 ≤ r') (rb : r' ≤ 11)
    (X2 : ∀ w, Calls Try.prog 8 #[boxV b0 b1 b2 b3] w fun e w' => e = .returned (boxV a b c d) ∧ Below w.heap.size w w') (ha : -19 ≤ a ∧ a ≤ c ∧ c ≤ a + 7 ∧ a ≤ 19) (hb : -19 ≤ b ∧ b ≤ d ∧ d ≤ b + 7 ∧ b ≤ 19)
    (X3 : ∀ w, Calls Try.prog 9 #[ptV p0 p1, .int .i64 100000000] w fun e w' => e = .returned (ptV x y) ∧ Below w.heap.size w w') (hx : -100000000 ≤ x ∧ x ≤ 100000000 ∧ -100000000 ≤ y ∧ y ≤ 100000000) (w : World) :
    Calls Try.prog 7 #[.int .i64 g, .int .i64 rr, boxV b0 b1 b2 b3, ptV p0 p1] w fun e w' => e = .returned (.bool true) ∧ Below w.heap.size w w' := by
  have HX1 := Lib.hid X1
  have HX2 := Lib.hid X2
  have HX3 := Lib.hid X3
  have HA := Lib.hid ha
  have HB := Lib.hid hb
  have HX := Lib.hid hx
  have F0 := bp_new w b0 b1 b2 b3 p0 p1 23 25
  have B0 := bel_newBP w b0 b1 b2 b3 p0 p1 23 25
  unfold newBP at F0 B0
  have F0 := Lib.hid F0
  have B0 := Lib.hid B0
  have w1 : IntKind.i64.wrap l' = l' := IntWalk.i64_in _ (by omega)
  have w2 : IntKind.i64.wrap (l' + 1) = l' + 1 := IntWalk.i64_in _ (by omega)
  have w3 : IntKind.i64.wrap (r' + 1) = r' + 1 := IntWalk.i64_in _ (by omega)
  clear X1 X2 X3 ha hb hx
  go_enter Try.func7, Try.ntmps7
  go_upto_region 1 with (fail)
  generalize ((w.alloc (.cells #[.int .i64 b0, .int .i64 b1, .int .i64 b2, .int .i64 b3] 23)).alloc (.cells #[.int .i64 p0, .int .i64 p1] 25)) = V at *
  go_cut [0, 1] (fun s0 s1 wc => Mid w (l' + 1) (r' + 1) a b c d x y s0 s1 wc)
  case first =>
    obtain ⟨⟨⟨i0, i1, i2, i3, il⟩, fi⟩, ⟨⟨j0, j1, jl⟩, fj⟩⟩ := F0.out
    go_region_with (first
      | (go_at_call 10; ((with_reducible refine (HX1.out _).mono ?_); rintro e wA ⟨rfl, rfl⟩))
      | (go_at_call 8; ((with_reducible refine (HX2.out _).mono ?_); rintro e wA ⟨rfl, bA⟩; have FA := Lib.hid ((F0.out.later (bel_drew (bel_refl V))).later bA); have BA := Lib.hid (bel_trans (bel_drew B0.out) bA); obtain ⟨⟨⟨iA0, iA1, iA2, iA3, iAl⟩, fAi⟩, ⟨⟨jA0, jA1, jAl⟩, fAj⟩⟩ := FA.out))
      | (go_at_call 9; ((with_reducible refine (HX3.out _).mono ?_); rintro e wB ⟨rfl, bB⟩; have FB := Lib.hid (FA.out.later bB); have BB := Lib.hid (bel_trans BA.out bB); obtain ⟨⟨⟨iB0, iB1, iB2, iB3, iBl⟩, fBi⟩, ⟨⟨jB0, jB1, jBl⟩, fBj⟩⟩ := FB.out)))
    all_goals go_wp2_with fail
    all_goals go_meet
    all_goals exact ⟨rfl, rfl, FB.out.stored a b c d x y, bel_bp BB.out (Nat.le_refl _) a b c d x y⟩
  case rest =>
    obtain ⟨rfl, rfl, hF, hB⟩ := hcut
    clear F0 B0 HX1 HX2 HX3 w1 w2 w3 hg hl1 _hl2 _u0 _u1 hr1
    obtain ⟨r, hr⟩ : ∃ r, r' + 1 = r := ⟨_, rfl⟩
    obtain ⟨l, hl⟩ : ∃ l, l' + 1 = l := ⟨_, rfl⟩
    have rc : 1 ≤ r := by omega
    have rd : r ≤ 12 := by omega
    have lc : 1 ≤ l := by omega
    have ld : l ≤ 40 := by omega
    rw [hr, hl]
    clear hr hl ra rb l0 l1
    obtain ⟨ga, gb, gc, gd⟩ := HA.out
    obtain ⟨ge, gf, gg, gh⟩ := HB.out
    obtain ⟨gi, gj, gk, gl⟩ := HX.out
    have F := Lib.hid hF
    have B := Lib.hid hB
    clear hF hB HA HB HX
    obtain ⟨k, hk⟩ : ∃ k, barK a b c d 0 0 l 0 r = k := ⟨_, rfl⟩
    obtain ⟨q, hq⟩ : ∃ q, apB a b c d 0 (-r) l r = q := ⟨_, rfl⟩
    have KS := bar_straight (a := a) (b := b) (c := c) (d := d) gb gf lc rc
    rw [hk] at KS
    have QS := away gb gf lc rc
    rw [hq] at QS
    have CK := Lib.hid (fun w => barClass_is hk (by omega) (by omega) (by omega) (by omega) (by omega) (by omega) (by omega) (by omega) (by omega) (by omega) (by omega) (by omega) (by omega) (by omega) (by omega) w)
    have CT := Lib.hid (fun w => barClass_is (show barK (-d) a (-b) c 0 0 0 l r = k by have := barK_turn a b c d 0 0 l 0 r; rw [hk] at this; simpa using this) (by omega) (by omega) (by omega) (by omega) (by omega) (by omega) (by omega) (by omega) (by omega) (by omega) (by omega) (by omega) (by omega) (by omega) (by omega) w)
    have CM := Lib.hid (fun w => barClass_is (show barK (a + x) (b + y) (c + x) (d + y) x y (x + l) y r = k by have := barK_move a b c d 0 0 l 0 r x y; rw [hk, Int.zero_add, Int.zero_add, Int.add_comm l x] at this; exact this) (by omega) (by omega) (by omega) (by omega) (by omega) (by omega) (by omega) (by omega) (by omega) (by omega) (by omega) (by omega) (by omega) (by omega) (by omega) w)
    have CA := Lib.hid (fun w => refApart_is hq gb gf (show (0 : Int) ≤ l by omega) (show -r ≤ r by omega) w)
    obtain ⟨G, hG⟩ : ∃ G, decide (0 ≤ a ∧ c ≤ l ∧ -r ≤ b ∧ d ≤ r) = G := ⟨_, rfl⟩
    have HK := Lib.hid (show k = if G then 2 else if q then 0 else 1 by rw [KS, ← hG, QS]; simp only [decide_eq_true_eq])
    have HG := Lib.hid hG
    clear hk hq KS QS hG
    have v1 : IntKind.i64.wrap (-r) = -r := IntWalk.i64_in _ (by omega)
    obtain ⟨⟨⟨i0, i1, i2, i3, il⟩, fi⟩, ⟨⟨j0, j1, jl⟩, fj⟩⟩ := F.out
    go_upto_region 3 with (fail)
    have S0 := St.mk (N := w.heap.size) (F.out.b.at_.alloc (.cells #[.int .i64 0, .int .i64 (-r), .int .i64 l, .int .i64 r] 23)) (F.out.c.at_.alloc (.cells #[.int .i64 0, .int .i64 (-r), .int .i64 l, .int .i64 r] 23)) (boxAt_new wc 0 (-r) l r 23)
    have B1 := Lib.hid (bel_alloc B.out (.cells #[.int .i64 0, .int .i64 (-r), .int .i64 l, .int .i64 r] 23))
    clear i0 i1 i2 i3 il fi j0 j1 jl fj F B
    obtain ⟨m, hm⟩ : ∃ m, wc.heap.size = m := ⟨_, rfl⟩
    rw [hm] at S0
    have S0 := Lib.hid S0
    generalize wc.alloc (.cells #[.int .i64 0, .int .i64 (-r), .int .i64 l, .int .i64 r] 23) = W1 at *
    try rw [hm]
    clear hm
    obtain ⟨⟨i0, i1, i2, i3, il⟩, _, _⟩ := S0.out
    go_wp2_with fail
    refine (CK.out _).mono ?_; rintro e wD ⟨rfl, z1⟩
    have S1 := Lib.hid (S0.out.later z1)
    have B2 := Lib.hid (bel_trans B1.out z1)
    clear z1 S0 B1 i0 i1 i2 i3 il CK
    go_upto_region 5 with (fail)
    go_cut [38] (fun s38 wx => s38 = .bool G ∧ wD = wx)
    case first =>
      obtain ⟨⟨i0, i1, i2, i3, il⟩, _, ⟨j0, j1, j2, j3, jl⟩⟩ := S1.out
      have hg := HG.out
      by_cases k1 : 0 ≤ a
      case neg =>
        have d1 : decide (0 ≤ a) = false := decide_eq_false k1
        rw [decide_eq_false (fun h => k1 h.1)] at hg
        subst hg
        clear HG HK k1
        go_wp2
        go_meet
        exact ⟨rfl, rfl⟩
      by_cases k2 : c ≤ l
      case neg =>
        have d1 : decide (0 ≤ a) = true := decide_eq_true k1
        have d2 : decide (c ≤ l) = false := decide_eq_false k2
        rw [decide_eq_false (fun h => k2 h.2.1)] at hg
        subst hg
        clear HG HK k1 k2
        go_wp2
        go_meet
        exact ⟨rfl, rfl⟩
      by_cases k3 : -r ≤ b
      case neg =>
        have d1 : decide (0 ≤ a) = true := decide_eq_true k1
        have d2 : decide (c ≤ l) = true := decide_eq_true k2
        have d3 : decide (-r ≤ b) = false := decide_eq_false k3
        rw [decide_eq_false (fun h => k3 h.2.2.1)] at hg
        subst hg
        clear HG HK k1 k2 k3
        go_wp2
        go_meet
        exact ⟨rfl, rfl⟩
      by_cases k4 : d ≤ r
      case neg =>
        have d1 : decide (0 ≤ a) = true := decide_eq_true k1
        have d2 : decide (c ≤ l) = true := decide_eq_true k2
        have d3 : decide (-r ≤ b) = true := decide_eq_true k3
        have d4 : decide (d ≤ r) = false := decide_eq_false k4
        rw [decide_eq_false (fun h => k4 h.2.2.2)] at hg
        subst hg
        clear HG HK k1 k2 k3 k4
        go_wp2
        go_meet
        exact ⟨rfl, rfl⟩
      have d1 : decide (0 ≤ a) = true := decide_eq_true k1
      have d2 : decide (c ≤ l) = true := decide_eq_true k2
      have d3 : decide (-r ≤ b) = true := decide_eq_true k3
      have d4 : decide (d ≤ r) = true := decide_eq_true k4
      rw [decide_eq_true ⟨k1, k2, k3, k4⟩] at hg
      subst hg
      clear HG HK k1 k2 k3 k4
      go_wp2
      go_meet
      exact ⟨rfl, rfl⟩
    case rest =>
      obtain ⟨rfl, rfl⟩ := hcut
      clear HG
      have hk := HK.out
      cases G with
      | true =>
        obtain rfl : k = 2 := hk
        clear HK CA
        obtain ⟨⟨i0, i1, i2, i3, il⟩, ⟨j0, j1, jl⟩, _⟩ := S1.out
        go_upto_region 11 with (fail)
        have S5 := sx_new (a := a) (b := b) (c := c) (d := d) S1.out.mov 23
        have B5 := Lib.hid (bel_alloc (bel_alloc B2.out (.cells #[.int .i64 (-d), .int .i64 a, .int .i64 (-b), .int .i64 c] 23)) (.cells #[.int .i64 (a + x), .int .i64 (b + y), .int .i64 (c + x), .int .i64 (d + y)] 23))
        clear i0 i1 i2 i3 il j0 j1 jl S1 B2
        obtain ⟨m2, hm2⟩ : ∃ m, wD.heap.size = m := ⟨_, rfl⟩
        rw [hm2] at S5
        generalize (wD.alloc (.cells #[.int .i64 (-d), .int .i64 a, .int .i64 (-b), .int .i64 c] 23)).alloc (.cells #[.int .i64 (a + x), .int .i64 (b + y), .int .i64 (c + x), .int .i64 (d + y)] 23) = W2 at *
        try rw [hm2]
        clear hm2
        have S5 := Lib.hid S5
        obtain ⟨_, ⟨i0, i1, i2, i3, il⟩, _⟩ := S5.out
        go_wp2_with fail
        refine (CT.out _).mono ?_; rintro e wF ⟨rfl, z5⟩
        have S6 := Lib.hid (S5.out.later z5)
        have B6 := Lib.hid (bel_trans B5.out z5)
        clear z5 S5 B5 i0 i1 i2 i3 il
        obtain ⟨⟨j0, j1, jl⟩, _, ⟨i0, i1, i2, i3, il⟩⟩ := S6.out
        have v2 : IntKind.i64.wrap (x + l) = x + l := IntWalk.i64_in _ (by omega)
        go_wp2_with fail
        refine (CM.out _).mono ?_; rintro e wG ⟨rfl, z6⟩
        go_wp2_with fail
        refine (awake_any _).mono ?_; rintro e wH ⟨rfl, z7⟩
        go_wp2
        go_ret
        exact ⟨rfl, bel_trans (bel_trans B6.out z6) z7⟩
      | false =>
        obtain ⟨⟨i0, i1, i2, i3, il⟩, _, ⟨j0, j1, j2, j3, jl⟩⟩ := S1.out
        go_wp2_with fail
        refine (CA.out _).mono ?_; rintro e wE ⟨rfl, z2⟩
        have S2 := Lib.hid (S1.out.later z2)
        have B3 := Lib.hid (bel_trans B2.out z2)
        clear z2 HK S1 B2 i0 i1 i2 i3 il j0 j1 j2 j3 jl CA
        cases q with
        | true =>
          obtain rfl : k = 0 := hk
          obtain ⟨⟨i0, i1, i2, i3, il⟩, ⟨j0, j1, jl⟩, _⟩ := S2.out
          go_upto_region 11 with (fail)
          have S5 := sx_new (a := a) (b := b) (c := c) (d := d) S2.out.mov 23
          have B5 := Lib.hid (bel_alloc (bel_alloc B3.out (.cells #[.int .i64 (-d), .int .i64 a, .int .i64 (-b), .int .i64 c] 23)) (.cells #[.int .i64 (a + x), .int .i64 (b + y), .int .i64 (c + x), .int .i64 (d + y)] 23))
          clear i0 i1 i2 i3 il j0 j1 jl S2 B3
          obtain ⟨m2, hm2⟩ : ∃ m, wE.heap.size = m := ⟨_, rfl⟩
          rw [hm2] at S5
          generalize (wE.alloc (.cells #[.int .i64 (-d), .int .i64 a, .int .i64 (-b), .int .i64 c] 23)).alloc (.cells #[.int .i64 (a + x), .int .i64 (b + y), .int .i64 (c + x), .int .i64 (d + y)] 23) = W2 at *
          try rw [hm2]
          clear hm2
          have S5 := Lib.hid S5
          obtain ⟨_, ⟨i0, i1, i2, i3, il⟩, _⟩ := S5.out
          go_wp2_with fail
          refine (CT.out _).mono ?_; rintro e wF ⟨rfl, z5⟩
          have S6 := Lib.hid (S5.out.later z5)
          have B6 := Lib.hid (bel_trans B5.out z5)
          clear z5 S5 B5 i0 i1 i2 i3 il
          obtain ⟨⟨j0, j1, jl⟩, _, ⟨i0, i1, i2, i3, il⟩⟩ := S6.out
          have v2 : IntKind.i64.wrap (x + l) = x + l := IntWalk.i64_in _ (by omega)
          go_wp2_with fail
          refine (CM.out _).mono ?_; rintro e wG ⟨rfl, z6⟩
          go_wp2_with fail
          refine (awake_any _).mono ?_; rintro e wH ⟨rfl, z7⟩
          go_wp2
          go_ret
          exact ⟨rfl, bel_trans (bel_trans B6.out z6) z7⟩
        | false =>
          obtain rfl : k = 1 := hk
          obtain ⟨⟨i0, i1, i2, i3, il⟩, ⟨j0, j1, jl⟩, _⟩ := S2.out
          go_upto_region 11 with (fail)
          have S5 := sx_new (a := a) (b := b) (c := c) (d := d) S2.out.mov 23
          have B5 := Lib.hid (bel_alloc (bel_alloc B3.out (.cells #[.int .i64 (-d), .int .i64 a, .int .i64 (-b), .int .i64 c] 23)) (.cells #[.int .i64 (a + x), .int .i64 (b + y), .int .i64 (c + x), .int .i64 (d + y)] 23))
          clear i0 i1 i2 i3 il j0 j1 jl S2 B3
          obtain ⟨m2, hm2⟩ : ∃ m, wE.heap.size = m := ⟨_, rfl⟩
          rw [hm2] at S5
          generalize (wE.alloc (.cells #[.int .i64 (-d), .int .i64 a, .int .i64 (-b), .int .i64 c] 23)).alloc (.cells #[.int .i64 (a + x), .int .i64 (b + y), .int .i64 (c + x), .int .i64 (d + y)] 23) = W2 at *
          try rw [hm2]
          clear hm2
          have S5 := Lib.hid S5
          obtain ⟨_, ⟨i0, i1, i2, i3, il⟩, _⟩ := S5.out
          go_wp2_with fail
          refine (CT.out _).mono ?_; rintro e wF ⟨rfl, z5⟩
          have S6 := Lib.hid (S5.out.later z5)
          have B6 := Lib.hid (bel_trans B5.out z5)
          clear z5 S5 B5 i0 i1 i2 i3 il
          obtain ⟨⟨j0, j1, jl⟩, _, ⟨i0, i1, i2, i3, il⟩⟩ := S6.out
          have v2 : IntKind.i64.wrap (x + l) = x + l := IntWalk.i64_in _ (by omega)
          go_wp2_with fail
          refine (CM.out _).mono ?_; rintro e wG ⟨rfl, z6⟩
          go_wp2_with fail
          refine (awake_any _).mono ?_; rintro e wH ⟨rfl, z7⟩
          go_wp2
          go_ret
          exact ⟨rfl, bel_trans (bel_trans B6.out z6) z7⟩

theorem walk (g rr b0 b1 b2 b3 p0 p1 : Int) (_ : -9223372036854775808 ≤ g) (_ : g ≤ 9223372036854775807) (_ : -9223372036854775808 ≤ rr) (_ : rr ≤ 9223372036854775807) (_ : -9223372036854775808 ≤ b0) (_ : b0 ≤ 9223372036854775807) (_ : -9223372036854775808 ≤ b1) (_ : b1 ≤ 9223372036854775807) (_ : -9223372036854775808 ≤ b2) (_ : b2 ≤ 9223372036854775807) (_ : -9223372036854775808 ≤ b3) (_ : b3 ≤ 9223372036854775807) (_ : -9223372036854775808 ≤ p0) (_ : p0 ≤ 9223372036854775807) (_ : -9223372036854775808 ≤ p1) (_ : p1 ≤ 9223372036854775807) (w : World) :
    Calls Try.prog 7 #[.int .i64 g, .int .i64 rr, boxV b0 b1 b2 b3, ptV p0 p1] w fun e w' => e = .returned (.bool true) ∧ Below w.heap.size w w' := by
  obtain ⟨ul, l, h1, h2, h3, h4, h5, h6, h7⟩ := rem_at g 40 (by omega) (by omega)
  obtain ⟨r, r1, r2, X1⟩ := r_form rr
  obtain ⟨r', r3, r4, hr⟩ := r_left (n := 12) r1 (by omega)
  obtain ⟨a, b, c, d, ha, hb, X2⟩ := small_form b0 b1 b2 b3
  obtain ⟨x, y, hx, X3⟩ := close_form p0 p1 100000000 100000001 (by omega) (by omega) rfl
  exact core g rr b0 b1 b2 b3 p0 p1 ul l r r' a b c d x y h1 h2 h3 h4 h5 h6 h7 X1 hr r3 (by omega) X2 ha hb X3 hx w
theorem own : ownKnob Try.prog.godebug = none := by kernel_rfl
set_option maxRecDepth 100000 in
set_option maxHeartbeats 4000000 in
theorem lifted (os : Os) (started : os.Started) (H : Type) (enc : TypeId × Value → H) :
    ReturnsInHanded {} Try.checked os 7 .any (Rows.barStraightSpec.pre6 enc Try.prog Try.f7 Rows.barStraightRow.domain false) (Rows.barStraightSpec.post enc Try.prog Try.f7 false true false false) := by
  refine returnsInHanded_of_change (C := Try.checked) own started (by kernel_rfl) Try.func7
    (ChangeSpec.witness6 (enc := enc) (C := Try.checked) false ⟨#[], #[.int .i64 0, .int .i64 0, .agg #[.int .i64 0, .int .i64 0, .int .i64 0, .int .i64 0], .agg #[.int .i64 0, .int .i64 0]], []⟩ 8 (by kernel_rfl) (by kernel_rfl) (by kernel_rfl) (by kernel_rfl)) ?_
  intro W base args ds gs before hval0 hW _ _
  have hval : ∀ (j : Nat) t v, Try.f7.params[j]? = some t → args[j]? = some v → Value.okWide Try.prog W .any base t v := hval0
  have hW' := hW
  obtain ⟨p, q, hA0, hV, rfl, hfz, hnd⟩ := hW
  have hA : DataW.TrodAll enc Try.prog W 0 (fun _ => true) true Try.f7.params.toList args.toList ds p := hA0
  rw [Try.params7] at hA hval
  obtain ⟨v0, vs0, d0, ds0, p0, q0, hargs, rfl, rfl, h0, r0⟩ := trodAll_cons hA
  obtain ⟨v1, vs1, d1, ds1, p1, q1, rfl, rfl, rfl, h1, r1⟩ := trodAll_cons r0
  obtain ⟨v2, vs2, d2, ds2, p2, q2, rfl, rfl, rfl, h2, r2⟩ := trodAll_cons r1
  obtain ⟨v3, vs3, d3, ds3, p3, q3, rfl, rfl, rfl, h3, r3⟩ := trodAll_cons r2
  obtain ⟨rfl, rfl, rfl⟩ := trodAll_nil r3
  obtain rfl : args = #[v0, v1, v2, v3] := by cases args; simp_all
  obtain ⟨rfl, rfl⟩ := trodVars_none hV
  obtain ⟨a0, rfl, rfl, rfl, w0⟩ := open_int Try.underlying2 (hval 0 2 v0 rfl rfl) h0
  obtain ⟨a1, rfl, rfl, rfl, w1⟩ := open_int Try.underlying2 (hval 1 2 v1 rfl rfl) h1
  obtain ⟨c2_0, c2_1, c2_2, c2_3, y2_0, y2_1, y2_2, y2_3, m2, rfl, rfl, rfl, k2_0, k2_1, k2_2, k2_3⟩ := open_agg4 Try.underlying23 (by kernel_rfl) (by kernel_rfl) (hval 2 23 v2 rfl rfl) h2
  obtain ⟨a2_0, ea2_0, rfl, wa2_0⟩ := DataW.trod_int Try.underlying2 k2_0
  simp at ea2_0; subst ea2_0
  obtain ⟨a2_1, ea2_1, rfl, wa2_1⟩ := DataW.trod_int Try.underlying2 k2_1
  simp at ea2_1; subst ea2_1
  obtain ⟨a2_2, ea2_2, rfl, wa2_2⟩ := DataW.trod_int Try.underlying2 k2_2
  simp at ea2_2; subst ea2_2
  obtain ⟨a2_3, ea2_3, rfl, wa2_3⟩ := DataW.trod_int Try.underlying2 k2_3
  simp at ea2_3; subst ea2_3
  obtain ⟨c3_0, c3_1, y3_0, y3_1, m3, rfl, rfl, rfl, k3_0, k3_1⟩ := open_agg2 Try.underlying25 (by kernel_rfl) (by kernel_rfl) (hval 3 25 v3 rfl rfl) h3
  obtain ⟨a3_0, ea3_0, rfl, wa3_0⟩ := DataW.trod_int Try.underlying2 k3_0
  simp at ea3_0; subst ea3_0
  obtain ⟨a3_1, ea3_1, rfl, wa3_1⟩ := DataW.trod_int Try.underlying2 k3_1
  simp at ea3_1; subst ea3_1
  have s2 : ∀ (W' : World) (sp : Nat → Bool), DataW.Trod enc Try.prog W' 0 sp true 23 (.agg #[.int .i64 a2_0, .int .i64 a2_1, .int .i64 a2_2, .int .i64 a2_3]) (.agg [.lit (.int .i64 a2_0), .lit (.int .i64 a2_1), .lit (.int .i64 a2_2), .lit (.int .i64 a2_3)]) [] := fun W' sp =>
    shut_agg4 (y0 := (.lit (.int .i64 a2_0), [])) (y1 := (.lit (.int .i64 a2_1), [])) (y2 := (.lit (.int .i64 a2_2), [])) (y3 := (.lit (.int .i64 a2_3), [])) Try.underlying23 (by kernel_rfl) (by kernel_rfl) ⟨1, by simp [DataW.trod, Try.underlying2, wa2_0]⟩ ⟨1, by simp [DataW.trod, Try.underlying2, wa2_1]⟩ ⟨1, by simp [DataW.trod, Try.underlying2, wa2_2]⟩ ⟨1, by simp [DataW.trod, Try.underlying2, wa2_3]⟩
  have s3 : ∀ (W' : World) (sp : Nat → Bool), DataW.Trod enc Try.prog W' 0 sp true 25 (.agg #[.int .i64 a3_0, .int .i64 a3_1]) (.agg [.lit (.int .i64 a3_0), .lit (.int .i64 a3_1)]) [] := fun W' sp =>
    shut_agg2 (y0 := (.lit (.int .i64 a3_0), [])) (y1 := (.lit (.int .i64 a3_1), [])) Try.underlying25 (by kernel_rfl) (by kernel_rfl) ⟨1, by simp [DataW.trod, Try.underlying2, wa3_0]⟩ ⟨1, by simp [DataW.trod, Try.underlying2, wa3_1]⟩
  clear hA0 hval0
  simp only [List.append_nil] at hW'
  refine (walk a0 a1 a2_0 a2_1 a2_2 a2_3 a3_0 a3_1 (bounds_i64 w0).1 (bounds_i64 w0).2 (bounds_i64 w1).1 (bounds_i64 w1).2 (bounds_i64 wa2_0).1 (bounds_i64 wa2_0).2 (bounds_i64 wa2_1).1 (bounds_i64 wa2_1).2 (bounds_i64 wa2_2).1 (bounds_i64 wa2_2).2 (bounds_i64 wa2_3).1 (bounds_i64 wa2_3).2 (bounds_i64 wa3_0).1 (bounds_i64 wa3_0).2 (bounds_i64 wa3_1).1 (bounds_i64 wa3_1).2 W).mono fun e W' ⟨he, bel⟩ => ?_
  subst he
  exact ⟨_, rfl, _, _, _, [], _, [], hW', trodAll_mk1 (shut_bool Try.underlying4 _), (trodAll_cons_mk (shut_int Try.underlying2 w0) (trodAll_cons_mk (shut_int Try.underlying2 w1) (trodAll_cons_mk (s2 _ _) (trodAll_cons_mk (s3 _ _) trodAll_mk0)))), rfl, bel.frame _, fun h => by cases h⟩
theorem over : Rows.barStraightRow.holds Try.pinned (OpenSpec.ofChange Rows.barStraightSpec) :=
  OpenClaim.holds_of_wide 7 Try.f7 rfl rfl rfl rfl rfl rfl rfl ⟨rfl, rfl, rfl, rfl, rfl⟩ rfl rfl rfl rfl rfl (by kernel_rfl) Try.func7 (by kernel_rfl)
    (of_decide_eq_true (by kernel_rfl)) (by unfold Func.isWrapper; first | (rw [if_pos (by decide +kernel)]; kernel_rfl) | (rw [if_neg (by decide +kernel)]; exact ⟨rfl, rfl⟩))
    (fun os started H enc _ => lifted os started H enc)
theorem proved : Rows.BarStraightSaid := over
#print axioms proved
end Go.Proofs.Ythdoibknjehdoaa.barStraight
