/- An arc and the one back are the whole circle, for every centre, radius, pair of ends and point that the law makes of any numbers of 64 bits. No condition. -/
import Derived.Test.YtoofbbmddddlcaaRows
import Derived.Test.YtoofbbmddddlcaaAwake9
import Derived.Test.YtoofbbmddddlcaaArcFacts
import Derived.Test.YtoofbbmddddlcaaRingFacts
import Derived.Test.YtoofbbmddddlcaaLaws7
import Derived.Test.YtoofbbmddddlcaaHeld9
import Derived.ProofKit
import Derived.OpenShut
import Derived.ShutString
import Derived.ChangeOld
import Derived.Below
import Derived.Lib.SmallJoins
import Derived.Lib.QuietBelow
import Derived.BigQuiet
namespace Go.Proofs.Ytoofbbmddddlcaa.ringCloses
open Go.ChangeShapes Go.WideShapes Go.ChangeAt Go.RowKit Go.Joins
open Go.Sort (grow)


/-- What lies in memory: the centre and the point side by side, both ends behind them. -/
structure Four (N g : Nat) (cx cy p q ax ay ex ey : Int) (w : World) : Prop where
  c : PtIn w N cx cy
  p : PtIn w (N + 1) p q
  a : PtAt w g ax ay
  e : PtAt w (g + 1) ex ey
  lt : N + 1 < g
theorem Four.later {N g : Nat} {cx cy p q ax ay ex ey : Int} {w w1 : World} (h : Four N g cx cy p q ax ay ex ey w) (k : Below w.heap.size w w1) : Four N g cx cy p q ax ay ex ey w1 := ⟨h.c.later k, h.p.later k, h.a.later k, h.e.later k, h.lt⟩
theorem Four.stored {N g : Nat} {cx cy p q ax ay ex ey : Int} {w : World} (h : Four N g cx cy p q ax ay ex ey w) (s t : Int) : Four N g cx cy s t ax ay ex ey ((w.setCell ⟨N + 1, 0, none⟩ (.int .i64 s)).setCell ⟨N + 1, 1, none⟩ (.int .i64 t)) := by
  have hl := h.lt
  exact ⟨h.c.two (by omega) _ _, h.p.stored _ _, h.a.two (by omega) _ _, h.e.two (by omega) _ _, hl⟩
theorem four_new {N : Nat} {a b p q : Int} {w : World} (h : PP N a b p q w) (cx cy ax ay ex ey : Int) (n : TypeId) : Four N w.heap.size cx cy p q ax ay ex ey ((((w.setCell ⟨N, 0, none⟩ (.int .i64 cx)).setCell ⟨N, 1, none⟩ (.int .i64 cy)).alloc (.cells #[.int .i64 ax, .int .i64 ay] n)).alloc (.cells #[.int .i64 ex, .int .i64 ey] n)) := by
  have hz : ((w.setCell ⟨N, 0, none⟩ (.int .i64 cx)).setCell ⟨N, 1, none⟩ (.int .i64 cy)).heap.size = w.heap.size := by simp
  have g1 := ptAt_new ((w.setCell ⟨N, 0, none⟩ (.int .i64 cx)).setCell ⟨N, 1, none⟩ (.int .i64 cy)) ax ay n
  have g2 := ptAt_new (((w.setCell ⟨N, 0, none⟩ (.int .i64 cx)).setCell ⟨N, 1, none⟩ (.int .i64 cy)).alloc (.cells #[.int .i64 ax, .int .i64 ay] n)) ex ey n
  rw [hz] at g1
  rw [show (((w.setCell ⟨N, 0, none⟩ (.int .i64 cx)).setCell ⟨N, 1, none⟩ (.int .i64 cy)).alloc (.cells #[.int .i64 ax, .int .i64 ay] n)).heap.size = w.heap.size + 1 by simp] at g2
  have hl := h.f1.at_.lt
  exact ⟨((h.f0.stored cx cy).alloc _).alloc _, ((h.f1.two (by omega) _ _).alloc _).alloc _, g1.alloc _, g2, hl⟩
def Mid (w : World) (g : Nat) (cx cy s t ax ay ex ey r : Int) (s1 : Value) (wc : World) : Prop := s1 = .int .i64 r ∧ Four w.heap.size g cx cy s t ax ay ex ey wc ∧ Below w.heap.size w wc

set_option maxRecDepth 100000 in
set_option maxHeartbeats 32000000 in
theorem core (c0 c1 rr i j z p0 p1 cx cy ax ay ex ey s t r1 r' : Int)
    (XA : ∀ w, Calls Try.prog 8 #[ptV c0 c1, .int .i64 i, .int .i64 j, .int .i64 z, .bool true] w fun e w' => e = .returned (.tuple #[ptV cx cy, ptV ax ay, ptV ex ey]) ∧ Below w.heap.size w w')
    (XP : ∀ w, Calls Try.prog 10 #[ptV p0 p1, .int .i64 40] w fun e w' => e = .returned (ptV s t) ∧ Below w.heap.size w w')
    (XR : ∀ w, Calls Try.prog 11 #[.int .i64 rr] w fun e w' => e = .returned (.int .i64 r1) ∧ w = w')
    (hr : r1.tmod 30 = r') (ra : 0 ≤ r') (rb : r' ≤ 29)
    (hc : -15 ≤ cx ∧ cx ≤ 15 ∧ -15 ≤ cy ∧ cy ≤ 15) (ha : -35 ≤ ax ∧ ax ≤ 35 ∧ -35 ≤ ay ∧ ay ≤ 35) (he : -35 ≤ ex ∧ ex ≤ 35 ∧ -35 ≤ ey ∧ ey ≤ 35) (hs : -40 ≤ s ∧ s ≤ 40 ∧ -40 ≤ t ∧ t ≤ 40) (ho : okR cx cy ax ay ex ey = true) (w : World) :
    Calls Try.prog 6 #[ptV c0 c1, .int .i64 rr, .int .i64 i, .int .i64 j, .int .i64 z, ptV p0 p1] w fun e w' => e = .returned (.bool true) ∧ Below w.heap.size w w' := by
  have HA := Lib.hid XA
  have HP := Lib.hid XP
  have HX := Lib.hid XR
  have HR := Lib.hid hr
  have HO := Lib.hid ho
  have HC := Lib.hid (And.intro hc (And.intro ha (And.intro he hs)))
  have F0 := pp_new w c0 c1 p0 p1 25
  have B0 := bel_newPP w c0 c1 p0 p1 25
  unfold newPP at F0 B0
  have F0 := Lib.hid F0
  have B0 := Lib.hid B0
  clear hr XA XP XR hc ha he hs ho
  go_enter Try.func6, Try.ntmps6
  go_upto_region 1 with (fail)
  generalize ((w.alloc (.cells #[.int .i64 c0, .int .i64 c1] 25)).alloc (.cells #[.int .i64 p0, .int .i64 p1] 25)) = V at *
  obtain ⟨⟨⟨i0, i1, il⟩, fi⟩, _⟩ := F0.out
  go_wp2_with fail
  refine (HA.out _).mono ?_; rintro e' w1 ⟨rfl, z1⟩
  have F1 := Lib.hid (F0.out.later z1)
  have B1 := Lib.hid (bel_trans B0.out z1)
  clear F0 B0 z1 i0 i1 il fi HA
  have G1 := Lib.hid (four_new F1.out cx cy ax ay ex ey 25)
  have D1 := Lib.hid (bel_alloc (bel_alloc (bel_two B1.out (Nat.le_refl _) cx cy) (.cells #[.int .i64 ax, .int .i64 ay] 25)) (.cells #[.int .i64 ex, .int .i64 ey] 25))
  obtain ⟨⟨⟨i0, i1, il⟩, fi⟩, _⟩ := F1.out
  go_upto_region 2 with (fail)
  clear i0 i1 il fi F1 B1
  generalize (((w1.setCell ⟨w.heap.size, 0, none⟩ (.int .i64 cx)).setCell ⟨w.heap.size, 1, none⟩ (.int .i64 cy)).alloc (.cells #[.int .i64 ax, .int .i64 ay] 25)).alloc (.cells #[.int .i64 ex, .int .i64 ey] 25) = W1 at *
  generalize w1.heap.size = g at *
  have s1 : IntKind.i64.wrap (r' + 1) = r' + 1 := IntWalk.i64_in _ (by omega)
  have hr := HR.out
  go_cut [1] (fun s1 wc => Mid w g cx cy s t ax ay ex ey (r' + 1) s1 wc)
  case first =>
    obtain ⟨_, ⟨⟨i0, i1, il⟩, fi⟩, _, _, _⟩ := G1.out
    go_region_with (first
      | (go_at_call 11; ((with_reducible refine (HX.out _).mono ?_); rintro e wA ⟨rfl, rfl⟩))
      | (go_at_call 10; ((with_reducible refine (HP.out _).mono ?_); rintro e wB ⟨rfl, bB⟩; have FB := Lib.hid ((G1.out.later (bel_drew (bel_refl _))).later bB); have BB := Lib.hid (bel_trans (bel_drew D1.out) bB); obtain ⟨_, ⟨⟨k0, k1, kl⟩, fk⟩, _, _, _⟩ := FB.out)))
    all_goals go_wp2_with fail
    all_goals go_meet
    all_goals exact ⟨rfl, FB.out.stored s t, bel_two BB.out (by omega) s t⟩
  case rest =>
    obtain ⟨rfl, hF, hB⟩ := hcut
    clear G1 D1 HX HP HR hr s1
    obtain ⟨r, hr⟩ : ∃ r, r' + 1 = r := ⟨_, rfl⟩
    have rc : 1 ≤ r := by omega
    have rd : r ≤ 30 := by omega
    rw [hr]
    clear hr ra rb
    have F := Lib.hid hF
    have B := Lib.hid hB
    clear hF hB
    obtain ⟨⟨ca, cb, cc, cd⟩, ⟨aa, ab, ac, ad⟩, ⟨ea, eb, ec, ed⟩, ⟨sa, sb, sc, sd⟩⟩ := HC.out
    obtain ⟨x1, hx1⟩ : ∃ x, ringP s t cx cy ax ay ex ey r = x := ⟨_, rfl⟩
    obtain ⟨x2, hx2⟩ : ∃ x, ringP s t cx cy ex ey ax ay r = x := ⟨_, rfl⟩
    obtain ⟨x3, hx3⟩ : ∃ x, ringP s t cx cy ax ay ax ay r = x := ⟨_, rfl⟩
    obtain ⟨y1, hy1⟩ : ∃ x, secP cx cy ax ay ex ey s t = x := ⟨_, rfl⟩
    obtain ⟨y2, hy2⟩ : ∃ x, secP cx cy ex ey ax ay s t = x := ⟨_, rfl⟩
    have hT := ring_two HO.out rc s t
    have hE := sec_either HO.out s t
    rw [hx1, hx2, hx3] at hT
    rw [hy1, hy2] at hE
    have K1 := Lib.hid (fun w => ringHas_is hx1 (by omega) (by omega) (by omega) (by omega) (by omega) (by omega) (by omega) (by omega) (by omega) (by omega) (by omega) (by omega) (by omega) (by omega) (by omega) (by omega) (show r ≤ 1073741824 by omega) w)
    have K2 := Lib.hid (fun w => ringHas_is hx2 (by omega) (by omega) (by omega) (by omega) (by omega) (by omega) (by omega) (by omega) (by omega) (by omega) (by omega) (by omega) (by omega) (by omega) (by omega) (by omega) (show r ≤ 1073741824 by omega) w)
    have K3 := Lib.hid (fun w => ringHas_is hx3 (by omega) (by omega) (by omega) (by omega) (by omega) (by omega) (by omega) (by omega) (by omega) (by omega) (by omega) (by omega) (by omega) (by omega) (by omega) (by omega) (show r ≤ 1073741824 by omega) w)
    have L1 := Lib.hid (fun w => ringSector_is hy1 (by omega) (by omega) (by omega) (by omega) (by omega) (by omega) (by omega) (by omega) (by omega) (by omega) (by omega) (by omega) (by omega) (by omega) (by omega) (by omega) w)
    have L2 := Lib.hid (fun w => ringSector_is hy2 (by omega) (by omega) (by omega) (by omega) (by omega) (by omega) (by omega) (by omega) (by omega) (by omega) (by omega) (by omega) (by omega) (by omega) (by omega) (by omega) w)
    have L3 := Lib.hid (fun w => ringSector_is (sec_same cx cy ax ay s t) (by omega) (by omega) (by omega) (by omega) (by omega) (by omega) (by omega) (by omega) (by omega) (by omega) (by omega) (by omega) (by omega) (by omega) (by omega) (by omega) w)
    have L4 := Lib.hid (fun w => ringSector_is (sec_first cx cy ax ay ex ey) (by omega) (by omega) (by omega) (by omega) (by omega) (by omega) (by omega) (by omega) (by omega) (by omega) (by omega) (by omega) (by omega) (by omega) (by omega) (by omega) w)
    have L5 := Lib.hid (fun w => ringSector_is (sec_last cx cy ax ay ex ey) (by omega) (by omega) (by omega) (by omega) (by omega) (by omega) (by omega) (by omega) (by omega) (by omega) (by omega) (by omega) (by omega) (by omega) (by omega) (by omega) w)
    have L6 := Lib.hid (fun w => ringSector_is (sec_home cx cy ax ay ex ey) (by omega) (by omega) (by omega) (by omega) (by omega) (by omega) (by omega) (by omega) (by omega) (by omega) (by omega) (by omega) (by omega) (by omega) (by omega) (by omega) w)
    have HT := Lib.hid hT
    have HE := Lib.hid hE
    clear hx1 hx2 hx3 hy1 hy2 hT hE ca cb cc cd aa ab ac ad ea eb ec ed sa sb sc sd rc rd HC HO
    obtain ⟨⟨⟨i0, i1, il⟩, fi⟩, ⟨⟨j0, j1, jl⟩, fj⟩, ⟨l0, l1, ll⟩, ⟨n0, n1, nl⟩, hlt⟩ := F.out
    have i0 := cell_regrown i0
    have i1 := cell_regrown i1
    have j0 := cell_regrown j0
    have j1 := cell_regrown j1
    have l0 := cell_regrown l0
    have l1 := cell_regrown l1
    have n0 := cell_regrown n0
    have n1 := cell_regrown n1
    have D1 := Lib.hid (fun p : Regrown => Calls.regrown_of (K1.out (grow (redrawn wc p.d) p.os)))
    have D2 := Lib.hid (fun p : Regrown => Calls.regrown_of (K2.out (grow (redrawn wc p.d) p.os)))
    have D3 := Lib.hid (fun p : Regrown => Calls.regrown_of (K3.out (grow (redrawn wc p.d) p.os)))
    clear K1 K2 K3
    go_upto_region 3 with (fail)
    refine wp_region_quiet_below (by kernel_rfl) (by kernel_rfl) ?_
    repeat (go_big_quiet_step (first | with_reducible exact D1.out _ | with_reducible exact D2.out _ | with_reducible exact D3.out _))
    refine wpQuiet_nil ?_
    intro _ hw'
    obtain ⟨⟨dr, osr⟩, hw''⟩ := hw'
    subst hw''
    clear i0 i1 il fi j0 j1 jl fj l0 l1 ll n0 n1 nl hlt D1 D2 D3
    have zz := below_regrown wc dr osr
    have F1 := Lib.hid (F.out.later zz)
    have B1 := Lib.hid (bel_trans B.out zz)
    clear F B zz
    generalize grow (redrawn wc dr) osr = V1 at *
    have hT := HT.out
    have hE := HE.out
    clear HT HE
    obtain ⟨xt, hxt⟩ : ∃ x, (x1 || x2) = x := ⟨_, rfl⟩
    have way : (x1 = true ∧ x3 = true) ∨ (x1 = false ∧ x2 = x3) := by rw [← hT]; cases x1 <;> simp
    clear hT hxt xt
    have way2 : y1 = true ∨ (y1 = false ∧ y2 = true) := by cases y1 <;> simp_all
    clear hE
    rcases way with ⟨rfl, rfl⟩ | ⟨rfl, rfl⟩
    · rcases way2 with rfl | ⟨rfl, rfl⟩
      · as_aux_lemma =>
          obtain ⟨⟨⟨i0, i1, il⟩, fi⟩, ⟨⟨j0, j1, jl⟩, fj⟩, ⟨l0, l1, ll⟩, ⟨n0, n1, nl⟩, hlt⟩ := F1.out
          go_wp2_with fail
          refine (L1.out _).mono ?_; rintro e w2 ⟨rfl, z2⟩
          have F2 := Lib.hid (F1.out.later z2)
          have B2 := Lib.hid (bel_trans B1.out z2)
          clear z2 F1 B1 i0 i1 il fi j0 j1 jl fj l0 l1 ll n0 n1 nl hlt
          obtain ⟨⟨⟨i0, i1, il⟩, fi⟩, ⟨⟨j0, j1, jl⟩, fj⟩, ⟨l0, l1, ll⟩, ⟨n0, n1, nl⟩, hlt⟩ := F2.out
          go_wp2_with fail
          refine (L3.out _).mono ?_; rintro e w3 ⟨rfl, z3⟩
          have F3 := Lib.hid (F2.out.later z3)
          have B3 := Lib.hid (bel_trans B2.out z3)
          clear z3 F2 B2 i0 i1 il fi j0 j1 jl fj l0 l1 ll n0 n1 nl hlt
          obtain ⟨⟨⟨i0, i1, il⟩, fi⟩, ⟨⟨j0, j1, jl⟩, fj⟩, ⟨l0, l1, ll⟩, ⟨n0, n1, nl⟩, hlt⟩ := F3.out
          go_wp2_with fail
          refine (L4.out _).mono ?_; rintro e w4 ⟨rfl, z4⟩
          have F4 := Lib.hid (F3.out.later z4)
          have B4 := Lib.hid (bel_trans B3.out z4)
          clear z4 F3 B3 i0 i1 il fi j0 j1 jl fj l0 l1 ll n0 n1 nl hlt
          obtain ⟨⟨⟨i0, i1, il⟩, fi⟩, ⟨⟨j0, j1, jl⟩, fj⟩, ⟨l0, l1, ll⟩, ⟨n0, n1, nl⟩, hlt⟩ := F4.out
          go_wp2_with fail
          refine (L5.out _).mono ?_; rintro e w5 ⟨rfl, z5⟩
          have F5 := Lib.hid (F4.out.later z5)
          have B5 := Lib.hid (bel_trans B4.out z5)
          clear z5 F4 B4 i0 i1 il fi j0 j1 jl fj l0 l1 ll n0 n1 nl hlt
          obtain ⟨⟨⟨i0, i1, il⟩, fi⟩, ⟨⟨j0, j1, jl⟩, fj⟩, ⟨l0, l1, ll⟩, ⟨n0, n1, nl⟩, hlt⟩ := F5.out
          go_wp2_with fail
          refine (L6.out _).mono ?_; rintro e w6 ⟨rfl, z6⟩
          have F6 := Lib.hid (F5.out.later z6)
          have B6 := Lib.hid (bel_trans B5.out z6)
          clear z6 F5 B5 i0 i1 il fi j0 j1 jl fj l0 l1 ll n0 n1 nl hlt
          obtain ⟨⟨⟨i0, i1, il⟩, fi⟩, ⟨⟨j0, j1, jl⟩, fj⟩, ⟨l0, l1, ll⟩, ⟨n0, n1, nl⟩, hlt⟩ := F6.out
          go_wp2_with fail
          refine (awake_any _).mono ?_; rintro e w7 ⟨rfl, z7⟩
          go_wp2
          go_ret
          exact ⟨rfl, bel_trans B6.out z7⟩
      · as_aux_lemma =>
          obtain ⟨⟨⟨i0, i1, il⟩, fi⟩, ⟨⟨j0, j1, jl⟩, fj⟩, ⟨l0, l1, ll⟩, ⟨n0, n1, nl⟩, hlt⟩ := F1.out
          go_wp2_with fail
          refine (L1.out _).mono ?_; rintro e w2 ⟨rfl, z2⟩
          have F2 := Lib.hid (F1.out.later z2)
          have B2 := Lib.hid (bel_trans B1.out z2)
          clear z2 F1 B1 i0 i1 il fi j0 j1 jl fj l0 l1 ll n0 n1 nl hlt
          obtain ⟨⟨⟨i0, i1, il⟩, fi⟩, ⟨⟨j0, j1, jl⟩, fj⟩, ⟨l0, l1, ll⟩, ⟨n0, n1, nl⟩, hlt⟩ := F2.out
          go_wp2_with fail
          refine (L2.out _).mono ?_; rintro e w3 ⟨rfl, z3⟩
          have F3 := Lib.hid (F2.out.later z3)
          have B3 := Lib.hid (bel_trans B2.out z3)
          clear z3 F2 B2 i0 i1 il fi j0 j1 jl fj l0 l1 ll n0 n1 nl hlt
          obtain ⟨⟨⟨i0, i1, il⟩, fi⟩, ⟨⟨j0, j1, jl⟩, fj⟩, ⟨l0, l1, ll⟩, ⟨n0, n1, nl⟩, hlt⟩ := F3.out
          go_wp2_with fail
          refine (L3.out _).mono ?_; rintro e w4 ⟨rfl, z4⟩
          have F4 := Lib.hid (F3.out.later z4)
          have B4 := Lib.hid (bel_trans B3.out z4)
          clear z4 F3 B3 i0 i1 il fi j0 j1 jl fj l0 l1 ll n0 n1 nl hlt
          obtain ⟨⟨⟨i0, i1, il⟩, fi⟩, ⟨⟨j0, j1, jl⟩, fj⟩, ⟨l0, l1, ll⟩, ⟨n0, n1, nl⟩, hlt⟩ := F4.out
          go_wp2_with fail
          refine (L4.out _).mono ?_; rintro e w5 ⟨rfl, z5⟩
          have F5 := Lib.hid (F4.out.later z5)
          have B5 := Lib.hid (bel_trans B4.out z5)
          clear z5 F4 B4 i0 i1 il fi j0 j1 jl fj l0 l1 ll n0 n1 nl hlt
          obtain ⟨⟨⟨i0, i1, il⟩, fi⟩, ⟨⟨j0, j1, jl⟩, fj⟩, ⟨l0, l1, ll⟩, ⟨n0, n1, nl⟩, hlt⟩ := F5.out
          go_wp2_with fail
          refine (L5.out _).mono ?_; rintro e w6 ⟨rfl, z6⟩
          have F6 := Lib.hid (F5.out.later z6)
          have B6 := Lib.hid (bel_trans B5.out z6)
          clear z6 F5 B5 i0 i1 il fi j0 j1 jl fj l0 l1 ll n0 n1 nl hlt
          obtain ⟨⟨⟨i0, i1, il⟩, fi⟩, ⟨⟨j0, j1, jl⟩, fj⟩, ⟨l0, l1, ll⟩, ⟨n0, n1, nl⟩, hlt⟩ := F6.out
          go_wp2_with fail
          refine (L6.out _).mono ?_; rintro e w7 ⟨rfl, z7⟩
          have F7 := Lib.hid (F6.out.later z7)
          have B7 := Lib.hid (bel_trans B6.out z7)
          clear z7 F6 B6 i0 i1 il fi j0 j1 jl fj l0 l1 ll n0 n1 nl hlt
          obtain ⟨⟨⟨i0, i1, il⟩, fi⟩, ⟨⟨j0, j1, jl⟩, fj⟩, ⟨l0, l1, ll⟩, ⟨n0, n1, nl⟩, hlt⟩ := F7.out
          go_wp2_with fail
          refine (awake_any _).mono ?_; rintro e w8 ⟨rfl, z8⟩
          go_wp2
          go_ret
          exact ⟨rfl, bel_trans B7.out z8⟩
    · have e2 : (x2 == x2) = true := beq_self_eq_true x2
      rcases way2 with rfl | ⟨rfl, rfl⟩
      · as_aux_lemma =>
          obtain ⟨⟨⟨i0, i1, il⟩, fi⟩, ⟨⟨j0, j1, jl⟩, fj⟩, ⟨l0, l1, ll⟩, ⟨n0, n1, nl⟩, hlt⟩ := F1.out
          go_wp2_with fail
          refine (L1.out _).mono ?_; rintro e w2 ⟨rfl, z2⟩
          have F2 := Lib.hid (F1.out.later z2)
          have B2 := Lib.hid (bel_trans B1.out z2)
          clear z2 F1 B1 i0 i1 il fi j0 j1 jl fj l0 l1 ll n0 n1 nl hlt
          obtain ⟨⟨⟨i0, i1, il⟩, fi⟩, ⟨⟨j0, j1, jl⟩, fj⟩, ⟨l0, l1, ll⟩, ⟨n0, n1, nl⟩, hlt⟩ := F2.out
          go_wp2_with fail
          refine (L3.out _).mono ?_; rintro e w3 ⟨rfl, z3⟩
          have F3 := Lib.hid (F2.out.later z3)
          have B3 := Lib.hid (bel_trans B2.out z3)
          clear z3 F2 B2 i0 i1 il fi j0 j1 jl fj l0 l1 ll n0 n1 nl hlt
          obtain ⟨⟨⟨i0, i1, il⟩, fi⟩, ⟨⟨j0, j1, jl⟩, fj⟩, ⟨l0, l1, ll⟩, ⟨n0, n1, nl⟩, hlt⟩ := F3.out
          go_wp2_with fail
          refine (L4.out _).mono ?_; rintro e w4 ⟨rfl, z4⟩
          have F4 := Lib.hid (F3.out.later z4)
          have B4 := Lib.hid (bel_trans B3.out z4)
          clear z4 F3 B3 i0 i1 il fi j0 j1 jl fj l0 l1 ll n0 n1 nl hlt
          obtain ⟨⟨⟨i0, i1, il⟩, fi⟩, ⟨⟨j0, j1, jl⟩, fj⟩, ⟨l0, l1, ll⟩, ⟨n0, n1, nl⟩, hlt⟩ := F4.out
          go_wp2_with fail
          refine (L5.out _).mono ?_; rintro e w5 ⟨rfl, z5⟩
          have F5 := Lib.hid (F4.out.later z5)
          have B5 := Lib.hid (bel_trans B4.out z5)
          clear z5 F4 B4 i0 i1 il fi j0 j1 jl fj l0 l1 ll n0 n1 nl hlt
          obtain ⟨⟨⟨i0, i1, il⟩, fi⟩, ⟨⟨j0, j1, jl⟩, fj⟩, ⟨l0, l1, ll⟩, ⟨n0, n1, nl⟩, hlt⟩ := F5.out
          go_wp2_with fail
          refine (L6.out _).mono ?_; rintro e w6 ⟨rfl, z6⟩
          have F6 := Lib.hid (F5.out.later z6)
          have B6 := Lib.hid (bel_trans B5.out z6)
          clear z6 F5 B5 i0 i1 il fi j0 j1 jl fj l0 l1 ll n0 n1 nl hlt
          obtain ⟨⟨⟨i0, i1, il⟩, fi⟩, ⟨⟨j0, j1, jl⟩, fj⟩, ⟨l0, l1, ll⟩, ⟨n0, n1, nl⟩, hlt⟩ := F6.out
          go_wp2_with fail
          refine (awake_any _).mono ?_; rintro e w7 ⟨rfl, z7⟩
          go_wp2
          go_ret
          exact ⟨rfl, bel_trans B6.out z7⟩
      · as_aux_lemma =>
          obtain ⟨⟨⟨i0, i1, il⟩, fi⟩, ⟨⟨j0, j1, jl⟩, fj⟩, ⟨l0, l1, ll⟩, ⟨n0, n1, nl⟩, hlt⟩ := F1.out
          go_wp2_with fail
          refine (L1.out _).mono ?_; rintro e w2 ⟨rfl, z2⟩
          have F2 := Lib.hid (F1.out.later z2)
          have B2 := Lib.hid (bel_trans B1.out z2)
          clear z2 F1 B1 i0 i1 il fi j0 j1 jl fj l0 l1 ll n0 n1 nl hlt
          obtain ⟨⟨⟨i0, i1, il⟩, fi⟩, ⟨⟨j0, j1, jl⟩, fj⟩, ⟨l0, l1, ll⟩, ⟨n0, n1, nl⟩, hlt⟩ := F2.out
          go_wp2_with fail
          refine (L2.out _).mono ?_; rintro e w3 ⟨rfl, z3⟩
          have F3 := Lib.hid (F2.out.later z3)
          have B3 := Lib.hid (bel_trans B2.out z3)
          clear z3 F2 B2 i0 i1 il fi j0 j1 jl fj l0 l1 ll n0 n1 nl hlt
          obtain ⟨⟨⟨i0, i1, il⟩, fi⟩, ⟨⟨j0, j1, jl⟩, fj⟩, ⟨l0, l1, ll⟩, ⟨n0, n1, nl⟩, hlt⟩ := F3.out
          go_wp2_with fail
          refine (L3.out _).mono ?_; rintro e w4 ⟨rfl, z4⟩
          have F4 := Lib.hid (F3.out.later z4)
          have B4 := Lib.hid (bel_trans B3.out z4)
          clear z4 F3 B3 i0 i1 il fi j0 j1 jl fj l0 l1 ll n0 n1 nl hlt
          obtain ⟨⟨⟨i0, i1, il⟩, fi⟩, ⟨⟨j0, j1, jl⟩, fj⟩, ⟨l0, l1, ll⟩, ⟨n0, n1, nl⟩, hlt⟩ := F4.out
          go_wp2_with fail
          refine (L4.out _).mono ?_; rintro e w5 ⟨rfl, z5⟩
          have F5 := Lib.hid (F4.out.later z5)
          have B5 := Lib.hid (bel_trans B4.out z5)
          clear z5 F4 B4 i0 i1 il fi j0 j1 jl fj l0 l1 ll n0 n1 nl hlt
          obtain ⟨⟨⟨i0, i1, il⟩, fi⟩, ⟨⟨j0, j1, jl⟩, fj⟩, ⟨l0, l1, ll⟩, ⟨n0, n1, nl⟩, hlt⟩ := F5.out
          go_wp2_with fail
          refine (L5.out _).mono ?_; rintro e w6 ⟨rfl, z6⟩
          have F6 := Lib.hid (F5.out.later z6)
          have B6 := Lib.hid (bel_trans B5.out z6)
          clear z6 F5 B5 i0 i1 il fi j0 j1 jl fj l0 l1 ll n0 n1 nl hlt
          obtain ⟨⟨⟨i0, i1, il⟩, fi⟩, ⟨⟨j0, j1, jl⟩, fj⟩, ⟨l0, l1, ll⟩, ⟨n0, n1, nl⟩, hlt⟩ := F6.out
          go_wp2_with fail
          refine (L6.out _).mono ?_; rintro e w7 ⟨rfl, z7⟩
          have F7 := Lib.hid (F6.out.later z7)
          have B7 := Lib.hid (bel_trans B6.out z7)
          clear z7 F6 B6 i0 i1 il fi j0 j1 jl fj l0 l1 ll n0 n1 nl hlt
          obtain ⟨⟨⟨i0, i1, il⟩, fi⟩, ⟨⟨j0, j1, jl⟩, fj⟩, ⟨l0, l1, ll⟩, ⟨n0, n1, nl⟩, hlt⟩ := F7.out
          go_wp2_with fail
          refine (awake_any _).mono ?_; rintro e w8 ⟨rfl, z8⟩
          go_wp2
          go_ret
          exact ⟨rfl, bel_trans B7.out z8⟩

theorem walk (c0 c1 rr i j z p0 p1 : Int) (_ : -9223372036854775808 ≤ c0) (_ : c0 ≤ 9223372036854775807) (_ : -9223372036854775808 ≤ c1) (_ : c1 ≤ 9223372036854775807) (_ : -9223372036854775808 ≤ rr) (_ : rr ≤ 9223372036854775807) (_ : -9223372036854775808 ≤ i) (_ : i ≤ 9223372036854775807) (_ : -9223372036854775808 ≤ j) (_ : j ≤ 9223372036854775807) (_ : -9223372036854775808 ≤ z) (_ : z ≤ 9223372036854775807) (_ : -9223372036854775808 ≤ p0) (_ : p0 ≤ 9223372036854775807) (_ : -9223372036854775808 ≤ p1) (_ : p1 ≤ 9223372036854775807) (w : World) :
    Calls Try.prog 6 #[ptV c0 c1, .int .i64 rr, .int .i64 i, .int .i64 j, .int .i64 z, ptV p0 p1] w fun e w' => e = .returned (.bool true) ∧ Below w.heap.size w w' := by
  obtain ⟨cx, cy, ax, ay, ex, ey, _, _, _, hs, ho, XA⟩ := arc_at c0 c1 i j z true
  obtain ⟨h1, h2, h3⟩ := hs rfl
  obtain ⟨s, t, hp, XP⟩ := close_form p0 p1 40 41 (by omega) (by omega) rfl
  obtain ⟨r, r1, r2, XR⟩ := r_form rr
  obtain ⟨r', ra, rb, hr⟩ := r_left (n := 30) r1 (by omega)
  exact core c0 c1 rr i j z p0 p1 cx cy ax ay ex ey s t r r' XA XP XR hr ra (by omega) h1 h2 h3 hp ho w
theorem own : ownKnob Try.prog.godebug = none := by kernel_rfl
set_option maxRecDepth 100000 in
set_option maxHeartbeats 4000000 in
theorem lifted (os : Os) (started : os.Started) (H : Type) (enc : TypeId × Value → H) :
    ReturnsInHanded {} Try.checked os 6 .any (Rows.ringClosesSpec.pre6 enc Try.prog Try.f6 Rows.ringClosesRow.domain false) (Rows.ringClosesSpec.post enc Try.prog Try.f6 false true false false) := by
  refine returnsInHanded_of_change (C := Try.checked) own started (by kernel_rfl) Try.func6
    (ChangeSpec.witness6 (enc := enc) (C := Try.checked) false ⟨#[], #[.agg #[.int .i64 0, .int .i64 0], .int .i64 0, .int .i64 0, .int .i64 0, .int .i64 0, .agg #[.int .i64 0, .int .i64 0]], []⟩ 8 (by kernel_rfl) (by kernel_rfl) (by kernel_rfl) (by kernel_rfl)) ?_
  intro W base args ds gs before hval0 hW _ _
  have hval : ∀ (j : Nat) t v, Try.f6.params[j]? = some t → args[j]? = some v → Value.okWide Try.prog W .any base t v := hval0
  have hW' := hW
  obtain ⟨p, q, hA0, hV, rfl, hfz, hnd⟩ := hW
  have hA : DataW.TrodAll enc Try.prog W 0 (fun _ => true) true Try.f6.params.toList args.toList ds p := hA0
  rw [Try.params6] at hA hval
  obtain ⟨v0, vs0, d0, ds0, p0, q0, hargs, rfl, rfl, h0, r0⟩ := trodAll_cons hA
  obtain ⟨v1, vs1, d1, ds1, p1, q1, rfl, rfl, rfl, h1, r1⟩ := trodAll_cons r0
  obtain ⟨v2, vs2, d2, ds2, p2, q2, rfl, rfl, rfl, h2, r2⟩ := trodAll_cons r1
  obtain ⟨v3, vs3, d3, ds3, p3, q3, rfl, rfl, rfl, h3, r3⟩ := trodAll_cons r2
  obtain ⟨v4, vs4, d4, ds4, p4, q4, rfl, rfl, rfl, h4, r4⟩ := trodAll_cons r3
  obtain ⟨v5, vs5, d5, ds5, p5, q5, rfl, rfl, rfl, h5, r5⟩ := trodAll_cons r4
  obtain ⟨rfl, rfl, rfl⟩ := trodAll_nil r5
  obtain rfl : args = #[v0, v1, v2, v3, v4, v5] := by cases args; simp_all
  obtain ⟨rfl, rfl⟩ := trodVars_none hV
  obtain ⟨c0_0, c0_1, y0_0, y0_1, m0, rfl, rfl, rfl, k0_0, k0_1⟩ := open_agg2 Try.underlying25 (by kernel_rfl) (by kernel_rfl) (hval 0 25 v0 rfl rfl) h0
  obtain ⟨a0_0, ea0_0, rfl, wa0_0⟩ := DataW.trod_int Try.underlying2 k0_0
  simp at ea0_0; subst ea0_0
  obtain ⟨a0_1, ea0_1, rfl, wa0_1⟩ := DataW.trod_int Try.underlying2 k0_1
  simp at ea0_1; subst ea0_1
  obtain ⟨a1, rfl, rfl, rfl, w1⟩ := open_int Try.underlying2 (hval 1 2 v1 rfl rfl) h1
  obtain ⟨a2, rfl, rfl, rfl, w2⟩ := open_int Try.underlying3 (hval 2 3 v2 rfl rfl) h2
  obtain ⟨a3, rfl, rfl, rfl, w3⟩ := open_int Try.underlying3 (hval 3 3 v3 rfl rfl) h3
  obtain ⟨a4, rfl, rfl, rfl, w4⟩ := open_int Try.underlying2 (hval 4 2 v4 rfl rfl) h4
  obtain ⟨c5_0, c5_1, y5_0, y5_1, m5, rfl, rfl, rfl, k5_0, k5_1⟩ := open_agg2 Try.underlying25 (by kernel_rfl) (by kernel_rfl) (hval 5 25 v5 rfl rfl) h5
  obtain ⟨a5_0, ea5_0, rfl, wa5_0⟩ := DataW.trod_int Try.underlying2 k5_0
  simp at ea5_0; subst ea5_0
  obtain ⟨a5_1, ea5_1, rfl, wa5_1⟩ := DataW.trod_int Try.underlying2 k5_1
  simp at ea5_1; subst ea5_1
  have s0 : ∀ (W' : World) (sp : Nat → Bool), DataW.Trod enc Try.prog W' 0 sp true 25 (.agg #[.int .i64 a0_0, .int .i64 a0_1]) (.agg [.lit (.int .i64 a0_0), .lit (.int .i64 a0_1)]) [] := fun W' sp =>
    shut_agg2 (y0 := (.lit (.int .i64 a0_0), [])) (y1 := (.lit (.int .i64 a0_1), [])) Try.underlying25 (by kernel_rfl) (by kernel_rfl) ⟨1, by simp [DataW.trod, Try.underlying2, wa0_0]⟩ ⟨1, by simp [DataW.trod, Try.underlying2, wa0_1]⟩
  have s5 : ∀ (W' : World) (sp : Nat → Bool), DataW.Trod enc Try.prog W' 0 sp true 25 (.agg #[.int .i64 a5_0, .int .i64 a5_1]) (.agg [.lit (.int .i64 a5_0), .lit (.int .i64 a5_1)]) [] := fun W' sp =>
    shut_agg2 (y0 := (.lit (.int .i64 a5_0), [])) (y1 := (.lit (.int .i64 a5_1), [])) Try.underlying25 (by kernel_rfl) (by kernel_rfl) ⟨1, by simp [DataW.trod, Try.underlying2, wa5_0]⟩ ⟨1, by simp [DataW.trod, Try.underlying2, wa5_1]⟩
  clear hA0 hval0
  simp only [List.append_nil] at hW'
  refine (walk a0_0 a0_1 a1 a2 a3 a4 a5_0 a5_1 (bounds_i64 wa0_0).1 (bounds_i64 wa0_0).2 (bounds_i64 wa0_1).1 (bounds_i64 wa0_1).2 (bounds_i64 w1).1 (bounds_i64 w1).2 (bounds_i64 w2).1 (bounds_i64 w2).2 (bounds_i64 w3).1 (bounds_i64 w3).2 (bounds_i64 w4).1 (bounds_i64 w4).2 (bounds_i64 wa5_0).1 (bounds_i64 wa5_0).2 (bounds_i64 wa5_1).1 (bounds_i64 wa5_1).2 W).mono fun e W' ⟨he, bel⟩ => ?_
  subst he
  exact ⟨_, rfl, _, _, _, [], _, [], hW', trodAll_mk1 (shut_bool Try.underlying4 _), (trodAll_cons_mk (s0 _ _) (trodAll_cons_mk (shut_int Try.underlying2 w1) (trodAll_cons_mk (shut_int Try.underlying3 w2) (trodAll_cons_mk (shut_int Try.underlying3 w3) (trodAll_cons_mk (shut_int Try.underlying2 w4) (trodAll_cons_mk (s5 _ _) trodAll_mk0)))))), rfl, bel.frame _, fun h => by cases h⟩
theorem over : Rows.ringClosesRow.holds Try.pinned (OpenSpec.ofChange Rows.ringClosesSpec) :=
  OpenClaim.holds_of_wide 6 Try.f6 rfl rfl rfl rfl rfl rfl rfl ⟨rfl, rfl, rfl, rfl, rfl⟩ rfl rfl rfl rfl rfl (by kernel_rfl) Try.func6 (by kernel_rfl)
    (of_decide_eq_true (by kernel_rfl)) (by unfold Func.isWrapper; first | (rw [if_pos (by decide +kernel)]; kernel_rfl) | (rw [if_neg (by decide +kernel)]; exact ⟨rfl, rfl⟩))
    (fun os started H enc _ => lifted os started H enc)
theorem proved : Rows.RingClosesSaid := over
#print axioms proved
end Go.Proofs.Ytoofbbmddddlcaa.ringCloses
