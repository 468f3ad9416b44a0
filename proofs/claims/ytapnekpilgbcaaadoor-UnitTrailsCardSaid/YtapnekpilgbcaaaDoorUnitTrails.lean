/- The same digits with leading zeros omitted, and with trailing zeros omitted, denote the same coordinate, and beside it there is none; for every format made valid and every coordinate that the law draws. The rows' laid variables are the library's own tables, which no call here reads. -/
import Derived.Test.YtapnekpilgbcaaaDoorRows
import Derived.Test.YtapnekpilgbcaaaDoorCards
import Derived.Test.YtapnekpilgbcaaaDoorTie
import Derived.Test.YtapnekpilgbcaaaDoorAwake3
import Derived.Test.YtapnekpilgbcaaaDoorTame3
import Derived.Test.YtapnekpilgbcaaaDoorUnitBackL
import Derived.ProofKit
import Derived.OpenShut
import Derived.ShutString
import Derived.ChangeOld
import Derived.Below
import Derived.ChangeMaps5
import Derived.Lib.SmallJoins
import Derived.PinnedBridge
import Derived.Lay
import Derived.LaidOnce
import Derived.SevenTiedAt
namespace Go.Proofs.YtapnekpilgbcaaaDoor
open Go.RowKit

/-- Two formats in new blocks of the call's own, beside a third. -/
def Two (w : World) (b : Nat) (V : Int) (A D : Nat) (t : Bool) (s5 s6 : Value) (wc : World) : Prop :=
  ∃ p q : Nat, s5 = .pointer (some ⟨p, 0, none⟩) ∧ s6 = .pointer (some ⟨q, 0, none⟩) ∧ p ≠ q ∧ b < p ∧ b < q ∧ FmtAt wc b V A D t ∧ FmtAt wc p V A D t ∧ FmtAt wc q V A D t ∧
    wc.frozen? ⟨p, 3, none⟩ = false ∧ wc.frozen? ⟨q, 3, none⟩ = false ∧ Below w.heap.size w wc

theorem two_new {w w2 : World} {b : Nat} {V : Int} {A D : Nat} {t : Bool} (h : FmtAt w2 b V A D t) (hB : Below w.heap.size w w2) (n : TypeId) :
    Two w b V A D t (.pointer (some ⟨w2.heap.size, 0, none⟩)) (.pointer (some ⟨w2.heap.size + 1, 0, none⟩)) (((w2.alloc (.cells #[.int .i64 V, .int .i64 (A : Int), .int .i64 (D : Int), .bool t] n)).alloc (.cells #[.int .i64 V, .int .i64 (A : Int), .int .i64 (D : Int), .bool t] n)).drew) ∧
    Two w b V A D t (.pointer (some ⟨w2.heap.size + 1, 0, none⟩)) (.pointer (some ⟨w2.heap.size, 0, none⟩)) (((w2.alloc (.cells #[.int .i64 V, .int .i64 (A : Int), .int .i64 (D : Int), .bool t] n)).alloc (.cells #[.int .i64 V, .int .i64 (A : Int), .int .i64 (D : Int), .bool t] n)).drew) := by
  have k1 := bel_alloc (bel_refl w2) (.cells #[.int .i64 V, .int .i64 (A : Int), .int .i64 (D : Int), .bool t] n)
  have f1 := fmtAt_new w2 V A D t n
  generalize ho : (Obj.cells #[.int .i64 V, .int .i64 (A : Int), .int .i64 (D : Int), .bool t] n) = o at *
  have k2 := bel_alloc (bel_refl (w2.alloc o)) o
  have f2 := fmtAt_new (w2.alloc o) V A D t n
  rw [ho] at f2
  have k3 := (bel_refl ((w2.alloc o).alloc o)).drew
  have hs : (w2.alloc o).heap.size = w2.heap.size + 1 := by simp
  have g1 := (f1.later k2).later k3
  have g2 := f2.later k3
  have g0 := ((h.later k1).later k2).later k3
  have hb := h.lt
  rw [hs] at g2
  have z1 : (((w2.alloc o).alloc o).drew).frozen? ⟨w2.heap.size, 3, none⟩ = false := by rw [← ho]; simp
  have z2 : (((w2.alloc o).alloc o).drew).frozen? ⟨w2.heap.size + 1, 3, none⟩ = false := by rw [← ho]; simp
  have hB' := bel_trans (bel_trans (bel_trans hB k1) k2) k3
  exact ⟨⟨_, _, rfl, rfl, by omega, hb, by omega, g0, g1, g2, z1, z2, hB'⟩, ⟨_, _, rfl, rfl, by omega, by omega, hb, g0, g2, g1, z2, z1, hB'⟩⟩
theorem FmtAt.setT {w : World} {b : Nat} {u a d : Int} {t : Bool} (h : FmtAt w b u a d t) (t' : Bool) : FmtAt (w.setCell ⟨b, 3, none⟩ (.bool t')) b u a d t' :=
  ⟨set_off h.c0 (by omega), set_off h.c1 (by omega), set_off h.c2 (by omega), set_on h.c3, by simpa using h.lt⟩
theorem set_far {w : World} {b c i j : Nat} {v x : Value} (h : w.cell? ⟨b, j, none⟩ = some x) (hij : c ≠ b) : (w.setCell ⟨c, i, none⟩ v).cell? ⟨b, j, none⟩ = some x := by
  rw [World.cell?_setCell_other]
  · exact h
  · intro e
    simp only [Addr.mk.injEq] at e
    omega
theorem FmtAt.setO {w : World} {b c i : Nat} {u a d : Int} {t : Bool} {v : Value} (h : FmtAt w b u a d t) (hc : c ≠ b) : FmtAt (w.setCell ⟨c, i, none⟩ v) b u a d t :=
  ⟨set_far h.c0 hc, set_far h.c1 hc, set_far h.c2 hc, set_far h.c3 hc, by simpa using h.lt⟩
/-- Three formats in blocks of the caller's own. -/
structure Three (w : World) (b p q : Nat) (V : Int) (A D : Nat) (t : Bool) : Prop where
  fb : FmtAt w b V A D t
  fp : FmtAt w p V A D false
  fq : FmtAt w q V A D true
theorem Three.later {w w1 : World} {b p q : Nat} {V : Int} {A D : Nat} {t : Bool} (h : Three w b p q V A D t) (k : Below w.heap.size w w1) : Three w1 b p q V A D t := ⟨h.fb.later k, h.fp.later k, h.fq.later k⟩
end Go.Proofs.YtapnekpilgbcaaaDoor
namespace Go.Proofs.YtapnekpilgbcaaaDoor.unitTrails
open Go.ChangeShapes Go.WideShapes Go.ChangeAt Go.RowKit Go.Joins

set_option maxRecDepth 100000 in
set_option maxHeartbeats 4000000 in
theorem core (u a d v : Int) (t : Bool) (V : Int) (A D : Nat) (HT : Hid (∀ w, Calls Tryd.prog 7 #[fmtV u a d t] w fun e w' => e = .returned (fmtV V A D t) ∧ Below w.heap.size w w')) (hA : A ≤ 6) (hD : D ≤ 6) (hV : V = 1 ∨ V = 2)
    (G st y g : Int) (hG : grainsI V = G) (G0 : 10 ≤ G) (G1 : G ≤ 254) (hst : tens G (6 - D) = st) (s0 : 10 ≤ st) (s1 : st ≤ 254000000) (hy : v.tmod 1000 = y) (y0 : -1000 < y) (y1 : y < 1000) (hg : y * st = g) (g0 : -254000000000 ≤ g) (g1 : g ≤ 254000000000)
    (oa ob : Option (List UInt8)) (ha : digitsO g V A D false = oa) (hb : digitsO g V A D true = ob)
    (hgood : (oa = none ∧ ob = none) ∨ ∃ (i T : List UInt8) (c : UInt8), oa = some (i ++ [c]) ∧ ob = some T ∧ coordO (i ++ [c]) V A D false = some g ∧ coordO T V A D true = some g ∧ digitsO (g + 1) V A D false = none ∧ i.length ≤ 12 ∧ T.length ≤ A + D + 1) (w : World) :
    Calls Tryd.prog 3 #[fmtV u a d t, .int .i64 v] w fun e w' => e = .returned (.bool true) ∧ Below w.heap.size w w' := by
  have HGr := Lib.hid hG
  have HSt := Lib.hid hst
  have HY := Lib.hid hy
  have HGm := Lib.hid hg
  have HA := Lib.hid (fun w => digits_is ha w)
  have HB := Lib.hid (fun w => digits_is hb w)
  have HO := Lib.hid hgood
  clear hG hst hy hg ha hb hgood
  go_enter Tryd.func3, Tryd.ntmps3
  go_wp2_with fail
  refine (HT.out _).mono ?_; rintro e w1 ⟨rfl, b1⟩
  have zf := frozen_new b1 (by intro i; simp)
  have z0 := zf 0
  have z1 := zf 1
  have z2 := zf 2
  have z3 := zf 3
  have f1 := (fmtAt_new w u a d t 23).later b1
  have fS := Lib.hid (f1.stored V A D t)
  have bS := Lib.hid (below_stored (bel_trans (bel_alloc (bel_refl w) (.cells #[.int .i64 u, .int .i64 a, .int .i64 d, .bool t] 23)) b1) (.int .i64 V) (.int .i64 (A : Int)) (.int .i64 (D : Int)) (.bool t))
  obtain ⟨x0, x1, x2, x3, xl⟩ := f1
  clear zf b1
  go_wp2_with fail
  clear x0 x1 x2 x3 xl z0 z1 z2 z3
  generalize (((w1.setCell ⟨w.heap.size, 0, none⟩ (.int .i64 V)).setCell ⟨w.heap.size, 1, none⟩ (.int .i64 (A : Int))).setCell ⟨w.heap.size, 2, none⟩ (.int .i64 (D : Int))).setCell ⟨w.heap.size, 3, none⟩ (.bool t) = w2 at fS bS ⊢
  obtain ⟨x0, x1, x2, x3, xl⟩ := fS.out
  have hT := Lib.hid (two_new fS.out bS.out 23)
  go_cut [5, 6] (fun s5 s6 wc => Two w w.heap.size V A D t s5 s6 wc)
  case first =>
    go_region
    all_goals go_wp2
    all_goals go_meet
    · exact hT.out.1
    · exact hT.out.2
  case rest =>
    obtain ⟨p, q, rfl, rfl, hpq, hbp, hbq, fb, fp, fq, zp, zq, bW⟩ := hcut
    clear x0 x1 x2 x3 xl fS bS hT
    have xp := fp.c3
    have xq := fq.c3
    have lp := fp.lt
    have lq := fq.lt
    have yq : (wc.setCell ⟨p, 3, none⟩ (.bool false)).cell? ⟨q, 3, none⟩ = some (.bool t) := set_far xq hpq
    have zq' : (wc.setCell ⟨p, 3, none⟩ (.bool false)).frozen? ⟨q, 3, none⟩ = false := by simpa using zq
    have Fb := Lib.hid ((fb.setO (c := p) (i := 3) (v := .bool false) (by omega)).setO (c := q) (i := 3) (v := .bool true) (by omega))
    have Fp := Lib.hid ((fp.setT false).setO (c := q) (i := 3) (v := .bool true) (by omega))
    have Fq := Lib.hid ((fq.setO (c := p) (i := 3) (v := .bool false) (by omega)).setT true)
    have BW := Lib.hid ((bW.setCell (p := ⟨p, 3, none⟩) (by show w.heap.size ≤ p; omega) (.bool false)).setCell (p := ⟨q, 3, none⟩) (by show w.heap.size ≤ q; omega) (.bool true))
    clear fb fp fq bW
    have F3 := Lib.hid (Three.mk Fb.out Fp.out Fq.out)
    go_upto_region 4 with (fail)
    clear xp xq lp lq yq zq zq' zp Fb Fp Fq
    generalize (wc.setCell ⟨p, 3, none⟩ (.bool false)).setCell ⟨q, 3, none⟩ (.bool true) = w3 at F3 BW ⊢
    obtain ⟨x0, x1, x2, x3, xl⟩ := F3.out.fb
    go_upto_if 29 with (fail)
    go_cut [7] (fun s7 wx => s7 = .int .i64 G ∧ w3 = wx)
    case first =>
      rcases hV with rfl | rfl
      · have HG := Lib.hid (show G = 10 from HGr.out.symm)
        go_wp2
        go_meet
        exact ⟨by rw [HG.out], rfl⟩
      · have HG := Lib.hid (show G = 254 from HGr.out.symm)
        go_wp2
        go_meet
        exact ⟨by rw [HG.out], rfl⟩
    case rest =>
      obtain ⟨rfl, rfl⟩ := hcut
      go_wp2_with fail
      go_loop [7, 8] (fun k i => ∃ j : Nat, j ≤ 6 ∧ D ≤ j ∧ i = .int .i64 j ∧ k = .int .i64 (tens G (j - D))) (fun _ i => 6 - (intOf i).toNat)
      case atStart => exact ⟨D, by omega, Nat.le_refl _, rfl, by rw [Nat.sub_self, tens_zero]⟩
      case round =>
        obtain ⟨j, h6, hj, rfl, rfl⟩ := hrel
        obtain ⟨v0, v1⟩ := tens_step_bd (k := G) (by omega) G1 (m := j - D) (by omega)
        by_cases hlt : j < 6
        · have HS := Lib.hid (tens_succ G (j - D))
          go_wp2
          go_round
          case rel => exact ⟨j + 1, by omega, by omega, by go_num, by rw [show j + 1 - D = j - D + 1 from by omega, HS.out]; exact congrArg (Value.int .i64) (Int.mul_comm _ _)⟩
          case measure => simp [intOf]; omega
        · obtain rfl : j = 6 := by omega
          rw [HSt.out]
          clear v0 v1 x0 x1 x2 x3 xl
          have hy := HY.out
          have hg := HGm.out
          obtain ⟨x0, x1, x2, x3, xl⟩ := F3.out.fp
          go_wp2_with fail
          refine (HA.out _).mono ?_; rintro e w4 ⟨rfl, b4⟩
          clear hy hg x0 x1 x2 x3 xl
          have F4 := Lib.hid (F3.out.later b4)
          have B4 := bel_trans BW.out b4
          clear b4 F3 BW
          obtain ⟨x0, x1, x2, x3, xl⟩ := F4.out.fq
          go_wp2_with fail
          refine (HB.out _).mono ?_; rintro e w5 ⟨rfl, b5⟩
          clear x0 x1 x2 x3 xl
          have F5 := Lib.hid (F4.out.later b5)
          have B5 := bel_trans B4 b5
          clear b5 F4 B4
          rcases HO.out with ⟨rfl, rfl⟩ | ⟨i, T, c, rfl, rfl, k1, k2, k3, k4, k5⟩
          · go_wp2_with fail
            refine (awake_any _).mono ?_; rintro e w6 ⟨rfl, b6⟩
            go_wp2
            go_ret
            exact ⟨rfl, bel_trans B5 b6⟩
          · have H1 := Lib.hid (fun w => coord_is k1 (by simp; omega) w)
            have H2 := Lib.hid (fun w => coord_is k2 (by omega) w)
            have H3 := Lib.hid (fun w => digits_is k3 w)
            have hbt := byteAt (i ++ [c]) i.length (by simp)
            rw [show (i ++ [c])[i.length]'(by simp) = c from by simp] at hbt
            have HBt := Lib.hid hbt
            clear k1 k2 k3 hbt
            obtain ⟨x0, x1, x2, x3, xl⟩ := F5.out.fp
            go_wp2_with fail
            refine (H1.out _).mono ?_; rintro e w6 ⟨rfl, b6⟩
            clear x0 x1 x2 x3 xl
            have F6 := Lib.hid (F5.out.later b6)
            have B6 := bel_trans B5 b6
            clear b6 F5 B5
            obtain ⟨x0, x1, x2, x3, xl⟩ := F6.out.fq
            go_wp2_with fail
            refine (H2.out _).mono ?_; rintro e w7 ⟨rfl, b7⟩
            clear x0 x1 x2 x3 xl
            have F7 := Lib.hid (F6.out.later b7)
            have B7 := bel_trans B6 b7
            clear b7 F6 B6
            obtain ⟨x0, x1, x2, x3, xl⟩ := F7.out.fp
            go_wp2_with fail
            refine (H3.out _).mono ?_; rintro e w8 ⟨rfl, b8⟩
            clear x0 x1 x2 x3 xl
            have F8 := Lib.hid (F7.out.later b8)
            have B8 := bel_trans B7 b8
            clear b8 F7 B7
            obtain ⟨x0, x1, x2, x3, xl⟩ := F8.out.fb
            have hbt := HBt.out
            by_cases h48 : c.toNat = 48
            · have hc : ((c.toNat : Int) != 48) = false := by simp [h48]
              clear h48
              go_wp2_with fail
              refine (awake_any _).mono ?_; rintro e w9 ⟨rfl, b9⟩
              go_wp2
              go_ret
              exact ⟨rfl, bel_trans B8 b9⟩
            · have hc : ((c.toNat : Int) != 48) = true := by simp; omega
              clear h48
              go_wp2_with fail
              refine (awake_any _).mono ?_; rintro e w9 ⟨rfl, b9⟩
              go_wp2
              go_ret
              exact ⟨rfl, bel_trans B8 b9⟩

theorem prod_bd {y st : Int} (y0 : -1000 < y) (y1 : y < 1000) (s0 : 0 ≤ st) (s1 : st ≤ 254000000) : -254000000000 ≤ y * st ∧ y * st ≤ 254000000000 := by
  have h1 := Int.mul_le_mul_of_nonneg_right (show y ≤ 999 by omega) s0
  have h2 := Int.mul_le_mul_of_nonneg_right (show -999 ≤ y by omega) s0
  omega
theorem walk (u a d : Int) (t : Bool) (v : Int) (_u0 : -9223372036854775808 ≤ u) (_u1 : u ≤ 9223372036854775807) (_a0 : -9223372036854775808 ≤ a) (_a1 : a ≤ 9223372036854775807) (_d0 : -9223372036854775808 ≤ d) (_d1 : d ≤ 9223372036854775807)
    (_v0 : -9223372036854775808 ≤ v) (_v1 : v ≤ 9223372036854775807) (w : World) :
    Calls Tryd.prog 3 #[fmtV u a d t, .int .i64 v] w fun e w' => e = .returned (.bool true) ∧ Below w.heap.size w w' := by
  obtain ⟨V, A, D, hf, hV, hA, hD, h0, HT⟩ := tame_form u a d t
  have hG := grains_unit hV
  have hs := step_pos hV hD
  have hb := tmod_bd v 1000 (by omega)
  have hp := prod_bd hb.1 hb.2 (show 0 ≤ stepI V D by omega) hs.2
  refine core u a d v t V A D (Lib.hid HT) hA hD hV (grainsI V) (stepI V D) (v.tmod 1000) (v.tmod 1000 * stepI V D) rfl hG.1 hG.2 rfl hs.1 hs.2 rfl hb.1 hb.2 rfl hp.1 hp.2 _ _ rfl rfl ?_ w
  generalize v.tmod 1000 * stepI V D = g
  have hboth := digits_both (g := g) (u := V) (a := A) (d := D) true
  cases ha : digitsO g V A D false with
  | none =>
    rw [ha] at hboth
    cases hb : digitsO g V A D true with
    | none => exact .inl ⟨rfl, rfl⟩
    | some T => rw [hb] at hboth; cases hboth
  | some S =>
    rw [ha] at hboth
    cases hb : digitsO g V A D true with
    | none => rw [hb] at hboth; cases hboth
    | some T =>
      obtain ⟨p1, p2, p3, _⟩ := digits_back ha
      obtain ⟨q1, _, q3, _⟩ := digits_back hb
      have r := digits_beside ha
      rcases nil_or_snoc S with rfl | ⟨i, c, rfl⟩
      · simp at p2
      · refine .inr ⟨i, T, c, rfl, rfl, p1, q1, r, ?_, ?_⟩
        · simp at p3; omega
        · omega
theorem own : ownKnob Tryd.prog.godebug = none := by kernel_rfl
set_option maxRecDepth 100000 in
theorem lifted (os : Os) (started : os.Started) (H : Type) (enc : TypeId × Value → H) :
    ReturnsInHanded {} Tryd.checked os 3 .any (fun w args => (Rows.unitTrailsSpec.pre enc Tryd.prog Tryd.f3 [] false w args ∧ laidMetH Tryd.prog Rows.unitTrailsRow.laid w) ∧ sizedMet enc Tryd.prog Tryd.f3 (OpenSpec.ofChange Rows.unitTrailsSpec) false w args)
      (Rows.unitTrailsSpec.post enc Tryd.prog Tryd.f3 false true false false) := by
  refine returnsInHanded_of_change_and (C := Tryd.checked) (X := fun w _ => laidMetH Tryd.prog Rows.unitTrailsRow.laid w) (fun _ _ _ hh h => h.of_heap hh) own started (by kernel_rfl) Tryd.func3
    (ChangeSpec.witness_shaped (enc := enc) (C := Tryd.checked) (os := os) (X := fun w _ => laidMetH Tryd.prog Rows.unitTrailsRow.laid w) false (World.laidAll Tryd.prog os Rows.unitTrailsRow.laid) #[.agg #[.int .i64 0, .int .i64 0, .int .i64 0, .bool false], .int .i64 0] 8 (World.laidAll_os _ _ _)
      (World.shaped_of_ZipB (by kernel_rfl) (by kernel_rfl)) (by kernel_rfl) (by kernel_rfl) (by kernel_rfl)
      (by rw [MakeChecks.laidMetH_plain _ _ _ (by kernel_rfl)]; exact laidMet_laidAll _ (by kernel_rfl) (by kernel_rfl))) ?_
  intro W base args ds gs before hval0 hW _ _ _ _
  have hval : ∀ (j : Nat) t v, Tryd.f3.params[j]? = some t → args[j]? = some v → Value.okWide Tryd.prog W .any base t v := hval0
  have hW' := hW
  obtain ⟨p, q, hA0, hV, rfl, hfz, hnd⟩ := hW
  have hA : DataW.TrodAll enc Tryd.prog W 0 (fun _ => true) true Tryd.f3.params.toList args.toList ds p := hA0
  rw [Tryd.params3] at hA hval
  obtain ⟨v0, vs0, d0, ds0, p0, q0, hargs, rfl, rfl, h0, r0⟩ := trodAll_cons hA
  obtain ⟨v1, vs1, d1, ds1, p1, q1, rfl, rfl, rfl, h1, r1⟩ := trodAll_cons r0
  obtain ⟨rfl, rfl, rfl⟩ := trodAll_nil r1
  obtain rfl : args = #[v0, v1] := by cases args; simp_all
  obtain ⟨rfl, rfl⟩ := trodVars_none hV
  obtain ⟨c0_0, c0_1, c0_2, c0_3, y0_0, y0_1, y0_2, y0_3, m0, rfl, rfl, rfl, k0_0, k0_1, k0_2, k0_3⟩ := open_agg4 Tryd.underlying23 (by kernel_rfl) (by kernel_rfl) (hval 0 23 v0 rfl rfl) h0
  obtain ⟨a0_0, ea0_0, rfl, wa0_0⟩ := DataW.trod_int Tryd.underlying3 k0_0
  simp at ea0_0; subst ea0_0
  obtain ⟨a0_1, ea0_1, rfl, wa0_1⟩ := DataW.trod_int Tryd.underlying3 k0_1
  simp at ea0_1; subst ea0_1
  obtain ⟨a0_2, ea0_2, rfl, wa0_2⟩ := DataW.trod_int Tryd.underlying3 k0_2
  simp at ea0_2; subst ea0_2
  obtain ⟨a0_3, ea0_3, rfl⟩ := DataW.trod_bool Tryd.underlying4 k0_3
  simp at ea0_3; subst ea0_3
  obtain ⟨a1, rfl, rfl, rfl, w1⟩ := open_int Tryd.underlying2 (hval 1 2 v1 rfl rfl) h1
  have s0 : ∀ (W' : World) (sp : Nat → Bool), DataW.Trod enc Tryd.prog W' 0 sp true 23 (.agg #[.int .i64 a0_0, .int .i64 a0_1, .int .i64 a0_2, .bool a0_3]) (.agg [.lit (.int .i64 a0_0), .lit (.int .i64 a0_1), .lit (.int .i64 a0_2), .lit (.bool a0_3)]) [] := fun W' sp =>
    shut_agg4 (y0 := (.lit (.int .i64 a0_0), [])) (y1 := (.lit (.int .i64 a0_1), [])) (y2 := (.lit (.int .i64 a0_2), [])) (y3 := (.lit (.bool a0_3), [])) Tryd.underlying23 (by kernel_rfl) (by kernel_rfl) ⟨1, by simp [DataW.trod, Tryd.underlying3, wa0_0]⟩ ⟨1, by simp [DataW.trod, Tryd.underlying3, wa0_1]⟩ ⟨1, by simp [DataW.trod, Tryd.underlying3, wa0_2]⟩ ⟨1, by simp [DataW.trod, Tryd.underlying4]⟩
  clear hA0 hval0
  simp only [List.append_nil] at hW'
  refine (walk a0_0 a0_1 a0_2 a0_3 a1 (bounds_i64 wa0_0).1 (bounds_i64 wa0_0).2 (bounds_i64 wa0_1).1 (bounds_i64 wa0_1).2 (bounds_i64 wa0_2).1 (bounds_i64 wa0_2).2 (bounds_i64 w1).1 (bounds_i64 w1).2 W).mono fun e W' ⟨he, bel⟩ => ?_
  subst he
  exact ⟨_, rfl, _, _, _, [], _, [], hW', trodAll_mk1 (shut_bool Tryd.underlying4 _), (trodAll_cons_mk (s0 _ _) (trodAll_cons_mk (shut_int Tryd.underlying2 w1) trodAll_mk0)), rfl, bel.frame _, fun h => by cases h⟩
theorem over : Rows.unitTrailsRow.holds Tryd.pinned (OpenSpec.ofChange Rows.unitTrailsSpec) :=
  OpenClaim.holds_of_wide 3 Tryd.f3 rfl rfl rfl rfl rfl rfl rfl ⟨rfl, rfl, rfl, rfl, rfl⟩ rfl rfl rfl rfl rfl (by kernel_rfl) Tryd.func3 (by kernel_rfl)
    (of_decide_eq_true (by kernel_rfl)) (by unfold Func.isWrapper; first | (rw [if_pos (by decide +kernel)]; kernel_rfl) | (rw [if_neg (by decide +kernel)]; exact ⟨rfl, rfl⟩))
    (fun os started H enc _ => lifted os started H enc)
theorem proved : Rows.UnitTrailsCardSaid :=
  Claim7.holds_tied_plain_at .later [] Rows.unitTrailsCard.laidKinds true Rows.unitTrailsCard.stood.harness false over (fun _ h => by cases h) (by kernel_rfl) (fun _ h => by cases h) unitTrails_row_tie rfl ⟨rfl, rfl⟩ (by kernel_rfl) rfl
    (fun f fn hf hfn => by
      obtain rfl : f = 3 := Option.some.inj ((show Tryd.prog.funcNamed Rows.unitTrailsRow.func = some 3 by kernel_rfl).symm.trans hf) |>.symm
      obtain rfl : fn = Tryd.f3 := (Option.some.inj (Tryd.func3.symm.trans hfn)).symm
      exact ⟨by kernel_rfl, fun j t ht => by
        rw [Tryd.params3] at ht
        have hm : t ∈ [23, 2] := by have := Array.mem_of_getElem? ht; simp at this; simp; omega
        have hall : ([23, 2].all fun u => !Tryd.prog.wantsStandIn u) = true := by kernel_rfl
        exact (show Tryd.prog.wantsStandIn t = false by simpa using List.all_eq_true.1 hall t hm)⟩)
    (by kernel_rfl)
#print axioms proved
end Go.Proofs.YtapnekpilgbcaaaDoor.unitTrails
