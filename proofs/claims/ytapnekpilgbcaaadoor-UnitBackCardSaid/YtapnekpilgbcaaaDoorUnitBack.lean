/- What Coord reads of digits, Digits writes again, no longer than it was read, and Coord reads it back; with a minus sign the coordinate is the negative one. For every format made valid and every number of digits that the law draws. The rows' laid variables are the library's own tables, which no call here reads. -/
import Derived.Test.YtapnekpilgbcaaaDoorRows
import Derived.Test.YtapnekpilgbcaaaDoorCards
import Derived.Test.YtapnekpilgbcaaaDoorTie
import Derived.Test.YtapnekpilgbcaaaDoorAwake3
import Derived.Test.YtapnekpilgbcaaaDoorTame3
import Derived.Test.YtapnekpilgbcaaaDoorUnitBackL
import Derived.Test.YtapnekpilgbcaaaDoorRefDeci
import Derived.ProofKit
import Derived.OpenShut
import Derived.ShutString
import Derived.ChangeOld
import Derived.Below
import Derived.ChangeMaps5
import Derived.Lib.SmallJoins
import Derived.PinnedBridge
import Derived.Lay
import Derived.LaidOnce
import Derived.SevenTiedAt
namespace Go.Proofs.YtapnekpilgbcaaaDoor.unitBack
open Go.ChangeShapes Go.WideShapes Go.ChangeAt Go.RowKit Go.Joins

theorem num_is {v n : Nat} {L : List UInt8} (h : numL v n = L) (hv : v ≤ 9223372036854775807) (hn : n ≤ 1000) (w : World) :
    Calls Tryd.prog 17 #[.int .i64 v, .int .i64 n] w fun e w' => e = .returned (.string ⟨L.toArray⟩) ∧ w = w' := h ▸ num_any v hv n hn w
theorem ten_int {j : Nat} (h : j ≤ 12) : 1 ≤ tens 1 j ∧ tens 1 j ≤ 1000000000000 := by
  unfold tens
  have p : (1 : Int) ≤ 10 ^ j := Int.pow_pos (by omega)
  have q : (10 : Int) ^ j ≤ 10 ^ 12 := ten_mono h
  rw [show (10 : Int) ^ 12 = 1000000000000 from by decide] at q
  omega
theorem ten_int' {j : Nat} (h : j < 12) : tens 1 j ≤ 100000000000 := by
  unfold tens
  have q : (10 : Int) ^ j ≤ 10 ^ 11 := ten_mono (by omega)
  rw [show (10 : Int) ^ 11 = 100000000000 from by decide] at q
  omega

theorem num_sum {v A D : Nat} {L : List UInt8} (h : numL v (A + D) = L) (hv : v ≤ 9223372036854775807) (hA : A ≤ 6) (hD : D ≤ 6) (w : World) :
    Calls Tryd.prog 17 #[.int .i64 v, .int .i64 ((A : Int) + (D : Int))] w fun e w' => e = .returned (.string ⟨L.toArray⟩) ∧ w = w' := num_is h hv (n := A + D) (by omega) w

set_option maxRecDepth 100000 in
set_option maxHeartbeats 4000000 in
theorem core (u a d v nn : Int) (t : Bool) (V : Int) (A D m : Nat) (K x : Int) (L : List UInt8) (HT : Hid (∀ w, Calls Tryd.prog 7 #[fmtV u a d t] w fun e w' => e = .returned (fmtV V A D t) ∧ Below w.heap.size w w')) (hA : A ≤ 6) (hD : D ≤ 6)
    (hK : tens 1 (A + D) = K) (K0 : 1 ≤ K) (K1 : K ≤ 1000000000000) (hx : v.tmod K = x) (hm : (x < 0 ∧ x = -(m : Int)) ∨ (0 ≤ x ∧ x = (m : Int))) (hmK : (m : Int) < K) (hL : numL m (A + D) = L)
    (o : Option Int) (ho : coordO L V A D t = o) (lL : L.length ≤ 12)
    (hgood : o = none ∨ ∃ g T, o = some g ∧ digitsO g V A D t = some T ∧ coordO T V A D t = some g ∧ 1 ≤ T.length ∧ T.length ≤ L.length ∧ coordO (45 :: L) V A D t = some (-g) ∧ -536870912 ≤ g ∧ g ≤ 536870912) (w : World) :
    Calls Tryd.prog 5 #[fmtV u a d t, .int .i64 v, .int .i64 nn] w fun e w' => e = .returned (.bool true) ∧ Below w.heap.size w w' := by
  have HN := Lib.hid (fun w => num_sum hL (by omega) hA hD w)
  have HC := Lib.hid (fun w => coord_is ho (by omega) w)
  have HK := Lib.hid hK
  have HX := Lib.hid hx
  have HM := Lib.hid hm
  have HG := Lib.hid hgood
  have hd : ({ data := #[45] } : ByteArray) ++ ({ data := L.toArray } : ByteArray) = ⟨(45 :: L).toArray⟩ := str_app [45] L
  have HD := Lib.hid hd
  clear hK hx hm hL ho hgood hd
  go_enter Tryd.func5, Tryd.ntmps5
  go_wp2_with fail
  refine (HT.out _).mono ?_; rintro e w1 ⟨rfl, b1⟩
  have zf := frozen_new b1 (by intro i; simp)
  have z0 := zf 0
  have z1 := zf 1
  have z2 := zf 2
  have z3 := zf 3
  have f1 := (fmtAt_new w u a d t 23).later b1
  have fS := Lib.hid (f1.stored V A D t)
  have bS := Lib.hid (below_stored (bel_trans (bel_alloc (bel_refl w) (.cells #[.int .i64 u, .int .i64 a, .int .i64 d, .bool t] 23)) b1) (.int .i64 V) (.int .i64 (A : Int)) (.int .i64 (D : Int)) (.bool t))
  obtain ⟨x0, x1, x2, x3, xl⟩ := f1
  clear zf b1
  go_wp2_with fail
  clear x0 x1 x2 x3 xl z0 z1 z2 z3
  generalize (((w1.setCell ⟨w.heap.size, 0, none⟩ (.int .i64 V)).setCell ⟨w.heap.size, 1, none⟩ (.int .i64 (A : Int))).setCell ⟨w.heap.size, 2, none⟩ (.int .i64 (D : Int))).setCell ⟨w.heap.size, 3, none⟩ (.bool t) = w2 at fS bS ⊢
  go_loop [8, 9] (fun p i => ∃ j : Nat, j ≤ A + D ∧ i = .int .i64 j ∧ p = .int .i64 (tens 1 j)) (fun _ i => A + D - (intOf i).toNat)
  case atStart => exact ⟨0, by omega, rfl, rfl⟩
  case round =>
    obtain ⟨j, hj, rfl, rfl⟩ := hrel
    obtain ⟨v0, v1⟩ := ten_int (j := j) (by omega)
    by_cases hlt : j < A + D
    · have v2 := ten_int' (j := j) (by omega)
      have HS := Lib.hid (tens_succ 1 j)
      go_wp2
      go_round
      case rel => exact ⟨j + 1, by omega, by go_num, by rw [HS.out]; exact congrArg (Value.int .i64) (Int.mul_comm _ _)⟩
      case measure => simp [intOf]; omega
    · obtain rfl : j = A + D := by omega
      rw [HK.out]
      clear v0 v1
      have hx := HX.out
      obtain ⟨x0, x1, x2, x3, xl⟩ := fS.out
      rcases HM.out with ⟨hneg, rfl⟩ | ⟨hneg, rfl⟩
      all_goals
        go_wp2_with fail
        refine (HN.out _).mono ?_; rintro e w' ⟨rfl, rfl⟩
        go_wp2_with fail
        refine (HC.out _).mono ?_; rintro e w3 ⟨rfl, b3⟩
        have f3 := fS.out.later b3
        have bB := bel_trans bS.out b3
        clear x0 x1 x2 x3 xl b3 fS bS
        obtain ⟨x0, x1, x2, x3, xl⟩ := f3
        rcases HG.out with rfl | ⟨g, T, rfl, g1, g2, g3, g4, g5, g6, g7⟩
        · go_wp2_with fail
          refine (awake_any _).mono ?_; rintro e w4 ⟨rfl, b4⟩
          go_wp2
          go_ret
          exact ⟨rfl, bel_trans bB b4⟩
        · have H1 := Lib.hid (fun w => digits_is g1 w)
          have H2 := Lib.hid (fun w => coord_is g2 (by omega) w)
          have H3 := Lib.hid (fun w => coord_is g5 (by simp; omega) w)
          have lT : T.length ≤ 12 := by omega
          clear g1 g2 g5
          go_wp2_with fail
          refine (H1.out _).mono ?_; rintro e w4 ⟨rfl, b4⟩
          have f4 := FmtAt.later ⟨x0, x1, x2, x3, xl⟩ b4
          have bC := bel_trans bB b4
          clear x0 x1 x2 x3 xl b4 bB
          obtain ⟨x0, x1, x2, x3, xl⟩ := f4
          go_wp2_with fail
          refine (H2.out _).mono ?_; rintro e w5 ⟨rfl, b5⟩
          have f5 := FmtAt.later ⟨x0, x1, x2, x3, xl⟩ b5
          have bD := bel_trans bC b5
          clear x0 x1 x2 x3 xl b5 bC
          obtain ⟨x0, x1, x2, x3, xl⟩ := f5
          have hd := HD.out
          go_wp2_with fail
          refine (H3.out _).mono ?_; rintro e w6 ⟨rfl, b6⟩
          have bE := bel_trans bD b6
          clear x0 x1 x2 x3 xl b6 bD hd
          go_wp2_with fail
          refine (awake_any _).mono ?_; rintro e w7 ⟨rfl, b7⟩
          go_wp2
          go_ret
          exact ⟨rfl, bel_trans bE b7⟩

theorem walk (u a d : Int) (t : Bool) (v nn : Int) (_u0 : -9223372036854775808 ≤ u) (_u1 : u ≤ 9223372036854775807) (_a0 : -9223372036854775808 ≤ a) (_a1 : a ≤ 9223372036854775807) (_d0 : -9223372036854775808 ≤ d) (_d1 : d ≤ 9223372036854775807)
    (_v0 : -9223372036854775808 ≤ v) (_v1 : v ≤ 9223372036854775807) (_n0 : -9223372036854775808 ≤ nn) (_n1 : nn ≤ 9223372036854775807) (w : World) :
    Calls Tryd.prog 5 #[fmtV u a d t, .int .i64 v, .int .i64 nn] w fun e w' => e = .returned (.bool true) ∧ Below w.heap.size w w' := by
  obtain ⟨V, A, D, hf, hV, hA, hD, h0, HT⟩ := tame_form u a d t
  have hK := ten_int (j := A + D) (by omega)
  have hb := tmod_bd v (tens 1 (A + D)) (by omega)
  have eK : tens 1 (A + D) = ((10 ^ (A + D) : Nat) : Int) := by
    unfold tens; rw [Int.one_mul, Int.natCast_pow]; rfl
  obtain ⟨x, hx⟩ : ∃ x, v.tmod (tens 1 (A + D)) = x := ⟨_, rfl⟩
  rw [hx] at hb
  have hm : x.natAbs < 10 ^ (A + D) := by rw [eK] at hb; omega
  have hl := pad_len (A + D) x.natAbs
  refine core u a d v nn t V A D x.natAbs (tens 1 (A + D)) x (pad (A + D) x.natAbs) (Lib.hid HT) hA hD rfl hK.1 hK.2 hx ?_ (by omega) (bare_pad hm) _ rfl (by omega) ?_ w
  · by_cases hneg : x < 0
    · exact .inl ⟨hneg, by omega⟩
    · exact .inr ⟨by omega, by omega⟩
  · cases ho : coordO (pad (A + D) x.natAbs) V A D t with
    | none => exact .inl rfl
    | some g =>
      obtain ⟨T, g1, g2, g3, g4, g5, g6, g7⟩ := pad_back hf rfl hm ho
      exact .inr ⟨g, T, rfl, g1, g2, g3, by omega, g5, g6, g7⟩
theorem own : ownKnob Tryd.prog.godebug = none := by kernel_rfl
set_option maxRecDepth 100000 in
theorem lifted (os : Os) (started : os.Started) (H : Type) (enc : TypeId × Value → H) :
    ReturnsInHanded {} Tryd.checked os 5 .any (fun w args => (Rows.unitBackSpec.pre enc Tryd.prog Tryd.f5 [] false w args ∧ laidMetH Tryd.prog Rows.unitBackRow.laid w) ∧ sizedMet enc Tryd.prog Tryd.f5 (OpenSpec.ofChange Rows.unitBackSpec) false w args)
      (Rows.unitBackSpec.post enc Tryd.prog Tryd.f5 false true false false) := by
  refine returnsInHanded_of_change_and (C := Tryd.checked) (X := fun w _ => laidMetH Tryd.prog Rows.unitBackRow.laid w) (fun _ _ _ hh h => h.of_heap hh) own started (by kernel_rfl) Tryd.func5
    (ChangeSpec.witness_shaped (enc := enc) (C := Tryd.checked) (os := os) (X := fun w _ => laidMetH Tryd.prog Rows.unitBackRow.laid w) false (World.laidAll Tryd.prog os Rows.unitBackRow.laid) #[.agg #[.int .i64 0, .int .i64 0, .int .i64 0, .bool false], .int .i64 0, .int .i64 0] 8 (World.laidAll_os _ _ _)
      (World.shaped_of_ZipB (by kernel_rfl) (by kernel_rfl)) (by kernel_rfl) (by kernel_rfl) (by kernel_rfl)
      (by rw [MakeChecks.laidMetH_plain _ _ _ (by kernel_rfl)]; exact laidMet_laidAll _ (by kernel_rfl) (by kernel_rfl))) ?_
  intro W base args ds gs before hval0 hW _ _ _ _
  have hval : ∀ (j : Nat) t v, Tryd.f5.params[j]? = some t → args[j]? = some v → Value.okWide Tryd.prog W .any base t v := hval0
  have hW' := hW
  obtain ⟨p, q, hA0, hV, rfl, hfz, hnd⟩ := hW
  have hA : DataW.TrodAll enc Tryd.prog W 0 (fun _ => true) true Tryd.f5.params.toList args.toList ds p := hA0
  rw [Tryd.params5] at hA hval
  obtain ⟨v0, vs0, d0, ds0, p0, q0, hargs, rfl, rfl, h0, r0⟩ := trodAll_cons hA
  obtain ⟨v1, vs1, d1, ds1, p1, q1, rfl, rfl, rfl, h1, r1⟩ := trodAll_cons r0
  obtain ⟨v2, vs2, d2, ds2, p2, q2, rfl, rfl, rfl, h2, r2⟩ := trodAll_cons r1
  obtain ⟨rfl, rfl, rfl⟩ := trodAll_nil r2
  obtain rfl : args = #[v0, v1, v2] := by cases args; simp_all
  obtain ⟨rfl, rfl⟩ := trodVars_none hV
  obtain ⟨c0_0, c0_1, c0_2, c0_3, y0_0, y0_1, y0_2, y0_3, m0, rfl, rfl, rfl, k0_0, k0_1, k0_2, k0_3⟩ := open_agg4 Tryd.underlying23 (by kernel_rfl) (by kernel_rfl) (hval 0 23 v0 rfl rfl) h0
  obtain ⟨a0_0, ea0_0, rfl, wa0_0⟩ := DataW.trod_int Tryd.underlying3 k0_0
  simp at ea0_0; subst ea0_0
  obtain ⟨a0_1, ea0_1, rfl, wa0_1⟩ := DataW.trod_int Tryd.underlying3 k0_1
  simp at ea0_1; subst ea0_1
  obtain ⟨a0_2, ea0_2, rfl, wa0_2⟩ := DataW.trod_int Tryd.underlying3 k0_2
  simp at ea0_2; subst ea0_2
  obtain ⟨a0_3, ea0_3, rfl⟩ := DataW.trod_bool Tryd.underlying4 k0_3
  simp at ea0_3; subst ea0_3
  obtain ⟨a1, rfl, rfl, rfl, w1⟩ := open_int Tryd.underlying2 (hval 1 2 v1 rfl rfl) h1
  obtain ⟨a2, rfl, rfl, rfl, w2⟩ := open_int Tryd.underlying3 (hval 2 3 v2 rfl rfl) h2
  have s0 : ∀ (W' : World) (sp : Nat → Bool), DataW.Trod enc Tryd.prog W' 0 sp true 23 (.agg #[.int .i64 a0_0, .int .i64 a0_1, .int .i64 a0_2, .bool a0_3]) (.agg [.lit (.int .i64 a0_0), .lit (.int .i64 a0_1), .lit (.int .i64 a0_2), .lit (.bool a0_3)]) [] := fun W' sp =>
    shut_agg4 (y0 := (.lit (.int .i64 a0_0), [])) (y1 := (.lit (.int .i64 a0_1), [])) (y2 := (.lit (.int .i64 a0_2), [])) (y3 := (.lit (.bool a0_3), [])) Tryd.underlying23 (by kernel_rfl) (by kernel_rfl) ⟨1, by simp [DataW.trod, Tryd.underlying3, wa0_0]⟩ ⟨1, by simp [DataW.trod, Tryd.underlying3, wa0_1]⟩ ⟨1, by simp [DataW.trod, Tryd.underlying3, wa0_2]⟩ ⟨1, by simp [DataW.trod, Tryd.underlying4]⟩
  clear hA0 hval0
  simp only [List.append_nil] at hW'
  refine (walk a0_0 a0_1 a0_2 a0_3 a1 a2 (bounds_i64 wa0_0).1 (bounds_i64 wa0_0).2 (bounds_i64 wa0_1).1 (bounds_i64 wa0_1).2 (bounds_i64 wa0_2).1 (bounds_i64 wa0_2).2 (bounds_i64 w1).1 (bounds_i64 w1).2 (bounds_i64 w2).1 (bounds_i64 w2).2 W).mono fun e W' ⟨he, bel⟩ => ?_
  subst he
  exact ⟨_, rfl, _, _, _, [], _, [], hW', trodAll_mk1 (shut_bool Tryd.underlying4 _), (trodAll_cons_mk (s0 _ _) (trodAll_cons_mk (shut_int Tryd.underlying2 w1) (trodAll_cons_mk (shut_int Tryd.underlying3 w2) trodAll_mk0))), rfl, bel.frame _, fun h => by cases h⟩
theorem over : Rows.unitBackRow.holds Tryd.pinned (OpenSpec.ofChange Rows.unitBackSpec) :=
  OpenClaim.holds_of_wide 5 Tryd.f5 rfl rfl rfl rfl rfl rfl rfl ⟨rfl, rfl, rfl, rfl, rfl⟩ rfl rfl rfl rfl rfl (by kernel_rfl) Tryd.func5 (by kernel_rfl)
    (of_decide_eq_true (by kernel_rfl)) (by unfold Func.isWrapper; first | (rw [if_pos (by decide +kernel)]; kernel_rfl) | (rw [if_neg (by decide +kernel)]; exact ⟨rfl, rfl⟩))
    (fun os started H enc _ => lifted os started H enc)
theorem proved : Rows.UnitBackCardSaid :=
  Claim7.holds_tied_plain_at .later [] Rows.unitBackCard.laidKinds true Rows.unitBackCard.stood.harness false over (fun _ h => by cases h) (by kernel_rfl) (fun _ h => by cases h) unitBack_row_tie rfl ⟨rfl, rfl⟩ (by kernel_rfl) rfl
    (fun f fn hf hfn => by
      obtain rfl : f = 5 := Option.some.inj ((show Tryd.prog.funcNamed Rows.unitBackRow.func = some 5 by kernel_rfl).symm.trans hf) |>.symm
      obtain rfl : fn = Tryd.f5 := (Option.some.inj (Tryd.func5.symm.trans hfn)).symm
      exact ⟨by kernel_rfl, fun j t ht => by
        rw [Tryd.params5] at ht
        have hm : t ∈ [23, 2, 3] := by have := Array.mem_of_getElem? ht; simp at this; simp; omega
        have hall : ([23, 2, 3].all fun u => !Tryd.prog.wantsStandIn u) = true := by kernel_rfl
        exact (show Tryd.prog.wantsStandIn t = false by simpa using List.all_eq_true.1 hall t hm)⟩)
    (by kernel_rfl)
#print axioms proved
end Go.Proofs.YtapnekpilgbcaaaDoor.unitBack
