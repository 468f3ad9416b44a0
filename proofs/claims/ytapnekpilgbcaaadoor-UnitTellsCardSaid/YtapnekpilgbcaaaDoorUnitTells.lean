/- Grain, Ok, Coord and Digits return what the document says, for every number, every format and every string of up to 100 bytes, twice: as they came, and the format made valid and the numbers brought near; for longer strings the law asks only for the document's own examples. The rows' laid variables are the library's own tables, which no call here reads. -/
import Derived.Test.YtapnekpilgbcaaaDoorRows
import Derived.Test.YtapnekpilgbcaaaDoorCards
import Derived.Test.YtapnekpilgbcaaaDoorTie
import Derived.Test.YtapnekpilgbcaaaDoorAwake3
import Derived.Test.YtapnekpilgbcaaaDoorTame3
import Derived.Test.YtapnekpilgbcaaaDoorUnitBackL
import Derived.Test.YtapnekpilgbcaaaDoorRefDigitsAny
import Derived.ProofKit
import Derived.OpenShut
import Derived.ShutString
import Derived.ChangeOld
import Derived.Below
import Derived.ChangeMaps5
import Derived.Lib.SmallJoins
import Derived.PinnedBridge
import Derived.Lib.QuietBelow
import Derived.Lay
import Derived.LaidOnce
import Derived.SevenTiedAt
namespace Go.Proofs.YtapnekpilgbcaaaDoor
open Go.RowKit
/-- A format in a block of the caller's own, which may be written. -/
structure Held (w : World) (b : Nat) (V A D : Int) (t : Bool) : Prop where
  at_ : FmtAt w b V A D t
  free : ∀ i, w.frozen? ⟨b, i, none⟩ = false
theorem Held.later {w w1 : World} {b : Nat} {V A D : Int} {t : Bool} (h : Held w b V A D t) (k : Below w.heap.size w w1) : Held w1 b V A D t :=
  ⟨h.at_.later k, fun i => by rw [k.frozen (p := ⟨b, i, none⟩) h.at_.lt]; exact h.free i⟩
theorem Held.stored {w : World} {b : Nat} {V A D : Int} {t : Bool} (h : Held w b V A D t) (V' A' D' : Int) (t' : Bool) :
    Held ((((w.setCell ⟨b, 0, none⟩ (.int .i64 V')).setCell ⟨b, 1, none⟩ (.int .i64 A')).setCell ⟨b, 2, none⟩ (.int .i64 D')).setCell ⟨b, 3, none⟩ (.bool t')) b V' A' D' t' :=
  ⟨h.at_.stored V' A' D' t', fun i => by simpa using h.free i⟩
/-- The head of a round: the numbers, and the format in its block. -/
def RoundAt (w : World) (t : Bool) (sn su sg si : Value) (wr : World) : Prop :=
  ∃ (n u g V A D : Int) (i : Nat), i ≤ 2 ∧ sn = .int .i64 n ∧ su = .int .i64 u ∧ sg = .int .i64 g ∧ si = .int .i64 i ∧ Held wr w.heap.size V A D t ∧ Below w.heap.size w wr
end Go.Proofs.YtapnekpilgbcaaaDoor
namespace Go.Proofs.YtapnekpilgbcaaaDoor.unitTells
open Go.ChangeShapes Go.WideShapes Go.ChangeAt Go.RowKit Go.Joins
open Go.ChangeMaps (open_string shut_string)
open Go.Sort (grow)

set_option maxRecDepth 100000 in
set_option maxHeartbeats 8000000 in
theorem core (l : List UInt8) (hl : l.length ≤ 100) (n0 u0 g0 fu fa fd : Int) (t : Bool) (w : World) :
    Calls Tryd.prog 4 #[.int .i64 n0, .int .i64 u0, .string ⟨l.toArray⟩, .int .i64 g0, fmtV fu fa fd t] w fun e w' => e = .returned (.bool true) ∧ Below w.heap.size w w' := by
  have hS := Lib.hid (show Held (w.alloc (.cells #[.int .i64 fu, .int .i64 fa, .int .i64 fd, .bool t] 23)) w.heap.size fu fa fd t from ⟨fmtAt_new w fu fa fd t _, by intro i; simp⟩)
  have bS := Lib.hid (bel_alloc (bel_refl w) (.cells #[.int .i64 fu, .int .i64 fa, .int .i64 fd, .bool t] 23))
  go_enter Tryd.func4, Tryd.ntmps4
  go_wp2_with fail
  go_loopw [0, 1, 3, 11] (fun sn su sg si wr => RoundAt w t sn su sg si wr) (fun _ _ _ si _ => 2 - (intOf si).toNat)
  case atStart => exact ⟨n0, u0, g0, fu, fa, fd, 0, by omega, rfl, rfl, rfl, rfl, hS.out, bS.out⟩
  case round =>
    obtain ⟨n, u, g, V, A, D, i, hi, rfl, rfl, rfl, rfl, hH, hB⟩ := hrel
    by_cases hlt : i < 2
    · obtain ⟨a1, a2, g1, g2⟩ : ∃ (a1 : Int) (a2 : Bool), (∀ w, Calls Tryd.prog 11 #[.int .i64 n, .int .i64 u] w fun e w' => e = .returned (.tuple #[.int .i64 a1, .bool a2]) ∧ w = w') ∧ (∀ w, Calls Tryd.prog 12 #[.int .i64 n, .int .i64 u] w fun e w' => e = .returned (.tuple #[.int .i64 a1, .bool a2]) ∧ w = w') := ⟨_, _, fun w => grain_any n u w, fun w => refGrain_any n u w⟩
      obtain ⟨a3, a4, c1, c2⟩ : ∃ (a3 : Int) (a4 : Bool), (∀ w, Calls Tryd.prog 10 #[.string ⟨l.toArray⟩, fmtV V A D t] w fun e w' => e = .returned (.tuple #[.int .i64 a3, .bool a4]) ∧ Below w.heap.size w w') ∧ (∀ w, Calls Tryd.prog 13 #[.string ⟨l.toArray⟩, fmtV V A D t] w fun e w' => e = .returned (.tuple #[.int .i64 a3, .bool a4]) ∧ Below w.heap.size w w') := ⟨_, _, fun w => coord_any l V A D t (by omega) w, fun w => refCoord_any l V A D t (by omega) w⟩
      obtain ⟨a5, a6, e1, e2⟩ : ∃ (a5 : List UInt8) (a6 : Bool), (∀ w, Calls Tryd.prog 8 #[.int .i64 g, fmtV V A D t] w fun e w' => e = .returned (.tuple #[.string ⟨(a5 : List UInt8).toArray⟩, .bool a6]) ∧ Below w.heap.size w w') ∧ (∀ w, Calls Tryd.prog 14 #[.int .i64 g, fmtV V A D t] w fun e w' => e = .returned (.tuple #[.string ⟨(a5 : List UInt8).toArray⟩, .bool a6]) ∧ Below w.heap.size w w') := ⟨_, _, fun w => unitDigits_any g V A D t w, fun w => refDigits_any g V A D t w⟩
      obtain ⟨bf, h4⟩ : ∃ o, fmtB V A D = o := ⟨_, rfl⟩
      obtain ⟨V2, A2, D2, _, _, _, _, _, HT⟩ := tame_form V A D t
      obtain ⟨U, hU, eu⟩ := and_nat u 1 (by omega)
      have G1 := Lib.hid g1
      have G2 := Lib.hid g2
      have C1 := Lib.hid c1
      have C2 := Lib.hid c2
      have E1 := Lib.hid e1
      have E2 := Lib.hid e2
      have K1 := Lib.hid (fun w => unitOk_is t h4 w)
      have K2 := Lib.hid (fun w => refFmt_is t h4 w)
      have HT := Lib.hid HT
      have EU := Lib.hid (show bits .and .i64 u 1 = (U : Int) from eu)
      have F0 := Lib.hid hH
      have B0 := Lib.hid hB
      have hU' : U ≤ 1 := hU
      clear g1 g2 c1 c2 e1 e2 h4 eu hH hB hU hS bS
      go_wp2_with fail
      refine (G1.out _).mono ?_; rintro e w' ⟨rfl, rfl⟩
      go_wp2_with fail
      refine (G2.out _).mono ?_; rintro e w' ⟨rfl, rfl⟩
      obtain ⟨x0, x1, x2, x3, xl⟩ := F0.out.at_
      go_wp2_with fail
      refine (C1.out _).mono ?_; rintro e w1 ⟨rfl, b⟩
      clear x0 x1 x2 x3 xl
      have F1 := Lib.hid (F0.out.later b)
      have B1 := Lib.hid (bel_trans B0.out b)
      clear b F0 B0
      obtain ⟨x0, x1, x2, x3, xl⟩ := F1.out.at_
      go_wp2_with fail
      refine (C2.out _).mono ?_; rintro e w2 ⟨rfl, b⟩
      clear x0 x1 x2 x3 xl
      have F2 := Lib.hid (F1.out.later b)
      have B2 := Lib.hid (bel_trans B1.out b)
      clear b F1 B1
      obtain ⟨x0, x1, x2, x3, xl⟩ := F2.out.at_
      go_wp2_with fail
      refine (E1.out _).mono ?_; rintro e w3 ⟨rfl, b⟩
      clear x0 x1 x2 x3 xl
      have F3 := Lib.hid (F2.out.later b)
      have B3 := Lib.hid (bel_trans B2.out b)
      clear b F2 B2
      obtain ⟨x0, x1, x2, x3, xl⟩ := F3.out.at_
      go_wp2_with fail
      refine (E2.out _).mono ?_; rintro e w4 ⟨rfl, b⟩
      clear x0 x1 x2 x3 xl
      have F4 := Lib.hid (F3.out.later b)
      have B4 := Lib.hid (bel_trans B3.out b)
      clear b F3 B3
      go_wp2_with fail
      obtain ⟨x0, x1, x2, x3, xl⟩ := F4.out.at_
      have y0 := cell_regrown x0
      have y1 := cell_regrown x1
      have y2 := cell_regrown x2
      have y3 := cell_regrown x3
      clear x0 x1 x2 x3 xl
      have D1 := Lib.hid (fun p : Regrown => Calls.regrown_of (K1.out (grow (redrawn w4 p.d) p.os)))
      have D2 := Lib.hid (fun p : Regrown => Calls.regrown_of (K2.out (grow (redrawn w4 p.d) p.os)))
      refine wp_region_quiet_below (by kernel_rfl) (by kernel_rfl) ?_
      repeat (go_big_quiet_step (first | with_reducible exact D1.out _ | with_reducible exact D2.out _))
      refine wpQuiet_nil ?_
      intro _ hw'
      obtain ⟨⟨dq, osq⟩, hw''⟩ := hw'
      subst hw''
      have F5 := Lib.hid (F4.out.later (below_regrown w4 dq osq))
      have B5 := Lib.hid (bel_trans B4.out (below_regrown w4 dq osq))
      clear y0 y1 y2 y3 D1 D2 F4 B4
      generalize grow (redrawn w4 dq) osq = w5 at *
      obtain ⟨x0, x1, x2, x3, xl⟩ := F5.out.at_
      go_wp2_with fail
      refine (HT.out _).mono ?_; rintro e w6 ⟨rfl, b⟩
      clear x0 x1 x2 x3 xl
      have F6 := Lib.hid (F5.out.later b)
      have B6 := Lib.hid (bel_trans B5.out b)
      clear b F5 B5
      have f7 := Lib.hid (F6.out.stored V2 A2 D2 t)
      have b7 := Lib.hid (below_stored B6.out (.int .i64 V2) (.int .i64 (A2 : Int)) (.int .i64 (D2 : Int)) (.bool t))
      have z0 := F6.out.free 0
      have z1 := F6.out.free 1
      have z2 := F6.out.free 2
      have z3 := F6.out.free 3
      obtain ⟨x0, x1, x2, x3, xl⟩ := F6.out.at_
      have eu := EU.out
      go_wp2
      refine ⟨⟨n.tmod 60000000, (U : Int) + 1, g.tmod 600000000, V2, A2, D2, i + 1, by omega, rfl, rfl, rfl, by go_num, f7.out, b7.out⟩, by simp [intOf]; omega⟩
    · have b0 := Lib.hid hB
      clear hH hB hS bS
      go_wp2_with fail
      refine (awake_any _).mono ?_; rintro e w9 ⟨rfl, b9⟩
      go_wp2
      go_ret
      exact ⟨rfl, bel_trans b0.out b9⟩
theorem walk (n0 u0 : Int) (s : ByteArray) (g0 fu fa fd : Int) (t : Bool) (_n0 : -9223372036854775808 ≤ n0) (_n1 : n0 ≤ 9223372036854775807) (_u0 : -9223372036854775808 ≤ u0) (_u1 : u0 ≤ 9223372036854775807) (hm : s.size ≤ maxLen) (_g0 : -9223372036854775808 ≤ g0) (_g1 : g0 ≤ 9223372036854775807)
    (_fu0 : -9223372036854775808 ≤ fu) (_fu1 : fu ≤ 9223372036854775807) (_fa0 : -9223372036854775808 ≤ fa) (_fa1 : fa ≤ 9223372036854775807) (_fd0 : -9223372036854775808 ≤ fd) (_fd1 : fd ≤ 9223372036854775807) (w : World) :
    Calls Tryd.prog 4 #[.int .i64 n0, .int .i64 u0, .string s, .int .i64 g0, fmtV fu fa fd t] w fun e w' => e = .returned (.bool true) ∧ Below w.heap.size w w' := by
  obtain ⟨l, rfl⟩ : ∃ l : List UInt8, s = ⟨l.toArray⟩ := ⟨s.data.toList, by simp⟩
  rw [str_size] at hm
  unfold maxLen at hm
  by_cases hl : l.length ≤ 100
  · exact core l hl n0 u0 g0 fu fa fd t w
  · have hlo : l.length ≤ 9223372036854775807 := by omega
    clear hm
    go_enter Tryd.func4, Tryd.ntmps4
    go_wp2_with fail
    refine (awake_any _).mono ?_; rintro e w1 ⟨rfl, b1⟩
    go_wp2
    go_ret
    exact ⟨rfl, bel_trans (bel_alloc (bel_refl w) _) b1⟩
theorem own : ownKnob Tryd.prog.godebug = none := by kernel_rfl
set_option maxRecDepth 100000 in
theorem lifted (os : Os) (started : os.Started) (H : Type) (enc : TypeId × Value → H) :
    ReturnsInHanded {} Tryd.checked os 4 .any (fun w args => (Rows.unitTellsSpec.pre enc Tryd.prog Tryd.f4 [] false w args ∧ laidMetH Tryd.prog Rows.unitTellsRow.laid w) ∧ sizedMet enc Tryd.prog Tryd.f4 (OpenSpec.ofChange Rows.unitTellsSpec) false w args)
      (Rows.unitTellsSpec.post enc Tryd.prog Tryd.f4 false true false false) := by
  refine returnsInHanded_of_change_and (C := Tryd.checked) (X := fun w _ => laidMetH Tryd.prog Rows.unitTellsRow.laid w) (fun _ _ _ hh h => h.of_heap hh) own started (by kernel_rfl) Tryd.func4
    (ChangeSpec.witness_shaped (enc := enc) (C := Tryd.checked) (os := os) (X := fun w _ => laidMetH Tryd.prog Rows.unitTellsRow.laid w) false (World.laidAll Tryd.prog os Rows.unitTellsRow.laid) #[.int .i64 0, .int .i64 0, .string ByteArray.empty, .int .i64 0, .agg #[.int .i64 0, .int .i64 0, .int .i64 0, .bool false]] 8 (World.laidAll_os _ _ _)
      (World.shaped_of_ZipB (by kernel_rfl) (by kernel_rfl)) (by kernel_rfl) (by kernel_rfl) (by kernel_rfl)
      (by rw [MakeChecks.laidMetH_plain _ _ _ (by kernel_rfl)]; exact laidMet_laidAll _ (by kernel_rfl) (by kernel_rfl))) ?_
  intro W base args ds gs before hval0 hW _ _ _ _
  have hval : ∀ (j : Nat) t v, Tryd.f4.params[j]? = some t → args[j]? = some v → Value.okWide Tryd.prog W .any base t v := hval0
  have hW' := hW
  obtain ⟨p, q, hA0, hV, rfl, hfz, hnd⟩ := hW
  have hA : DataW.TrodAll enc Tryd.prog W 0 (fun _ => true) true Tryd.f4.params.toList args.toList ds p := hA0
  rw [Tryd.params4] at hA hval
  obtain ⟨v0, vs0, d0, ds0, p0, q0, hargs, rfl, rfl, h0, r0⟩ := trodAll_cons hA
  obtain ⟨v1, vs1, d1, ds1, p1, q1, rfl, rfl, rfl, h1, r1⟩ := trodAll_cons r0
  obtain ⟨v2, vs2, d2, ds2, p2, q2, rfl, rfl, rfl, h2, r2⟩ := trodAll_cons r1
  obtain ⟨v3, vs3, d3, ds3, p3, q3, rfl, rfl, rfl, h3, r3⟩ := trodAll_cons r2
  obtain ⟨v4, vs4, d4, ds4, p4, q4, rfl, rfl, rfl, h4, r4⟩ := trodAll_cons r3
  obtain ⟨rfl, rfl, rfl⟩ := trodAll_nil r4
  obtain rfl : args = #[v0, v1, v2, v3, v4] := by cases args; simp_all
  obtain ⟨rfl, rfl⟩ := trodVars_none hV
  obtain ⟨a0, rfl, rfl, rfl, w0⟩ := open_int Tryd.underlying2 (hval 0 2 v0 rfl rfl) h0
  obtain ⟨a1, rfl, rfl, rfl, w1⟩ := open_int Tryd.underlying3 (hval 1 3 v1 rfl rfl) h1
  obtain ⟨a2, rfl, rfl, rfl, w2⟩ := open_string Tryd.underlying9 (hval 2 9 v2 rfl rfl) h2
  obtain ⟨a3, rfl, rfl, rfl, w3⟩ := open_int Tryd.underlying2 (hval 3 2 v3 rfl rfl) h3
  obtain ⟨c4_0, c4_1, c4_2, c4_3, y4_0, y4_1, y4_2, y4_3, m4, rfl, rfl, rfl, k4_0, k4_1, k4_2, k4_3⟩ := open_agg4 Tryd.underlying23 (by kernel_rfl) (by kernel_rfl) (hval 4 23 v4 rfl rfl) h4
  obtain ⟨a4_0, ea4_0, rfl, wa4_0⟩ := DataW.trod_int Tryd.underlying3 k4_0
  simp at ea4_0; subst ea4_0
  obtain ⟨a4_1, ea4_1, rfl, wa4_1⟩ := DataW.trod_int Tryd.underlying3 k4_1
  simp at ea4_1; subst ea4_1
  obtain ⟨a4_2, ea4_2, rfl, wa4_2⟩ := DataW.trod_int Tryd.underlying3 k4_2
  simp at ea4_2; subst ea4_2
  obtain ⟨a4_3, ea4_3, rfl⟩ := DataW.trod_bool Tryd.underlying4 k4_3
  simp at ea4_3; subst ea4_3
  have s4 : ∀ (W' : World) (sp : Nat → Bool), DataW.Trod enc Tryd.prog W' 0 sp true 23 (.agg #[.int .i64 a4_0, .int .i64 a4_1, .int .i64 a4_2, .bool a4_3]) (.agg [.lit (.int .i64 a4_0), .lit (.int .i64 a4_1), .lit (.int .i64 a4_2), .lit (.bool a4_3)]) [] := fun W' sp =>
    shut_agg4 (y0 := (.lit (.int .i64 a4_0), [])) (y1 := (.lit (.int .i64 a4_1), [])) (y2 := (.lit (.int .i64 a4_2), [])) (y3 := (.lit (.bool a4_3), [])) Tryd.underlying23 (by kernel_rfl) (by kernel_rfl) ⟨1, by simp [DataW.trod, Tryd.underlying3, wa4_0]⟩ ⟨1, by simp [DataW.trod, Tryd.underlying3, wa4_1]⟩ ⟨1, by simp [DataW.trod, Tryd.underlying3, wa4_2]⟩ ⟨1, by simp [DataW.trod, Tryd.underlying4]⟩
  clear hA0 hval0
  simp only [List.append_nil] at hW'
  refine (walk a0 a1 a2 a3 a4_0 a4_1 a4_2 a4_3 (bounds_i64 w0).1 (bounds_i64 w0).2 (bounds_i64 w1).1 (bounds_i64 w1).2 w2 (bounds_i64 w3).1 (bounds_i64 w3).2 (bounds_i64 wa4_0).1 (bounds_i64 wa4_0).2 (bounds_i64 wa4_1).1 (bounds_i64 wa4_1).2 (bounds_i64 wa4_2).1 (bounds_i64 wa4_2).2 W).mono fun e W' ⟨he, bel⟩ => ?_
  subst he
  exact ⟨_, rfl, _, _, _, [], _, [], hW', trodAll_mk1 (shut_bool Tryd.underlying4 _), (trodAll_cons_mk (shut_int Tryd.underlying2 w0) (trodAll_cons_mk (shut_int Tryd.underlying3 w1) (trodAll_cons_mk (shut_string Tryd.underlying9 w2) (trodAll_cons_mk (shut_int Tryd.underlying2 w3) (trodAll_cons_mk (s4 _ _) trodAll_mk0))))), rfl, bel.frame _, fun h => by cases h⟩
theorem over : Rows.unitTellsRow.holds Tryd.pinned (OpenSpec.ofChange Rows.unitTellsSpec) :=
  OpenClaim.holds_of_wide 4 Tryd.f4 rfl rfl rfl rfl rfl rfl rfl ⟨rfl, rfl, rfl, rfl, rfl⟩ rfl rfl rfl rfl rfl (by kernel_rfl) Tryd.func4 (by kernel_rfl)
    (of_decide_eq_true (by kernel_rfl)) (by unfold Func.isWrapper; first | (rw [if_pos (by decide +kernel)]; kernel_rfl) | (rw [if_neg (by decide +kernel)]; exact ⟨rfl, rfl⟩))
    (fun os started H enc _ => lifted os started H enc)
theorem proved : Rows.UnitTellsCardSaid :=
  Claim7.holds_tied_plain_at .later [] Rows.unitTellsCard.laidKinds true Rows.unitTellsCard.stood.harness false over (fun _ h => by cases h) (by kernel_rfl) (fun _ h => by cases h) unitTells_row_tie rfl ⟨rfl, rfl⟩ (by kernel_rfl) rfl
    (fun f fn hf hfn => by
      obtain rfl : f = 4 := Option.some.inj ((show Tryd.prog.funcNamed Rows.unitTellsRow.func = some 4 by kernel_rfl).symm.trans hf) |>.symm
      obtain rfl : fn = Tryd.f4 := (Option.some.inj (Tryd.func4.symm.trans hfn)).symm
      exact ⟨by kernel_rfl, fun j t ht => by
        rw [Tryd.params4] at ht
        have hm : t ∈ [2, 3, 9, 2, 23] := by simpa using Array.mem_of_getElem? ht
        have hall : ([2, 3, 9, 2, 23].all fun u => !Tryd.prog.wantsStandIn u) = true := by kernel_rfl
        exact (show Tryd.prog.wantsStandIn t = false by simpa using List.all_eq_true.1 hall t hm)⟩)
    (by kernel_rfl)
#print axioms proved
end Go.Proofs.YtapnekpilgbcaaaDoor.unitTells
