/- 5 inches are 127 millimetres, and so is every fraction of them: the two conversions agree on 5n and 127n millionths, and a length is refused as soon as it is farther than the greatest one. For every number of 64 bits. The rows' laid variables are the library's own tables, which no call here reads. -/
import Derived.Test.YtapnekpilgbcaaaDoorRows
import Derived.Test.YtapnekpilgbcaaaDoorCards
import Derived.Test.YtapnekpilgbcaaaDoorTie
import Derived.Test.YtapnekpilgbcaaaDoorAwake3
import Derived.ProofKit
import Derived.OpenShut
import Derived.ShutString
import Derived.ChangeOld
import Derived.Below
import Derived.ChangeMaps5
import Derived.Lib.SmallJoins
import Derived.PinnedBridge
import Derived.Lay
import Derived.LaidOnce
import Derived.SevenTiedAt
namespace Go.Proofs.YtapnekpilgbcaaaDoor.unitMeets
open Go.ChangeShapes Go.WideShapes Go.ChangeAt Go.RowKit Go.Joins

theorem five {N : Int} (h : -400000 < N ∧ N < 400000) : grainO (5 * N) 2 = some (1270 * N) := by
  have e : 5 * N * grainsI 2 = 1270 * N := by rw [show grainsI 2 = 254 from rfl]; omega
  rw [grainO_some ⟨.inr rfl, decide_eq_true (by omega), by rw [e]; exact decide_eq_true (by omega)⟩, e]
theorem many {N : Int} (h : -400000 < N ∧ N < 400000) : grainO (127 * N) 1 = some (1270 * N) := by
  have e : 127 * N * grainsI 1 = 1270 * N := by rw [show grainsI 1 = 10 from rfl]; omega
  rw [grainO_some ⟨.inl rfl, decide_eq_true (by omega), by rw [e]; exact decide_eq_true (by omega)⟩, e]
theorem last_in {N : Int} (h : -400000 < N ∧ N < 400000) (k : N ≤ 0) : grainO (N + 53687091) 1 = some (10 * (N + 53687091)) := by
  have e : (N + 53687091) * grainsI 1 = 10 * (N + 53687091) := by rw [show grainsI 1 = 10 from rfl]; omega
  rw [grainO_some ⟨.inl rfl, decide_eq_true (by omega), by rw [e]; exact decide_eq_true (by omega)⟩, e]
theorem last_out {N : Int} (k : 0 < N) : grainO (N + 53687091) 1 = none := by
  have e : (N + 53687091) * grainsI 1 = 10 * (N + 53687091) := by rw [show grainsI 1 = 10 from rfl]; omega
  refine grainO_none (fun h => ?_)
  have h3 := near_yes h.2.2
  rw [e] at h3
  omega

set_option maxHeartbeats 1000000 in
theorem walk (n : Int) (h0 : -9223372036854775808 ≤ n) (h1 : n ≤ 9223372036854775807) (w : World) :
    Calls Tryd.prog 6 #[.int .i64 n] w fun e w' => e = .returned (.bool true) ∧ Below w.heap.size w w' := by
  have hb := tmod_bd n 400000 (by omega)
  obtain ⟨N, hN⟩ : ∃ N, n.tmod 400000 = N := ⟨_, rfl⟩
  rw [hN] at hb
  have H1 := Lib.hid (fun w => grain_is (five hb) w)
  have H2 := Lib.hid (fun w => grain_is (many hb) w)
  obtain ⟨b0, b1⟩ := hb
  by_cases hz : N ≤ 0
  · have H3 := Lib.hid (fun w => grain_is (last_in ⟨b0, b1⟩ hz) w)
    go_enter Tryd.func6, Tryd.ntmps6
    go_wp2_with fail
    refine (H1.out _).mono ?_; rintro e w' ⟨rfl, rfl⟩
    go_wp2_with fail
    refine (H2.out _).mono ?_; rintro e w' ⟨rfl, rfl⟩
    go_wp2_with fail
    refine (H3.out _).mono ?_; rintro e w' ⟨rfl, rfl⟩
    go_wp2_with fail
    refine (awake_any _).mono ?_; rintro e w3 ⟨rfl, b3⟩
    go_wp2
    go_ret
    exact ⟨rfl, b3⟩
  · have H3 := Lib.hid (fun w => grain_is (last_out (N := N) (by omega)) w)
    have hzb : decide (N ≤ 0) = false := decide_eq_false hz
    go_enter Tryd.func6, Tryd.ntmps6
    go_wp2_with fail
    refine (H1.out _).mono ?_; rintro e w' ⟨rfl, rfl⟩
    go_wp2_with fail
    refine (H2.out _).mono ?_; rintro e w' ⟨rfl, rfl⟩
    go_wp2_with fail
    refine (H3.out _).mono ?_; rintro e w' ⟨rfl, rfl⟩
    go_wp2_with fail
    refine (awake_any _).mono ?_; rintro e w3 ⟨rfl, b3⟩
    go_wp2
    go_ret
    exact ⟨rfl, b3⟩
theorem own : ownKnob Tryd.prog.godebug = none := by kernel_rfl
set_option maxRecDepth 100000 in
theorem lifted (os : Os) (started : os.Started) (H : Type) (enc : TypeId × Value → H) :
    ReturnsInHanded {} Tryd.checked os 6 .any (fun w args => (Rows.unitMeetsSpec.pre enc Tryd.prog Tryd.f6 [] false w args ∧ laidMetH Tryd.prog Rows.unitMeetsRow.laid w) ∧ sizedMet enc Tryd.prog Tryd.f6 (OpenSpec.ofChange Rows.unitMeetsSpec) false w args)
      (Rows.unitMeetsSpec.post enc Tryd.prog Tryd.f6 false true false false) := by
  refine returnsInHanded_of_change_and (C := Tryd.checked) (X := fun w _ => laidMetH Tryd.prog Rows.unitMeetsRow.laid w) (fun _ _ _ hh h => h.of_heap hh) own started (by kernel_rfl) Tryd.func6
    (ChangeSpec.witness_shaped (enc := enc) (C := Tryd.checked) (os := os) (X := fun w _ => laidMetH Tryd.prog Rows.unitMeetsRow.laid w) false (World.laidAll Tryd.prog os Rows.unitMeetsRow.laid) #[.int .i64 0] 8 (World.laidAll_os _ _ _)
      (World.shaped_of_ZipB (by kernel_rfl) (by kernel_rfl)) (by kernel_rfl) (by kernel_rfl) (by kernel_rfl)
      (by rw [MakeChecks.laidMetH_plain _ _ _ (by kernel_rfl)]; exact laidMet_laidAll _ (by kernel_rfl) (by kernel_rfl))) ?_
  intro W base args ds gs before hval0 hW _ _ _ _
  have hval : ∀ (j : Nat) t v, Tryd.f6.params[j]? = some t → args[j]? = some v → Value.okWide Tryd.prog W .any base t v := hval0
  have hW' := hW
  obtain ⟨p, q, hA0, hV, rfl, hfz, hnd⟩ := hW
  have hA : DataW.TrodAll enc Tryd.prog W 0 (fun _ => true) true Tryd.f6.params.toList args.toList ds p := hA0
  rw [Tryd.params6] at hA hval
  obtain ⟨v0, vs0, d0, ds0, p0, q0, hargs, rfl, rfl, h0, r0⟩ := trodAll_cons hA
  obtain ⟨rfl, rfl, rfl⟩ := trodAll_nil r0
  obtain rfl : args = #[v0] := by cases args; simp_all
  obtain ⟨rfl, rfl⟩ := trodVars_none hV
  obtain ⟨a0, rfl, rfl, rfl, w0⟩ := open_int Tryd.underlying2 (hval 0 2 v0 rfl rfl) h0
  clear hA0 hval0
  simp only [List.append_nil] at hW'
  refine (walk a0 (bounds_i64 w0).1 (bounds_i64 w0).2 W).mono fun e W' ⟨he, bel⟩ => ?_
  subst he
  exact ⟨_, rfl, _, _, _, [], _, [], hW', trodAll_mk1 (shut_bool Tryd.underlying4 _), (trodAll_cons_mk (shut_int Tryd.underlying2 w0) trodAll_mk0), rfl, bel.frame _, fun h => by cases h⟩
theorem over : Rows.unitMeetsRow.holds Tryd.pinned (OpenSpec.ofChange Rows.unitMeetsSpec) :=
  OpenClaim.holds_of_wide 6 Tryd.f6 rfl rfl rfl rfl rfl rfl rfl ⟨rfl, rfl, rfl, rfl, rfl⟩ rfl rfl rfl rfl rfl (by kernel_rfl) Tryd.func6 (by kernel_rfl)
    (of_decide_eq_true (by kernel_rfl)) (by unfold Func.isWrapper; first | (rw [if_pos (by decide +kernel)]; kernel_rfl) | (rw [if_neg (by decide +kernel)]; exact ⟨rfl, rfl⟩))
    (fun os started H enc _ => lifted os started H enc)
theorem proved : Rows.UnitMeetsCardSaid :=
  Claim7.holds_tied_plain_at .later [] Rows.unitMeetsCard.laidKinds true Rows.unitMeetsCard.stood.harness false over (fun _ h => by cases h) (by kernel_rfl) (fun _ h => by cases h) unitMeets_row_tie rfl ⟨rfl, rfl⟩ (by kernel_rfl) rfl
    (fun f fn hf hfn => by
      obtain rfl : f = 6 := Option.some.inj ((show Tryd.prog.funcNamed Rows.unitMeetsRow.func = some 6 by kernel_rfl).symm.trans hf) |>.symm
      obtain rfl : fn = Tryd.f6 := (Option.some.inj (Tryd.func6.symm.trans hfn)).symm
      exact ⟨by kernel_rfl, fun j t ht => by
        rw [Tryd.params6] at ht
        have hm : t ∈ [2] := by have := Array.mem_of_getElem? ht; simp at this; simp; omega
        have hall : ([2].all fun u => !Tryd.prog.wantsStandIn u) = true := by kernel_rfl
        exact (show Tryd.prog.wantsStandIn t = false by simpa using List.all_eq_true.1 hall t hm)⟩)
    (by kernel_rfl)
#print axioms proved
end Go.Proofs.YtapnekpilgbcaaaDoor.unitMeets
