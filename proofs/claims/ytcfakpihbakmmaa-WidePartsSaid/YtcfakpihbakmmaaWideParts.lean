/- Multiplication distributes over addition and is commutative; the product of two half words is their 64-bit product. No condition. -/
import Derived.Test.YtcfakpihbakmmaaRows
import Derived.Test.YtcfakpihbakmmaaAwake1
import Derived.ProofKit
import Derived.OpenShut
import Derived.ShutString
import Derived.ChangeOld
import Derived.Below
import Derived.Lib.SmallJoins
import Derived.BigQuiet
import Derived.Lib.QuietBelow
namespace Go.Proofs.Ytcfakpihbakmmaa.wideParts
open Go.ChangeShapes Go.WideShapes Go.ChangeAt Go.RowKit Go.Joins
open Go.Sort (grow)

/-- Mul's contract with its results named beforehand. -/
theorem mul_is (a b h l : Int) (hh : mulHi a b = h) (hl : mulLo a b = l) (h0 : 0 ≤ a) (h1 : a ≤ 18446744073709551615) (h2 : 0 ≤ b) (h3 : b ≤ 18446744073709551615) (w : World) (p : Regrown) :
    Calls Try.prog 8 #[.int .u64 a, .int .u64 b] (grow (redrawn w p.d) p.os) fun e w'' => e = .returned (wide h l) ∧ ∃ p : Regrown, w'' = grow (redrawn w p.d) p.os := by
  subst hh hl
  exact Calls.regrown_of (mul_any a b h0 h1 h2 h3 _)

set_option maxHeartbeats 1000000 in
theorem walk (a b c : Int) (h0 : 0 ≤ a) (h1 : a ≤ 18446744073709551615) (h2 : 0 ≤ b) (h3 : b ≤ 18446744073709551615) (h4 : 0 ≤ c) (h5 : c ≤ 18446744073709551615) (w : World) :
    Calls Try.prog 5 #[.int .u64 a, .int .u64 b, .int .u64 c] w fun e w' => e = .returned (.bool true) ∧ Below w.heap.size w w' := by
  have P1 := Lib.hid (parts1 a (b / 2) (c / 2) h0 h1 (by omega) (by omega) (by omega))
  obtain ⟨mb0, mb1⟩ := mulHi_bd a (b / 2) h0 h1 (by omega) (by omega)
  obtain ⟨lb0, lb1⟩ := mulLo_bd a (b / 2)
  obtain ⟨mc0, mc1⟩ := mulHi_bd a (c / 2) h0 h1 (by omega) (by omega)
  obtain ⟨lc0, lc1⟩ := mulLo_bd a (c / 2)
  have ha32 := and32 a h0 h1
  have hb32 := and32 (b / 2) (by omega) (by omega)
  obtain ⟨s0, s1⟩ := half_bd (a := a % 4294967296) (b := b / 2 % 4294967296) (by omega) (by omega) (by omega) (by omega)
  have cM := fun w => mul_any a (b / 2) h0 h1 (by omega) (by omega) w
  have cN := fun w => mul_any a (c / 2) h0 h1 (by omega) (by omega) w
  have CM := Lib.hid cM
  have CN := Lib.hid cN
  have d1 := mul_is a (b / 2 + c / 2) _ _ rfl rfl h0 h1 (by omega) (by omega)
  have d2 := mul_is a (b / 2) _ _ rfl rfl h0 h1 (by omega) (by omega)
  have d3 := mul_is (b / 2) a _ _ (mulHi_comm _ _) (mulLo_comm _ _) (by omega) (by omega) h0 h1
  have d4 := mul_is (a % 4294967296) (b / 2 % 4294967296) _ _ (mul_small _ _ s0 (by omega)).1 (mul_small _ _ s0 (by omega)).2 (by omega) (by omega) (by omega) (by omega)
  have d5 := mul_is a 0 0 0 (by unfold mulHi; simp) (by unfold mulLo; simp) h0 h1 (by omega) (by omega)
  have d6 := mul_is a 1 0 a (by unfold mulHi; omega) (by unfold mulLo; omega) h0 h1 (by omega) (by omega)
  have D1 := Lib.hid d1
  have D2 := Lib.hid d2
  have D3 := Lib.hid d3
  have D4 := Lib.hid d4
  have D5 := Lib.hid d5
  have D6 := Lib.hid d6
  clear cM cN d1 d2 d3 d4 d5 d6
  go_enter Try.func5, Try.ntmps5
  go_wp2_with fail
  refine (CM.out _).mono ?_; rintro e w1 ⟨rfl, hb1⟩
  go_wp2_with fail
  refine (CN.out _).mono ?_; rintro e w2 ⟨rfl, hb2⟩
  go_wp2_with fail
  refine (add_any _ _ _ _ (by omega) (by omega) (by omega) (by omega) (by omega) (by omega) (by omega) (by omega) _).mono ?_; rintro e w3 ⟨rfl, hb3⟩
  rw [P1.out.1, P1.out.2.1, P1.out.2.2]
  go_wp2_with fail
  have c0 : (w3.alloc (.cells #[.int .u64 (mulHi a (b / 2 + c / 2)), .int .u64 (mulLo a (b / 2 + c / 2))] 25)).cell? ⟨w3.heap.size, 0, none⟩ = some (.int .u64 (mulHi a (b / 2 + c / 2))) := by simp
  have c1 : (w3.alloc (.cells #[.int .u64 (mulHi a (b / 2 + c / 2)), .int .u64 (mulLo a (b / 2 + c / 2))] 25)).cell? ⟨w3.heap.size, 1, none⟩ = some (.int .u64 (mulLo a (b / 2 + c / 2))) := by simp
  have hb4 := bel_alloc hb3 (.cells #[.int .u64 (mulHi a (b / 2 + c / 2)), .int .u64 (mulLo a (b / 2 + c / 2))] 25)
  generalize w3.alloc (.cells #[.int .u64 (mulHi a (b / 2 + c / 2)), .int .u64 (mulLo a (b / 2 + c / 2))] 25) = W at *
  have k0 := cell_regrown c0
  have k1 := cell_regrown c1
  have da : ∀ p : Regrown, Calls Try.prog 10 #[] (grow (redrawn W p.d) p.os) fun e w'' => e = .returned (.bool true) ∧ ∃ p : Regrown, w'' = grow (redrawn W p.d) p.os := fun p => Calls.regrown_of (awake_any _)
  have DA := Lib.hid da
  clear da
  refine wp_region_quiet_below (by kernel_rfl) (by kernel_rfl) ?_
  repeat (go_big_quiet_step (first | with_reducible exact D1.out _ _ | with_reducible exact D2.out _ _ | with_reducible exact D3.out _ _ | with_reducible exact D4.out _ _ | with_reducible exact D5.out _ _ | with_reducible exact D6.out _ _ | with_reducible exact DA.out _))
  refine wpQuiet_nil ?_
  intro _ hw'
  obtain ⟨⟨dq, osq⟩, hw''⟩ := hw'
  subst hw''
  go_wp2
  go_ret
  exact ⟨rfl, bel_trans (bel_trans (bel_trans hb1 hb2) hb4) (below_regrown W dq osq)⟩
theorem own : ownKnob Try.prog.godebug = none := by kernel_rfl
set_option maxRecDepth 100000 in
theorem lifted (os : Os) (started : os.Started) (H : Type) (enc : TypeId × Value → H) :
    ReturnsInHanded {} Try.checked os 5 .any (Rows.widePartsSpec.pre6 enc Try.prog Try.f5 Rows.widePartsRow.domain false) (Rows.widePartsSpec.post enc Try.prog Try.f5 false true false false) := by
  refine returnsInHanded_of_change (C := Try.checked) own started (by kernel_rfl) Try.func5
    (ChangeSpec.witness6 (enc := enc) (C := Try.checked) false ⟨#[], #[.int .u64 0, .int .u64 0, .int .u64 0], []⟩ 8 (by kernel_rfl) (by kernel_rfl) (by kernel_rfl) (by kernel_rfl)) ?_
  intro W base args ds gs before hval0 hW _ _
  have hval : ∀ (j : Nat) t v, Try.f5.params[j]? = some t → args[j]? = some v → Value.okWide Try.prog W .any base t v := hval0
  have hW' := hW
  obtain ⟨p, q, hA0, hV, rfl, hfz, hnd⟩ := hW
  have hA : DataW.TrodAll enc Try.prog W 0 (fun _ => true) true Try.f5.params.toList args.toList ds p := hA0
  rw [Try.params5] at hA hval
  obtain ⟨v0, vs0, d0, ds0, p0, q0, hargs, rfl, rfl, h0, r0⟩ := trodAll_cons hA
  obtain ⟨v1, vs1, d1, ds1, p1, q1, rfl, rfl, rfl, h1, r1⟩ := trodAll_cons r0
  obtain ⟨v2, vs2, d2, ds2, p2, q2, rfl, rfl, rfl, h2, r2⟩ := trodAll_cons r1
  obtain ⟨rfl, rfl, rfl⟩ := trodAll_nil r2
  obtain rfl : args = #[v0, v1, v2] := by cases args; simp_all
  obtain ⟨rfl, rfl⟩ := trodVars_none hV
  obtain ⟨a0, rfl, rfl, rfl, w0⟩ := open_int Try.underlying22 (hval 0 22 v0 rfl rfl) h0
  obtain ⟨a1, rfl, rfl, rfl, w1⟩ := open_int Try.underlying22 (hval 1 22 v1 rfl rfl) h1
  obtain ⟨a2, rfl, rfl, rfl, w2⟩ := open_int Try.underlying22 (hval 2 22 v2 rfl rfl) h2
  clear hA0 hval0
  simp only [List.append_nil] at hW'
  refine (walk a0 a1 a2 (bounds_u64 w0).1 (bounds_u64 w0).2 (bounds_u64 w1).1 (bounds_u64 w1).2 (bounds_u64 w2).1 (bounds_u64 w2).2 W).mono fun e W' ⟨he, bel⟩ => ?_
  subst he
  exact ⟨_, rfl, _, _, _, [], _, [], hW', trodAll_mk1 (shut_bool Try.underlying4 _), (trodAll_cons_mk (shut_int Try.underlying22 w0) (trodAll_cons_mk (shut_int Try.underlying22 w1) (trodAll_cons_mk (shut_int Try.underlying22 w2) trodAll_mk0))), rfl, bel.frame _, fun h => by cases h⟩
theorem over : Rows.widePartsRow.holds Try.pinned (OpenSpec.ofChange Rows.widePartsSpec) :=
  OpenClaim.holds_of_wide 5 Try.f5 rfl rfl rfl rfl rfl rfl rfl ⟨rfl, rfl, rfl, rfl, rfl⟩ rfl rfl rfl rfl rfl (by kernel_rfl) Try.func5 (by kernel_rfl)
    (of_decide_eq_true (by kernel_rfl)) (by unfold Func.isWrapper; first | (rw [if_pos (by decide +kernel)]; kernel_rfl) | (rw [if_neg (by decide +kernel)]; exact ⟨rfl, rfl⟩))
    (fun os started H enc _ => lifted os started H enc)
theorem proved : Rows.WidePartsSaid := over
#print axioms proved
end Go.Proofs.Ytcfakpihbakmmaa.wideParts
