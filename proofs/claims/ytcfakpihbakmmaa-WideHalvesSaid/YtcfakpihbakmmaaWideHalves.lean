/- The product of two numbers is the sum of the four products of their halves, each shifted to its place. No condition. -/
import Derived.Test.YtcfakpihbakmmaaRows
import Derived.Test.YtcfakpihbakmmaaAwake1
import Derived.ProofKit
import Derived.OpenShut
import Derived.ShutString
import Derived.ChangeOld
import Derived.Below
import Derived.Lib.SmallJoins
namespace Go.Proofs.Ytcfakpihbakmmaa.wideHalves
open Go.ChangeShapes Go.WideShapes Go.ChangeAt Go.RowKit Go.Joins

set_option maxHeartbeats 1000000 in
theorem walk (a b : Int) (h0 : 0 ≤ a) (h1 : a ≤ 18446744073709551615) (h2 : 0 ≤ b) (h3 : b ≤ 18446744073709551615) (w : World) :
    Calls Try.prog 3 #[.int .u64 a, .int .u64 b] w fun e w' => e = .returned (.bool true) ∧ Below w.heap.size w w' := by
  have Q := quad a b h0 h1 h2 h3
  obtain ⟨h, l, k1, e1, e2, b1, b2, b3, b4, k2, e3, e4⟩ := halves a b _ _ _ _ Q h0 h1 h2 h3
  obtain ⟨p0, p1, q0, q1, r0, r1, s0, s1, all⟩ := Q
  obtain ⟨k0, e5, e6⟩ := halves1 _ _ p0 p1 s0 s1
  obtain ⟨mb0, mb1⟩ := mulHi_bd a b h0 h1 h2 h3
  obtain ⟨lb0, lb1⟩ := mulLo_bd a b
  have K := Lib.hid (And.intro k0 (And.intro k1 k2))
  have E := Lib.hid (And.intro e1 (And.intro e2 (And.intro e3 (And.intro e4 (And.intro e5 e6)))))
  have hml := mulLo_form a b
  have ha32 := and32 a h0 h1
  have hb32 := and32 b h2 h3
  clear k0 k1 k2 e1 e2 e3 e4 e5 e6 all
  go_enter Try.func3, Try.ntmps3
  go_wp2_with fail
  refine (mul_any _ _ (by omega) (by omega) (by omega) (by omega) _).mono ?_; rintro e w1 ⟨rfl, hb1⟩
  go_wp2_with fail
  refine (add_any _ _ _ _ (by omega) (by omega) (by omega) (by omega) (by omega) (by omega) (by omega) (by omega) _).mono ?_; rintro e w2 ⟨rfl, hb2⟩
  rw [K.out.1, E.out.2.2.2.2.1, E.out.2.2.2.2.2]
  obtain ⟨hc2, hf2⟩ := bcell hb2
  have hz2 := bel_more hb2
  go_wp2_with fail
  refine (add_any _ _ _ _ (by omega) (by omega) (by omega) (by omega) (by omega) (by omega) (wrap_lo _) (wrap_hi _) _).mono ?_; rintro e w3 ⟨rfl, hb3⟩
  rw [K.out.2.1, E.out.1, E.out.2.1]
  obtain ⟨hc3, hf3⟩ := bcell hb3
  have hz3 := bel_more hb3
  go_wp2_with fail
  refine (add_any _ _ _ _ (by omega) (by omega) (by omega) (by omega) (by omega) (by omega) (wrap_lo _) (wrap_hi _) _).mono ?_; rintro e w4 ⟨rfl, hb4⟩
  rw [K.out.2.2, E.out.2.2.1, E.out.2.2.2.1]
  obtain ⟨hc4, hf4⟩ := bcell hb4
  have hz4 := bel_more hb4
  have hk := bel_trans (bel_alloc (bel_trans (bel_alloc hb2 _) hb3) _) hb4
  have c0 : w4.cell? ⟨w1.heap.size, 0, none⟩ = some (.int .u64 (mulHi a b)) := cell_later hk (by simp)
  have c1 : w4.cell? ⟨w1.heap.size, 1, none⟩ = some (.int .u64 (mulLo a b)) := cell_later hk (by simp)
  have hz : w1.heap.size < w4.heap.size := by omega
  go_wp2_with fail
  refine (awake_any _).mono ?_; rintro e w5 ⟨rfl, hb5⟩
  go_wp2
  go_ret
  exact ⟨rfl, bel_trans (bel_alloc (bel_trans (bel_alloc (bel_trans (bel_alloc (bel_trans (bel_alloc hb1 _) hb2) _) hb3) _) hb4) _) hb5⟩
theorem own : ownKnob Try.prog.godebug = none := by kernel_rfl
set_option maxRecDepth 100000 in
theorem lifted (os : Os) (started : os.Started) (H : Type) (enc : TypeId × Value → H) :
    ReturnsInHanded {} Try.checked os 3 .any (Rows.wideHalvesSpec.pre6 enc Try.prog Try.f3 Rows.wideHalvesRow.domain false) (Rows.wideHalvesSpec.post enc Try.prog Try.f3 false true false false) := by
  refine returnsInHanded_of_change (C := Try.checked) own started (by kernel_rfl) Try.func3
    (ChangeSpec.witness6 (enc := enc) (C := Try.checked) false ⟨#[], #[.int .u64 0, .int .u64 0], []⟩ 8 (by kernel_rfl) (by kernel_rfl) (by kernel_rfl) (by kernel_rfl)) ?_
  intro W base args ds gs before hval0 hW _ _
  have hval : ∀ (j : Nat) t v, Try.f3.params[j]? = some t → args[j]? = some v → Value.okWide Try.prog W .any base t v := hval0
  have hW' := hW
  obtain ⟨p, q, hA0, hV, rfl, hfz, hnd⟩ := hW
  have hA : DataW.TrodAll enc Try.prog W 0 (fun _ => true) true Try.f3.params.toList args.toList ds p := hA0
  rw [Try.params3] at hA hval
  obtain ⟨v0, vs0, d0, ds0, p0, q0, hargs, rfl, rfl, h0, r0⟩ := trodAll_cons hA
  obtain ⟨v1, vs1, d1, ds1, p1, q1, rfl, rfl, rfl, h1, r1⟩ := trodAll_cons r0
  obtain ⟨rfl, rfl, rfl⟩ := trodAll_nil r1
  obtain rfl : args = #[v0, v1] := by cases args; simp_all
  obtain ⟨rfl, rfl⟩ := trodVars_none hV
  obtain ⟨a0, rfl, rfl, rfl, w0⟩ := open_int Try.underlying22 (hval 0 22 v0 rfl rfl) h0
  obtain ⟨a1, rfl, rfl, rfl, w1⟩ := open_int Try.underlying22 (hval 1 22 v1 rfl rfl) h1
  clear hA0 hval0
  simp only [List.append_nil] at hW'
  refine (walk a0 a1 (bounds_u64 w0).1 (bounds_u64 w0).2 (bounds_u64 w1).1 (bounds_u64 w1).2 W).mono fun e W' ⟨he, bel⟩ => ?_
  subst he
  exact ⟨_, rfl, _, _, _, [], _, [], hW', trodAll_mk1 (shut_bool Try.underlying4 _), (trodAll_cons_mk (shut_int Try.underlying22 w0) (trodAll_cons_mk (shut_int Try.underlying22 w1) trodAll_mk0)), rfl, bel.frame _, fun h => by cases h⟩
theorem over : Rows.wideHalvesRow.holds Try.pinned (OpenSpec.ofChange Rows.wideHalvesSpec) :=
  OpenClaim.holds_of_wide 3 Try.f3 rfl rfl rfl rfl rfl rfl rfl ⟨rfl, rfl, rfl, rfl, rfl⟩ rfl rfl rfl rfl rfl (by kernel_rfl) Try.func3 (by kernel_rfl)
    (of_decide_eq_true (by kernel_rfl)) (by unfold Func.isWrapper; first | (rw [if_pos (by decide +kernel)]; kernel_rfl) | (rw [if_neg (by decide +kernel)]; exact ⟨rfl, rfl⟩))
    (fun os started H enc _ => lifted os started H enc)
theorem proved : Rows.WideHalvesSaid := over
#print axioms proved
end Go.Proofs.Ytcfakpihbakmmaa.wideHalves
