/- Sums do not depend on the order; below 2^128 they are returned and are not less than their operands, else the result is zero. No condition. -/
import Derived.Test.YtcfakpihbakmmaaRows
import Derived.Test.YtcfakpihbakmmaaAwake1
import Derived.ProofKit
import Derived.OpenShut
import Derived.ShutString
import Derived.ChangeOld
import Derived.Below
import Derived.Lib.SmallJoins
import Derived.BigQuiet
import Derived.Lib.QuietBelow
namespace Go.Proofs.Ytcfakpihbakmmaa.wideSums
open Go.ChangeShapes Go.WideShapes Go.ChangeAt Go.RowKit Go.Joins
open Go.Sort (grow)

set_option maxHeartbeats 1000000 in
theorem walk (c d f g : Int) 
    (c0 : 0 ≤ c) (c1 : c ≤ 18446744073709551615) (d0 : 0 ≤ d) (d1 : d ≤ 18446744073709551615) (f0 : 0 ≤ f) (f1 : f ≤ 18446744073709551615) (g0 : 0 ≤ g) (g1 : g ≤ 18446744073709551615) (w : World) :
    Calls Try.prog 7 #[.agg #[.int .u64 c, .int .u64 d], .agg #[.int .u64 f, .int .u64 g]] w fun e w' => e = .returned (.bool true) ∧ Below w.heap.size w w' := by
  have A := Lib.hid (fun w => add_any c d f g c0 c1 d0 d1 f0 f1 g0 g1 w)
  have nc := not_form c c0 c1
  have nd := not_form d d0 d1
  have n := add_any c d (18446744073709551615 - c) (18446744073709551615 - d) c0 c1 d0 d1 (by omega) (by omega) (by omega) (by omega)
  rw [addNot_ok] at n
  have N := Lib.hid n
  have R := add_any f g c d f0 f1 g0 g1 c0 c1 d0 d1
  rw [addHi_comm f g c d, addLo_comm f g c d, addOk_comm f g c d] at R
  by_cases ho : addOk c d f g = true
  · have bd := add_bd c d f g c0 d0 f0 g0
    have l1 := cmpSum c d f g f0 g0 ho
    have l2 := cmpSum f g c d c0 d0 (by rw [addOk_comm]; exact ho)
    rw [addHi_comm f g c d, addLo_comm f g c d] at l2
    have K1 := Lib.hid (cmp_any (addHi c d f g) (addLo c d f g) c d bd.2.2.1 bd.2.2.2 d0 d1)
    have K2 := Lib.hid (cmp_any (addHi c d f g) (addLo c d f g) f g bd.2.2.1 bd.2.2.2 g0 g1)
    have a := A.out
    rw [ho] at R a
    have A := Lib.hid a
    have R := Lib.hid R
    clear ho bd a n
    go_enter Try.func7, Try.ntmps7
    go_wp2_with fail
    refine (A.out _).mono ?_; rintro e w1 ⟨rfl, hb1⟩
    have b0 := bel_alloc (bel_alloc (bel_refl w) (.cells #[.int .u64 c, .int .u64 d] 25)) (.cells #[.int .u64 f, .int .u64 g] 25)
    have x0 : w1.cell? ⟨w.heap.size, 0, none⟩ = some (.int .u64 c) := cell_later hb1 (by simp)
    have x1 : w1.cell? ⟨w.heap.size, 1, none⟩ = some (.int .u64 d) := cell_later hb1 (by simp)
    have y0 : w1.cell? ⟨w.heap.size + 1, 0, none⟩ = some (.int .u64 f) := cell_later hb1 (by simp)
    have y1 : w1.cell? ⟨w.heap.size + 1, 1, none⟩ = some (.int .u64 g) := cell_later hb1 (by simp)
    have hz1 : w.heap.size + 1 < w1.heap.size := by have := hb1.size; simp at this; omega
    have hz0 : w.heap.size < w1.heap.size := by omega
    go_wp2_with fail
    refine (R.out _).mono ?_; rintro e w2 ⟨rfl, hb2⟩
    have k2 := bel_trans (bel_alloc (bel_refl w1) _) hb2
    have X0 := cell_later k2 x0
    have X1 := cell_later k2 x1
    have Y0 := cell_later k2 y0
    have Y1 := cell_later k2 y1
    have s0 : w2.cell? ⟨w1.heap.size, 0, none⟩ = some (.int .u64 (addHi c d f g)) := cell_later hb2 (by simp)
    have s1 : w2.cell? ⟨w1.heap.size, 1, none⟩ = some (.int .u64 (addLo c d f g)) := cell_later hb2 (by simp)
    have hz2 := bel_more hb2
    have hz3 : w.heap.size < w2.heap.size := by omega
    have hz4 : w.heap.size + 1 < w2.heap.size := by omega
    clear x0 x1 y0 y1
    go_wp2_with fail
    refine (N.out _).mono ?_; rintro e w3 ⟨rfl, hb3⟩
    have k3 := bel_trans (bel_alloc (bel_refl w2) _) hb3
    have x0 := cell_later k3 X0
    have x1 := cell_later k3 X1
    have y0 := cell_later k3 Y0
    have y1 := cell_later k3 Y1
    have p0 := cell_later k3 s0
    have p1 := cell_later k3 s1
    have q0 : w3.cell? ⟨w2.heap.size, 0, none⟩ = some (.int .u64 (addHi c d f g)) := cell_later hb3 (by simp)
    have q1 : w3.cell? ⟨w2.heap.size, 1, none⟩ = some (.int .u64 (addLo c d f g)) := cell_later hb3 (by simp)
    have hz5 := bel_more hb3
    have hz6 : w.heap.size < w3.heap.size := by omega
    have hz7 : w.heap.size + 1 < w3.heap.size := by omega
    have hz8 : w1.heap.size < w3.heap.size := by omega
    clear X0 X1 Y0 Y1 s0 s1
    have B := bel_trans (bel_trans (bel_trans b0 hb1) k2) k3
    clear hb1 hb2 k2 k3 hb3 b0
    go_wp2_with fail
    have B := bel_alloc B (.cells #[.int .u64 (addHi c d (18446744073709551615 - c) (18446744073709551615 - d)), .int .u64 (addLo c d (18446744073709551615 - c) (18446744073709551615 - d))] 25)
    refine (K1.out _).mono ?_; rintro e w4 ⟨rfl, hb4⟩
    have k4 := bel_trans (bel_alloc (bel_refl w3) _) hb4
    have X0 := cell_later k4 x0
    have X1 := cell_later k4 x1
    have Y0 := cell_later k4 y0
    have Y1 := cell_later k4 y1
    have P0 := cell_later k4 p0
    have P1 := cell_later k4 p1
    have B := bel_trans B hb4
    clear hb4 k4
    go_wp2_with fail
    refine (K2.out _).mono ?_; rintro e w5 ⟨rfl, hb5⟩
    have B := bel_trans B hb5
    go_wp2_with fail
    refine (awake_any _).mono ?_; rintro e w6 ⟨rfl, hb6⟩
    go_wp2
    go_ret
    exact ⟨rfl, bel_trans B hb6⟩
  · have ho : addOk c d f g = false := by simpa using ho
    have hv := addHi_no c d f g ho
    have k3 := cmp_any f g (18446744073709551615 - c) (18446744073709551615 - d) g0 g1 (by omega) (by omega)
    rw [cmpNot c d f g ho] at k3
    have K3 := Lib.hid k3
    have a := A.out
    rw [ho, hv.1, hv.2] at R a
    have A := Lib.hid a
    have R := Lib.hid R
    clear ho hv a n k3
    go_enter Try.func7, Try.ntmps7
    go_wp2_with fail
    refine (A.out _).mono ?_; rintro e w1 ⟨rfl, hb1⟩
    have b0 := bel_alloc (bel_alloc (bel_refl w) (.cells #[.int .u64 c, .int .u64 d] 25)) (.cells #[.int .u64 f, .int .u64 g] 25)
    have x0 : w1.cell? ⟨w.heap.size, 0, none⟩ = some (.int .u64 c) := cell_later hb1 (by simp)
    have x1 : w1.cell? ⟨w.heap.size, 1, none⟩ = some (.int .u64 d) := cell_later hb1 (by simp)
    have y0 : w1.cell? ⟨w.heap.size + 1, 0, none⟩ = some (.int .u64 f) := cell_later hb1 (by simp)
    have y1 : w1.cell? ⟨w.heap.size + 1, 1, none⟩ = some (.int .u64 g) := cell_later hb1 (by simp)
    have hz1 : w.heap.size + 1 < w1.heap.size := by have := hb1.size; simp at this; omega
    have hz0 : w.heap.size < w1.heap.size := by omega
    go_wp2_with fail
    refine (R.out _).mono ?_; rintro e w2 ⟨rfl, hb2⟩
    have k2 := bel_trans (bel_alloc (bel_refl w1) _) hb2
    have X0 := cell_later k2 x0
    have X1 := cell_later k2 x1
    have Y0 := cell_later k2 y0
    have Y1 := cell_later k2 y1
    have s0 : w2.cell? ⟨w1.heap.size, 0, none⟩ = some (.int .u64 (0)) := cell_later hb2 (by simp)
    have s1 : w2.cell? ⟨w1.heap.size, 1, none⟩ = some (.int .u64 (0)) := cell_later hb2 (by simp)
    have hz2 := bel_more hb2
    have hz3 : w.heap.size < w2.heap.size := by omega
    have hz4 : w.heap.size + 1 < w2.heap.size := by omega
    clear x0 x1 y0 y1
    go_wp2_with fail
    refine (N.out _).mono ?_; rintro e w3 ⟨rfl, hb3⟩
    have k3 := bel_trans (bel_alloc (bel_refl w2) _) hb3
    have x0 := cell_later k3 X0
    have x1 := cell_later k3 X1
    have y0 := cell_later k3 Y0
    have y1 := cell_later k3 Y1
    have p0 := cell_later k3 s0
    have p1 := cell_later k3 s1
    have q0 : w3.cell? ⟨w2.heap.size, 0, none⟩ = some (.int .u64 (0)) := cell_later hb3 (by simp)
    have q1 : w3.cell? ⟨w2.heap.size, 1, none⟩ = some (.int .u64 (0)) := cell_later hb3 (by simp)
    have hz5 := bel_more hb3
    have hz6 : w.heap.size < w3.heap.size := by omega
    have hz7 : w.heap.size + 1 < w3.heap.size := by omega
    have hz8 : w1.heap.size < w3.heap.size := by omega
    clear X0 X1 Y0 Y1 s0 s1
    have B := bel_trans (bel_trans (bel_trans b0 hb1) k2) k3
    clear hb1 hb2 k2 k3 hb3 b0
    go_wp2_with fail
    have B := bel_alloc B (.cells #[.int .u64 (addHi c d (18446744073709551615 - c) (18446744073709551615 - d)), .int .u64 (addLo c d (18446744073709551615 - c) (18446744073709551615 - d))] 25)
    refine (K3.out _).mono ?_; rintro e w4 ⟨rfl, hb4⟩
    have B := bel_trans B hb4
    go_wp2_with fail
    refine (awake_any _).mono ?_; rintro e w5 ⟨rfl, hb5⟩
    go_wp2
    go_ret
    exact ⟨rfl, bel_trans B hb5⟩
theorem own : ownKnob Try.prog.godebug = none := by kernel_rfl
set_option maxRecDepth 100000 in
theorem lifted (os : Os) (started : os.Started) (H : Type) (enc : TypeId × Value → H) :
    ReturnsInHanded {} Try.checked os 7 .any (Rows.wideSumsSpec.pre6 enc Try.prog Try.f7 Rows.wideSumsRow.domain false) (Rows.wideSumsSpec.post enc Try.prog Try.f7 false true false false) := by
  refine returnsInHanded_of_change (C := Try.checked) own started (by kernel_rfl) Try.func7
    (ChangeSpec.witness6 (enc := enc) (C := Try.checked) false ⟨#[], #[.agg #[.int .u64 0, .int .u64 0], .agg #[.int .u64 0, .int .u64 0]], []⟩ 8 (by kernel_rfl) (by kernel_rfl) (by kernel_rfl) (by kernel_rfl)) ?_
  intro W base args ds gs before hval0 hW _ _
  have hval : ∀ (j : Nat) t v, Try.f7.params[j]? = some t → args[j]? = some v → Value.okWide Try.prog W .any base t v := hval0
  have hW' := hW
  obtain ⟨p, q, hA0, hV, rfl, hfz, hnd⟩ := hW
  have hA : DataW.TrodAll enc Try.prog W 0 (fun _ => true) true Try.f7.params.toList args.toList ds p := hA0
  rw [Try.params7] at hA hval
  obtain ⟨v0, vs0, d0, ds0, p0, q0, hargs, rfl, rfl, h0, r0⟩ := trodAll_cons hA
  obtain ⟨v1, vs1, d1, ds1, p1, q1, rfl, rfl, rfl, h1, r1⟩ := trodAll_cons r0
  obtain ⟨rfl, rfl, rfl⟩ := trodAll_nil r1
  obtain rfl : args = #[v0, v1] := by cases args; simp_all
  obtain ⟨rfl, rfl⟩ := trodVars_none hV
  obtain ⟨c0_0, c0_1, y0_0, y0_1, m0, rfl, rfl, rfl, k0_0, k0_1⟩ := open_agg2 Try.underlying25 (by kernel_rfl) (by kernel_rfl) (hval 0 25 v0 rfl rfl) h0
  obtain ⟨a0_0, ea0_0, rfl, wa0_0⟩ := DataW.trod_int Try.underlying22 k0_0
  simp at ea0_0; subst ea0_0
  obtain ⟨a0_1, ea0_1, rfl, wa0_1⟩ := DataW.trod_int Try.underlying22 k0_1
  simp at ea0_1; subst ea0_1
  obtain ⟨c1_0, c1_1, y1_0, y1_1, m1, rfl, rfl, rfl, k1_0, k1_1⟩ := open_agg2 Try.underlying25 (by kernel_rfl) (by kernel_rfl) (hval 1 25 v1 rfl rfl) h1
  obtain ⟨a1_0, ea1_0, rfl, wa1_0⟩ := DataW.trod_int Try.underlying22 k1_0
  simp at ea1_0; subst ea1_0
  obtain ⟨a1_1, ea1_1, rfl, wa1_1⟩ := DataW.trod_int Try.underlying22 k1_1
  simp at ea1_1; subst ea1_1
  have s0 : ∀ (W' : World) (sp : Nat → Bool), DataW.Trod enc Try.prog W' 0 sp true 25 (.agg #[.int .u64 a0_0, .int .u64 a0_1]) (.agg [.lit (.int .u64 a0_0), .lit (.int .u64 a0_1)]) [] := fun W' sp =>
    shut_agg2 (y0 := (.lit (.int .u64 a0_0), [])) (y1 := (.lit (.int .u64 a0_1), [])) Try.underlying25 (by kernel_rfl) (by kernel_rfl) ⟨1, by simp [DataW.trod, Try.underlying22, wa0_0]⟩ ⟨1, by simp [DataW.trod, Try.underlying22, wa0_1]⟩
  have s1 : ∀ (W' : World) (sp : Nat → Bool), DataW.Trod enc Try.prog W' 0 sp true 25 (.agg #[.int .u64 a1_0, .int .u64 a1_1]) (.agg [.lit (.int .u64 a1_0), .lit (.int .u64 a1_1)]) [] := fun W' sp =>
    shut_agg2 (y0 := (.lit (.int .u64 a1_0), [])) (y1 := (.lit (.int .u64 a1_1), [])) Try.underlying25 (by kernel_rfl) (by kernel_rfl) ⟨1, by simp [DataW.trod, Try.underlying22, wa1_0]⟩ ⟨1, by simp [DataW.trod, Try.underlying22, wa1_1]⟩
  clear hA0 hval0
  simp only [List.append_nil] at hW'
  refine (walk a0_0 a0_1 a1_0 a1_1 (bounds_u64 wa0_0).1 (bounds_u64 wa0_0).2 (bounds_u64 wa0_1).1 (bounds_u64 wa0_1).2 (bounds_u64 wa1_0).1 (bounds_u64 wa1_0).2 (bounds_u64 wa1_1).1 (bounds_u64 wa1_1).2 W).mono fun e W' ⟨he, bel⟩ => ?_
  subst he
  exact ⟨_, rfl, _, _, _, [], _, [], hW', trodAll_mk1 (shut_bool Try.underlying4 _), (trodAll_cons_mk (s0 _ _) (trodAll_cons_mk (s1 _ _) trodAll_mk0)), rfl, bel.frame _, fun h => by cases h⟩
theorem over : Rows.wideSumsRow.holds Try.pinned (OpenSpec.ofChange Rows.wideSumsSpec) :=
  OpenClaim.holds_of_wide 7 Try.f7 rfl rfl rfl rfl rfl rfl rfl ⟨rfl, rfl, rfl, rfl, rfl⟩ rfl rfl rfl rfl rfl (by kernel_rfl) Try.func7 (by kernel_rfl)
    (of_decide_eq_true (by kernel_rfl)) (by unfold Func.isWrapper; first | (rw [if_pos (by decide +kernel)]; kernel_rfl) | (rw [if_neg (by decide +kernel)]; exact ⟨rfl, rfl⟩))
    (fun os started H enc _ => lifted os started H enc)
theorem proved : Rows.WideSumsSaid := over
#print axioms proved
end Go.Proofs.Ytcfakpihbakmmaa.wideSums
