/- Abs, Mul, Sq, Add and Cmp return what the document says, for all numbers of 64 and of 128 bits. No condition. -/
import Derived.Test.YtcfakpihbakmmaaRows
import Derived.Test.YtcfakpihbakmmaaAwake1
import Derived.Test.YtcfakpihbakmmaaRefWide
import Derived.ProofKit
import Derived.OpenShut
import Derived.ShutString
import Derived.ChangeOld
import Derived.Below
import Derived.Lib.SmallJoins
import Derived.BigQuiet
import Derived.Lib.QuietBelow
namespace Go.Proofs.Ytcfakpihbakmmaa.wideTells
open Go.ChangeShapes Go.WideShapes Go.ChangeAt Go.RowKit Go.Joins
open Go.Sort (grow)

set_option maxHeartbeats 1000000 in
theorem walk (a b v c d f g : Int) (h0 : 0 ≤ a) (h1 : a ≤ 18446744073709551615) (h2 : 0 ≤ b) (h3 : b ≤ 18446744073709551615) (h4 : -9223372036854775808 ≤ v) (h5 : v ≤ 9223372036854775807)
    (c0 : 0 ≤ c) (c1 : c ≤ 18446744073709551615) (d0 : 0 ≤ d) (d1 : d ≤ 18446744073709551615) (f0 : 0 ≤ f) (f1 : f ≤ 18446744073709551615) (g0 : 0 ≤ g) (g1 : g ≤ 18446744073709551615) (w : World) :
    Calls Try.prog 4 #[.int .u64 a, .int .u64 b, .int .i64 v, .agg #[.int .u64 c, .int .u64 d], .agg #[.int .u64 f, .int .u64 g]] w fun e w' => e = .returned (.bool true) ∧ Below w.heap.size w w' := by
  have A := Lib.hid (fun w => add_any c d f g c0 c1 d0 d1 f0 f1 g0 g1 w)
  have R := Lib.hid (fun w => refAdd_any c d f g c0 c1 d0 d1 f0 f1 g0 g1 w)
  have hs := Lib.hid (cmpW_eq (rfl : Wv c d = Wv c d))
  go_enter Try.func4, Try.ntmps4
  go_wp2_with fail
  refine (A.out _).mono ?_; rintro e w1 ⟨rfl, hb1⟩
  have b0 := bel_alloc (bel_alloc (bel_refl w) (.cells #[.int .u64 c, .int .u64 d] 25)) (.cells #[.int .u64 f, .int .u64 g] 25)
  have x0 : w1.cell? ⟨w.heap.size, 0, none⟩ = some (.int .u64 c) := cell_later hb1 (by simp)
  have x1 : w1.cell? ⟨w.heap.size, 1, none⟩ = some (.int .u64 d) := cell_later hb1 (by simp)
  have y0 : w1.cell? ⟨w.heap.size + 1, 0, none⟩ = some (.int .u64 f) := cell_later hb1 (by simp)
  have y1 : w1.cell? ⟨w.heap.size + 1, 1, none⟩ = some (.int .u64 g) := cell_later hb1 (by simp)
  have hz1 : w.heap.size + 1 < w1.heap.size := by have := hb1.size; simp at this; omega
  have hz0 : w.heap.size < w1.heap.size := by omega
  go_wp2_with fail
  refine (R.out _).mono ?_; rintro e w2 ⟨rfl, hb2⟩
  have k2 := bel_trans (bel_alloc (bel_refl w1) _) hb2
  have X0 := cell_later k2 x0
  have X1 := cell_later k2 x1
  have Y0 := cell_later k2 y0
  have Y1 := cell_later k2 y1
  have s0 : w2.cell? ⟨w1.heap.size, 0, none⟩ = some (.int .u64 (addHi c d f g)) := cell_later hb2 (by simp)
  have s1 : w2.cell? ⟨w1.heap.size, 1, none⟩ = some (.int .u64 (addLo c d f g)) := cell_later hb2 (by simp)
  have hz2 := bel_more hb2
  have hz3 : w.heap.size < w2.heap.size := by omega
  have hz4 : w.heap.size + 1 < w2.heap.size := by omega
  clear x0 x1 y0 y1
  go_wp2_with fail
  have k3 := bel_alloc (bel_refl w2) (.cells #[.int .u64 (addHi c d f g), .int .u64 (addLo c d f g)] 25)
  have x0 := cell_later k3 X0
  have x1 := cell_later k3 X1
  have y0 := cell_later k3 Y0
  have y1 := cell_later k3 Y1
  have p0 := cell_later k3 s0
  have p1 := cell_later k3 s1
  have q0 : (w2.alloc (.cells #[.int .u64 (addHi c d f g), .int .u64 (addLo c d f g)] 25)).cell? ⟨w2.heap.size, 0, none⟩ = some (.int .u64 (addHi c d f g)) := by simp
  have q1 : (w2.alloc (.cells #[.int .u64 (addHi c d f g), .int .u64 (addLo c d f g)] 25)).cell? ⟨w2.heap.size, 1, none⟩ = some (.int .u64 (addLo c d f g)) := by simp
  have B := bel_trans (bel_trans (bel_trans b0 hb1) k2) k3
  clear X0 X1 Y0 Y1 s0 s1 hb1 hb2 k2 k3
  generalize w2.alloc (.cells #[.int .u64 (addHi c d f g), .int .u64 (addLo c d f g)] 25) = W at *
  have x0 := cell_regrown x0
  have x1 := cell_regrown x1
  have y0 := cell_regrown y0
  have y1 := cell_regrown y1
  have p0 := cell_regrown p0
  have p1 := cell_regrown p1
  have q0 := cell_regrown q0
  have q1 := cell_regrown q1
  have m0 : ∀ {f : FuncId} {args : Array Value} {v : Value} {w : World}, (Calls Try.prog f args w fun e w' => e = .returned v ∧ w = w') → Calls Try.prog f args w fun e w' => e = .returned v ∧ Below w.heap.size w w' :=
    fun h => h.mono fun e w' hh => ⟨hh.1, hh.2 ▸ bel_refl _⟩
  have D1 := Lib.hid (fun p : Regrown => Calls.regrown_of (m0 (abs_any v h4 h5 (grow (redrawn W p.d) p.os))))
  have D2 := Lib.hid (fun p : Regrown => Calls.regrown_of (m0 (refAbs_any v h4 h5 (grow (redrawn W p.d) p.os))))
  have D3 := Lib.hid (fun p : Regrown => Calls.regrown_of (mul_any a b h0 h1 h2 h3 (grow (redrawn W p.d) p.os)))
  have D4 := Lib.hid (fun p : Regrown => Calls.regrown_of (refMul_any a b h0 h1 h2 h3 (grow (redrawn W p.d) p.os)))
  have D5 := Lib.hid (fun p : Regrown => Calls.regrown_of (sq_any v h4 h5 (grow (redrawn W p.d) p.os)))
  have D6 := Lib.hid (fun p : Regrown => Calls.regrown_of (refSq_any v h4 h5 (grow (redrawn W p.d) p.os)))
  have D7 := Lib.hid (fun p : Regrown => Calls.regrown_of (cmp_any c d f g d0 d1 g0 g1 (grow (redrawn W p.d) p.os)))
  have D8 := Lib.hid (fun p : Regrown => Calls.regrown_of (refCmp_any c d f g d0 d1 g0 g1 (grow (redrawn W p.d) p.os)))
  have d9 := fun p : Regrown => Calls.regrown_of (cmp_any c d c d d0 d1 d0 d1 (grow (redrawn W p.d) p.os))
  rw [show cmpWide c d c d = 0 from hs.out] at d9
  have D9 := Lib.hid d9
  have DA := Lib.hid (fun p : Regrown => Calls.regrown_of (awake_any (grow (redrawn W p.d) p.os)))
  clear m0 d9
  refine wp_region_quiet_below (by kernel_rfl) (by kernel_rfl) ?_
  repeat (go_big_quiet_step (first | with_reducible exact D1.out _ | with_reducible exact D2.out _ | with_reducible exact D3.out _ | with_reducible exact D4.out _ | with_reducible exact D5.out _ | with_reducible exact D6.out _ | with_reducible exact D7.out _ | with_reducible exact D8.out _ | with_reducible exact D9.out _ | with_reducible exact DA.out _))
  refine wpQuiet_nil ?_
  intro _ hw'
  obtain ⟨⟨dq, osq⟩, hw''⟩ := hw'
  subst hw''
  go_wp2
  go_ret
  exact ⟨rfl, bel_trans B (below_regrown W dq osq)⟩
theorem own : ownKnob Try.prog.godebug = none := by kernel_rfl
set_option maxRecDepth 100000 in
theorem lifted (os : Os) (started : os.Started) (H : Type) (enc : TypeId × Value → H) :
    ReturnsInHanded {} Try.checked os 4 .any (Rows.wideTellsSpec.pre6 enc Try.prog Try.f4 Rows.wideTellsRow.domain false) (Rows.wideTellsSpec.post enc Try.prog Try.f4 false true false false) := by
  refine returnsInHanded_of_change (C := Try.checked) own started (by kernel_rfl) Try.func4
    (ChangeSpec.witness6 (enc := enc) (C := Try.checked) false ⟨#[], #[.int .u64 0, .int .u64 0, .int .i64 0, .agg #[.int .u64 0, .int .u64 0], .agg #[.int .u64 0, .int .u64 0]], []⟩ 8 (by kernel_rfl) (by kernel_rfl) (by kernel_rfl) (by kernel_rfl)) ?_
  intro W base args ds gs before hval0 hW _ _
  have hval : ∀ (j : Nat) t v, Try.f4.params[j]? = some t → args[j]? = some v → Value.okWide Try.prog W .any base t v := hval0
  have hW' := hW
  obtain ⟨p, q, hA0, hV, rfl, hfz, hnd⟩ := hW
  have hA : DataW.TrodAll enc Try.prog W 0 (fun _ => true) true Try.f4.params.toList args.toList ds p := hA0
  rw [Try.params4] at hA hval
  obtain ⟨v0, vs0, d0, ds0, p0, q0, hargs, rfl, rfl, h0, r0⟩ := trodAll_cons hA
  obtain ⟨v1, vs1, d1, ds1, p1, q1, rfl, rfl, rfl, h1, r1⟩ := trodAll_cons r0
  obtain ⟨v2, vs2, d2, ds2, p2, q2, rfl, rfl, rfl, h2, r2⟩ := trodAll_cons r1
  obtain ⟨v3, vs3, d3, ds3, p3, q3, rfl, rfl, rfl, h3, r3⟩ := trodAll_cons r2
  obtain ⟨v4, vs4, d4, ds4, p4, q4, rfl, rfl, rfl, h4, r4⟩ := trodAll_cons r3
  obtain ⟨rfl, rfl, rfl⟩ := trodAll_nil r4
  obtain rfl : args = #[v0, v1, v2, v3, v4] := by cases args; simp_all
  obtain ⟨rfl, rfl⟩ := trodVars_none hV
  obtain ⟨a0, rfl, rfl, rfl, w0⟩ := open_int Try.underlying22 (hval 0 22 v0 rfl rfl) h0
  obtain ⟨a1, rfl, rfl, rfl, w1⟩ := open_int Try.underlying22 (hval 1 22 v1 rfl rfl) h1
  obtain ⟨a2, rfl, rfl, rfl, w2⟩ := open_int Try.underlying2 (hval 2 2 v2 rfl rfl) h2
  obtain ⟨c3_0, c3_1, y3_0, y3_1, m3, rfl, rfl, rfl, k3_0, k3_1⟩ := open_agg2 Try.underlying25 (by kernel_rfl) (by kernel_rfl) (hval 3 25 v3 rfl rfl) h3
  obtain ⟨a3_0, ea3_0, rfl, wa3_0⟩ := DataW.trod_int Try.underlying22 k3_0
  simp at ea3_0; subst ea3_0
  obtain ⟨a3_1, ea3_1, rfl, wa3_1⟩ := DataW.trod_int Try.underlying22 k3_1
  simp at ea3_1; subst ea3_1
  obtain ⟨c4_0, c4_1, y4_0, y4_1, m4, rfl, rfl, rfl, k4_0, k4_1⟩ := open_agg2 Try.underlying25 (by kernel_rfl) (by kernel_rfl) (hval 4 25 v4 rfl rfl) h4
  obtain ⟨a4_0, ea4_0, rfl, wa4_0⟩ := DataW.trod_int Try.underlying22 k4_0
  simp at ea4_0; subst ea4_0
  obtain ⟨a4_1, ea4_1, rfl, wa4_1⟩ := DataW.trod_int Try.underlying22 k4_1
  simp at ea4_1; subst ea4_1
  have s3 : ∀ (W' : World) (sp : Nat → Bool), DataW.Trod enc Try.prog W' 0 sp true 25 (.agg #[.int .u64 a3_0, .int .u64 a3_1]) (.agg [.lit (.int .u64 a3_0), .lit (.int .u64 a3_1)]) [] := fun W' sp =>
    shut_agg2 (y0 := (.lit (.int .u64 a3_0), [])) (y1 := (.lit (.int .u64 a3_1), [])) Try.underlying25 (by kernel_rfl) (by kernel_rfl) ⟨1, by simp [DataW.trod, Try.underlying22, wa3_0]⟩ ⟨1, by simp [DataW.trod, Try.underlying22, wa3_1]⟩
  have s4 : ∀ (W' : World) (sp : Nat → Bool), DataW.Trod enc Try.prog W' 0 sp true 25 (.agg #[.int .u64 a4_0, .int .u64 a4_1]) (.agg [.lit (.int .u64 a4_0), .lit (.int .u64 a4_1)]) [] := fun W' sp =>
    shut_agg2 (y0 := (.lit (.int .u64 a4_0), [])) (y1 := (.lit (.int .u64 a4_1), [])) Try.underlying25 (by kernel_rfl) (by kernel_rfl) ⟨1, by simp [DataW.trod, Try.underlying22, wa4_0]⟩ ⟨1, by simp [DataW.trod, Try.underlying22, wa4_1]⟩
  clear hA0 hval0
  simp only [List.append_nil] at hW'
  refine (walk a0 a1 a2 a3_0 a3_1 a4_0 a4_1 (bounds_u64 w0).1 (bounds_u64 w0).2 (bounds_u64 w1).1 (bounds_u64 w1).2 (bounds_i64 w2).1 (bounds_i64 w2).2 (bounds_u64 wa3_0).1 (bounds_u64 wa3_0).2 (bounds_u64 wa3_1).1 (bounds_u64 wa3_1).2 (bounds_u64 wa4_0).1 (bounds_u64 wa4_0).2 (bounds_u64 wa4_1).1 (bounds_u64 wa4_1).2 W).mono fun e W' ⟨he, bel⟩ => ?_
  subst he
  exact ⟨_, rfl, _, _, _, [], _, [], hW', trodAll_mk1 (shut_bool Try.underlying4 _), (trodAll_cons_mk (shut_int Try.underlying22 w0) (trodAll_cons_mk (shut_int Try.underlying22 w1) (trodAll_cons_mk (shut_int Try.underlying2 w2) (trodAll_cons_mk (s3 _ _) (trodAll_cons_mk (s4 _ _) trodAll_mk0))))), rfl, bel.frame _, fun h => by cases h⟩
theorem over : Rows.wideTellsRow.holds Try.pinned (OpenSpec.ofChange Rows.wideTellsSpec) :=
  OpenClaim.holds_of_wide 4 Try.f4 rfl rfl rfl rfl rfl rfl rfl ⟨rfl, rfl, rfl, rfl, rfl⟩ rfl rfl rfl rfl rfl (by kernel_rfl) Try.func4 (by kernel_rfl)
    (of_decide_eq_true (by kernel_rfl)) (by unfold Func.isWrapper; first | (rw [if_pos (by decide +kernel)]; kernel_rfl) | (rw [if_neg (by decide +kernel)]; exact ⟨rfl, rfl⟩))
    (fun os started H enc _ => lifted os started H enc)
theorem proved : Rows.WideTellsSaid := over
#print axioms proved
end Go.Proofs.Ytcfakpihbakmmaa.wideTells
