/- The integer part and the decimals are read each for itself: what the document's digits of both parts make with a point between them is read as that number, with a minus sign as its opposite, and with a seventh decimal not at all. For all integer parts and decimals (which the law takes modulo 10^6). No condition. -/
import Derived.Test.YtpojkpiadbpooaaRows
import Derived.Test.YtpojkpiadbpooaaAwake2
import Derived.Test.YtpojkpiadbpooaaRefDeci
import Derived.ProofKit
import Derived.OpenShut
import Derived.ShutString
import Derived.ChangeOld
import Derived.Below
import Derived.ChangeMaps5
import Derived.Lib.SmallJoins
namespace Go.Proofs.Ytpojkpiadbpooaa.deciParts
open Go.ChangeShapes Go.WideShapes Go.ChangeAt Go.RowKit Go.Joins

set_option maxRecDepth 100000 in
set_option maxHeartbeats 1000000 in
theorem walk (a b : Int) (m : Bool) (h0 : -9223372036854775808 ≤ a) (h1 : a ≤ 9223372036854775807) (h2 : -9223372036854775808 ≤ b) (h3 : b ≤ 9223372036854775807) (w : World) :
    Calls Try.prog 6 #[.int .i64 a, .int .i64 b, .bool m] w fun e w' => e = .returned (.bool true) ∧ Below w.heap.size w w' := by
  obtain ⟨a0, a1⟩ := tmod_bd a 1000000 (by omega)
  obtain ⟨b0, b1⟩ := tmod_bd b 1000000 (by omega)
  go_enter Try.func6, Try.ntmps6
  go_wp2_with fail
  rw [show (a.tmod 1000000 + 1000000) % 1000000 = a.tmod 1000000 % 1000000 from by omega, show (b.tmod 1000000 + 1000000) % 1000000 = b.tmod 1000000 % 1000000 from by omega]
  have x0 : 0 ≤ a.tmod 1000000 % 1000000 := by omega
  have x1 : a.tmod 1000000 % 1000000 < 1000000 := by omega
  have y0 : 0 ≤ b.tmod 1000000 % 1000000 := by omega
  have y1 : b.tmod 1000000 % 1000000 < 1000000 := by omega
  generalize a.tmod 1000000 % 1000000 = x at *
  generalize b.tmod 1000000 % 1000000 = y at *
  obtain ⟨p1, p2, p3, p4⟩ := parts_num x0 x1 y0 y1
  have n1 := numL_six (n := x.toNat) (by omega)
  have n2 := numL_six6 (n := y.toNat) (by omega)
  have hc : ({ data := (numL x.toNat 1).toArray } : ByteArray) ++ ({ data := #[46] } : ByteArray) ++ ({ data := (numL y.toNat 6).toArray } : ByteArray) = { data := (partsL x y).toArray } := str_app3 _ [46] _
  have hh : ∃ c r, partsL x y ++ [48] = c :: r ∧ dig c = true := by
    obtain ⟨c, r, e, h⟩ := p3
    exact ⟨c, r ++ [48], by rw [e]; rfl, h⟩
  have P1 := Lib.hid (fun w => parse_at (partsL x y) (some (1000000 * x + y)) (by rw [parse_head p3, p1]) (by omega) w)
  have P2 := Lib.hid (fun w => parse_at (partsL x y ++ [48]) none (by rw [parse_head hh, p2]) (by simp; omega) w)
  have P3 := Lib.hid (fun w => parse_at (45 :: partsL x y) (some (-(1000000 * x + y))) (by rw [parse_neg, p1]; rfl) (by simp; omega) w)
  have P4 := Lib.hid (fun w => parse_at (45 :: (partsL x y ++ [48])) none (by rw [parse_neg, p2]; rfl) (by simp; omega) w)
  clear p1 p2 p3 hh
  refine (num_int _ _ (by omega) (by omega) (by omega) (by omega) _).mono ?_; rintro e w' ⟨rfl, rfl⟩
  go_wp2_with fail
  refine (num_int _ _ (by omega) (by omega) (by omega) (by omega) _).mono ?_; rintro e w' ⟨rfl, rfl⟩
  cases m
  · have hz : ({ data := (partsL x y).toArray } : ByteArray) ++ ({ data := #[48] } : ByteArray) = { data := (partsL x y ++ [48]).toArray } := str_app _ [48]
    go_wp2_with fail
    refine (P1.out _).mono ?_; rintro e w1 ⟨rfl, b1⟩
    go_wp2_with fail
    refine (P2.out _).mono ?_; rintro e w2 ⟨rfl, b2⟩
    go_wp2_with fail
    refine (awake_any _).mono ?_; rintro e w3 ⟨rfl, b3⟩
    go_wp2
    go_ret
    exact ⟨rfl, bel_trans (bel_trans b1 b2) b3⟩
  · have hs : ({ data := #[45] } : ByteArray) ++ ({ data := (partsL x y).toArray } : ByteArray) = { data := (45 :: partsL x y).toArray } := str_app [45] _
    have hz : ({ data := (45 :: partsL x y).toArray } : ByteArray) ++ ({ data := #[48] } : ByteArray) = { data := (45 :: (partsL x y ++ [48])).toArray } := str_app _ [48]
    go_wp2_with fail
    refine (P3.out _).mono ?_; rintro e w1 ⟨rfl, b1⟩
    go_wp2_with fail
    refine (P4.out _).mono ?_; rintro e w2 ⟨rfl, b2⟩
    go_wp2_with fail
    refine (awake_any _).mono ?_; rintro e w3 ⟨rfl, b3⟩
    go_wp2
    go_ret
    exact ⟨rfl, bel_trans (bel_trans b1 b2) b3⟩
theorem own : ownKnob Try.prog.godebug = none := by kernel_rfl
set_option maxRecDepth 100000 in
theorem lifted (os : Os) (started : os.Started) (H : Type) (enc : TypeId × Value → H) :
    ReturnsInHanded {} Try.checked os 6 .any (Rows.deciPartsSpec.pre6 enc Try.prog Try.f6 Rows.deciPartsRow.domain false) (Rows.deciPartsSpec.post enc Try.prog Try.f6 false true false false) := by
  refine returnsInHanded_of_change (C := Try.checked) own started (by kernel_rfl) Try.func6
    (ChangeSpec.witness6 (enc := enc) (C := Try.checked) false ⟨#[], #[.int .i64 0, .int .i64 0, .bool false], []⟩ 8 (by kernel_rfl) (by kernel_rfl) (by kernel_rfl) (by kernel_rfl)) ?_
  intro W base args ds gs before hval0 hW _ _
  have hval : ∀ (j : Nat) t v, Try.f6.params[j]? = some t → args[j]? = some v → Value.okWide Try.prog W .any base t v := hval0
  have hW' := hW
  obtain ⟨p, q, hA0, hV, rfl, hfz, hnd⟩ := hW
  have hA : DataW.TrodAll enc Try.prog W 0 (fun _ => true) true Try.f6.params.toList args.toList ds p := hA0
  rw [Try.params6] at hA hval
  obtain ⟨v0, vs0, d0, ds0, p0, q0, hargs, rfl, rfl, h0, r0⟩ := trodAll_cons hA
  obtain ⟨v1, vs1, d1, ds1, p1, q1, rfl, rfl, rfl, h1, r1⟩ := trodAll_cons r0
  obtain ⟨v2, vs2, d2, ds2, p2, q2, rfl, rfl, rfl, h2, r2⟩ := trodAll_cons r1
  obtain ⟨rfl, rfl, rfl⟩ := trodAll_nil r2
  obtain rfl : args = #[v0, v1, v2] := by cases args; simp_all
  obtain ⟨rfl, rfl⟩ := trodVars_none hV
  obtain ⟨a0, rfl, rfl, rfl, w0⟩ := open_int Try.underlying2 (hval 0 2 v0 rfl rfl) h0
  obtain ⟨a1, rfl, rfl, rfl, w1⟩ := open_int Try.underlying2 (hval 1 2 v1 rfl rfl) h1
  obtain ⟨a2, rfl, rfl, rfl⟩ := open_bool Try.underlying4 (hval 2 4 v2 rfl rfl) h2
  clear hA0 hval0
  simp only [List.append_nil] at hW'
  refine (walk a0 a1 a2 (bounds_i64 w0).1 (bounds_i64 w0).2 (bounds_i64 w1).1 (bounds_i64 w1).2 W).mono fun e W' ⟨he, bel⟩ => ?_
  subst he
  exact ⟨_, rfl, _, _, _, [], _, [], hW', trodAll_mk1 (shut_bool Try.underlying4 _), (trodAll_cons_mk (shut_int Try.underlying2 w0) (trodAll_cons_mk (shut_int Try.underlying2 w1) (trodAll_cons_mk (shut_bool Try.underlying4 a2) trodAll_mk0))), rfl, bel.frame _, fun h => by cases h⟩
theorem over : Rows.deciPartsRow.holds Try.pinned (OpenSpec.ofChange Rows.deciPartsSpec) :=
  OpenClaim.holds_of_wide 6 Try.f6 rfl rfl rfl rfl rfl rfl rfl ⟨rfl, rfl, rfl, rfl, rfl⟩ rfl rfl rfl rfl rfl (by kernel_rfl) Try.func6 (by kernel_rfl)
    (of_decide_eq_true (by kernel_rfl)) (by unfold Func.isWrapper; first | (rw [if_pos (by decide +kernel)]; kernel_rfl) | (rw [if_neg (by decide +kernel)]; exact ⟨rfl, rfl⟩))
    (fun os started H enc _ => lifted os started H enc)
theorem proved : Rows.DeciPartsSaid := over
#print axioms proved
end Go.Proofs.Ytpojkpiadbpooaa.deciParts
