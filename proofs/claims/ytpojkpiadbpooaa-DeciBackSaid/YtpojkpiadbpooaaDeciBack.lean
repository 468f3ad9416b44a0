/- What Text writes is read back by Parse as the same number; two numbers have the same text just if they are equal; a plus sign changes nothing, a minus sign the sign. For all pairs of numbers of 64 bits (which the law takes modulo 10^12). No condition. -/
import Derived.Test.YtpojkpiadbpooaaRows
import Derived.Test.YtpojkpiadbpooaaAwake2
import Derived.ProofKit
import Derived.OpenShut
import Derived.ShutString
import Derived.ChangeOld
import Derived.Below
import Derived.ChangeMaps5
import Derived.Lib.SmallJoins
namespace Go.Proofs.Ytpojkpiadbpooaa.deciBack
open Go.ChangeShapes Go.WideShapes Go.ChangeAt Go.RowKit Go.Joins

set_option maxRecDepth 100000 in
set_option maxHeartbeats 1000000 in
theorem walk (a b : Int) (h0 : -9223372036854775808 ≤ a) (h1 : a ≤ 9223372036854775807) (h2 : -9223372036854775808 ≤ b) (h3 : b ≤ 9223372036854775807) (w : World) :
    Calls Try.prog 5 #[.int .i64 a, .int .i64 b] w fun e w' => e = .returned (.bool true) ∧ Below w.heap.size w w' := by
  obtain ⟨a0, a1⟩ := tmod_bd a 1000000000000 (by omega)
  obtain ⟨b0, b1⟩ := tmod_bd b 1000000000000 (by omega)
  go_enter Try.func5, Try.ntmps5
  go_wp2_with fail
  generalize a.tmod 1000000000000 = x at *
  generalize b.tmod 1000000000000 = y at *
  have ll := text_len a0 a1
  have hxy := text_inj a0 a1 b0 b1
  have hp := Lib.hid (fun w => parse_at _ _ (parse_text a0 a1) (by omega) w)
  refine (text_any _ _).mono ?_; rintro e w1 ⟨rfl, bw1⟩
  go_wp2_with fail
  refine (text_any _ _).mono ?_; rintro e w2 ⟨rfl, bw2⟩
  go_wp2_with fail
  refine (hp.out _).mono ?_; rintro e w3 ⟨rfl, bw3⟩
  by_cases hx : x < 0
  · obtain ⟨r, hr⟩ : ∃ r, textL x = 45 :: r := ⟨sizeT x.natAbs, by unfold textL; rw [if_pos ⟨a0, a1⟩, if_pos hx]⟩
    rw [hr] at ll hxy ⊢
    have ll2 : r.length ≤ 13 := by simp at ll; omega
    clear hp hr ll
    have hb : ({ data := (45 :: r).toArray } : ByteArray)[0]'(by show 0 < (45 :: r).toArray.size; simp) = 45 := rfl
    go_wp2_with fail
    refine (awake_any _).mono ?_; rintro e w4 ⟨rfl, bw4⟩
    go_wp2
    go_ret
    exact ⟨rfl, bel_trans (bel_trans (bel_trans bw1 bw2) bw3) bw4⟩
  · have hs : textL x = sizeT x.natAbs := by unfold textL; rw [if_pos ⟨a0, a1⟩, if_neg hx]
    have hp1 := Lib.hid (fun w => parse_at (43 :: textL x) (some x) (by rw [hs, parse_plus (by omega)]; congr 1; omega) (by simp; omega) w)
    have hp2 := Lib.hid (fun w => parse_at (45 :: textL x) (some (-x)) (by rw [hs, parse_dash (by omega)]; congr 1; omega) (by simp; omega) w)
    have hc1 : ({ data := #[43] } : ByteArray) ++ ({ data := (textL x).toArray } : ByteArray) = { data := (43 :: textL x).toArray } := str_app [43] _
    have hc2 : ({ data := #[45] } : ByteArray) ++ ({ data := (textL x).toArray } : ByteArray) = { data := (45 :: textL x).toArray } := str_app [45] _
    clear hp hs
    go_wp2_with fail
    refine (hp1.out _).mono ?_; rintro e w4 ⟨rfl, bw4⟩
    go_wp2_with fail
    refine (hp2.out _).mono ?_; rintro e w5 ⟨rfl, bw5⟩
    go_wp2_with fail
    refine (awake_any _).mono ?_; rintro e w6 ⟨rfl, bw6⟩
    go_wp2
    go_ret
    exact ⟨rfl, bel_trans (bel_trans (bel_trans (bel_trans (bel_trans bw1 bw2) bw3) bw4) bw5) bw6⟩
theorem own : ownKnob Try.prog.godebug = none := by kernel_rfl
set_option maxRecDepth 100000 in
theorem lifted (os : Os) (started : os.Started) (H : Type) (enc : TypeId × Value → H) :
    ReturnsInHanded {} Try.checked os 5 .any (Rows.deciBackSpec.pre6 enc Try.prog Try.f5 Rows.deciBackRow.domain false) (Rows.deciBackSpec.post enc Try.prog Try.f5 false true false false) := by
  refine returnsInHanded_of_change (C := Try.checked) own started (by kernel_rfl) Try.func5
    (ChangeSpec.witness6 (enc := enc) (C := Try.checked) false ⟨#[], #[.int .i64 0, .int .i64 0], []⟩ 8 (by kernel_rfl) (by kernel_rfl) (by kernel_rfl) (by kernel_rfl)) ?_
  intro W base args ds gs before hval0 hW _ _
  have hval : ∀ (j : Nat) t v, Try.f5.params[j]? = some t → args[j]? = some v → Value.okWide Try.prog W .any base t v := hval0
  have hW' := hW
  obtain ⟨p, q, hA0, hV, rfl, hfz, hnd⟩ := hW
  have hA : DataW.TrodAll enc Try.prog W 0 (fun _ => true) true Try.f5.params.toList args.toList ds p := hA0
  rw [Try.params5] at hA hval
  obtain ⟨v0, vs0, d0, ds0, p0, q0, hargs, rfl, rfl, h0, r0⟩ := trodAll_cons hA
  obtain ⟨v1, vs1, d1, ds1, p1, q1, rfl, rfl, rfl, h1, r1⟩ := trodAll_cons r0
  obtain ⟨rfl, rfl, rfl⟩ := trodAll_nil r1
  obtain rfl : args = #[v0, v1] := by cases args; simp_all
  obtain ⟨rfl, rfl⟩ := trodVars_none hV
  obtain ⟨a0, rfl, rfl, rfl, w0⟩ := open_int Try.underlying2 (hval 0 2 v0 rfl rfl) h0
  obtain ⟨a1, rfl, rfl, rfl, w1⟩ := open_int Try.underlying2 (hval 1 2 v1 rfl rfl) h1
  clear hA0 hval0
  simp only [List.append_nil] at hW'
  refine (walk a0 a1 (bounds_i64 w0).1 (bounds_i64 w0).2 (bounds_i64 w1).1 (bounds_i64 w1).2 W).mono fun e W' ⟨he, bel⟩ => ?_
  subst he
  exact ⟨_, rfl, _, _, _, [], _, [], hW', trodAll_mk1 (shut_bool Try.underlying4 _), (trodAll_cons_mk (shut_int Try.underlying2 w0) (trodAll_cons_mk (shut_int Try.underlying2 w1) trodAll_mk0)), rfl, bel.frame _, fun h => by cases h⟩
theorem over : Rows.deciBackRow.holds Try.pinned (OpenSpec.ofChange Rows.deciBackSpec) :=
  OpenClaim.holds_of_wide 5 Try.f5 rfl rfl rfl rfl rfl rfl rfl ⟨rfl, rfl, rfl, rfl, rfl⟩ rfl rfl rfl rfl rfl (by kernel_rfl) Try.func5 (by kernel_rfl)
    (of_decide_eq_true (by kernel_rfl)) (by unfold Func.isWrapper; first | (rw [if_pos (by decide +kernel)]; kernel_rfl) | (rw [if_neg (by decide +kernel)]; exact ⟨rfl, rfl⟩))
    (fun os started H enc _ => lifted os started H enc)
theorem proved : Rows.DeciBackSaid := over
#print axioms proved
end Go.Proofs.Ytpojkpiadbpooaa.deciBack
