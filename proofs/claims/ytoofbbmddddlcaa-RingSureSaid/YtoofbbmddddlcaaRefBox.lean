/- Contracts of the document's answer for layer 4: it says the same of boxes and points. -/
import Derived.Test.YtoofbbmddddlcaaBoxM
import Derived.Test.YtoofbbmddddlcaaBoxS
import Derived.Test.YtoofbbmddddlcaaMeetMath
namespace Go.Proofs.Ytoofbbmddddlcaa
open Go.RowKit
open Go.Sort (grow)

theorem refOk_cases (a b c d : Int) : (a ≤ c ∧ b ≤ d ∧ -536870912 ≤ a ∧ -536870912 ≤ b ∧ c ≤ 536870912 ∧ d ≤ 536870912 ∧ Hid (okX a b c d = true)) ∨ (¬ a ≤ c ∧ True ∧ True ∧ True ∧ True ∧ True ∧ Hid (okX a b c d = false)) ∨ (a ≤ c ∧ ¬ b ≤ d ∧ True ∧ True ∧ True ∧ True ∧ Hid (okX a b c d = false)) ∨
    (a ≤ c ∧ b ≤ d ∧ ¬ -536870912 ≤ a ∧ True ∧ True ∧ True ∧ Hid (okX a b c d = false)) ∨ (a ≤ c ∧ b ≤ d ∧ -536870912 ≤ a ∧ ¬ -536870912 ≤ b ∧ True ∧ True ∧ Hid (okX a b c d = false)) ∨ (a ≤ c ∧ b ≤ d ∧ -536870912 ≤ a ∧ -536870912 ≤ b ∧ ¬ c ≤ 536870912 ∧ True ∧ Hid (okX a b c d = false)) ∨ (a ≤ c ∧ b ≤ d ∧ -536870912 ≤ a ∧ -536870912 ≤ b ∧ c ≤ 536870912 ∧ ¬ d ≤ 536870912 ∧ Hid (okX a b c d = false)) := by
  unfold Hid okX
  simp only [decide_eq_true_eq, decide_eq_false_iff_not, true_and]
  omega
theorem refCorners_any (a b c d : Int) (w : World) :
    Calls Try.prog 39 #[boxV a b c d] w fun e w' => e = .returned (.agg #[.int .i64 a, .int .i64 b, .int .i64 c, .int .i64 b, .int .i64 a, .int .i64 d, .int .i64 c, .int .i64 d]) ∧ Below w.heap.size w w' := by
  go_enter Try.func39, Try.ntmps39
  go_wp2
  exact bodyPost_ret (v := .agg #[.int .i64 a, .int .i64 b, .int .i64 c, .int .i64 b, .int .i64 a, .int .i64 d, .int .i64 c, .int .i64 d]) (by simp [results, Try.results39, go_sem]) rfl ⟨rfl, bel_alloc (bel_alloc (bel_refl w) _) _⟩
theorem refApart_cases (a b c d e f g h : Int) (hac : a ≤ c) (hbd : b ≤ d) (heg : e ≤ g) (hfh : f ≤ h) : (c < e ∧ True ∧ True ∧ True ∧ Hid (apB a b c d e f g h = true)) ∨ (¬ c < e ∧ g < a ∧ True ∧ True ∧ Hid (apB a b c d e f g h = true)) ∨ (¬ c < e ∧ ¬ g < a ∧ d < f ∧ True ∧ Hid (apB a b c d e f g h = true)) ∨ (¬ c < e ∧ ¬ g < a ∧ ¬ d < f ∧ h < b ∧ Hid (apB a b c d e f g h = true)) ∨ (¬ c < e ∧ ¬ g < a ∧ ¬ d < f ∧ ¬ h < b ∧ Hid (apB a b c d e f g h = false)) := by
  unfold Hid apB
  rw [shB_eq, shB_eq]
  simp only [Bool.or_eq_true, Bool.or_eq_false_iff, Bool.not_eq_true', Bool.not_eq_false', decide_eq_true_eq, decide_eq_false_iff_not, true_and]
  omega
theorem sq_turn (x y u v : Int) : sqI x y u v = (x - u) * (x - u) + (y - v) * (y - v) := by
  unfold sqI
  rw [← Int.neg_mul_neg (x - u) (x - u), ← Int.neg_mul_neg (y - v) (y - v), Int.neg_sub, Int.neg_sub]
set_option maxHeartbeats 1000000 in
theorem dist_any (x y u v : Int) (x0 : -536870912 ≤ x) (x1 : x ≤ 536870912) (y0 : -536870912 ≤ y) (y1 : y ≤ 536870912) (u0 : -536870912 ≤ u) (u1 : u ≤ 536870912) (v0 : -536870912 ≤ v) (v1 : v ≤ 536870912) (w : World) :
    Calls Try.prog 38 #[ptV x y, ptV u v] w fun e w' => e = .returned (.int .i64 (sqI x y u v)) ∧ Below w.heap.size w w' := by
  have m1 := mul_bd (X := x - u) (Y := x - u) (by omega) (by omega) (by omega) (by omega)
  have m2 := mul_bd (X := y - v) (Y := y - v) (by omega) (by omega) (by omega) (by omega)
  have H := Lib.hid (sq_turn x y u v)
  go_enter Try.func38, Try.ntmps38
  go_wp2
  go_ret
  exact ⟨by rw [H.out]; rfl, bel_alloc (bel_alloc (bel_refl w) _) _⟩
set_option maxHeartbeats 1000000 in
theorem refCross_any (x y u v s t : Int) (x0 : -536870912 ≤ x) (x1 : x ≤ 536870912) (y0 : -536870912 ≤ y) (y1 : y ≤ 536870912) (u0 : -536870912 ≤ u) (u1 : u ≤ 536870912) (v0 : -536870912 ≤ v) (v1 : v ≤ 536870912) (s0 : -536870912 ≤ s) (s1 : s ≤ 536870912) (t0 : -536870912 ≤ t) (t1 : t ≤ 536870912) (w : World) :
    Calls Try.prog 40 #[ptV x y, ptV u v, ptV s t] w fun e w' => e = .returned (.int .i64 (crI x y u v s t)) ∧ Below w.heap.size w w' := by
  have m1 := mul_bd (X := u - x) (Y := t - y) (by omega) (by omega) (by omega) (by omega)
  have m2 := mul_bd (X := v - y) (Y := s - x) (by omega) (by omega) (by omega) (by omega)
  have H := Lib.hid (show crI x y u v s t = (u - x) * (t - y) - (v - y) * (s - x) from rfl)
  go_enter Try.func40, Try.ntmps40
  go_wp2
  go_ret
  exact ⟨by rw [H.out]; rfl, bel_alloc (bel_alloc (bel_alloc (bel_refl w) _) _) _⟩
set_option maxHeartbeats 1000000 in
theorem refNear_any (a b c d x y : Int) (a0 : -536870912 ≤ a) (ac : a ≤ c) (c1 : c ≤ 536870912) (b0 : -536870912 ≤ b) (bd : b ≤ d) (d1 : d ≤ 536870912) (x0 : -536870912 ≤ x) (x1 : x ≤ 536870912) (y0 : -536870912 ≤ y) (y1 : y ≤ 536870912) (w : World) :
    Calls Try.prog 43 #[boxV a b c d, ptV x y] w fun e w' => e = .returned (.int .i64 (nearS a b c d x y)) ∧ Below w.heap.size w w' := by
  obtain ⟨k, hk⟩ : ∃ k, (if x < a then a else x) = k := ⟨_, rfl⟩
  obtain ⟨m, hm⟩ : ∃ m, (if c < k then c else k) = m := ⟨_, rfl⟩
  obtain ⟨l, hl⟩ : ∃ l, (if y < b then b else y) = l := ⟨_, rfl⟩
  obtain ⟨n, hn⟩ : ∃ n, (if d < l then d else l) = n := ⟨_, rfl⟩
  have em : nearI x a c = m := by unfold nearI mxI mnI; rw [hk, hm]
  have en : nearI y b d = n := by unfold nearI mxI mnI; rw [hl, hn]
  have im := nearI_in x ac
  have inn := nearI_in y bd
  rw [em] at im
  rw [en] at inn
  have H := Lib.hid (show nearS a b c d x y = sqI x y m n by unfold nearS; rw [em, en])
  have C := Lib.hid (fun w => dist_any x y m n x0 x1 y0 y1 (by omega) (by omega) (by omega) (by omega) w)
  clear em en im inn
  go_enter Try.func43, Try.ntmps43
  go_wp2_with fail
  refine (C.out _).mono ?_; rintro e w1 ⟨rfl, b1⟩
  go_wp2
  go_ret
  exact ⟨by rw [H.out]; rfl, bel_trans (bel_alloc (bel_alloc (bel_refl w) _) _) b1⟩
end Go.Proofs.Ytoofbbmddddlcaa
