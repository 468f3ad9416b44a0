/- Contracts of package box: what each of its functions returns. -/
import Derived.Test.YtoofbbmddddlcaaProg
import Derived.Test.YtoofbbmddddlcaaBoxMath
import Derived.Lib.QuietBelow
namespace Go.Proofs.Ytoofbbmddddlcaa
open Go.RowKit
open Go.Sort (grow)

/-- The values of a point and of a box. -/
abbrev ptV (x y : Int) : Value := .agg #[.int .i64 x, .int .i64 y]
abbrev boxV (a b c d : Int) : Value := .agg #[.int .i64 a, .int .i64 b, .int .i64 c, .int .i64 d]

theorem nearest_any (v a b : Int) (w : World) :
    Calls Try.prog 52 #[.int .i64 v, .int .i64 a, .int .i64 b] w fun e w' => e = .returned (.int .i64 (nearI v a b)) ∧ w = w' := by
  obtain ⟨m, hm⟩ : ∃ m, (if v < a then a else v) = m := ⟨_, rfl⟩
  obtain ⟨n, hn⟩ : ∃ n, (if b < m then b else m) = n := ⟨_, rfl⟩
  have H := Lib.hid (show nearI v a b = n by unfold nearI mxI mnI; rw [hm, hn])
  go_enter Try.func52, Try.ntmps52
  go_wp2
  go_ret
  exact ⟨by rw [H.out]; rfl, rfl⟩
theorem farthest_any (v a b : Int) (hv : -536870912 ≤ v) (hv' : v ≤ 536870912) (ha : -536870912 ≤ a) (ha' : a ≤ 536870912) (hb : -536870912 ≤ b) (hb' : b ≤ 536870912) (w : World) :
    Calls Try.prog 53 #[.int .i64 v, .int .i64 a, .int .i64 b] w fun e w' => e = .returned (.int .i64 (farI v a b)) ∧ w = w' := by
  by_cases h : v - a < b - v
  · have H := Lib.hid (show farI v a b = b by unfold farI; rw [if_pos h])
    go_enter Try.func53, Try.ntmps53
    go_wp2
    go_ret
    exact ⟨by rw [H.out]; rfl, rfl⟩
  · have H := Lib.hid (show farI v a b = a by unfold farI; rw [if_neg h])
    go_enter Try.func53, Try.ntmps53
    go_wp2
    go_ret
    exact ⟨by rw [H.out]; rfl, rfl⟩
theorem rg_cases (a b : Int) : (-536870912 ≤ a ∧ a ≤ b ∧ b ≤ 536870912 ∧ Hid (rgB a b = true)) ∨ (¬ -536870912 ≤ a ∧ True ∧ True ∧ Hid (rgB a b = false)) ∨ (-536870912 ≤ a ∧ ¬ a ≤ b ∧ True ∧ Hid (rgB a b = false)) ∨ (-536870912 ≤ a ∧ a ≤ b ∧ ¬ b ≤ 536870912 ∧ Hid (rgB a b = false)) := by
  unfold Hid rgB
  simp only [decide_eq_true_eq, decide_eq_false_iff_not, true_and]
  omega
theorem hv_cases (n : Int) : (0 < n ∧ n % 2 = 0 ∧ Hid (hvB n = true)) ∨ (¬ 0 < n ∧ True ∧ Hid (hvB n = false)) ∨ (0 < n ∧ n % 2 = 1 ∧ Hid (hvB n = false)) := by
  unfold Hid hvB
  simp only [decide_eq_true_eq, decide_eq_false_iff_not, true_and]
  omega
theorem has_cases (a b c d x y : Int) : (a ≤ x ∧ x ≤ c ∧ b ≤ y ∧ y ≤ d ∧ Hid (hasB a b c d x y = true)) ∨ (¬ a ≤ x ∧ True ∧ True ∧ True ∧ Hid (hasB a b c d x y = false)) ∨ (a ≤ x ∧ ¬ x ≤ c ∧ True ∧ True ∧ Hid (hasB a b c d x y = false)) ∨ (a ≤ x ∧ x ≤ c ∧ ¬ b ≤ y ∧ True ∧ Hid (hasB a b c d x y = false)) ∨ (a ≤ x ∧ x ≤ c ∧ b ≤ y ∧ ¬ y ≤ d ∧ Hid (hasB a b c d x y = false)) := by
  unfold Hid hasB
  simp only [decide_eq_true_eq, decide_eq_false_iff_not, true_and]
  omega
theorem has_any (a b c d x y : Int) (w : World) :
    Calls Try.prog 30 #[boxV a b c d, ptV x y] w fun e w' => e = .returned (.bool (hasB a b c d x y)) ∧ Below w.heap.size w w' := by
  rcases has_cases a b c d x y with ⟨h1, h2, h3, h4, H⟩ | ⟨h1, h2, h3, h4, H⟩ | ⟨h1, h2, h3, h4, H⟩ | ⟨h1, h2, h3, h4, H⟩ | ⟨h1, h2, h3, h4, H⟩
  all_goals
    go_enter Try.func30, Try.ntmps30
    go_wp2
    go_ret
    exact ⟨by rw [H.out]; rfl, bel_alloc (bel_alloc (bel_refl w) _) _⟩
theorem corners_any (a b c d : Int) (w : World) :
    Calls Try.prog 31 #[boxV a b c d] w fun e w' => e = .returned (.agg #[.int .i64 a, .int .i64 b, .int .i64 c, .int .i64 b, .int .i64 a, .int .i64 d, .int .i64 c, .int .i64 d]) ∧ Below w.heap.size w w' := by
  go_enter Try.func31, Try.ntmps31
  go_wp2
  exact bodyPost_ret (v := .agg #[.int .i64 a, .int .i64 b, .int .i64 c, .int .i64 b, .int .i64 a, .int .i64 d, .int .i64 c, .int .i64 d]) (by simp [results, Try.results31, go_sem]) rfl ⟨rfl, bel_alloc (bel_alloc (bel_refl w) _) _⟩
theorem okX_eq (a b c d : Int) : okX a b c d = (rgB a c && rgB b d) := by
  unfold okX rgB; rw [Bool.decide_and]
end Go.Proofs.Ytoofbbmddddlcaa
