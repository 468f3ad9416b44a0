/- Plain mathematics of rings: a box's class is sure of each of its points. No program in it. -/
import Derived.Test.YtoofbbmddddlcaaRingMove
namespace Go.Proofs.Ytoofbbmddddlcaa
open Go.RowKit

theorem discK_sure {a b c d x y s t r k : Int} {h : Bool} (ac : a ≤ c) (bd : b ≤ d) (sa : a ≤ s) (sc : s ≤ c) (tb : b ≤ t) (td : t ≤ d) (hk : discK r (nearS a b c d x y) (mostS a b c d x y) = k) (hh : discB r (sqI x y s t) = h) :
    k = 1 ∨ (k = 2 ∧ h = true) ∨ (k = 0 ∧ h = false) := by
  have p := near_le (x := x) (y := y) ac bd sa sc tb td
  have q := most_ge (x := x) (y := y) sa sc tb td
  have e : sqI x y s t = (x - s) * (x - s) + (y - t) * (y - t) := by unfold sqI; grind
  rw [← e] at p q
  unfold discK at hk
  unfold discB at hh
  split at hk
  · exact .inr (.inr ⟨hk.symm, by rw [← hh]; exact decide_eq_false (by omega)⟩)
  split at hk
  · exact .inr (.inr ⟨hk.symm, by rw [← hh]; exact decide_eq_false (by omega)⟩)
  split at hk
  · exact .inr (.inl ⟨hk.symm, by rw [← hh]; exact decide_eq_true (by omega)⟩)
  · exact .inl hk.symm
theorem ringC_sure {a b c d cx cy ax ay ex ey r s t k : Int} {h : Bool} (ac : a ≤ c) (bd : b ≤ d) (sa : a ≤ s) (sc : s ≤ c) (tb : b ≤ t) (td : t ≤ d) (hk : ringC a b c d cx cy ax ay ex ey r = k) (hh : ringP s t cx cy ax ay ex ey r = h) :
    k = 1 ∨ (k = 2 ∧ h = true) ∨ (k = 0 ∧ h = false) := by
  unfold ringC at hk
  unfold ringP at hh
  by_cases ho : okR cx cy ax ay ex ey = true ∧ 1 ≤ r
  · rw [if_pos ho] at hk
    rw [ho.1, decide_eq_true ho.2, Bool.true_and, Bool.true_and, sqI_comm s t ax ay, sqI_comm s t ex ey, sqI_comm s t cx cy] at hh
    have p := near_le (x := cx) (y := cy) ac bd sa sc tb td
    have q := most_ge (x := cx) (y := cy) sa sc tb td
    have e : sqI cx cy s t = (cx - s) * (cx - s) + (cy - t) * (cy - t) := by unfold sqI; grind
    rw [← e] at p q
    refine ring_sure p q (discK_sure ac bd sa sc tb td rfl rfl) (discK_sure ac bd sa sc tb td rfl rfl) (fun hi => ?_) (fun hf => ?_) hk hh
    · refine inn_sec (fun hu => ?_) (fun hv => ?_) hi
      · unfold u4B at hu
        simp only [Bool.and_eq_true, decide_eq_true_eq] at hu
        exact u_ge sa sc tb td ⟨hu.1.1.1, hu.1.1.2, hu.1.2, hu.2⟩
      · unfold v4B at hv
        simp only [Bool.and_eq_true, decide_eq_true_eq] at hv
        exact v_ge sa sc tb td ⟨hv.1.1.1, hv.1.1.2, hv.1.2, hv.2⟩
    · have U : u0B cx cy ax ay a b c d = true → crI cx cy ax ay s t < 0 := fun hu => by
        unfold u0B at hu
        simp only [Bool.and_eq_true, decide_eq_true_eq] at hu
        exact u_lt sa sc tb td ⟨hu.1.1.1, hu.1.1.2, hu.1.2, hu.2⟩
      have V : v0B cx cy ex ey a b c d = true → crI cx cy s t ex ey < 0 := fun hv => by
        unfold v0B at hv
        simp only [Bool.and_eq_true, decide_eq_true_eq] at hv
        exact v_lt sa sc tb td ⟨hv.1.1.1, hv.1.1.2, hv.1.2, hv.2⟩
      exact off_sec U V (fun hb => by simp only [Bool.and_eq_true] at hb; exact ⟨U hb.1, V hb.2⟩) hf
  · rw [if_neg ho] at hk
    refine .inr (.inr ⟨hk.symm, ?_⟩)
    rw [← hh]
    cases hx : okR cx cy ax ay ex ey with
    | false => rfl
    | true =>
      rw [hx] at ho
      rw [decide_eq_false (show ¬ 1 ≤ r by simpa using ho)]
      rfl
end Go.Proofs.Ytoofbbmddddlcaa
