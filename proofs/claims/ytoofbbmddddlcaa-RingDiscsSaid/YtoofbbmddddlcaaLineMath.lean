/- Plain mathematics of strokes as package line has them: a point near an end, or beside the segment. No program in it. -/
import Derived.Test.YtoofbbmddddlcaaStrokeLaws
import Derived.Test.YtoofbbmddddlcaaMath
namespace Go.Proofs.Ytoofbbmddddlcaa
open Go.RowKit

/-- Whether a square of a distance is at most that of the radius. -/
def nearB (r n : Int) : Bool := decide (n ≤ r * r)
/-- Whether a point lies beside the segment, near enough to its line. -/
def besideB (r t L k : Int) : Bool := decide (0 < t ∧ t < L ∧ k * k ≤ r * r * L)
theorem besideB_low {r t L k : Int} (h : t ≤ 0) : besideB r t L k = false := decide_eq_false (by omega)
theorem besideB_high {r t L k : Int} (h : L ≤ t) : besideB r t L k = false := decide_eq_false (by omega)
theorem besideB_mid {r t L k : Int} (h : 0 < t) (g : t < L) : besideB r t L k = decide (k * k ≤ r * r * L) := by
  unfold besideB; rw [decide_eq_decide]; exact ⟨fun x => x.2.2, fun x => ⟨h, g, x⟩⟩
/-- A comparison of squares as wide numbers. -/
theorem cmp_sqs (k L q : Int) : (decide (cmpWide (mulHi (absI k) (absI k)) (mulLo (absI k) (absI k)) (mulHi L q) (mulLo L q) ≤ 0)) = decide (k * k ≤ q * L) := by
  rw [cmpMul, decide_eq_decide]
  have e : absI k * absI k = k * k := by unfold absI; split <;> grind
  rw [e, Int.mul_comm L q]
  rcases cmpW_cases (k * k) (q * L) with ⟨h, h'⟩ | ⟨h, h'⟩ | ⟨h, h'⟩ <;> rw [h'] <;> omega
theorem cmp_sqs' (k L q : Int) : (decide (cmpWide (mulHi (absI k) (absI k)) (mulLo (absI k) (absI k)) (mulHi q L) (mulLo q L) ≤ 0)) = decide (k * k ≤ q * L) := by
  rw [mulHi_comm q L, mulLo_comm q L]; exact cmp_sqs k L q
theorem cmp_near (n r : Int) : (decide (cmpWide 0 n (mulHi (absI r) (absI r)) (mulLo (absI r) (absI r)) ≤ 0)) = nearB r n := by
  unfold nearB cmpWide
  rw [mul_Wv, decide_eq_decide]
  have e : absI r * absI r = r * r := by unfold absI; split <;> grind
  have e0 : Wv 0 n = n := by unfold Wv; omega
  rw [e, e0]
  rcases cmpW_cases n (r * r) with ⟨h, h'⟩ | ⟨h, h'⟩ | ⟨h, h'⟩ <;> rw [h'] <;> omega
theorem strk_end1 {a1 a2 c1 c2 r s t : Int} (h : sqI a1 a2 s t ≤ r * r) : strk a1 a2 c1 c2 r s t :=
  strk_disc (N := 1) (m := 0) (u := a1) (v := a2) (by omega) (by omega) (by omega) (by omega) (by omega) h
theorem strk_end2 {a1 a2 c1 c2 r s t : Int} (h : sqI c1 c2 s t ≤ r * r) : strk a1 a2 c1 c2 r s t :=
  strk_disc (N := 1) (m := 1) (u := c1) (v := c2) (by omega) (by omega) (by omega) (by omega) (by omega) h
/-- The order in which package line asks. -/
theorem lineB_asks {a1 a2 c1 c2 r s t : Int} (hr : 1 ≤ r) : lineB a1 a2 c1 c2 r s t = (nearB r (sqI a1 a2 s t) || nearB r (sqI c1 c2 s t) || besideB r (dotI a1 a2 c1 c2 s t) (sqI a1 a2 c1 c2) (crI a1 a2 c1 c2 s t)) := by
  rw [Bool.eq_iff_iff, Bool.or_eq_true, Bool.or_eq_true]
  unfold nearB besideB
  rw [decide_eq_true_eq, decide_eq_true_eq, decide_eq_true_eq]
  constructor
  · intro h
    unfold lineB at h
    obtain ⟨_, h⟩ := of_decide_eq_true h
    rw [sqI_comm s t a1 a2, sqI_comm s t c1 c2] at h
    rcases h with ⟨_, h⟩ | ⟨_, _, h⟩ | h
    · exact .inl (.inl h)
    · exact .inl (.inr h)
    · exact .inr h
  · rintro ((h | h) | ⟨h1, h2, h3⟩)
    · exact (line_iff hr).2 (strk_end1 h)
    · exact (line_iff hr).2 (strk_end2 h)
    · unfold lineB; exact decide_eq_true ⟨hr, .inr (.inr ⟨h1, h2, h3⟩)⟩
/-- The order in which the document's answer asks. -/
theorem lineB_low {a1 a2 c1 c2 r s t : Int} (hr : 1 ≤ r) (h : dotI a1 a2 c1 c2 s t ≤ 0) : lineB a1 a2 c1 c2 r s t = decide (sqI s t a1 a2 ≤ r * r) := by
  unfold lineB; rw [decide_eq_decide]; omega
theorem lineB_high {a1 a2 c1 c2 r s t : Int} (hr : 1 ≤ r) (h : 0 < dotI a1 a2 c1 c2 s t) (g : sqI a1 a2 c1 c2 ≤ dotI a1 a2 c1 c2 s t) : lineB a1 a2 c1 c2 r s t = decide (sqI s t c1 c2 ≤ r * r) := by
  unfold lineB; rw [decide_eq_decide]; omega
theorem lineB_mid {a1 a2 c1 c2 r s t : Int} (hr : 1 ≤ r) (h : 0 < dotI a1 a2 c1 c2 s t) (g : dotI a1 a2 c1 c2 s t < sqI a1 a2 c1 c2) : lineB a1 a2 c1 c2 r s t = decide (crI a1 a2 c1 c2 s t * crI a1 a2 c1 c2 s t ≤ r * r * sqI a1 a2 c1 c2) := by
  unfold lineB; rw [decide_eq_decide]; omega
/-- Bounds: no number of these overflows. -/
theorem sqI_bd {x y u v : Int} (x0 : -536870912 ≤ x) (x1 : x ≤ 536870912) (y0 : -536870912 ≤ y) (y1 : y ≤ 536870912) (u0 : -536870912 ≤ u) (u1 : u ≤ 536870912) (v0 : -536870912 ≤ v) (v1 : v ≤ 536870912) : 0 ≤ sqI x y u v ∧ sqI x y u v ≤ 2305843009213693952 := by
  have m1 := mul_bd (X := u - x) (Y := u - x) (by omega) (by omega) (by omega) (by omega)
  have m2 := mul_bd (X := v - y) (Y := v - y) (by omega) (by omega) (by omega) (by omega)
  have p1 := sq_nonneg (u - x)
  have p2 := sq_nonneg (v - y)
  unfold sqI; omega
theorem crI_bd {x y u v s t : Int} (x0 : -536870912 ≤ x) (x1 : x ≤ 536870912) (y0 : -536870912 ≤ y) (y1 : y ≤ 536870912) (u0 : -536870912 ≤ u) (u1 : u ≤ 536870912) (v0 : -536870912 ≤ v) (v1 : v ≤ 536870912) (s0 : -536870912 ≤ s) (s1 : s ≤ 536870912) (t0 : -536870912 ≤ t) (t1 : t ≤ 536870912) : -2305843009213693952 ≤ crI x y u v s t ∧ crI x y u v s t ≤ 2305843009213693952 := by
  have m1 := mul_bd (X := u - x) (Y := t - y) (by omega) (by omega) (by omega) (by omega)
  have m2 := mul_bd (X := v - y) (Y := s - x) (by omega) (by omega) (by omega) (by omega)
  unfold crI; omega
theorem dotI_bd {x y u v s t : Int} (x0 : -536870912 ≤ x) (x1 : x ≤ 536870912) (y0 : -536870912 ≤ y) (y1 : y ≤ 536870912) (u0 : -536870912 ≤ u) (u1 : u ≤ 536870912) (v0 : -536870912 ≤ v) (v1 : v ≤ 536870912) (s0 : -536870912 ≤ s) (s1 : s ≤ 536870912) (t0 : -536870912 ≤ t) (t1 : t ≤ 536870912) : -2305843009213693952 ≤ dotI x y u v s t ∧ dotI x y u v s t ≤ 2305843009213693952 := by
  have m1 := mul_bd (X := u - x) (Y := s - x) (by omega) (by omega) (by omega) (by omega)
  have m2 := mul_bd (X := v - y) (Y := t - y) (by omega) (by omega) (by omega) (by omega)
  unfold dotI; omega
theorem nearS_nn (a b c d x y : Int) : 0 ≤ nearS a b c d x y := Int.add_nonneg (sq_nonneg _) (sq_nonneg _)
theorem dot_sq (x y u v : Int) : dotI x y u v u v = sqI x y u v := rfl
/-- The class, told by how many corners are in the stroke. -/
theorem lineK_of {a b c d a1 a2 c1 c2 r n : Int} {h0 h1 h2 h3 hm : Bool} {m1 m2 q : Int} (hr : ¬ r < 1) (e0 : lineB a1 a2 c1 c2 r a b = h0) (e1 : lineB a1 a2 c1 c2 r c b = h1) (e2 : lineB a1 a2 c1 c2 r a d = h2) (e3 : lineB a1 a2 c1 c2 r c d = h3)
    (em : meetB a b c d a1 a2 c1 c2 = hm) (f1 : nearS a b c d a1 a2 = m1) (f2 : nearS a b c d c1 c2 = m2) (hq : r * r = q) (hn : n = found h0 h1 h2 h3 4) :
    lineK a b c d a1 a2 c1 c2 r = if n = 4 then 2 else if 0 < n then 1 else if hm then 1 else if m1 ≤ q then 1 else if m2 ≤ q then 1 else 0 := by
  unfold lineK
  rw [if_neg hr, e0, e1, e2, e3, em, f1, f2, hq]
  subst hn
  by_cases g1 : m1 ≤ q <;> by_cases g2 : m2 ≤ q <;> cases h0 <;> cases h1 <;> cases h2 <;> cases h3 <;> cases hm <;> simp [allB, anyB, found, g1, g2]
end Go.Proofs.Ytoofbbmddddlcaa
