/- Plain mathematics of bars: what the laws of layer 8 say of classes and points. No program in it. -/
import Derived.Test.YtoofbbmddddlcaaStrokeLaws
namespace Go.Proofs.Ytoofbbmddddlcaa
open Go.RowKit

theorem lineB_flip (a1 a2 c1 c2 r s t : Int) : lineB a2 a1 c2 c1 r t s = lineB a1 a2 c1 c2 r s t := by
  have e1 : dotI a2 a1 c2 c1 t s = dotI a1 a2 c1 c2 s t := by unfold dotI; grind
  have e2 : sqI t s a2 a1 = sqI s t a1 a2 := by unfold sqI; grind
  have e3 : sqI t s c2 c1 = sqI s t c1 c2 := by unfold sqI; grind
  have e4 : sqI a2 a1 c2 c1 = sqI a1 a2 c1 c2 := by unfold sqI; grind
  have e5 : crI a2 a1 c2 c1 t s * crI a2 a1 c2 c1 t s = crI a1 a2 c1 c2 s t * crI a1 a2 c1 c2 s t := by unfold crI; grind
  unfold lineB; rw [e1, e2, e3, e4, e5]
/-- Whether a bar has a point. -/
def barB (a1 a2 c1 c2 h s t : Int) : Bool :=
  decide (1 ≤ h ∧ 0 < sqI a1 a2 c1 c2 ∧ 0 ≤ dotI a1 a2 c1 c2 s t ∧ dotI a1 a2 c1 c2 s t ≤ sqI a1 a2 c1 c2 ∧ crI a1 a2 c1 c2 s t * crI a1 a2 c1 c2 s t ≤ h * h * sqI a1 a2 c1 c2)
/-- Whether a point lies beyond one side of a bar: left, right, before it, behind it. -/
def leftB (a1 a2 c1 c2 h s t : Int) : Bool := decide (h * h * sqI a1 a2 c1 c2 < crI a1 a2 c1 c2 s t * crI a1 a2 c1 c2 s t ∧ 0 < crI a1 a2 c1 c2 s t)
def rightB (a1 a2 c1 c2 h s t : Int) : Bool := decide (h * h * sqI a1 a2 c1 c2 < crI a1 a2 c1 c2 s t * crI a1 a2 c1 c2 s t ∧ crI a1 a2 c1 c2 s t < 0)
def aheadB (a1 a2 c1 c2 s t : Int) : Bool := decide (dotI a1 a2 c1 c2 s t < 0)
def behindB (a1 a2 c1 c2 s t : Int) : Bool := decide (sqI a1 a2 c1 c2 < dotI a1 a2 c1 c2 s t)
/-- All four corners. -/
def all4 (f : Int → Int → Bool) (a b c d : Int) : Bool := allB (f a b) (f c b) (f a d) (f c d)
/-- The class of a box. -/
def barK (a b c d a1 a2 c1 c2 h : Int) : Int :=
  if h < 1 ∨ sqI a1 a2 c1 c2 = 0 then 0 else if all4 (barB a1 a2 c1 c2 h) a b c d then 2
  else if all4 (leftB a1 a2 c1 c2 h) a b c d || all4 (rightB a1 a2 c1 c2 h) a b c d || all4 (aheadB a1 a2 c1 c2) a b c d || all4 (behindB a1 a2 c1 c2) a b c d then 0 else 1
theorem all4_iff {f : Int → Int → Bool} {a b c d : Int} : all4 f a b c d = true ↔ f a b = true ∧ f c b = true ∧ f a d = true ∧ f c d = true := by
  unfold all4 allB; simp only [Bool.and_eq_true]; exact ⟨fun h => ⟨h.1.1.1, h.1.1.2, h.1.2, h.2⟩, fun h => ⟨⟨⟨h.1, h.2.1⟩, h.2.2.1⟩, h.2.2.2⟩⟩
/-- What changes evenly is at least as great in a box as at the least of its corners. -/
theorem even_ge {U V F v a b c d s t : Int} (sa : a ≤ s) (sc : s ≤ c) (tb : b ≤ t) (td : t ≤ d) (h0 : v ≤ F + U * (a - s) + V * (b - t)) (h1 : v ≤ F + U * (c - s) + V * (b - t)) (h2 : v ≤ F + U * (a - s) + V * (d - t)) (h3 : v ≤ F + U * (c - s) + V * (d - t)) : v ≤ F := by
  rcases Int.le_total 0 U with h | h <;> rcases Int.le_total 0 V with k | k
  · have p1 := mul_pn h (show a - s ≤ 0 by omega); have p2 := mul_pn k (show b - t ≤ 0 by omega); omega
  · have p1 := mul_pn h (show a - s ≤ 0 by omega); have p2 := mul_np k (show 0 ≤ d - t by omega); omega
  · have p1 := mul_np h (show 0 ≤ c - s by omega); have p2 := mul_pn k (show b - t ≤ 0 by omega); omega
  · have p1 := mul_np h (show 0 ≤ c - s by omega); have p2 := mul_np k (show 0 ≤ d - t by omega); omega
theorem cr_even (a1 a2 c1 c2 s t p q : Int) : crI a1 a2 c1 c2 p q = crI a1 a2 c1 c2 s t + -(c2 - a2) * (p - s) + (c1 - a1) * (q - t) := by unfold crI; grind
theorem dot_even (a1 a2 c1 c2 s t p q : Int) : dotI a1 a2 c1 c2 p q = dotI a1 a2 c1 c2 s t + (c1 - a1) * (p - s) + (c2 - a2) * (q - t) := by unfold dotI; grind
theorem cr_ge {a1 a2 c1 c2 v a b c d s t : Int} (sa : a ≤ s) (sc : s ≤ c) (tb : b ≤ t) (td : t ≤ d) (h0 : v ≤ crI a1 a2 c1 c2 a b) (h1 : v ≤ crI a1 a2 c1 c2 c b) (h2 : v ≤ crI a1 a2 c1 c2 a d) (h3 : v ≤ crI a1 a2 c1 c2 c d) : v ≤ crI a1 a2 c1 c2 s t := by
  rw [cr_even a1 a2 c1 c2 s t] at h0 h1 h2 h3
  exact even_ge sa sc tb td h0 h1 h2 h3
theorem cr_le {a1 a2 c1 c2 v a b c d s t : Int} (sa : a ≤ s) (sc : s ≤ c) (tb : b ≤ t) (td : t ≤ d) (h0 : crI a1 a2 c1 c2 a b ≤ v) (h1 : crI a1 a2 c1 c2 c b ≤ v) (h2 : crI a1 a2 c1 c2 a d ≤ v) (h3 : crI a1 a2 c1 c2 c d ≤ v) : crI a1 a2 c1 c2 s t ≤ v := by
  have := cr_ge (a1 := c1) (a2 := c2) (c1 := a1) (c2 := a2) (v := -v) sa sc tb td (by rw [cr_swap]; omega) (by rw [cr_swap]; omega) (by rw [cr_swap]; omega) (by rw [cr_swap]; omega)
  rw [cr_swap] at this; omega
theorem dot_ge {a1 a2 c1 c2 v a b c d s t : Int} (sa : a ≤ s) (sc : s ≤ c) (tb : b ≤ t) (td : t ≤ d) (h0 : v ≤ dotI a1 a2 c1 c2 a b) (h1 : v ≤ dotI a1 a2 c1 c2 c b) (h2 : v ≤ dotI a1 a2 c1 c2 a d) (h3 : v ≤ dotI a1 a2 c1 c2 c d) : v ≤ dotI a1 a2 c1 c2 s t := by
  rw [dot_even a1 a2 c1 c2 s t] at h0 h1 h2 h3
  exact even_ge sa sc tb td h0 h1 h2 h3
theorem dot_le {a1 a2 c1 c2 v a b c d s t : Int} (sa : a ≤ s) (sc : s ≤ c) (tb : b ≤ t) (td : t ≤ d) (h0 : dotI a1 a2 c1 c2 a b ≤ v) (h1 : dotI a1 a2 c1 c2 c b ≤ v) (h2 : dotI a1 a2 c1 c2 a d ≤ v) (h3 : dotI a1 a2 c1 c2 c d ≤ v) : dotI a1 a2 c1 c2 s t ≤ v := by
  have e : ∀ p q, -(dotI a1 a2 c1 c2 p q) = -(dotI a1 a2 c1 c2 s t) + -(c1 - a1) * (p - s) + -(c2 - a2) * (q - t) := by intro p q; unfold dotI; grind
  have := even_ge (F := -(dotI a1 a2 c1 c2 s t)) (U := -(c1 - a1)) (V := -(c2 - a2)) (v := -v) sa sc tb td (by rw [← e]; omega) (by rw [← e]; omega) (by rw [← e]; omega) (by rw [← e]; omega)
  omega
/-- A number whose square is at most Q lies between two that are as far from 0. -/
theorem sq_root {Q : Int} (hQ : 0 ≤ Q) : ∃ R : Int, 0 ≤ R ∧ ∀ x : Int, x * x ≤ Q ↔ (-R ≤ x ∧ x ≤ R) := by
  have key : ∀ n : Nat, ∃ R : Nat, R * R ≤ n ∧ n < (R + 1) * (R + 1) := by
    intro n
    induction n with
    | zero => exact ⟨0, by omega, by omega⟩
    | succ n ih =>
      obtain ⟨R, h1, h2⟩ := ih
      by_cases h : n + 1 < (R + 1) * (R + 1)
      · exact ⟨R, by omega, h⟩
      · refine ⟨R + 1, by omega, ?_⟩
        have : (R + 1 + 1) * (R + 1 + 1) = (R + 1) * (R + 1) + 2 * (R + 1) + 1 := by grind
        omega
  obtain ⟨n, rfl⟩ : ∃ n : Nat, Q = n := ⟨Q.toNat, by omega⟩
  obtain ⟨R, h1, h2⟩ := key n
  have g1 : (R : Int) * R ≤ n := by exact_mod_cast h1
  have g2 : (n : Int) < (R + 1) * (R + 1) := by exact_mod_cast h2
  refine ⟨R, by omega, fun x => ⟨fun h => ?_, fun h => Int.le_trans (sq_le h.1 h.2) g1⟩⟩
  constructor
  · rcases Int.lt_or_le x (-(R : Int)) with z | z
    · have := Int.mul_le_mul (show (R : Int) + 1 ≤ -x by omega) (show (R : Int) + 1 ≤ -x by omega) (by omega) (by omega)
      rw [Int.neg_mul_neg] at this
      omega
    · exact z
  · rcases Int.lt_or_le (R : Int) x with z | z
    · have := Int.mul_le_mul (show (R : Int) + 1 ≤ x by omega) (show (R : Int) + 1 ≤ x by omega) (by omega) (by omega)
      omega
    · exact z
theorem bar_bound {a1 a2 c1 c2 h : Int} : 0 ≤ h * h * sqI a1 a2 c1 c2 := Int.mul_nonneg (sq_nonneg h) (by unfold sqI; exact Int.add_nonneg (sq_nonneg _) (sq_nonneg _))
theorem bar_box {a1 a2 c1 c2 h a b c d s t : Int} (sa : a ≤ s) (sc : s ≤ c) (tb : b ≤ t) (td : t ≤ d) (hc : all4 (barB a1 a2 c1 c2 h) a b c d = true) : barB a1 a2 c1 c2 h s t = true := by
  rw [all4_iff] at hc
  unfold barB at *
  simp only [decide_eq_true_eq] at *
  obtain ⟨⟨p1, p2, p3, p4, p5⟩, ⟨_, _, q3, q4, q5⟩, ⟨_, _, r3, r4, r5⟩, ⟨_, _, u3, u4, u5⟩⟩ := hc
  obtain ⟨R, hR, hx⟩ := sq_root (bar_bound (a1 := a1) (a2 := a2) (c1 := c1) (c2 := c2) (h := h))
  rw [hx] at p5 q5 r5 u5 ⊢
  exact ⟨p1, p2, dot_ge sa sc tb td p3 q3 r3 u3, dot_le sa sc tb td p4 q4 r4 u4, cr_ge sa sc tb td p5.1 q5.1 r5.1 u5.1, cr_le sa sc tb td p5.2 q5.2 r5.2 u5.2⟩
theorem bar_beyond {a1 a2 c1 c2 h a b c d s t : Int} (sa : a ≤ s) (sc : s ≤ c) (tb : b ≤ t) (td : t ≤ d)
    (hc : (all4 (leftB a1 a2 c1 c2 h) a b c d || all4 (rightB a1 a2 c1 c2 h) a b c d || all4 (aheadB a1 a2 c1 c2) a b c d || all4 (behindB a1 a2 c1 c2) a b c d) = true) : barB a1 a2 c1 c2 h s t = false := by
  obtain ⟨R, hR, hx⟩ := sq_root (bar_bound (a1 := a1) (a2 := a2) (c1 := c1) (c2 := c2) (h := h))
  unfold barB
  refine decide_eq_false ?_
  rintro ⟨_, _, g3, g4, g5⟩
  rw [hx] at g5
  rw [Bool.or_eq_true, Bool.or_eq_true, Bool.or_eq_true, all4_iff, all4_iff, all4_iff, all4_iff] at hc
  have hx' : ∀ x : Int, h * h * sqI a1 a2 c1 c2 < x * x ↔ ¬ (-R ≤ x ∧ x ≤ R) := fun x => by rw [← hx]; omega
  unfold leftB rightB aheadB behindB at hc
  simp only [decide_eq_true_eq, hx'] at hc
  rcases hc with ((hc | hc) | hc) | hc
  · have := cr_ge (v := R + 1) sa sc tb td (show R + 1 ≤ crI a1 a2 c1 c2 a b by omega) (by omega) (by omega) (by omega)
    omega
  · have := cr_le (v := -R - 1) sa sc tb td (show crI a1 a2 c1 c2 a b ≤ -R - 1 by omega) (by omega) (by omega) (by omega)
    omega
  · have := dot_le (v := -1) sa sc tb td (show dotI a1 a2 c1 c2 a b ≤ -1 by omega) (by omega) (by omega) (by omega)
    omega
  · have := dot_ge (v := sqI a1 a2 c1 c2 + 1) sa sc tb td (show sqI a1 a2 c1 c2 + 1 ≤ dotI a1 a2 c1 c2 a b by omega) (by omega) (by omega) (by omega)
    omega
/-- What the law finds in a box and a bar. -/
theorem bar_sure {a b c d a1 a2 c1 c2 h s t k n : Int} {h0 h1 h2 h3 hp : Bool} (sa : a ≤ s) (sc : s ≤ c) (tb : b ≤ t) (td : t ≤ d) (hk : barK a b c d a1 a2 c1 c2 h = k)
    (e0 : barB a1 a2 c1 c2 h a b = h0) (e1 : barB a1 a2 c1 c2 h c b = h1) (e2 : barB a1 a2 c1 c2 h a d = h2) (e3 : barB a1 a2 c1 c2 h c d = h3) (ep : barB a1 a2 c1 c2 h s t = hp) (hf : n = found h0 h1 h2 h3 4) :
    (k = 0 ∧ (n == 4) = false ∧ hp = false ∧ (n == 0) = true) ∨ (k = 2 ∧ (n == 4) = true ∧ hp = true) ∨ (k = 1 ∧ (n == 4) = false) := by
  have f4 := found_four h0 h1 h2 h3
  rw [← hf] at f4
  have b4 : (n == 4) = true ↔ n = 4 := beq_iff_eq
  have c4 : (n == 4) = false ↔ ¬ n = 4 := by rw [← Bool.not_eq_true, b4]
  have out : ∀ (hh : ∀ s t, a ≤ s → s ≤ c → b ≤ t → t ≤ d → barB a1 a2 c1 c2 h s t = false), (n == 4) = false ∧ hp = false ∧ (n == 0) = true := by
    intro hh
    rw [hh a b (Int.le_refl _) (by omega) (Int.le_refl _) (by omega)] at e0
    rw [hh c b (by omega) (Int.le_refl _) (Int.le_refl _) (by omega)] at e1
    rw [hh a d (Int.le_refl _) (by omega) (by omega) (Int.le_refl _)] at e2
    rw [hh c d (by omega) (Int.le_refl _) (by omega) (Int.le_refl _)] at e3
    subst e0; subst e1; subst e2; subst e3
    refine ⟨by rw [hf]; rfl, ep ▸ hh s t sa sc tb td, by rw [hf]; rfl⟩
  unfold barK at hk
  by_cases z : h < 1 ∨ sqI a1 a2 c1 c2 = 0
  · rw [if_pos z] at hk
    refine .inl ⟨hk.symm, out fun s t _ _ _ _ => ?_⟩
    unfold barB; exact decide_eq_false (by omega)
  rw [if_neg z] at hk
  by_cases g : all4 (barB a1 a2 c1 c2 h) a b c d = true
  · rw [if_pos g] at hk
    refine .inr (.inl ⟨hk.symm, ?_, ep ▸ bar_box sa sc tb td g⟩)
    rw [b4, f4, ← e0, ← e1, ← e2, ← e3]
    exact all4_iff.1 g
  rw [if_neg g] at hk
  have g4 : (n == 4) = false := by
    rw [c4, f4, ← e0, ← e1, ← e2, ← e3]
    exact fun q => g (all4_iff.2 q)
  split at hk
  · rename_i q
    exact .inl ⟨hk.symm, out fun s t h1 h2 h3 h4 => bar_beyond h1 h2 h3 h4 q⟩
  · exact .inr (.inr ⟨hk.symm, g4⟩)
theorem bar_out {h : Int} (k : h < 1) (a1 a2 c1 c2 s t : Int) : barB a1 a2 c1 c2 h s t = false := by unfold barB; exact decide_eq_false (by omega)
theorem barK_out {h : Int} (k : h < 1) (a b c d a1 a2 c1 c2 : Int) : barK a b c d a1 a2 c1 c2 h = 0 := by unfold barK; rw [if_pos (.inl k)]
theorem barK_dot (a b c d a1 a2 h : Int) : barK a b c d a1 a2 a1 a2 h = 0 := by
  unfold barK; rw [if_pos (.inr (by unfold sqI; grind))]
/-- Its two halves, and a thicker one. -/
theorem bar_halves {a1 a2 d1 d2 h s t : Int} : barB a1 a2 (a1 + 2 * d1) (a2 + 2 * d2) h s t = (barB a1 a2 (a1 + d1) (a2 + d2) h s t || barB (a1 + d1) (a2 + d2) (a1 + 2 * d1) (a2 + 2 * d2) h s t) := by
  have e1 : sqI a1 a2 (a1 + 2 * d1) (a2 + 2 * d2) = 4 * sqI a1 a2 (a1 + d1) (a2 + d2) := by unfold sqI; grind
  have e2 : sqI (a1 + d1) (a2 + d2) (a1 + 2 * d1) (a2 + 2 * d2) = sqI a1 a2 (a1 + d1) (a2 + d2) := by unfold sqI; grind
  have e3 : dotI a1 a2 (a1 + 2 * d1) (a2 + 2 * d2) s t = 2 * dotI a1 a2 (a1 + d1) (a2 + d2) s t := by unfold dotI; grind
  have e4 : dotI (a1 + d1) (a2 + d2) (a1 + 2 * d1) (a2 + 2 * d2) s t = dotI a1 a2 (a1 + d1) (a2 + d2) s t - sqI a1 a2 (a1 + d1) (a2 + d2) := by unfold dotI sqI; grind
  have e5 : crI a1 a2 (a1 + 2 * d1) (a2 + 2 * d2) s t = 2 * crI a1 a2 (a1 + d1) (a2 + d2) s t := by unfold crI; grind
  have e6 : crI (a1 + d1) (a2 + d2) (a1 + 2 * d1) (a2 + 2 * d2) s t = crI a1 a2 (a1 + d1) (a2 + d2) s t := by unfold crI; grind
  unfold barB
  rw [e1, e2, e3, e4, e5, e6]
  generalize dotI a1 a2 (a1 + d1) (a2 + d2) s t = T
  generalize sqI a1 a2 (a1 + d1) (a2 + d2) = L
  generalize crI a1 a2 (a1 + d1) (a2 + d2) s t = K
  have f1 : 2 * K * (2 * K) = 4 * (K * K) := by grind
  have f2 : h * h * (4 * L) = 4 * (h * h * L) := by grind
  rw [f1, f2, Bool.eq_iff_iff, Bool.or_eq_true, decide_eq_true_eq, decide_eq_true_eq, decide_eq_true_eq]
  omega
theorem bar_wider {a1 a2 c1 c2 h w s t : Int} (hw : h ≤ w) (hb : barB a1 a2 c1 c2 h s t = true) : barB a1 a2 c1 c2 w s t = true := by
  unfold barB at *
  rw [decide_eq_true_eq] at *
  obtain ⟨h1, h2, h3, h4, h5⟩ := hb
  refine ⟨by omega, h2, h3, h4, Int.le_trans h5 (Int.mul_le_mul_of_nonneg_right (sq_le (by omega) hw) (Int.le_of_lt h2))⟩
theorem barK_in {a b c d a1 a2 c1 c2 e1 e2 h w : Int} (hs : ∀ s t, barB a1 a2 c1 c2 h s t = true → barB a1 a2 e1 e2 w s t = true) (hk : barK a b c d a1 a2 c1 c2 h = 2) : barK a b c d a1 a2 e1 e2 w = 2 := by
  unfold barK at hk
  split at hk
  · omega
  split at hk
  · rename_i g
    rw [all4_iff] at g
    have g' : all4 (barB a1 a2 e1 e2 w) a b c d = true := all4_iff.2 ⟨hs _ _ g.1, hs _ _ g.2.1, hs _ _ g.2.2.1, hs _ _ g.2.2.2⟩
    have q := hs _ _ g.1
    unfold barB at q
    have q := of_decide_eq_true q
    unfold barK
    rw [if_neg (by omega), if_pos g']
  · split at hk <;> omega
/-- A bar is a stroke without its ends. -/
theorem bar_line {a1 a2 c1 c2 h s t : Int} (hh : 1 ≤ h) : barB a1 a2 c1 c2 h s t = (decide (0 < sqI a1 a2 c1 c2) && decide (0 ≤ dotI a1 a2 c1 c2 s t) && decide (dotI a1 a2 c1 c2 s t ≤ sqI a1 a2 c1 c2) && lineB a1 a2 c1 c2 h s t) := by
  have e1 : sqI a1 a2 c1 c2 * sqI s t a1 a2 = dotI a1 a2 c1 c2 s t * dotI a1 a2 c1 c2 s t + crI a1 a2 c1 c2 s t * crI a1 a2 c1 c2 s t := by unfold sqI dotI crI; grind
  have e2 : sqI s t c1 c2 = sqI s t a1 a2 - 2 * dotI a1 a2 c1 c2 s t + sqI a1 a2 c1 c2 := by unfold sqI dotI; grind
  unfold barB lineB
  rw [e2]
  generalize dotI a1 a2 c1 c2 s t = T at *
  generalize sqI a1 a2 c1 c2 = L at *
  generalize crI a1 a2 c1 c2 s t = K at *
  generalize sqI s t a1 a2 = Q at *
  rw [Bool.eq_iff_iff]
  simp only [Bool.and_eq_true, decide_eq_true_eq]
  constructor
  · rintro ⟨_, h1, h2, h3, h4⟩
    refine ⟨⟨⟨h1, h2⟩, h3⟩, hh, ?_⟩
    by_cases z : T = 0
    · subst z
      refine .inl ⟨Int.le_refl _, Int.le_of_mul_le_mul_left (a := L) ?_ h1⟩
      rw [e1, Int.mul_comm L]; omega
    by_cases z2 : T = L
    · subst z2
      refine .inr (.inl ⟨by omega, Int.le_refl _, Int.le_of_mul_le_mul_left (a := T) ?_ h1⟩)
      have : T * (Q - 2 * T + T) = T * Q - T * T := by grind
      rw [this, e1, Int.mul_comm T (h * h)]; omega
    · exact .inr (.inr ⟨by omega, by omega, h4⟩)
  · rintro ⟨⟨⟨h1, h2⟩, h3⟩, _, hl⟩
    refine ⟨hh, h1, h2, h3, ?_⟩
    rcases hl with ⟨z, hl⟩ | ⟨_, z, hl⟩ | ⟨_, _, hl⟩
    · obtain rfl : T = 0 := by omega
      have := Int.mul_le_mul_of_nonneg_left hl (Int.le_of_lt h1)
      rw [Int.mul_comm (h * h)]
      omega
    · obtain rfl : T = L := by omega
      have := Int.mul_le_mul_of_nonneg_left hl (Int.le_of_lt h1)
      have e : T * (Q - 2 * T + T) = T * Q - T * T := by grind
      rw [Int.mul_comm (h * h)]
      omega
    · exact hl
theorem bar_swap {a1 a2 c1 c2 h s t : Int} : barB c1 c2 a1 a2 h s t = barB a1 a2 c1 c2 h s t := by
  have e1 : sqI c1 c2 a1 a2 = sqI a1 a2 c1 c2 := by unfold sqI; grind
  have e2 : dotI c1 c2 a1 a2 s t = sqI a1 a2 c1 c2 - dotI a1 a2 c1 c2 s t := by unfold sqI dotI; grind
  have e3 : crI c1 c2 a1 a2 s t * crI c1 c2 a1 a2 s t = crI a1 a2 c1 c2 s t * crI a1 a2 c1 c2 s t := by rw [cr_swap, Int.neg_mul_neg]
  unfold barB
  rw [e1, e2, e3, decide_eq_decide]
  omega
/-- Moved and turned. -/
theorem barK_move (a b c d a1 a2 c1 c2 h e f : Int) : barK (a + e) (b + f) (c + e) (d + f) (a1 + e) (a2 + f) (c1 + e) (c2 + f) h = barK a b c d a1 a2 c1 c2 h := by
  have e1 : sqI (a1 + e) (a2 + f) (c1 + e) (c2 + f) = sqI a1 a2 c1 c2 := by unfold sqI; grind
  have e2 : ∀ s t, dotI (a1 + e) (a2 + f) (c1 + e) (c2 + f) (s + e) (t + f) = dotI a1 a2 c1 c2 s t := by intro s t; unfold dotI; grind
  have e3 : ∀ s t, crI (a1 + e) (a2 + f) (c1 + e) (c2 + f) (s + e) (t + f) = crI a1 a2 c1 c2 s t := fun s t => cr_move a1 a2 c1 c2 s t e f
  unfold barK all4 barB leftB rightB aheadB behindB
  rw [e1]
  simp only [e2, e3]
theorem barK_turn (a b c d a1 a2 c1 c2 h : Int) : barK (-d) a (-b) c (-a2) a1 (-c2) c1 h = barK a b c d a1 a2 c1 c2 h := by
  have e1 : sqI (-a2) a1 (-c2) c1 = sqI a1 a2 c1 c2 := by unfold sqI; grind
  have e2 : ∀ s t, dotI (-a2) a1 (-c2) c1 (-t) s = dotI a1 a2 c1 c2 s t := by intro s t; unfold dotI; grind
  have e3 : ∀ s t, crI (-a2) a1 (-c2) c1 (-t) s = crI a1 a2 c1 c2 s t := fun s t => cr_turn a1 a2 c1 c2 s t
  have e4 : ∀ f g : Int → Int → Bool, (∀ s t, f (-t) s = g s t) → all4 f (-d) a (-b) c = all4 g a b c d := by
    intro f g hfg
    unfold all4 allB
    rw [hfg, hfg, hfg, hfg]
    cases g a b <;> cases g c b <;> cases g a d <;> cases g c d <;> rfl
  unfold barK
  rw [e1, e4 (barB (-a2) a1 (-c2) c1 h) (barB a1 a2 c1 c2 h) (fun s t => by unfold barB; rw [e1, e2, e3]),
    e4 (leftB (-a2) a1 (-c2) c1 h) (leftB a1 a2 c1 c2 h) (fun s t => by unfold leftB; rw [e1, e3]), e4 (rightB (-a2) a1 (-c2) c1 h) (rightB a1 a2 c1 c2 h) (fun s t => by unfold rightB; rw [e1, e3]),
    e4 (aheadB (-a2) a1 (-c2) c1) (aheadB a1 a2 c1 c2) (fun s t => by unfold aheadB; rw [e2]), e4 (behindB (-a2) a1 (-c2) c1) (behindB a1 a2 c1 c2) (fun s t => by unfold behindB; rw [e1, e2])]
/-- Along the first axis: a box, with the classes of one. -/
theorem bar_straight {a b c d l h : Int} (ac : a ≤ c) (bd : b ≤ d) (hl : 1 ≤ l) (hh : 1 ≤ h) :
    barK a b c d 0 0 l 0 h = if 0 ≤ a ∧ c ≤ l ∧ -h ≤ b ∧ d ≤ h then 2 else if c < 0 ∨ l < a ∨ d < -h ∨ h < b then 0 else 1 := by
  have e1 : sqI 0 0 l 0 = l * l := by unfold sqI; grind
  have e2 : ∀ s t, dotI 0 0 l 0 s t = l * s := by intro s t; unfold dotI; grind
  have e3 : ∀ s t, crI 0 0 l 0 s t = l * t := by intro s t; unfold crI; grind
  have ll : 0 < l * l := Int.mul_pos (by omega) (by omega)
  have m0 : ∀ s, l * s < 0 ↔ s < 0 := fun s => ⟨fun z => by
    rcases Int.lt_or_le s 0 with y | y
    · exact y
    · have := Int.mul_nonneg (show 0 ≤ l by omega) y; omega, fun z => Int.mul_neg_of_pos_of_neg (by omega) z⟩
  have m1 : ∀ s, l * l < l * s ↔ l < s := fun s => ⟨fun z => Int.lt_of_mul_lt_mul_left z (by omega), fun z => Int.mul_lt_mul_of_pos_left z (by omega)⟩
  have m2 : ∀ t, 0 < l * t ↔ 0 < t := fun t => ⟨fun z => by
    rcases Int.lt_or_le 0 t with y | y
    · exact y
    · have := mul_pn (show 0 ≤ l by omega) y; omega, fun z => Int.mul_pos (by omega) z⟩
  have m3 : ∀ t, l * t * (l * t) ≤ h * h * (l * l) ↔ (-h ≤ t ∧ t ≤ h) := by
    intro t
    have g : l * t * (l * t) = l * l * (t * t) := by grind
    have g' : h * h * (l * l) = l * l * (h * h) := by grind
    rw [g, g']
    constructor
    · intro z
      have z := Int.le_of_mul_le_mul_left z ll
      constructor
      · rcases Int.lt_or_le t (-h) with y | y
        · have := Int.mul_le_mul (show h + 1 ≤ -t by omega) (show h + 1 ≤ -t by omega) (by omega) (by omega)
          rw [Int.neg_mul_neg] at this
          have e : (h + 1) * (h + 1) = h * h + 2 * h + 1 := by grind
          omega
        · exact y
      · rcases Int.lt_or_le h t with y | y
        · have := Int.mul_le_mul (show h + 1 ≤ t by omega) (show h + 1 ≤ t by omega) (by omega) (by omega)
          have e : (h + 1) * (h + 1) = h * h + 2 * h + 1 := by grind
          omega
        · exact y
    · intro z
      exact Int.mul_le_mul_of_nonneg_left (sq_le z.1 z.2) (Int.le_of_lt ll)
  have m4 : ∀ t, h * h * (l * l) < l * t * (l * t) ↔ ¬ (-h ≤ t ∧ t ≤ h) := fun t => by rw [← m3]; omega
  have b1 : ∀ s t, barB 0 0 l 0 h s t = decide (0 ≤ s ∧ s ≤ l ∧ -h ≤ t ∧ t ≤ h) := by
    intro s t
    unfold barB
    rw [e1, e2, e3, decide_eq_decide, m3]
    have := m0 s; have := m1 s
    omega
  have b2 : ∀ s t, leftB 0 0 l 0 h s t = decide (h < t) := by
    intro s t; unfold leftB; rw [e1, e3, decide_eq_decide, m4, m2]; omega
  have b3 : ∀ s t, rightB 0 0 l 0 h s t = decide (t < -h) := by
    intro s t; unfold rightB; rw [e1, e3, decide_eq_decide, m4, m0]; omega
  have b4 : ∀ s t, aheadB 0 0 l 0 s t = decide (s < 0) := by
    intro s t; unfold aheadB; rw [e2, decide_eq_decide, m0]
  have b5 : ∀ s t, behindB 0 0 l 0 s t = decide (l < s) := by
    intro s t; unfold behindB; rw [e1, e2, decide_eq_decide, m1]
  unfold barK
  rw [if_neg (by rw [e1]; omega)]
  have c1 : all4 (barB 0 0 l 0 h) a b c d = true ↔ (0 ≤ a ∧ c ≤ l ∧ -h ≤ b ∧ d ≤ h) := by
    rw [all4_iff, b1, b1, b1, b1]; simp only [decide_eq_true_eq]; omega
  have c2 : (all4 (leftB 0 0 l 0 h) a b c d || all4 (rightB 0 0 l 0 h) a b c d || all4 (aheadB 0 0 l 0) a b c d || all4 (behindB 0 0 l 0) a b c d) = true ↔ (c < 0 ∨ l < a ∨ d < -h ∨ h < b) := by
    rw [Bool.or_eq_true, Bool.or_eq_true, Bool.or_eq_true, all4_iff, all4_iff, all4_iff, all4_iff, b2, b2, b2, b2, b3, b3, b3, b3, b4, b4, b4, b4, b5, b5, b5, b5]
    simp only [decide_eq_true_eq]; omega
  by_cases z1 : all4 (barB 0 0 l 0 h) a b c d = true
  · rw [if_pos z1, if_pos (c1.1 z1)]
  · rw [if_neg z1, if_neg (fun q => z1 (c1.2 q))]
    by_cases z2 : (c < 0 ∨ l < a ∨ d < -h ∨ h < b)
    · rw [if_pos (c2.2 z2), if_pos z2]
    · rw [if_neg (fun q => z2 (c2.1 q)), if_neg z2]
end Go.Proofs.Ytoofbbmddddlcaa
