/- Plain mathematics of strokes: what the laws of layer 7 say of classes and points. No program in it. -/
import Derived.Test.YtoofbbmddddlcaaStrokeOut
import Derived.Test.YtoofbbmddddlcaaSureMath
namespace Go.Proofs.Ytoofbbmddddlcaa
open Go.RowKit

/-- How many corners of a box a stroke has, as the document's answer counts them. -/
def allB (h0 h1 h2 h3 : Bool) : Bool := h0 && h1 && h2 && h3
def anyB (h0 h1 h2 h3 : Bool) : Bool := h0 || h1 || h2 || h3
/-- The class of a box. -/
def lineK (a b c d a1 a2 c1 c2 r : Int) : Int :=
  if r < 1 then 0 else if allB (lineB a1 a2 c1 c2 r a b) (lineB a1 a2 c1 c2 r c b) (lineB a1 a2 c1 c2 r a d) (lineB a1 a2 c1 c2 r c d) then 2
  else if anyB (lineB a1 a2 c1 c2 r a b) (lineB a1 a2 c1 c2 r c b) (lineB a1 a2 c1 c2 r a d) (lineB a1 a2 c1 c2 r c d) || meetB a b c d a1 a2 c1 c2 || decide (nearS a b c d a1 a2 ≤ r * r) || decide (nearS a b c d c1 c2 ≤ r * r) then 1 else 0
theorem line_out {r : Int} (h : r < 1) (a1 a2 c1 c2 s t : Int) : lineB a1 a2 c1 c2 r s t = false := by unfold lineB; exact decide_eq_false (by omega)
theorem lineK_out {r : Int} (h : r < 1) (a b c d a1 a2 c1 c2 : Int) : lineK a b c d a1 a2 c1 c2 r = 0 := by unfold lineK; rw [if_pos h]
theorem lineK_cases {a b c d a1 a2 c1 c2 r : Int} (hr : 1 ≤ r) :
    (lineK a b c d a1 a2 c1 c2 r = 2 ∧ (strk a1 a2 c1 c2 r a b ∧ strk a1 a2 c1 c2 r c b ∧ strk a1 a2 c1 c2 r a d ∧ strk a1 a2 c1 c2 r c d)) ∨
    (lineK a b c d a1 a2 c1 c2 r = 1 ∧ ¬ (strk a1 a2 c1 c2 r a b ∧ strk a1 a2 c1 c2 r c b ∧ strk a1 a2 c1 c2 r a d ∧ strk a1 a2 c1 c2 r c d) ∧ Touch a b c d a1 a2 c1 c2 r) ∨ (lineK a b c d a1 a2 c1 c2 r = 0 ∧ ¬ Touch a b c d a1 a2 c1 c2 r) := by
  unfold lineK Touch
  rw [if_neg (by omega), ← line_iff hr, ← line_iff hr, ← line_iff hr, ← line_iff hr]
  generalize lineB a1 a2 c1 c2 r a b = h0
  generalize lineB a1 a2 c1 c2 r c b = h1
  generalize lineB a1 a2 c1 c2 r a d = h2
  generalize lineB a1 a2 c1 c2 r c d = h3
  by_cases n1 : nearS a b c d a1 a2 ≤ r * r <;> by_cases n2 : nearS a b c d c1 c2 ≤ r * r <;> cases h0 <;> cases h1 <;> cases h2 <;> cases h3 <;> cases meetB a b c d a1 a2 c1 c2 <;> simp [allB, anyB, n1, n2]
/-- All corners in a stroke: it touches the box. -/
theorem touch_all {a b c d a1 a2 c1 c2 r : Int} (h : strk a1 a2 c1 c2 r a b) : Touch a b c d a1 a2 c1 c2 r := .inl h
theorem lineK_le {a b c d a1 a2 c1 c2 r e1 e2 f1 f2 w : Int} (hr : 1 ≤ r) (hw : 1 ≤ w) (hs : ∀ s t, strk a1 a2 c1 c2 r s t → strk e1 e2 f1 f2 w s t) (ht : Touch a b c d a1 a2 c1 c2 r → Touch a b c d e1 e2 f1 f2 w) :
    lineK a b c d a1 a2 c1 c2 r ≤ lineK a b c d e1 e2 f1 f2 w := by
  rcases lineK_cases (a := a) (b := b) (c := c) (d := d) (a1 := a1) (a2 := a2) (c1 := c1) (c2 := c2) hr with ⟨h, k⟩ | ⟨h, _, k⟩ | ⟨h, _⟩ <;>
    rcases lineK_cases (a := a) (b := b) (c := c) (d := d) (a1 := e1) (a2 := e2) (c1 := f1) (c2 := f2) hw with ⟨g, j⟩ | ⟨g, j, _⟩ | ⟨g, j⟩
  all_goals first | omega | skip
  · exact absurd ⟨hs _ _ k.1, hs _ _ k.2.1, hs _ _ k.2.2.1, hs _ _ k.2.2.2⟩ j
  · exact absurd (touch_all (hs _ _ k.1)) j
  · exact absurd (ht k) j
/-- What the law finds in a box and a stroke. -/
theorem line_sure {a b c d a1 a2 c1 c2 r s t k n : Int} {h0 h1 h2 h3 hp hm : Bool} (hr : 1 ≤ r) (sa : a ≤ s) (sc : s ≤ c) (tb : b ≤ t) (td : t ≤ d) (hk : lineK a b c d a1 a2 c1 c2 r = k)
    (e0 : lineB a1 a2 c1 c2 r a b = h0) (e1 : lineB a1 a2 c1 c2 r c b = h1) (e2 : lineB a1 a2 c1 c2 r a d = h2) (e3 : lineB a1 a2 c1 c2 r c d = h3) (ep : lineB a1 a2 c1 c2 r s t = hp) (em : meetB a b c d a1 a2 c1 c2 = hm) (hf : n = found h0 h1 h2 h3 4) :
    (k = 0 ∧ (n == 4) = false ∧ hp = false ∧ (n == 0) = true ∧ hm = false) ∨ (k = 2 ∧ (n == 4) = true ∧ hp = true) ∨ (k = 1 ∧ (n == 4) = false) := by
  have f4 := found_four h0 h1 h2 h3
  rw [← hf] at f4
  have b4 : (n == 4) = true ↔ n = 4 := beq_iff_eq
  have c4 : (n == 4) = false ↔ ¬ n = 4 := by rw [← Bool.not_eq_true, b4]
  have i0 := line_iff (a1 := a1) (a2 := a2) (c1 := c1) (c2 := c2) (s := a) (t := b) hr
  have i1 := line_iff (a1 := a1) (a2 := a2) (c1 := c1) (c2 := c2) (s := c) (t := b) hr
  have i2 := line_iff (a1 := a1) (a2 := a2) (c1 := c1) (c2 := c2) (s := a) (t := d) hr
  have i3 := line_iff (a1 := a1) (a2 := a2) (c1 := c1) (c2 := c2) (s := c) (t := d) hr
  have ip := line_iff (a1 := a1) (a2 := a2) (c1 := c1) (c2 := c2) (s := s) (t := t) hr
  rw [e0] at i0
  rw [e1] at i1
  rw [e2] at i2
  rw [e3] at i3
  rw [ep] at ip
  rcases lineK_cases (a := a) (b := b) (c := c) (d := d) (a1 := a1) (a2 := a2) (c1 := c1) (c2 := c2) hr with ⟨h, q⟩ | ⟨h, q, _⟩ | ⟨h, q⟩
  · refine .inr (.inl ⟨hk ▸ h, ?_, ?_⟩)
    · rw [b4, f4]; exact ⟨i0.2 q.1, i1.2 q.2.1, i2.2 q.2.2.1, i3.2 q.2.2.2⟩
    · exact ip.2 (strk_box (by omega) sa sc tb td q.1 q.2.1 q.2.2.1 q.2.2.2)
  · refine .inr (.inr ⟨hk ▸ h, ?_⟩)
    rw [c4, f4]
    exact fun z => q ⟨i0.1 z.1, i1.1 z.2.1, i2.1 z.2.2.1, i3.1 z.2.2.2⟩
  · have no : ∀ {x : Bool} {u v : Int}, (x = true ↔ strk a1 a2 c1 c2 r u v) → a ≤ u → u ≤ c → b ≤ v → v ≤ d → x = false := by
      intro x u v i g1 g2 g3 g4
      cases x with
      | false => rfl
      | true => exact absurd (touch_of (by omega) g1 g2 g3 g4 (i.1 rfl)) q
    have z0 := no i0 (Int.le_refl _) (by omega) (Int.le_refl _) (by omega)
    have z1 := no i1 (by omega) (Int.le_refl _) (Int.le_refl _) (by omega)
    have z2 := no i2 (Int.le_refl _) (by omega) (by omega) (Int.le_refl _)
    have z3 := no i3 (by omega) (Int.le_refl _) (by omega) (Int.le_refl _)
    have zp := no ip sa sc tb td
    have zm : hm = false := by
      cases hm with
      | false => rfl
      | true => exact absurd (.inr (.inr (.inr (.inr (.inl em))))) q
    subst z0; subst z1; subst z2; subst z3
    refine .inl ⟨hk ▸ h, ?_, zp, ?_, zm⟩ <;> rw [hf] <;> rfl
theorem strk_wider {a1 a2 c1 c2 r w s t : Int} (hr : 0 ≤ r) (hw : r ≤ w) (h : strk a1 a2 c1 c2 r s t) : strk a1 a2 c1 c2 w s t := by
  obtain ⟨N, m, hN, m0, mN, h⟩ := h
  refine ⟨N, m, hN, m0, mN, Int.le_trans h (sq_le ?_ (Int.mul_le_mul_of_nonneg_left hw (by omega)))⟩
  have p1 := Int.mul_nonneg (Int.le_of_lt hN) hr
  have p2 := Int.mul_nonneg (Int.le_of_lt hN) (show 0 ≤ w by omega)
  omega
theorem strk_first {a1 a2 d1 d2 r s t : Int} (h : strk a1 a2 (a1 + d1) (a2 + d2) r s t) : strk a1 a2 (a1 + 2 * d1) (a2 + 2 * d2) r s t := by
  obtain ⟨N, m, hN, m0, mN, h⟩ := h
  refine ⟨2 * N, m, by omega, m0, by omega, ?_⟩
  have e1 : offI (s - a1) (t - a2) (a1 + 2 * d1 - a1) (a2 + 2 * d2 - a2) (2 * N) m = 4 * offI (s - a1) (t - a2) (a1 + d1 - a1) (a2 + d2 - a2) N m := by unfold offI; grind
  have e2 : 2 * N * r * (2 * N * r) = 4 * (N * r * (N * r)) := by grind
  omega
theorem strk_second {a1 a2 d1 d2 r s t : Int} (h : strk (a1 + d1) (a2 + d2) (a1 + 2 * d1) (a2 + 2 * d2) r s t) : strk a1 a2 (a1 + 2 * d1) (a2 + 2 * d2) r s t := by
  obtain ⟨N, m, hN, m0, mN, h⟩ := h
  refine ⟨2 * N, N + m, by omega, by omega, by omega, ?_⟩
  have e1 : offI (s - a1) (t - a2) (a1 + 2 * d1 - a1) (a2 + 2 * d2 - a2) (2 * N) (N + m) = 4 * offI (s - (a1 + d1)) (t - (a2 + d2)) (a1 + 2 * d1 - (a1 + d1)) (a2 + 2 * d2 - (a2 + d2)) N m := by unfold offI; grind
  have e2 : 2 * N * r * (2 * N * r) = 4 * (N * r * (N * r)) := by grind
  omega
theorem strk_halves {a1 a2 d1 d2 r s t : Int} (h : strk a1 a2 (a1 + 2 * d1) (a2 + 2 * d2) r s t) : strk a1 a2 (a1 + d1) (a2 + d2) r s t ∨ strk (a1 + d1) (a2 + d2) (a1 + 2 * d1) (a2 + 2 * d2) r s t := by
  obtain ⟨N, m, hN, m0, mN, h⟩ := h
  by_cases k : 2 * m ≤ N
  · refine .inl ⟨N, 2 * m, hN, by omega, k, Int.le_trans (Int.le_of_eq ?_) h⟩
    unfold offI; grind
  · refine .inr ⟨N, 2 * m - N, hN, by omega, by omega, Int.le_trans (Int.le_of_eq ?_) h⟩
    unfold offI; grind
/-- A segment twice as long that misses a box: so does its first half. -/
theorem meet_first {a b c d a1 a2 d1 d2 : Int} (ac : a ≤ c) (bd : b ≤ d) (h : meetB a b c d a1 a2 (a1 + d1) (a2 + d2) = true) : meetB a b c d a1 a2 (a1 + 2 * d1) (a2 + 2 * d2) = true := by
  cases k : meetB a b c d a1 a2 (a1 + 2 * d1) (a2 + 2 * d2) with
  | true => rfl
  | false =>
    exfalso
    have m1 := mnI_le a1 (a1 + d1); have m2 := mxI_le a1 (a1 + d1); have m3 := mnI_le a2 (a2 + d2); have m4 := mxI_le a2 (a2 + d2)
    have n1 := mnI_or a1 (a1 + d1); have n2 := mxI_or a1 (a1 + d1); have n3 := mnI_or a2 (a2 + d2); have n4 := mxI_or a2 (a2 + d2)
    unfold meetB apB at h
    rw [Bool.and_eq_true, Bool.not_eq_true', Bool.or_eq_false_iff, Bool.not_eq_false', Bool.not_eq_false', Bool.not_eq_true', shB_eq, shB_eq, decide_eq_true_eq, decide_eq_true_eq] at h
    obtain ⟨⟨h1, h2⟩, h3⟩ := h
    unfold sideB besB at h3
    have h3 := of_decide_eq_false h3
    have e : ∀ s t : Int, crI a1 a2 (a1 + 2 * d1) (a2 + 2 * d2) s t = 2 * crI a1 a2 (a1 + d1) (a2 + d2) s t := by intro s t; unfold crI; grind
    have e' : ∀ s t : Int, crI (a1 + 2 * d1) (a2 + 2 * d2) a1 a2 s t = -(2 * crI a1 a2 (a1 + d1) (a2 + d2) s t) := by intro s t; rw [cr_swap, e]
    rcases miss_cases ac bd k with q | q | q | q | q | q
    · omega
    · omega
    · omega
    · omega
    · have q0 := q a b (Int.le_refl _) ac (Int.le_refl _) bd
      have q1 := q c b ac (Int.le_refl _) (Int.le_refl _) bd
      have q2 := q a d (Int.le_refl _) ac bd (Int.le_refl _)
      have q3 := q c d ac (Int.le_refl _) bd (Int.le_refl _)
      rw [e] at q0 q1 q2 q3
      omega
    · have q0 := q a b (Int.le_refl _) ac (Int.le_refl _) bd
      have q1 := q c b ac (Int.le_refl _) (Int.le_refl _) bd
      have q2 := q a d (Int.le_refl _) ac bd (Int.le_refl _)
      have q3 := q c d ac (Int.le_refl _) bd (Int.le_refl _)
      rw [e'] at q0 q1 q2 q3
      omega
/-- A disc around a point of the segment lies in the stroke. -/
theorem strk_disc {a1 a2 c1 c2 r s t u v N m : Int} (hN : 0 < N) (m0 : 0 ≤ m) (mN : m ≤ N) (hu : N * u = N * a1 + m * (c1 - a1)) (hv : N * v = N * a2 + m * (c2 - a2)) (h : sqI u v s t ≤ r * r) : strk a1 a2 c1 c2 r s t := by
  refine ⟨N, m, hN, m0, mN, ?_⟩
  have e1 : offI (s - a1) (t - a2) (c1 - a1) (c2 - a2) N m = N * N * sqI u v s t := by
    have g1 : N * (s - a1) - m * (c1 - a1) = N * (s - u) := by grind
    have g2 : N * (t - a2) - m * (c2 - a2) = N * (t - v) := by grind
    unfold offI sqI; rw [g1, g2]; grind
  have e2 : N * r * (N * r) = N * N * (r * r) := by grind
  rw [e1, e2]
  exact Int.mul_le_mul_of_nonneg_left h (sq_nonneg N)
/-- A box nearer to a point of the segment than the radius is touched. -/
theorem touch_disc {a b c d a1 a2 c1 c2 r u v N m : Int} (ac : a ≤ c) (bd : b ≤ d) (hr : 0 ≤ r) (hN : 0 < N) (m0 : 0 ≤ m) (mN : m ≤ N) (hu : N * u = N * a1 + m * (c1 - a1)) (hv : N * v = N * a2 + m * (c2 - a2)) (h : nearS a b c d u v ≤ r * r) : Touch a b c d a1 a2 c1 c2 r := by
  obtain ⟨p1, p2⟩ := nearI_in u ac
  obtain ⟨q1, q2⟩ := nearI_in v bd
  exact touch_of hr p1 p2 q1 q2 (strk_disc hN m0 mN hu hv h)
theorem touch_first {a b c d a1 a2 d1 d2 r : Int} (ac : a ≤ c) (bd : b ≤ d) (hr : 0 ≤ r) (h : Touch a b c d a1 a2 (a1 + d1) (a2 + d2) r) : Touch a b c d a1 a2 (a1 + 2 * d1) (a2 + 2 * d2) r := by
  rcases h with h | h | h | h | h | h | h
  · exact .inl (strk_first h)
  · exact .inr (.inl (strk_first h))
  · exact .inr (.inr (.inl (strk_first h)))
  · exact .inr (.inr (.inr (.inl (strk_first h))))
  · exact .inr (.inr (.inr (.inr (.inl (meet_first ac bd h)))))
  · exact .inr (.inr (.inr (.inr (.inr (.inl h)))))
  · exact touch_disc (N := 2) (m := 1) ac bd hr (by omega) (by omega) (by omega) (by grind) (by grind) h
theorem touch_wider {a b c d a1 a2 c1 c2 r w : Int} (hr : 0 ≤ r) (hw : r ≤ w) (h : Touch a b c d a1 a2 c1 c2 r) : Touch a b c d a1 a2 c1 c2 w := by
  have k : r * r ≤ w * w := sq_le (by omega) hw
  rcases h with h | h | h | h | h | h | h
  · exact .inl (strk_wider hr hw h)
  · exact .inr (.inl (strk_wider hr hw h))
  · exact .inr (.inr (.inl (strk_wider hr hw h)))
  · exact .inr (.inr (.inr (.inl (strk_wider hr hw h))))
  · exact .inr (.inr (.inr (.inr (.inl h))))
  · exact .inr (.inr (.inr (.inr (.inr (.inl (by omega))))))
  · exact .inr (.inr (.inr (.inr (.inr (.inr (by omega))))))
theorem line_wider {a b c d a1 a2 c1 c2 r w : Int} (hr : 1 ≤ r) (hw : r ≤ w) : lineK a b c d a1 a2 c1 c2 r ≤ lineK a b c d a1 a2 c1 c2 w :=
  lineK_le hr (by omega) (fun _ _ h => strk_wider (by omega) hw h) (fun h => touch_wider (by omega) hw h)
theorem line_longer {a b c d a1 a2 d1 d2 r : Int} (ac : a ≤ c) (bd : b ≤ d) (hr : 1 ≤ r) : lineK a b c d a1 a2 (a1 + d1) (a2 + d2) r ≤ lineK a b c d a1 a2 (a1 + 2 * d1) (a2 + 2 * d2) r :=
  lineK_le hr hr (fun _ _ h => strk_first h) (fun h => touch_first ac bd (by omega) h)
theorem lineB_parts {a1 a2 d1 d2 r s t : Int} (hr : 1 ≤ r) : lineB a1 a2 (a1 + 2 * d1) (a2 + 2 * d2) r s t = (lineB a1 a2 (a1 + d1) (a2 + d2) r s t || lineB (a1 + d1) (a2 + d2) (a1 + 2 * d1) (a2 + 2 * d2) r s t) := by
  rw [Bool.eq_iff_iff, Bool.or_eq_true, line_iff hr, line_iff hr, line_iff hr]
  exact ⟨strk_halves, fun h => h.elim strk_first strk_second⟩
theorem lineB_wider {a1 a2 c1 c2 r w s t : Int} (hr : 1 ≤ r) (hw : r ≤ w) (h : lineB a1 a2 c1 c2 r s t = true) : lineB a1 a2 c1 c2 w s t = true := by
  rw [line_iff hr] at h; rw [line_iff (by omega)]; exact strk_wider (by omega) hw h
theorem lineB_swap {a1 a2 c1 c2 r s t : Int} (hr : 1 ≤ r) : lineB c1 c2 a1 a2 r s t = lineB a1 a2 c1 c2 r s t := by
  rw [Bool.eq_iff_iff, line_iff hr, line_iff hr]; exact ⟨strk_swap, strk_swap⟩
theorem lineK_swap {a b c d a1 a2 c1 c2 r : Int} (hr : 1 ≤ r) : lineK a b c d c1 c2 a1 a2 r = lineK a b c d a1 a2 c1 c2 r := by
  have h1 := lineK_le (a := a) (b := b) (c := c) (d := d) (a1 := a1) (a2 := a2) (c1 := c1) (c2 := c2) (e1 := c1) (e2 := c2) (f1 := a1) (f2 := a2) hr hr (fun _ _ h => strk_swap h) (fun h => touch_swap h)
  have h2 := lineK_le (a := a) (b := b) (c := c) (d := d) (a1 := c1) (a2 := c2) (c1 := a1) (c2 := a2) (e1 := a1) (e2 := a2) (f1 := c1) (f2 := c2) hr hr (fun _ _ h => strk_swap h) (fun h => touch_swap h)
  omega
/-- A stroke of one point is a disc. -/
theorem lineB_dot {a1 a2 r s t : Int} : lineB a1 a2 a1 a2 r s t = discB r (sqI a1 a2 s t) := by
  unfold lineB discB
  have e1 : dotI a1 a2 a1 a2 s t = 0 := by unfold dotI; grind
  rw [e1, sqI_comm s t a1 a2, decide_eq_decide]
  omega
theorem meet_point {a b c d x y : Int} (h : meetB a b c d x y x y = true) : a ≤ x ∧ x ≤ c ∧ b ≤ y ∧ y ≤ d := by
  have m1 := mnI_le x x; have m2 := mxI_le x x; have m3 := mnI_le y y; have m4 := mxI_le y y
  have n1 := mnI_or x x; have n2 := mxI_or x x; have n3 := mnI_or y y; have n4 := mxI_or y y
  unfold meetB apB at h
  rw [Bool.and_eq_true, Bool.not_eq_true', Bool.or_eq_false_iff, Bool.not_eq_false', Bool.not_eq_false', shB_eq, shB_eq, decide_eq_true_eq, decide_eq_true_eq] at h
  omega
theorem lineK_dot {a b c d a1 a2 r : Int} (ac : a ≤ c) (bd : b ≤ d) (hr : 1 ≤ r) : lineK a b c d a1 a2 a1 a2 r = discK r (nearS a b c d a1 a2) (mostS a b c d a1 a2) := by
  have mc := most_corners (x := a1) (y := a2) (q := r * r) ac bd
  have nm := near_most (x := a1) (y := a2) ac bd
  have i : ∀ s t, strk a1 a2 a1 a2 r s t ↔ sqI a1 a2 s t ≤ r * r := by
    intro s t
    rw [← line_iff hr, lineB_dot]
    unfold discB
    rw [decide_eq_true_eq]
    exact ⟨fun h => h.2, fun h => ⟨hr, h⟩⟩
  have nl : ∀ s t, a ≤ s → s ≤ c → b ≤ t → t ≤ d → nearS a b c d a1 a2 ≤ sqI a1 a2 s t := by
    intro s t h1 h2 h3 h4
    have := near_le (x := a1) (y := a2) ac bd h1 h2 h3 h4
    rwa [← sqI_turn] at this
  have tc : Touch a b c d a1 a2 a1 a2 r ↔ nearS a b c d a1 a2 ≤ r * r := by
    constructor
    · intro h
      rcases h with h | h | h | h | h | h | h
      · exact Int.le_trans (nl a b (Int.le_refl _) ac (Int.le_refl _) bd) ((i _ _).1 h)
      · exact Int.le_trans (nl c b ac (Int.le_refl _) (Int.le_refl _) bd) ((i _ _).1 h)
      · exact Int.le_trans (nl a d (Int.le_refl _) ac bd (Int.le_refl _)) ((i _ _).1 h)
      · exact Int.le_trans (nl c d ac (Int.le_refl _) bd (Int.le_refl _)) ((i _ _).1 h)
      · obtain ⟨h1, h2, h3, h4⟩ := meet_point h
        rw [near_in h1 h2 h3 h4]; exact sq_nonneg r
      · exact h
      · exact h
    · exact fun h => .inr (.inr (.inr (.inr (.inr (.inl h)))))
  rcases lineK_cases (a := a) (b := b) (c := c) (d := d) (a1 := a1) (a2 := a2) (c1 := a1) (c2 := a2) hr with ⟨h, q⟩ | ⟨h, q, q2⟩ | ⟨h, q⟩
  · rw [i, i, i, i] at q
    have := mc.2 ⟨q.1, q.2.1, q.2.2.1, q.2.2.2⟩
    rw [h]; unfold discK; rw [if_neg (by omega), if_neg (by omega), if_pos this]
  · rw [i, i, i, i] at q
    rw [tc] at q2
    rw [h]; unfold discK; rw [if_neg (by omega), if_neg (by omega), if_neg]
    intro z
    have := mc.1 z
    exact q ⟨this.1, this.2.1, this.2.2.1, this.2.2.2⟩
  · rw [tc] at q
    rw [h]; unfold discK; rw [if_neg (by omega), if_pos (by omega)]
/-- The discs around whole points of a segment. -/
theorem line_discs {a b c d a1 a2 d1 d2 r k s t : Int} (ac : a ≤ c) (bd : b ≤ d) (hr : 1 ≤ r) (k0 : 0 ≤ k) (k3 : k ≤ 3) :
    (discB r (sqI (a1 + k * d1) (a2 + k * d2) s t) = true → lineB a1 a2 (a1 + 4 * d1) (a2 + 4 * d2) r s t = true) ∧
    (discK r (nearS a b c d (a1 + k * d1) (a2 + k * d2)) (mostS a b c d (a1 + k * d1) (a2 + k * d2)) = 2 → lineK a b c d a1 a2 (a1 + 4 * d1) (a2 + 4 * d2) r = 2) ∧
    (lineK a b c d a1 a2 (a1 + 4 * d1) (a2 + 4 * d2) r = 0 → discK r (nearS a b c d (a1 + k * d1) (a2 + k * d2)) (mostS a b c d (a1 + k * d1) (a2 + k * d2)) = 0) := by
  have hu : 4 * (a1 + k * d1) = 4 * a1 + k * (a1 + 4 * d1 - a1) := by grind
  have hv : 4 * (a2 + k * d2) = 4 * a2 + k * (a2 + 4 * d2 - a2) := by grind
  have sd : ∀ s t, sqI (a1 + k * d1) (a2 + k * d2) s t ≤ r * r → strk a1 a2 (a1 + 4 * d1) (a2 + 4 * d2) r s t := fun s t h => strk_disc (by omega) k0 (by omega) hu hv h
  have td := fun h => touch_disc (r := r) ac bd (by omega) (show (0 : Int) < 4 by omega) k0 (by omega) hu hv h
  have nm := near_most (x := a1 + k * d1) (y := a2 + k * d2) ac bd
  have mc := most_corners (x := a1 + k * d1) (y := a2 + k * d2) (q := r * r) ac bd
  refine ⟨?_, ?_, ?_⟩
  · intro h
    rw [line_iff hr]
    unfold discB at h
    exact sd s t (of_decide_eq_true h).2
  · intro h
    rcases discK_cases r (r * r) (nearS a b c d (a1 + k * d1) (a2 + k * d2)) (mostS a b c d (a1 + k * d1) (a2 + k * d2)) rfl with ⟨_, H⟩ | ⟨_, _, H⟩ | ⟨_, _, q, _⟩ | ⟨_, _, _, H⟩
    · have := H.out; omega
    · have := H.out; omega
    · have z := mc.1 q
      rcases lineK_cases (a := a) (b := b) (c := c) (d := d) (a1 := a1) (a2 := a2) (c1 := a1 + 4 * d1) (c2 := a2 + 4 * d2) hr with ⟨g, _⟩ | ⟨g, j, _⟩ | ⟨g, j⟩
      · exact g
      · exact absurd ⟨sd _ _ z.1, sd _ _ z.2.1, sd _ _ z.2.2.1, sd _ _ z.2.2.2⟩ j
      · exact absurd (touch_all (sd _ _ z.1)) j
    · have := H.out; omega
  · intro h
    rcases lineK_cases (a := a) (b := b) (c := c) (d := d) (a1 := a1) (a2 := a2) (c1 := a1 + 4 * d1) (c2 := a2 + 4 * d2) hr with ⟨g, _⟩ | ⟨g, _, _⟩ | ⟨g, j⟩
    · omega
    · omega
    · unfold discK
      rw [if_neg (by omega), if_pos]
      rcases Int.lt_or_le (r * r) (nearS a b c d (a1 + k * d1) (a2 + k * d2)) with z | z
      · exact z
      · exact absurd (td z) j
/-- A stroke along the first axis. -/
theorem line_straight {l r s t : Int} (hl : 0 ≤ l) (hr : 1 ≤ r) : lineB 0 0 l 0 r s t = ((decide (0 ≤ s) && decide (s ≤ l) && decide (-r ≤ t) && decide (t ≤ r)) || discB r (sqI 0 0 s t) || discB r (sqI l 0 s t)) := by
  rw [Bool.eq_iff_iff, line_iff hr]
  simp only [Bool.or_eq_true, Bool.and_eq_true, decide_eq_true_eq]
  unfold discB
  simp only [decide_eq_true_eq]
  have e0 : sqI 0 0 s t = s * s + t * t := by unfold sqI; grind
  have e1 : sqI l 0 s t = (s - l) * (s - l) + t * t := by unfold sqI; grind
  rw [e0, e1]
  constructor
  · intro h
    have h := line_of_strk hr h
    unfold lineB at h
    obtain ⟨_, h⟩ := of_decide_eq_true h
    have f1 : dotI 0 0 l 0 s t = l * s := by unfold dotI; grind
    have f2 : sqI s t 0 0 = s * s + t * t := by unfold sqI; grind
    have f3 : sqI 0 0 l 0 = l * l := by unfold sqI; grind
    have f4 : sqI s t l 0 = (s - l) * (s - l) + t * t := by unfold sqI; grind
    have f5 : crI 0 0 l 0 s t = l * t := by unfold crI; grind
    rw [f1, f2, f3, f4, f5] at h
    rcases h with ⟨_, h⟩ | ⟨_, _, h⟩ | ⟨h1, h2, h3⟩
    · exact .inl (.inr ⟨hr, h⟩)
    · exact .inr ⟨hr, h⟩
    · have l0 : 0 < l := by
        rcases Int.lt_or_le 0 l with z | z
        · exact z
        · obtain rfl : l = 0 := by omega
          rw [Int.zero_mul] at h1; omega
      have s0 : 0 < s := Int.pos_of_mul_pos_right h1 l0
      have s1 : s < l := Int.lt_of_mul_lt_mul_left h2 hl
      have g : l * l * (t * t) ≤ l * l * (r * r) := by
        refine Int.le_trans (Int.le_of_eq ?_) (Int.le_trans h3 (Int.le_of_eq ?_)) <;> grind
      have g2 := le_of_sq l0 g
      refine .inl (.inl ⟨⟨⟨by omega, by omega⟩, ?_⟩, ?_⟩)
      · rcases Int.lt_or_le t (-r) with z | z
        · have := Int.mul_le_mul (show r + 1 ≤ -t by omega) (show r + 1 ≤ -t by omega) (by omega) (by omega)
          rw [Int.neg_mul_neg] at this
          have e : (r + 1) * (r + 1) = r * r + 2 * r + 1 := by grind
          omega
        · exact z
      · rcases Int.lt_or_le r t with z | z
        · have := Int.mul_le_mul (show r + 1 ≤ t by omega) (show r + 1 ≤ t by omega) (by omega) (by omega)
          have e : (r + 1) * (r + 1) = r * r + 2 * r + 1 := by grind
          omega
        · exact z
  · intro h
    rcases h with (h | h) | h
    · obtain ⟨⟨⟨h1, h2⟩, h3⟩, h4⟩ := h
      have g : t * t ≤ r * r := sq_le h3 h4
      by_cases z : l = 0
      · subst z
        obtain rfl : s = 0 := by omega
        refine ⟨1, 0, by omega, by omega, by omega, ?_⟩
        have e : offI (0 - 0) (t - 0) (0 - 0) (0 - 0) 1 0 = t * t := by unfold offI; grind
        rw [e, Int.one_mul]; exact g
      · refine ⟨l, s, by omega, h1, h2, ?_⟩
        have e : offI (s - 0) (t - 0) (l - 0) (0 - 0) l s = l * l * (t * t) := by unfold offI; grind
        have e2 : l * r * (l * r) = l * l * (r * r) := by grind
        rw [e, e2]
        exact Int.mul_le_mul_of_nonneg_left g (sq_nonneg l)
    · refine ⟨1, 0, by omega, by omega, by omega, ?_⟩
      have e : offI (s - 0) (t - 0) (l - 0) (0 - 0) 1 0 = s * s + t * t := by unfold offI; grind
      rw [e, Int.one_mul]; exact h.2
    · refine ⟨1, 1, by omega, by omega, by omega, ?_⟩
      have e : offI (s - 0) (t - 0) (l - 0) (0 - 0) 1 1 = (s - l) * (s - l) + t * t := by unfold offI; grind
      rw [e, Int.one_mul]; exact h.2
end Go.Proofs.Ytoofbbmddddlcaa
