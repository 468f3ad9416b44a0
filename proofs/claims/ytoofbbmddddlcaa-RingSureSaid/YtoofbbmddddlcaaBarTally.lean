/- How a bar's class is told by counting corners. No program in it. -/
import Derived.Test.YtoofbbmddddlcaaTally
import Derived.Test.YtoofbbmddddlcaaBarMath
import Derived.Test.YtoofbbmddddlcaaRefBoxM
namespace Go.Proofs.Ytoofbbmddddlcaa
open Go.RowKit

theorem barB_at {a1 a2 c1 c2 h s t L o k : Int} (hr : 1 ≤ h) (hL : 0 < L) (eL : sqI a1 a2 c1 c2 = L) (eo : dotI a1 a2 c1 c2 s t = o) (ek : crI a1 a2 c1 c2 s t = k) :
    barB a1 a2 c1 c2 h s t = (decide (0 ≤ o) && decide (o ≤ L) && decide (k * k ≤ h * h * L)) := by
  unfold barB
  rw [eL, eo, ek, ← Bool.decide_and, ← Bool.decide_and, decide_eq_decide]
  exact ⟨fun x => ⟨⟨x.2.2.1, x.2.2.2.1⟩, x.2.2.2.2⟩, fun x => ⟨hr, hL, x.1.1, x.1.2, x.2⟩⟩
theorem barB_none {a1 a2 c1 c2 h s t : Int} (hh : h < 1 ∨ sqI a1 a2 c1 c2 = 0) : barB a1 a2 c1 c2 h s t = false := by
  unfold barB; exact decide_eq_false (by omega)
/-- What a corner is counted for: in the bar, left, right, before it, behind it. -/
theorem bar_corner {a1 a2 c1 c2 h s t L o k : Int} {f p l r a b : Bool} (hr : 1 ≤ h) (hL : 0 < L) (eL : sqI a1 a2 c1 c2 = L) (eo : dotI a1 a2 c1 c2 s t = o) (ek : crI a1 a2 c1 c2 s t = k) (ef : decide (k * k ≤ h * h * L) = f)
    (ep : barB a1 a2 c1 c2 h s t = p) (el : leftB a1 a2 c1 c2 h s t = l) (er : rightB a1 a2 c1 c2 h s t = r) (ea : aheadB a1 a2 c1 c2 s t = a) (eb : behindB a1 a2 c1 c2 s t = b) :
    ((f = true ∧ l = false ∧ r = false) ∨ (f = false ∧ l = true ∧ r = false ∧ decide (0 < k) = true ∧ decide (k < 0) = false) ∨ (f = false ∧ l = false ∧ r = true ∧ decide (0 < k) = false ∧ decide (k < 0) = true)) ∧
    ((a = true ∧ b = false ∧ p = false ∧ decide (o < 0) = true ∧ decide (L < o) = false) ∨ (a = false ∧ b = true ∧ p = false ∧ decide (o < 0) = false ∧ decide (L < o) = true) ∨ (a = false ∧ b = false ∧ p = f ∧ decide (o < 0) = false ∧ decide (L < o) = false)) := by
  have hb := barB_at hr hL eL eo ek
  rw [ep, ef] at hb
  unfold leftB at el
  unfold rightB at er
  unfold aheadB at ea
  unfold behindB at eb
  rw [eL, ek] at el er
  rw [eo] at ea
  rw [eL, eo] at eb
  constructor
  · by_cases q : k * k ≤ h * h * L
    · exact .inl ⟨by rw [← ef]; exact decide_eq_true q, by rw [← el]; exact decide_eq_false (by omega), by rw [← er]; exact decide_eq_false (by omega)⟩
    · rcases Int.lt_trichotomy k 0 with g | g | g
      · exact .inr (.inr ⟨by rw [← ef]; exact decide_eq_false q, by rw [← el]; exact decide_eq_false (by omega), by rw [← er]; exact decide_eq_true (by omega), decide_eq_false (by omega), decide_eq_true g⟩)
      · exfalso
        have := Int.mul_nonneg (show 0 ≤ h * h from Int.mul_nonneg (by omega) (by omega)) (Int.le_of_lt hL)
        subst g; omega
      · exact .inr (.inl ⟨by rw [← ef]; exact decide_eq_false q, by rw [← el]; exact decide_eq_true (by omega), by rw [← er]; exact decide_eq_false (by omega), decide_eq_true g, decide_eq_false (by omega)⟩)
  · rcases Int.lt_or_le o 0 with g | g
    · refine .inl ⟨by rw [← ea]; exact decide_eq_true g, by rw [← eb]; exact decide_eq_false (by omega), ?_, decide_eq_true g, decide_eq_false (by omega)⟩
      rw [hb, decide_eq_false (show ¬ 0 ≤ o by omega)]; rfl
    · rcases Int.lt_or_le L o with g' | g'
      · refine .inr (.inl ⟨by rw [← ea]; exact decide_eq_false (by omega), by rw [← eb]; exact decide_eq_true g', ?_, decide_eq_false (by omega), decide_eq_true g'⟩)
        rw [hb, decide_eq_true g, decide_eq_false (show ¬ o ≤ L by omega)]; rfl
      · refine .inr (.inr ⟨by rw [← ea]; exact decide_eq_false (by omega), by rw [← eb]; exact decide_eq_false (by omega), ?_, decide_eq_false (by omega), decide_eq_false (by omega)⟩)
        rw [hb, decide_eq_true g, decide_eq_true g']; rfl
abbrev Q4 := Bool × Bool × Bool × Bool
def fnd (q : Q4) (j : Nat) : Int := found q.1 q.2.1 q.2.2.1 q.2.2.2 j
theorem fnd_bd (q : Q4) (j : Nat) : 0 ≤ fnd q j ∧ fnd q j ≤ 4 := found_bd _ _ _ _ _
theorem fnd0 (x b c d : Bool) : fnd (x, b, c, d) 1 = fnd (x, b, c, d) 0 + (if x then 1 else 0) := by unfold fnd found; cases x <;> simp
theorem fnd1 (a x c d : Bool) : fnd (a, x, c, d) 2 = fnd (a, x, c, d) 1 + (if x then 1 else 0) := by unfold fnd found; cases x <;> simp
theorem fnd2 (a b x d : Bool) : fnd (a, b, x, d) 3 = fnd (a, b, x, d) 2 + (if x then 1 else 0) := by unfold fnd found; cases x <;> simp
theorem fnd3 (a b c x : Bool) : fnd (a, b, c, x) 4 = fnd (a, b, c, x) 3 + (if x then 1 else 0) := by unfold fnd found; cases x <;> simp
theorem fnd0' {x b c d : Bool} {n : Int} (h : n = fnd (x, b, c, d) 0) : (if x then n + 1 else n) = fnd (x, b, c, d) 1 := by rw [fnd0, h]; cases x <;> simp
theorem fnd1' {a x c d : Bool} {n : Int} (h : n = fnd (a, x, c, d) 1) : (if x then n + 1 else n) = fnd (a, x, c, d) 2 := by rw [fnd1, h]; cases x <;> simp
theorem fnd2' {a b x d : Bool} {n : Int} (h : n = fnd (a, b, x, d) 2) : (if x then n + 1 else n) = fnd (a, b, x, d) 3 := by rw [fnd2, h]; cases x <;> simp
theorem fnd3' {a b c x : Bool} {n : Int} (h : n = fnd (a, b, c, x) 3) : (if x then n + 1 else n) = fnd (a, b, c, x) 4 := by rw [fnd3, h]; cases x <;> simp
/-- The five counts at the head of a round. -/
structure Five (H L R A B : Q4) (j : Nat) (n l r a b : Int) : Prop where
  h : n = fnd H j
  l : l = fnd L j
  r : r = fnd R j
  a : a = fnd A j
  b : b = fnd B j
def FiveAt (N g : Nat) (w : World) (a b c d x y u v : Int) (H L R A B : Q4) (sn sl sr sa sb si : Value) (wr : World) : Prop :=
  EightAt wr g a b c d ∧ BxPP N a b c d x y u v wr ∧ Below w.heap.size w wr ∧ ∃ n l r e f : Int, sn = .int .i64 n ∧ sl = .int .i64 l ∧ sr = .int .i64 r ∧ sa = .int .i64 e ∧ sb = .int .i64 f ∧
    ((si = .int .i64 0 ∧ Five H L R A B 0 n l r e f) ∨ (si = .int .i64 1 ∧ Five H L R A B 1 n l r e f) ∨ (si = .int .i64 2 ∧ Five H L R A B 2 n l r e f) ∨ (si = .int .i64 3 ∧ Five H L R A B 3 n l r e f) ∨ (si = .int .i64 4 ∧ Five H L R A B 4 n l r e f))
theorem fnd_four (q : Q4) : fnd q 4 = 4 ↔ (q.1 = true ∧ q.2.1 = true ∧ q.2.2.1 = true ∧ q.2.2.2 = true) := found_four _ _ _ _
theorem all4_fnd {f : Int → Int → Bool} {a b c d : Int} {q0 q1 q2 q3 : Bool} (h0 : f a b = q0) (h1 : f c b = q1) (h2 : f a d = q2) (h3 : f c d = q3) : all4 f a b c d = decide (fnd (q0, q1, q2, q3) 4 = 4) := by
  rw [Bool.eq_iff_iff, all4_iff, decide_eq_true_eq, fnd_four, h0, h1, h2, h3]
theorem barK_of {a b c d a1 a2 c1 c2 h n l r e f : Int} {H L R A B : Q4} (hr : ¬ (h < 1 ∨ sqI a1 a2 c1 c2 = 0))
    (eH : all4 (barB a1 a2 c1 c2 h) a b c d = decide (fnd H 4 = 4)) (eL : all4 (leftB a1 a2 c1 c2 h) a b c d = decide (fnd L 4 = 4)) (eR : all4 (rightB a1 a2 c1 c2 h) a b c d = decide (fnd R 4 = 4)) (eA : all4 (aheadB a1 a2 c1 c2) a b c d = decide (fnd A 4 = 4)) (eB : all4 (behindB a1 a2 c1 c2) a b c d = decide (fnd B 4 = 4)) (F : Five H L R A B 4 n l r e f) :
    barK a b c d a1 a2 c1 c2 h = if n = 4 then 2 else if l = 4 then 0 else if r = 4 then 0 else if e = 4 then 0 else if f = 4 then 0 else 1 := by
  unfold barK
  rw [if_neg hr, eH, eL, eR, eA, eB, ← F.h, ← F.l, ← F.r, ← F.a, ← F.b]
  by_cases h1 : n = 4 <;> by_cases h2 : l = 4 <;> by_cases h3 : r = 4 <;> by_cases h4 : e = 4 <;> by_cases h5 : f = 4 <;> simp [h1, h2, h3, h4, h5]
end Go.Proofs.Ytoofbbmddddlcaa
