/- Plain mathematics: the corners of a box and its nearest point tell its class in a disc. No program in it. -/
import Derived.Test.YtoofbbmddddlcaaDiscMath
import Derived.Test.YtoofbbmddddlcaaRefMost
namespace Go.Proofs.Ytoofbbmddddlcaa
open Go.RowKit

theorem found_four (h0 h1 h2 h3 : Bool) : found h0 h1 h2 h3 4 = 4 ↔ (h0 = true ∧ h1 = true ∧ h2 = true ∧ h3 = true) := by
  unfold found; cases h0 <;> cases h1 <;> cases h2 <;> cases h3 <;> simp
theorem most_corners {a b c d x y q : Int} (h : a ≤ c) (k : b ≤ d) : mostS a b c d x y ≤ q ↔ (sqI x y a b ≤ q ∧ sqI x y c b ≤ q ∧ sqI x y a d ≤ q ∧ sqI x y c d ≤ q) := by
  rw [← most_max h k]
  generalize sqI x y a b = A
  generalize sqI x y c b = B
  generalize sqI x y a d = C
  generalize sqI x y c d = D
  have e1 := mxI_le A B
  have e2 := mxI_le (mxI A B) C
  have e3 := mxI_le (mxI (mxI A B) C) D
  constructor
  · intro e; omega
  · intro e
    rcases mxI_or (mxI (mxI A B) C) D with k | k <;> rcases mxI_or (mxI A B) C with k2 | k2 <;> rcases mxI_or A B with k3 | k3 <;> omega
theorem sqI_turn (x y u v : Int) : sqI x y u v = (x - u) * (x - u) + (y - v) * (y - v) := by
  unfold sqI
  rw [← Int.neg_mul_neg (x - u) (x - u), ← Int.neg_mul_neg (y - v) (y - v), Int.neg_sub, Int.neg_sub]
/-- What the law finds in a box and a disc: the class, how many corners are in the disc, whether the nearest point and some other one is. -/
theorem sure_cases {a b c d x y u v r k n : Int} {h0 h1 h2 h3 hn hp : Bool} (hr : 1 ≤ r) (ac : a ≤ c) (bd : b ≤ d) (au : a ≤ u) (uc : u ≤ c) (bv : b ≤ v) (vd : v ≤ d)
    (hk : discK r (nearS a b c d x y) (mostS a b c d x y) = k) (e0 : discB r (sqI x y a b) = h0) (e1 : discB r (sqI x y c b) = h1) (e2 : discB r (sqI x y a d) = h2) (e3 : discB r (sqI x y c d) = h3)
    (en : discB r (sqI x y (nearI x a c) (nearI y b d)) = hn) (ep : discB r (sqI x y u v) = hp) (hf : n = found h0 h1 h2 h3 4) :
    (k = 0 ∧ (n == 4) = false ∧ hn = false ∧ hp = false) ∨ (k = 2 ∧ (n == 4) = true ∧ hn = true ∧ hp = true) ∨ (k = 1 ∧ (n == 4) = false ∧ hn = true) := by
  have nm := near_most (x := x) (y := y) ac bd
  have nl := near_le (x := x) (y := y) ac bd au uc bv vd
  have mg := most_ge (x := x) (y := y) au uc bv vd
  rw [← sqI_turn] at nl mg
  have mc := most_corners (x := x) (y := y) (q := r * r) ac bd
  have f4 := found_four h0 h1 h2 h3
  rw [← hf] at f4
  change discB r (nearS a b c d x y) = hn at en
  have b4 : (n == 4) = true ↔ n = 4 := beq_iff_eq
  have c4 : (n == 4) = false ↔ ¬ n = 4 := by rw [← Bool.not_eq_true, b4]
  rw [b4, c4, f4, ← e0, ← e1, ← e2, ← e3, ← en, ← ep]
  unfold discB
  simp only [decide_eq_true_eq, decide_eq_false_iff_not]
  rcases discK_cases r (r * r) (nearS a b c d x y) (mostS a b c d x y) rfl with ⟨q1, H⟩ | ⟨q1, q2, H⟩ | ⟨q1, q2, q3, H⟩ | ⟨q1, q2, q3, H⟩
  · omega
  · have kk : k = 0 := hk ▸ H.out
    refine .inl ⟨kk, ?_, by omega, by omega⟩
    intro z
    have := mc.2 ⟨z.1.2, z.2.1.2, z.2.2.1.2, z.2.2.2.2⟩
    omega
  · have kk : k = 2 := hk ▸ H.out
    have z := mc.1 q3
    exact .inr (.inl ⟨kk, ⟨⟨hr, z.1⟩, ⟨hr, z.2.1⟩, ⟨hr, z.2.2.1⟩, ⟨hr, z.2.2.2⟩⟩, by omega, by omega⟩)
  · have kk : k = 1 := hk ▸ H.out
    refine .inr (.inr ⟨kk, ?_, by omega⟩)
    intro z
    exact q3 (mc.2 ⟨z.1.2, z.2.1.2, z.2.2.1.2, z.2.2.2.2⟩)
end Go.Proofs.Ytoofbbmddddlcaa
