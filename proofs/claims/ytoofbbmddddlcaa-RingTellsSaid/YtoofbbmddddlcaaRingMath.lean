/- Plain mathematics of rings: how far a point is from a circle, told by whole numbers; what a thicker ring has; the disc around a point of the circle. No program in it. -/
import Derived.Test.YtoofbbmddddlcaaCrossMath
import Derived.Test.YtoofbbmddddlcaaHoldMath
namespace Go.Proofs.Ytoofbbmddddlcaa
open Go.RowKit

/-- Whether a square distance is at most that of R + r, and at least that of R - r, where B is the square of R and S that of r. -/
def upW (d B S : Int) : Bool := decide (d - B - S ≤ 0 ∨ (d - B - S) * (d - B - S) ≤ 4 * S * B)
def dnW (d B S : Int) : Bool := decide (B ≤ S ∨ B + S - d ≤ 0 ∨ (B + S - d) * (B + S - d) ≤ 4 * S * B)
theorem up_down {d e B S : Int} (h : d ≤ e) (k : upW e B S = true) : upW d B S = true := by
  have k := of_decide_eq_true k
  refine decide_eq_true ?_
  by_cases q : d - B - S ≤ 0
  · exact .inl q
  · rcases k with k | k
    · omega
    · exact .inr (Int.le_trans (sq_le (by omega) (by omega)) k)
theorem dn_up {d e B S : Int} (h : d ≤ e) (k : dnW d B S = true) : dnW e B S = true := by
  have k := of_decide_eq_true k
  refine decide_eq_true ?_
  rcases k with k | k | k
  · exact .inl k
  · exact .inr (.inl (by omega))
  · by_cases q : B + S - e ≤ 0
    · exact .inr (.inl q)
    · exact .inr (.inr (Int.le_trans (sq_le (by omega) (by omega)) k))
theorem prod_le {W S B : Int} (h : W ≤ S) (hB : 0 ≤ B) : 4 * W * B ≤ 4 * S * B := Int.mul_le_mul_of_nonneg_right (by omega) hB
theorem up_thick {d B W S : Int} (h : W ≤ S) (hB : 0 ≤ B) (k : upW d B W = true) : upW d B S = true := by
  have k := of_decide_eq_true k
  refine decide_eq_true ?_
  by_cases q : d - B - S ≤ 0
  · exact .inl q
  · rcases k with k | k
    · omega
    · exact .inr (Int.le_trans (Int.le_trans (sq_le (by omega) (by omega)) k) (prod_le h hB))
/-- The one hard step: how the allowance grows with the square of r. -/
theorem core_ge {q W S B : Int} (_hW : 0 ≤ W) (h : W ≤ S) (hS : S ≤ B) (k : q * q ≤ 4 * W * B) (_hq : 0 < q + (S - W)) : (q + (S - W)) * (q + (S - W)) ≤ 4 * S * B := by
  obtain ⟨D, rfl⟩ : ∃ D, S = W + D := ⟨S - W, by omega⟩
  rw [show W + D - W = D by omega] at *
  have hq2 : q ≤ 2 * B - D := by
    refine Int.not_lt.1 fun hc => ?_
    have e1 : (2 * B - D + 1) * (2 * B - D + 1) ≤ q * q := sq_le (by omega) (by omega)
    have e2 : (2 * B - D + 1) * (2 * B - D + 1) = 4 * (B * (B - D)) + D * D + 2 * (2 * B - D) + 1 := by grind
    have e3 : B * W ≤ B * (B - D) := Int.mul_le_mul_of_nonneg_left (by omega) (by omega)
    have e4 : 4 * W * B = 4 * (B * W) := by grind
    have e5 : 0 ≤ D * D := sq_nonneg D
    omega
  have e1 : (q + D) * (q + D) = q * q + D * (2 * q + D) := by grind
  have e2 : D * (2 * q + D) ≤ D * (4 * B) := Int.mul_le_mul_of_nonneg_left (by omega) (by omega)
  have e3 : 4 * (W + D) * B = 4 * W * B + D * (4 * B) := by grind
  omega
theorem dn_thick {d B W S : Int} (hW : 0 ≤ W) (h : W ≤ S) (hB : 0 ≤ B) (k : dnW d B W = true) : dnW d B S = true := by
  have k := of_decide_eq_true k
  refine decide_eq_true ?_
  by_cases hS : B ≤ S
  · exact .inl hS
  by_cases q : B + S - d ≤ 0
  · exact .inr (.inl q)
  refine .inr (.inr ?_)
  rcases k with k | k | k
  · omega
  · have e1 : (B + S - d) * (B + S - d) ≤ S * S := sq_le (by omega) (by omega)
    have e2 : S * S ≤ S * B := Int.mul_le_mul_of_nonneg_left (by omega) (by omega)
    have e3 : 4 * S * B = 4 * (S * B) := by grind
    have e4 : 0 ≤ S * B := Int.mul_nonneg (by omega) hB
    omega
  · have := core_ge hW h (by omega) k (by omega)
    rwa [show B + W - d + (S - W) = B + S - d by omega] at this
/-- The product of two vectors is at most that of their lengths. -/
theorem cauchy (z w x y : Int) : (z * x + w * y) * (z * x + w * y) ≤ (z * z + w * w) * (x * x + y * y) := by
  have e : (z * z + w * w) * (x * x + y * y) = (z * x + w * y) * (z * x + w * y) + (z * y - w * x) * (z * y - w * x) := by grind
  have := sq_nonneg (z * y - w * x)
  omega
/-- The disc around a point of the circle lies between both circles. -/
theorem disc_ring {z w x y S : Int} (h : x * x + y * y ≤ S) : upW ((z + x) * (z + x) + (w + y) * (w + y)) (z * z + w * w) S = true ∧ dnW ((z + x) * (z + x) + (w + y) * (w + y)) (z * z + w * w) S = true := by
  have e : (z + x) * (z + x) + (w + y) * (w + y) = (z * z + w * w) + 2 * (z * x + w * y) + (x * x + y * y) := by grind
  have c := cauchy z w x y
  have hB : 0 ≤ z * z + w * w := by have := sq_nonneg z; have := sq_nonneg w; omega
  have hW : 0 ≤ x * x + y * y := by have := sq_nonneg x; have := sq_nonneg y; omega
  rw [e]
  generalize z * x + w * y = P at *
  generalize z * z + w * w = B at *
  generalize x * x + y * y = W at *
  have e1 : 2 * P * (2 * P) = 4 * (P * P) := by grind
  have e2 : 4 * W * B = 4 * (B * W) := by grind
  refine ⟨decide_eq_true ?_, dn_thick hW h hB (decide_eq_true (.inr (.inr ?_)))⟩
  · by_cases q : B + 2 * P + W - B - S ≤ 0
    · exact .inl q
    · refine .inr (Int.le_trans (Int.le_trans (sq_le (A := B + 2 * P + W - B - S) (B := 2 * P) (by omega) (by omega)) ?_) (prod_le h hB))
      omega
  · rw [show B + W - (B + 2 * P + W) = -(2 * P) by omega, Int.neg_mul_neg]
    omega
/-- Whether a point is in the sector: the arc is the whole circle, or not great, or great. -/
def secB (same : Bool) (k u v : Int) : Bool := same || (if k < 0 then decide (0 ≤ u) || decide (0 ≤ v) else decide (0 ≤ u) && decide (0 ≤ v))
theorem sec_swap (same : Bool) (k u v : Int) : secB same k v u = secB same k u v := by
  unfold secB; split <;> rw [show (_ || _ : Bool) = _ from rfl] <;> cases same <;> cases decide (0 ≤ u) <;> cases decide (0 ≤ v) <;> rfl
/-- A point is in one of both sectors, or in both; for half a turn both products are one. -/
theorem sec_both {k u v : Int} (hk : k = 0 → u = v) : secB false k u v = true ∨ secB false (-k) (-v) (-u) = true := by
  have e (k u v : Int) : secB false k u v = decide ((k < 0 ∧ (0 ≤ u ∨ 0 ≤ v)) ∨ (0 ≤ k ∧ 0 ≤ u ∧ 0 ≤ v)) := by
    unfold secB
    rw [Bool.false_or]
    split
    · rw [← Bool.decide_or, decide_eq_decide]; omega
    · rw [← Bool.decide_and, decide_eq_decide]; omega
  rw [e, e, decide_eq_true_eq, decide_eq_true_eq]
  omega
/-- The class of a box: 'one', 'two': of the discs; 'inn', 'off': within, or off the sector; n, m: the squares of its nearest and farthest point. -/
def ringK (one two : Int) (inn off : Bool) (n m B S : Int) : Int :=
  if one = 2 ∨ two = 2 ∨ (inn = true ∧ dnW n B S = true ∧ upW m B S = true) then 2
  else if one = 0 ∧ two = 0 ∧ (off = true ∨ upW n B S = false ∨ dnW m B S = false) then 0 else 1
/-- Whether a point is in a ring: p, q: in the discs; s: in the sector; d: the square of its distance. -/
def ringB (p q s : Bool) (d B S : Int) : Bool := p || q || (s && (dnW d B S && upW d B S))
/-- In and Out are sure of a point that is no nearer than the nearest and no farther than the farthest. -/
theorem ring_sure {one two n m d B S k : Int} {inn off p q s h : Bool} (hn : n ≤ d) (hm : d ≤ m) (h1 : one = 1 ∨ (one = 2 ∧ p = true) ∨ (one = 0 ∧ p = false)) (h2 : two = 1 ∨ (two = 2 ∧ q = true) ∨ (two = 0 ∧ q = false))
    (hi : inn = true → s = true) (ho : off = true → s = false) (hk : ringK one two inn off n m B S = k) (hh : ringB p q s d B S = h) : k = 1 ∨ (k = 2 ∧ h = true) ∨ (k = 0 ∧ h = false) := by
  unfold ringK at hk
  split at hk
  · rename_i c
    refine .inr (.inl ⟨hk.symm, ?_⟩)
    rw [← hh]
    unfold ringB
    rcases c with c | c | ⟨c1, c2, c3⟩
    · have : p = true := by rcases h1 with z | z | z <;> first | omega | exact z.2
      rw [this]; rfl
    · have : q = true := by rcases h2 with z | z | z <;> first | omega | exact z.2
      rw [this]; cases p <;> rfl
    · rw [hi c1, dn_up hn c2, up_down hm c3]; cases p <;> cases q <;> rfl
  · split at hk
    · rename_i c
      obtain ⟨c1, c2, c3⟩ := c
      refine .inr (.inr ⟨hk.symm, ?_⟩)
      have e1 : p = false := by rcases h1 with z | z | z <;> first | omega | exact z.2
      have e2 : q = false := by rcases h2 with z | z | z <;> first | omega | exact z.2
      rw [← hh]
      unfold ringB
      rw [e1, e2]
      rcases c3 with c3 | c3 | c3
      · rw [ho c3]; rfl
      · cases z : upW d B S with
        | false => cases s <;> cases dnW d B S <;> rfl
        | true => rw [up_down hn z] at c3; cases c3
      · cases z : dnW d B S with
        | false => cases s <;> rfl
        | true => rw [dn_up hm z] at c3; cases c3
    · exact .inl hk.symm
/-- A thicker ring has what a thinner one has. -/
theorem ring_thick {p q p' q' s : Bool} {d B W S : Int} (hW : 0 ≤ W) (h : W ≤ S) (hB : 0 ≤ B) (hp : p = true → p' = true) (hq : q = true → q' = true) (k : ringB p q s d B W = true) : ringB p' q' s d B S = true := by
  unfold ringB at *
  simp only [Bool.or_eq_true, Bool.and_eq_true] at *
  rcases k with (k | k) | ⟨k1, k2, k3⟩
  · exact .inl (.inl (hp k))
  · exact .inl (.inr (hq k))
  · exact .inr ⟨k1, dn_thick hW h hB k2, up_thick h hB k3⟩
end Go.Proofs.Ytoofbbmddddlcaa
