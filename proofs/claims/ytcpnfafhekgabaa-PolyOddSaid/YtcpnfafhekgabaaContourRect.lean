/- Plain mathematics of contours: a box of lines has its own points, told twice its edges alone, one within another is a hole. No program in it. -/
import Derived.Test.YtcpnfafhekgabaaContourMove
namespace Go.Proofs.Ytcpnfafhekgabaa
open Go.RowKit

theorem on_flat (x u y s t : Int) : onE ((x, y), (u, y)) (s, t) = decide (t = y ∧ ((x ≤ s ∧ s ≤ u) ∨ (u ≤ s ∧ s ≤ x))) := by
  have m1 := mnI_le x u; have m2 := mxI_le x u; have m3 := mnI_le y y; have m4 := mxI_le y y
  have n1 := mnI_or x u; have n2 := mxI_or x u; have n3 := mnI_or y y; have n4 := mxI_or y y
  rw [onE_at, decide_eq_decide]
  constructor
  · omega
  · rintro ⟨rfl, h⟩
    refine ⟨?_, by omega, by omega, by omega, by omega⟩
    unfold crI
    rw [Int.sub_self, Int.mul_zero, Int.zero_mul]; rfl
theorem on_steep (x y v s t : Int) : onE ((x, y), (x, v)) (s, t) = decide (s = x ∧ ((y ≤ t ∧ t ≤ v) ∨ (v ≤ t ∧ t ≤ y))) := by
  have m1 := mnI_le x x; have m2 := mxI_le x x; have m3 := mnI_le y v; have m4 := mxI_le y v
  have n1 := mnI_or x x; have n2 := mxI_or x x; have n3 := mnI_or y v; have n4 := mxI_or y v
  rw [onE_at, decide_eq_decide]
  constructor
  · omega
  · rintro ⟨rfl, h⟩
    refine ⟨?_, by omega, by omega, by omega, by omega⟩
    unfold crI
    rw [Int.sub_self, Int.mul_zero, Int.zero_mul]; rfl
theorem cut_level (x u y s t : Int) : cutE ((x, y), (u, y)) (s, t) = false := cut_flat (by omega)
theorem cut_steep (x y v s t : Int) : cutE ((x, y), (x, v)) (s, t) = (decide (s < x) && (decide (y ≤ t) ^^ decide (v ≤ t))) := by
  by_cases h : s < x
  · rw [cut_right h h, decide_eq_true h]; rfl
  · rw [cut_left (by omega) (by omega), decide_eq_false h]; rfl
/-- A box of lines, told the one way and the other. -/
def rectX (a b c d : Int) : List P2 := [(a, b), (c, b), (c, d), (a, d)]
def rectY (a b c d : Int) : List P2 := [(a, d), (c, d), (c, b), (a, b)]
/-- Whether a point lies on the edges of a box; and in it, but for its upper edges. -/
def rimB (a b c d s t : Int) : Bool := hasB a b c d s t && (s == a || s == c || t == b || t == d)
def halfB (a b c d s t : Int) : Bool := decide (a ≤ s ∧ s < c ∧ b ≤ t ∧ t < d)
theorem rectX_on {a b c d : Int} (ac : a ≤ c) (bd : b ≤ d) (s t : Int) : (edges (rectX a b c d)).any (fun e => onE e (s, t)) = rimB a b c d s t := by
  show (onE ((a, b), (c, b)) (s, t) || (onE ((c, b), (c, d)) (s, t) || (onE ((c, d), (a, d)) (s, t) || (onE ((a, d), (a, b)) (s, t) || false)))) = _
  rw [on_flat, on_steep, on_flat, on_steep, Bool.or_false]
  unfold rimB hasB
  rw [Bool.eq_iff_iff]
  simp only [Bool.or_eq_true, Bool.and_eq_true, decide_eq_true_eq, beq_iff_eq]
  omega
theorem rectX_cut {a b c d : Int} (ac : a ≤ c) (bd : b ≤ d) (s t : Int) : xorL ((edges (rectX a b c d)).map fun e => cutE e (s, t)) = halfB a b c d s t := by
  show (cutE ((a, b), (c, b)) (s, t) ^^ (cutE ((c, b), (c, d)) (s, t) ^^ (cutE ((c, d), (a, d)) (s, t) ^^ (cutE ((a, d), (a, b)) (s, t) ^^ false)))) = _
  rw [cut_level, cut_steep, cut_level, cut_steep]
  have hb : halfB a b c d s t = (!decide (s < a) && decide (s < c) && decide (b ≤ t) && !decide (d ≤ t)) := by
    unfold halfB
    rw [Bool.eq_iff_iff]
    simp only [Bool.and_eq_true, Bool.not_eq_true', decide_eq_true_eq, decide_eq_false_iff_not]
    omega
  rw [hb]
  have i1 : decide (s < a) = true → decide (s < c) = true := by rw [decide_eq_true_eq, decide_eq_true_eq]; omega
  have i2 : decide (d ≤ t) = true → decide (b ≤ t) = true := by rw [decide_eq_true_eq, decide_eq_true_eq]; omega
  generalize decide (s < a) = p at *
  generalize decide (s < c) = q at *
  generalize decide (b ≤ t) = u at *
  generalize decide (d ≤ t) = v at *
  cases p <;> cases q <;> cases u <;> cases v <;> simp at i1 i2 ⊢
theorem rectY_rev (a b c d : Int) : rectY a b c d = (rectX a b c d).reverse := rfl
theorem rectY_on {a b c d : Int} (ac : a ≤ c) (bd : b ≤ d) (s t : Int) : (edges (rectY a b c d)).any (fun e => onE e (s, t)) = rimB a b c d s t := by
  rw [rectY_rev, any_perm (edges_reverse _), List.any_map, ← rectX_on ac bd]
  congr 1; funext e; exact on_swap e.1 e.2 (s, t)
theorem rectY_cut {a b c d : Int} (ac : a ≤ c) (bd : b ≤ d) (s t : Int) : xorL ((edges (rectY a b c d)).map fun e => cutE e (s, t)) = halfB a b c d s t := by
  rw [rectY_rev, xorL_perm ((edges_reverse _).map _), List.map_map, ← rectX_cut ac bd]
  congr 1; exact List.map_congr_left fun e _ => cut_swap e.1 e.2 (s, t)
theorem rim_half {a b c d : Int} (s t : Int) (h : rimB a b c d s t = false) : halfB a b c d s t = hasB a b c d s t := by
  unfold rimB at h
  unfold halfB
  cases hh : hasB a b c d s t with
  | true =>
    rw [hh, Bool.true_and] at h
    unfold hasB at hh
    have := of_decide_eq_true hh
    simp only [Bool.or_eq_false_iff, beq_eq_false_iff_ne] at h
    exact decide_eq_true (by omega)
  | false =>
    unfold hasB at hh
    have := of_decide_eq_false hh
    exact decide_eq_false (by omega)
theorem rim_in {a b c d : Int} (s t : Int) (h : rimB a b c d s t = true) : hasB a b c d s t = true := by
  unfold rimB at h; rw [Bool.and_eq_true] at h; exact h.1
theorem rect_one {a b c d : Int} (ac : a ≤ c) (bd : b ≤ d) (s t : Int) : hasE (edgesL [rectX a b c d]) (s, t) = hasB a b c d s t := by
  show hasE (edges (rectX a b c d) ++ []) (s, t) = _
  rw [List.append_nil]
  unfold hasE
  rw [rectX_on ac bd, rectX_cut ac bd]
  cases h : rimB a b c d s t with
  | true => rw [rim_in s t h]; rfl
  | false => rw [rim_half s t h]; rfl
theorem rect_two {a b c d : Int} (ac : a ≤ c) (bd : b ≤ d) (s t : Int) : hasE (edgesL [rectX a b c d, rectX a b c d]) (s, t) = rimB a b c d s t := by
  show hasE (edges (rectX a b c d) ++ (edges (rectX a b c d) ++ [])) (s, t) = _
  rw [List.append_nil]
  unfold hasE
  rw [List.any_append, List.map_append, xorL_append, rectX_on ac bd, Bool.xor_self]
  cases rimB a b c d s t <;> rfl
theorem rect_hole {a b c d e f g h : Int} (ac : a ≤ c) (bd : b ≤ d) (eg : e ≤ g) (fh : f ≤ h) (s t : Int) :
    hasE (edgesL [rectX a b c d, rectY e f g h]) (s, t) = (rimB a b c d s t || rimB e f g h s t || (hasB a b c d s t != hasB e f g h s t)) := by
  show hasE (edges (rectX a b c d) ++ (edges (rectY e f g h) ++ [])) (s, t) = _
  rw [List.append_nil]
  unfold hasE
  rw [List.any_append, List.map_append, xorL_append, rectX_on ac bd, rectX_cut ac bd, rectY_on eg fh, rectY_cut eg fh]
  cases h1 : rimB a b c d s t with
  | true => rfl
  | false =>
    cases h2 : rimB e f g h s t with
    | true => rfl
    | false => rw [rim_half s t h1, rim_half s t h2]
end Go.Proofs.Ytcpnfafhekgabaa
