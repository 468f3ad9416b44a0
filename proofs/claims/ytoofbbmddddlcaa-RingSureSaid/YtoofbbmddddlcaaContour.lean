/- Plain mathematics of contours: what it is for a point to be in a list of edges, and why no point of a box that no edge meets differs from another. No program in it. -/
import Derived.Test.YtoofbbmddddlcaaCrossMath
namespace Go.Proofs.Ytoofbbmddddlcaa
open Go.RowKit

abbrev P2 := Int × Int
abbrev E2 := P2 × P2
def crE (e : E2) (p : P2) : Int := crI e.1.1 e.1.2 e.2.1 e.2.2 p.1 p.2
/-- Whether a point lies on an edge. -/
def onE (e : E2) (p : P2) : Bool := decide (crE e p = 0 ∧ mnI e.1.1 e.2.1 ≤ p.1 ∧ p.1 ≤ mxI e.1.1 e.2.1 ∧ mnI e.1.2 e.2.2 ≤ p.2 ∧ p.2 ≤ mxI e.1.2 e.2.2)
/-- Whether a ray from a point, along the first axis, crosses an edge. -/
def cutE (e : E2) (p : P2) : Bool := decide ((e.1.2 ≤ p.2 ∧ p.2 < e.2.2 ∧ 0 < crE e p) ∨ (e.2.2 ≤ p.2 ∧ p.2 < e.1.2 ∧ crE e p < 0))
def meetE (a b c d : Int) (e : E2) : Bool := meetB a b c d e.1.1 e.1.2 e.2.1 e.2.2
/-- Whether an odd number of them is true. -/
def xorL : List Bool → Bool
  | [] => false
  | b :: l => b ^^ xorL l
def hasE (E : List E2) (p : P2) : Bool := E.any (fun e => onE e p) || xorL (E.map fun e => cutE e p)
def clsE (E : List E2) (a b c d : Int) : Int := if E.any (meetE a b c d) then 1 else if hasE E (a, b) then 2 else 0
/-- The edges of a contour: each point with the next one, the last with the first. -/
def edges : List P2 → List E2
  | [] => []
  | h :: t => (h :: t).zip (t ++ [h])
def edgesL (L : List (List P2)) : List E2 := L.flatMap edges

theorem xorL_append (l m : List Bool) : xorL (l ++ m) = (xorL l ^^ xorL m) := by
  induction l with
  | nil => simp [xorL]
  | cons b l ih => simp [xorL, ih]
theorem xorL_pair {α : Type} (l : List α) (f g : α → Bool) : xorL (l.map fun x => f x ^^ g x) = (xorL (l.map f) ^^ xorL (l.map g)) := by
  induction l with
  | nil => rfl
  | cons x l ih =>
    simp only [List.map_cons, xorL, ih]
    cases f x <;> cases g x <;> cases xorL (l.map f) <;> cases xorL (l.map g) <;> rfl
theorem xorL_perm {l m : List Bool} (h : l.Perm m) : xorL l = xorL m := by
  induction h with
  | nil => rfl
  | cons x _ ih => simp [xorL, ih]
  | swap x y l => simp only [xorL]; cases x <;> cases y <;> cases xorL l <;> rfl
  | trans _ _ h1 h2 => exact h1.trans h2
/-- Where each of two tests differs by what its ends tell, both are odd together. -/
def Closed (E : List E2) : Prop := ∀ f : P2 → Bool, xorL (E.map fun e => f e.1 ^^ f e.2) = false
theorem closed_edges (c : List P2) : Closed (edges c) := by
  intro f
  cases c with
  | nil => rfl
  | cons h t =>
    rw [xorL_pair]
    unfold edges
    have e1 : ((h :: t).zip (t ++ [h])).map (fun e => f e.1) = (h :: t).map f := by
      rw [show (fun e : E2 => f e.1) = f ∘ Prod.fst from rfl, ← List.map_map, List.map_fst_zip (by simp)]
    have e2 : ((h :: t).zip (t ++ [h])).map (fun e => f e.2) = (t ++ [h]).map f := by
      rw [show (fun e : E2 => f e.2) = f ∘ Prod.snd from rfl, ← List.map_map, List.map_snd_zip (by simp)]
    rw [e1, e2, List.map_append, xorL_append]
    simp only [List.map_cons, List.map_nil, xorL]
    cases f h <;> cases xorL (t.map f) <;> rfl
theorem closed_append {E F : List E2} (h : Closed E) (k : Closed F) : Closed (E ++ F) := by
  intro f; rw [List.map_append, xorL_append, h f, k f]; rfl
theorem closed_edgesL (L : List (List P2)) : Closed (edgesL L) := by
  induction L with
  | nil => exact fun _ => rfl
  | cons c L ih => exact closed_append (closed_edges c) ih

theorem cr_affine (x y u v s t : Int) : crI x y u v s t = (u - x) * (t - y) - (v - y) * (s - x) := rfl
/-- A cross product with the same sign at the corners has it in the box. -/
theorem side_pos {a b c d x y u v s t : Int} (h0 : 0 < crI x y u v a b) (h1 : 0 < crI x y u v c b) (h2 : 0 < crI x y u v a d) (h3 : 0 < crI x y u v c d) (sa : a ≤ s) (sc : s ≤ c) (tb : b ≤ t) (td : t ≤ d) : 0 < crI x y u v s t := by
  have e : ∀ p q : Int, crI x y u v p q = crI x y u v s t + (u - x) * (q - t) - (v - y) * (p - s) := by
    intro p q
    unfold crI
    generalize u - x = U
    generalize v - y = V
    simp only [Int.mul_sub]
    omega
  rw [e] at h0 h1 h2 h3
  rcases Int.le_total 0 (u - x) with h | h <;> rcases Int.le_total 0 (v - y) with k | k
  · have p1 := mul_pn h (show b - t ≤ 0 by omega); have p2 := mul_pp k (show 0 ≤ c - s by omega); omega
  · have p1 := mul_pn h (show b - t ≤ 0 by omega); have p2 := mul_nn k (show a - s ≤ 0 by omega); omega
  · have p1 := mul_np h (show 0 ≤ d - t by omega); have p2 := mul_pp k (show 0 ≤ c - s by omega); omega
  · have p1 := mul_np h (show 0 ≤ d - t by omega); have p2 := mul_nn k (show a - s ≤ 0 by omega); omega
/-- Why a segment misses a box: it lies beside it, or all of the box lies on one side of it. -/
theorem miss_cases {a b c d x y u v : Int} (ac : a ≤ c) (bd : b ≤ d) (h : meetB a b c d x y u v = false) :
    (c < x ∧ c < u) ∨ (x < a ∧ u < a) ∨ (d < y ∧ d < v) ∨ (y < b ∧ v < b) ∨ (∀ s t, a ≤ s → s ≤ c → b ≤ t → t ≤ d → 0 < crI x y u v s t) ∨ (∀ s t, a ≤ s → s ≤ c → b ≤ t → t ≤ d → 0 < crI u v x y s t) := by
  have m1 := mnI_le x u; have m2 := mxI_le x u; have m3 := mnI_le y v; have m4 := mxI_le y v
  have n1 := mnI_or x u; have n2 := mxI_or x u; have n3 := mnI_or y v; have n4 := mxI_or y v
  unfold meetB at h
  cases hs : sideB a b c d x y u v with
  | true =>
    unfold sideB besB at hs
    rcases of_decide_eq_true hs with ⟨h0, h1, h2, h3⟩ | ⟨h0, h1, h2, h3⟩
    · exact .inr (.inr (.inr (.inr (.inl fun s t h4 h5 h6 h7 => side_pos h0 h1 h2 h3 h4 h5 h6 h7))))
    · refine .inr (.inr (.inr (.inr (.inr fun s t h4 h5 h6 h7 => side_pos ?_ ?_ ?_ ?_ h4 h5 h6 h7))))
      all_goals (rw [cr_swap]; omega)
  | false =>
    rw [hs, Bool.not_false, Bool.and_true, Bool.not_eq_false'] at h
    unfold apB at h
    rw [shB_eq, shB_eq, Bool.or_eq_true, Bool.not_eq_true', Bool.not_eq_true', decide_eq_false_iff_not, decide_eq_false_iff_not] at h
    omega
theorem cr_ends (x y u v s t : Int) : crI x y u v s t = (u - s) * (t - y) + (x - s) * (v - t) := by
  unfold crI
  rw [show u - x = (u - s) - (x - s) by omega, show v - y = (v - t) + (t - y) by omega]
  rw [show s - x = -(x - s) by omega]
  generalize u - s = A
  generalize x - s = B
  generalize v - t = C
  generalize t - y = D
  rw [Int.sub_mul, Int.mul_neg, Int.add_mul, Int.mul_comm C B, Int.mul_comm D B]
  omega
/-- A ray crosses an edge that lies beyond its start just if the edge's ends lie on either side of it; one that lies behind it, never. -/
theorem cut_right {x y u v s t : Int} (h : s < x) (k : s < u) : cutE ((x, y), (u, v)) (s, t) = (decide (y ≤ t) ^^ decide (v ≤ t)) := by
  unfold cutE crE
  simp only []
  rw [cr_ends]
  by_cases h1 : y ≤ t <;> by_cases h2 : v ≤ t
  · simp [h1, h2] <;> omega
  · have p1 := mul_pp (show 0 ≤ u - s by omega) (show 0 ≤ t - y by omega)
    have p2 := Int.mul_pos (show 0 < x - s by omega) (show 0 < v - t by omega)
    simp [h1, h2] <;> omega
  · have p1 := Int.mul_neg_of_pos_of_neg (show 0 < u - s by omega) (show t - y < 0 by omega)
    have p2 := mul_pn (show 0 ≤ x - s by omega) (show v - t ≤ 0 by omega)
    simp [h1, h2] <;> omega
  · simp [h1, h2] <;> omega
theorem cut_left {x y u v s t : Int} (h : x ≤ s) (k : u ≤ s) : cutE ((x, y), (u, v)) (s, t) = false := by
  unfold cutE crE
  simp only []
  rw [cr_ends]
  refine decide_eq_false ?_
  rintro (⟨h1, h2, h3⟩ | ⟨h1, h2, h3⟩)
  · have p1 := mul_np (show u - s ≤ 0 by omega) (show 0 ≤ t - y by omega)
    have p2 := mul_np (show x - s ≤ 0 by omega) (show 0 ≤ v - t by omega)
    omega
  · have p1 := mul_nn (show u - s ≤ 0 by omega) (show t - y ≤ 0 by omega)
    have p2 := mul_nn (show x - s ≤ 0 by omega) (show v - t ≤ 0 by omega)
    omega
theorem cut_flat {x y u v s t : Int} (h : (y ≤ t ∧ v ≤ t) ∨ (t < y ∧ t < v)) : cutE ((x, y), (u, v)) (s, t) = false := by
  unfold cutE; simp only []; exact decide_eq_false (by omega)
theorem cut_swap (e f : P2) (p : P2) : cutE (f, e) p = cutE (e, f) p := by
  obtain ⟨x, y⟩ := e
  obtain ⟨u, v⟩ := f
  unfold cutE crE
  simp only []
  rw [cr_swap x y u v, decide_eq_decide]
  omega
theorem on_swap (e f : P2) (p : P2) : onE (f, e) p = onE (e, f) p := by
  obtain ⟨x, y⟩ := e
  obtain ⟨u, v⟩ := f
  unfold onE crE
  simp only []
  rw [cr_swap x y u v, mnI_comm u x, mxI_comm u x, mnI_comm v y, mxI_comm v y, decide_eq_decide]
  omega
theorem cut_pos {x y u v s t : Int} (h : 0 < crI x y u v s t) : cutE ((x, y), (u, v)) (s, t) = decide (y ≤ t ∧ t < v) := by
  unfold cutE crE; simp only []; rw [decide_eq_decide]; omega
theorem xor4 {A B C D : Prop} [Decidable A] [Decidable B] [Decidable C] [Decidable D] (h : (A ↔ B) ↔ (C ↔ D)) : (decide A ^^ decide B) = (decide C ^^ decide D) := by
  by_cases a : A <;> by_cases b : B <;> by_cases c : C <;> by_cases d : D <;> simp [a, b, c, d] at h ⊢
/-- A point that lies between two heights, beyond a place. -/
def betw (s t t' : Int) (q : P2) : Bool := decide (t < q.2 ∧ q.2 ≤ t' ∧ s < q.1)
theorem up_pos {x y u v s t t' : Int} (htt : t ≤ t') (H : ∀ r, t ≤ r → r ≤ t' → 0 < crI x y u v s r) :
    (cutE ((x, y), (u, v)) (s, t) ^^ cutE ((x, y), (u, v)) (s, t')) = (betw s t t' (x, y) ^^ betw s t t' (u, v)) := by
  rw [cut_pos (H t (Int.le_refl t) htt), cut_pos (H t' htt (Int.le_refl t'))]
  have k1 : t ≤ y → y ≤ t' → 0 < (v - y) * (x - s) := by
    intro h k
    have := H y h k
    unfold crI at this
    rw [Int.sub_self, Int.mul_zero, show s - x = -(x - s) by omega, Int.mul_neg] at this
    omega
  have k2 : t ≤ v → v ≤ t' → 0 < (v - y) * (u - s) := by
    intro h k
    have := H v h k
    rw [cr_ends, Int.sub_self, Int.mul_zero, Int.add_zero, Int.mul_comm] at this
    exact this
  have sg : ∀ A B : Int, 0 < A * B → (0 < A ∧ 0 < B) ∨ (A < 0 ∧ B < 0) := by
    intro A B h
    rcases Int.lt_trichotomy A 0 with hA | hA | hA
    · rcases Int.lt_trichotomy B 0 with hB | hB | hB
      · exact .inr ⟨hA, hB⟩
      · rw [hB, Int.mul_zero] at h; omega
      · have := Int.mul_neg_of_neg_of_pos hA hB; omega
    · rw [hA, Int.zero_mul] at h; omega
    · rcases Int.lt_trichotomy B 0 with hB | hB | hB
      · have := Int.mul_neg_of_pos_of_neg hA hB; omega
      · rw [hB, Int.mul_zero] at h; omega
      · exact .inl ⟨hA, hB⟩
  have j1 : y < t ∨ t' < y ∨ (y < v ∧ s < x) ∨ (v < y ∧ x < s) := by
    by_cases h : y < t
    · exact .inl h
    by_cases k : t' < y
    · exact .inr (.inl k)
    rcases sg _ _ (k1 (by omega) (by omega)) with z | z <;> omega
  have j2 : v < t ∨ t' < v ∨ (y < v ∧ s < u) ∨ (v < y ∧ u < s) := by
    by_cases h : v < t
    · exact .inl h
    by_cases k : t' < v
    · exact .inr (.inl k)
    rcases sg _ _ (k2 (by omega) (by omega)) with z | z <;> omega
  clear k1 k2 sg H
  unfold betw
  simp only []
  refine xor4 ?_
  omega
/-- Straight up within a box that an edge misses, its crossing differs by what its ends tell. -/
theorem step_up {a b c d s t t' : Int} (ac : a ≤ c) (bd : b ≤ d) {e : E2} (h : meetE a b c d e = false) (sa : a ≤ s) (sc : s ≤ c) (tb : b ≤ t) (tt : t ≤ t') (td : t' ≤ d) :
    (cutE e (s, t) ^^ cutE e (s, t')) = (betw s t t' e.1 ^^ betw s t t' e.2) := by
  obtain ⟨⟨x, y⟩, ⟨u, v⟩⟩ := e
  have h : meetB a b c d x y u v = false := h
  rcases miss_cases ac bd h with k | k | k | k | k | k
  · rw [cut_right (by omega) (by omega), cut_right (by omega) (by omega)]
    simp only [betw]
    have f (z w : Int) (hw : s < w) : decide (t < z ∧ z ≤ t' ∧ s < w) = (decide (z ≤ t) ^^ decide (z ≤ t')) := by
      by_cases a1 : z ≤ t <;> by_cases a2 : z ≤ t' <;> simp [a1, a2] <;> omega
    rw [f y x (by omega), f v u (by omega)]
    cases decide (y ≤ t) <;> cases decide (y ≤ t') <;> cases decide (v ≤ t) <;> cases decide (v ≤ t') <;> rfl
  · rw [cut_left (by omega) (by omega), cut_left (by omega) (by omega)]
    simp only [betw]
    refine (?_ : (false ^^ false) = _)
    rw [decide_eq_false (show ¬ (t < y ∧ y ≤ t' ∧ s < x) by omega), decide_eq_false (show ¬ (t < v ∧ v ≤ t' ∧ s < u) by omega)]
  · rw [cut_flat (by omega), cut_flat (by omega)]
    simp only [betw]
    rw [decide_eq_false (show ¬ (t < y ∧ y ≤ t' ∧ s < x) by omega), decide_eq_false (show ¬ (t < v ∧ v ≤ t' ∧ s < u) by omega)]
  · rw [cut_flat (by omega), cut_flat (by omega)]
    simp only [betw]
    rw [decide_eq_false (show ¬ (t < y ∧ y ≤ t' ∧ s < x) by omega), decide_eq_false (show ¬ (t < v ∧ v ≤ t' ∧ s < u) by omega)]
  · exact up_pos tt fun r h1 h2 => k s r sa sc (by omega) (by omega)
  · rw [← cut_swap (x, y) (u, v) (s, t), ← cut_swap (x, y) (u, v) (s, t'), Bool.xor_comm (betw _ _ _ _)]
    exact up_pos tt fun r h1 h2 => k s r sa sc (by omega) (by omega)
/-- Straight aside, it does not differ. -/
theorem step_aside {a b c d s s' t : Int} (ac : a ≤ c) (bd : b ≤ d) {e : E2} (h : meetE a b c d e = false) (sa : a ≤ s) (sc : s ≤ c) (sa' : a ≤ s') (sc' : s' ≤ c) (tb : b ≤ t) (td : t ≤ d) :
    cutE e (s, t) = cutE e (s', t) := by
  obtain ⟨⟨x, y⟩, ⟨u, v⟩⟩ := e
  have h : meetB a b c d x y u v = false := h
  rcases miss_cases ac bd h with k | k | k | k | k | k
  · rw [cut_right (by omega) (by omega), cut_right (by omega) (by omega)]
  · rw [cut_left (by omega) (by omega), cut_left (by omega) (by omega)]
  · rw [cut_flat (by omega), cut_flat (by omega)]
  · rw [cut_flat (by omega), cut_flat (by omega)]
  · rw [cut_pos (k s t sa sc tb td), cut_pos (k s' t sa' sc' tb td)]
  · rw [← cut_swap (x, y) (u, v) (s, t), ← cut_swap (x, y) (u, v) (s', t), cut_pos (k s t sa sc tb td), cut_pos (k s' t sa' sc' tb td)]
/-- An edge with a point of a box on it meets the box. -/
theorem on_meets {a b c d : Int} {e : E2} {p : P2} (h1 : a ≤ p.1) (h2 : p.1 ≤ c) (h3 : b ≤ p.2) (h4 : p.2 ≤ d) (h : onE e p = true) : meetE a b c d e = true := by
  have k := of_decide_eq_true h
  exact meet_through k.1 h1 h2 h3 h4 k.2.1 k.2.2.1 k.2.2.2.1 k.2.2.2.2
theorem none_on {E : List E2} {a b c d : Int} {p : P2} (hE : E.any (meetE a b c d) = false) (h1 : a ≤ p.1) (h2 : p.1 ≤ c) (h3 : b ≤ p.2) (h4 : p.2 ≤ d) : E.any (fun e => onE e p) = false := by
  rw [List.any_eq_false] at hE ⊢
  intro e he h
  exact hE e he (on_meets h1 h2 h3 h4 h)
theorem map_same {E : List E2} {f g : E2 → Bool} (h : ∀ e ∈ E, f e = g e) : E.map f = E.map g := List.map_congr_left h
/-- No point of a box that no edge meets differs from another. -/
theorem has_const {E : List E2} (hc : Closed E) {a b c d s t s' t' : Int} (ac : a ≤ c) (bd : b ≤ d) (hE : E.any (meetE a b c d) = false)
    (h1 : a ≤ s) (h2 : s ≤ c) (h3 : b ≤ t) (h4 : t ≤ d) (k1 : a ≤ s') (k2 : s' ≤ c) (k3 : b ≤ t') (k4 : t' ≤ d) : hasE E (s, t) = hasE E (s', t') := by
  have miss : ∀ e ∈ E, meetE a b c d e = false := by
    intro e he
    have := List.any_eq_false.1 hE e he
    simpa using this
  have up : ∀ r r' : Int, b ≤ r → r ≤ r' → r' ≤ d → xorL (E.map fun e => cutE e (s, r)) = xorL (E.map fun e => cutE e (s, r')) := by
    intro r r' g1 g2 g3
    have k := hc (betw s r r')
    rw [← map_same (f := fun e => cutE e (s, r) ^^ cutE e (s, r')) (fun e he => step_up ac bd (miss e he) h1 h2 g1 g2 g3), xorL_pair] at k
    cases z1 : xorL (E.map fun e => cutE e (s, r)) <;> cases z2 : xorL (E.map fun e => cutE e (s, r')) <;> rw [z1, z2] at k <;> first | rfl | exact absurd k (by decide)
  have st : xorL (E.map fun e => cutE e (s, t)) = xorL (E.map fun e => cutE e (s', t')) := by
    rw [← map_same (f := fun e => cutE e (s, t')) (g := fun e => cutE e (s', t')) (fun e he => step_aside ac bd (miss e he) h1 h2 k1 k2 k3 k4)]
    rcases Int.le_total t t' with g | g
    · exact up t t' h3 g k4
    · exact (up t' t k3 g h4).symm
  unfold hasE
  rw [none_on hE h1 h2 h3 h4, none_on hE k1 k2 k3 k4, st]
end Go.Proofs.Ytoofbbmddddlcaa
