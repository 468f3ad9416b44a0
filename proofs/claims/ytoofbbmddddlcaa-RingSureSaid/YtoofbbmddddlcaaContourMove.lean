/- Plain mathematics of contours: points and classes hang on no first point, no direction, no order, no move and no quarter turn. No program in it. -/
import Derived.Test.YtoofbbmddddlcaaContour
namespace Go.Proofs.Ytoofbbmddddlcaa
open Go.RowKit

theorem onE_at (x y u v s t : Int) : onE ((x, y), (u, v)) (s, t) = decide (crI x y u v s t = 0 ∧ mnI x u ≤ s ∧ s ≤ mxI x u ∧ mnI y v ≤ t ∧ t ≤ mxI y v) := rfl
theorem cutE_at (x y u v s t : Int) : cutE ((x, y), (u, v)) (s, t) = decide ((y ≤ t ∧ t < v ∧ 0 < crI x y u v s t) ∨ (v ≤ t ∧ t < y ∧ crI x y u v s t < 0)) := rfl
theorem any_perm {E F : List E2} (h : E.Perm F) (f : E2 → Bool) : E.any f = F.any f := by
  rw [Bool.eq_iff_iff, List.any_eq_true, List.any_eq_true]
  exact ⟨fun ⟨e, he, hf⟩ => ⟨e, h.mem_iff.1 he, hf⟩, fun ⟨e, he, hf⟩ => ⟨e, h.mem_iff.2 he, hf⟩⟩
theorem has_perm {E F : List E2} (h : E.Perm F) (p : P2) : hasE E p = hasE F p := by
  unfold hasE; rw [any_perm h, xorL_perm (h.map _)]
theorem cls_perm {E F : List E2} (h : E.Perm F) (a b c d : Int) : clsE E a b c d = clsE F a b c d := by
  unfold clsE; rw [any_perm h, has_perm h]
/-- The first point last. -/
def rot1 : List P2 → List P2
  | [] => []
  | h :: t => t ++ [h]
def rot : Nat → List P2 → List P2
  | 0, c => c
  | j + 1, c => rot1 (rot j c)
theorem rot1_length (c : List P2) : (rot1 c).length = c.length := by cases c <;> simp [rot1]
theorem rot_length (j : Nat) (c : List P2) : (rot j c).length = c.length := by
  induction j with
  | zero => rfl
  | succ j ih => rw [rot, rot1_length, ih]
theorem edges_rot1 (c : List P2) : (edges (rot1 c)).Perm (edges c) := by
  match c with
  | [] => exact List.Perm.refl _
  | [h] => exact List.Perm.refl _
  | h :: h2 :: t =>
    have e1 : edges (rot1 (h :: h2 :: t)) = ((h2 :: t).zip (t ++ [h])) ++ [(h, h2)] := by
      show ((h2 :: (t ++ [h])).zip ((t ++ [h]) ++ [h2])) = _
      rw [show h2 :: (t ++ [h]) = (h2 :: t) ++ [h] from rfl, List.zip_append (by simp)]
      rfl
    have e2 : edges (h :: h2 :: t) = [(h, h2)] ++ ((h2 :: t).zip (t ++ [h])) := rfl
    rw [e1, e2]
    exact List.perm_append_comm
theorem edges_rot (j : Nat) (c : List P2) : (edges (rot j c)).Perm (edges c) := by
  induction j with
  | zero => exact List.Perm.refl _
  | succ j ih => exact (edges_rot1 _).trans ih
theorem rot1_at (c : List P2) (k : Nat) (hk : k < c.length) : (rot1 c).getD k (0, 0) = c.getD ((k + 1) % c.length) (0, 0) := by
  match c with
  | h :: t =>
    simp only [List.length_cons] at hk ⊢
    by_cases e : k = t.length
    · subst e
      simp [rot1, List.getD_eq_getElem?_getD]
    · rw [Nat.mod_eq_of_lt (by omega)]
      have : k < t.length := by omega
      simp [rot1, List.getD_eq_getElem?_getD, List.getElem?_append_left this]
theorem rot_at (j : Nat) (c : List P2) (k : Nat) (hk : k < c.length) : (rot j c).getD k (0, 0) = c.getD ((k + j) % c.length) (0, 0) := by
  induction j generalizing k with
  | zero => rw [Nat.add_zero, Nat.mod_eq_of_lt hk]; rfl
  | succ j ih =>
    have hl := rot_length j c
    rw [rot, rot1_at _ _ (by omega), hl, ih _ (Nat.mod_lt _ (by omega)), Nat.mod_add_mod, show k + 1 + j = k + (j + 1) by omega]
theorem edges_map (f : P2 → P2) (c : List P2) : edges (c.map f) = (edges c).map fun e => (f e.1, f e.2) := by
  cases c with
  | nil => rfl
  | cons h t =>
    show ((h :: t).map f).zip (t.map f ++ [f h]) = _
    rw [show t.map f ++ [f h] = (t ++ [h]).map f by simp, List.zip_map]
    rfl
/-- The edges of a path: each point with the next one. -/
def path : List P2 → List E2
  | [] => []
  | [_] => []
  | x :: y :: r => (x, y) :: path (y :: r)
theorem zip_path (h x : P2) (t : List P2) : (h :: t).zip (t ++ [x]) = path (h :: t) ++ [((h :: t).getLast (by simp), x)] := by
  induction t generalizing h with
  | nil => rfl
  | cons y r ih =>
    show (h, y) :: ((y :: r).zip (r ++ [x])) = _
    rw [ih]
    simp [path]
theorem path_snoc (l : List P2) (x y : P2) : path (l ++ [x, y]) = path (l ++ [x]) ++ [(x, y)] := by
  match l with
  | [] => rfl
  | [a] => rfl
  | a :: b :: r =>
    have ih := path_snoc (b :: r) x y
    simp only [List.cons_append] at ih
    simp only [List.cons_append, path, ih]
theorem path_reverse : ∀ l : List P2, path l.reverse = ((path l).map fun e => (e.2, e.1)).reverse
  | [] => rfl
  | [_] => rfl
  | x :: y :: r => by
    have ih := path_reverse (y :: r)
    rw [List.reverse_cons, List.reverse_cons, List.append_assoc]
    show path (r.reverse ++ [y, x]) = _
    rw [path_snoc, ← List.reverse_cons, ih]
    simp [path]
/-- Told backwards, a contour has the same edges, each backwards. -/
theorem edges_reverse (c : List P2) : (edges c.reverse).Perm ((edges c).map fun e => (e.2, e.1)) := by
  cases c with
  | nil => exact List.Perm.refl _
  | cons h t =>
    have e1 : edges (h :: t) = path (h :: t) ++ [((h :: t).getLast (by simp), h)] := zip_path h h t
    have hr : rot1 (h :: t.reverse) = (h :: t).reverse := by simp [rot1]
    have e2 : (edges (h :: t).reverse).Perm (edges (h :: t.reverse)) := hr ▸ edges_rot1 (h :: t.reverse)
    refine e2.trans ?_
    cases t with
    | nil => exact List.Perm.refl _
    | cons y r =>
      have hne : (y :: r).reverse ≠ [] := by simp
      obtain ⟨z, s, hz⟩ : ∃ z s, (y :: r).reverse = z :: s := by
        cases hq : (y :: r).reverse with
        | nil => exact absurd hq hne
        | cons z s => exact ⟨z, s, rfl⟩
      have hl : (h :: y :: r).getLast (by simp) = z := by
        have : (h :: y :: r).reverse = z :: (s ++ [h]) := by rw [List.reverse_cons, hz]; rfl
        rw [← List.head_reverse]
        simp only [this]
        rfl
        simp
      have e3 : edges (h :: (y :: r).reverse) = (h, z) :: (path ((h :: y :: r).reverse)) := by
        rw [hz]
        show (h, z) :: ((z :: s).zip (s ++ [h])) = _
        rw [zip_path, List.reverse_cons, hz]
        congr 1
        have hs := hz
        have k : ∀ (l : List P2) (hl : l ≠ []), path (l ++ [h]) = path l ++ [(l.getLast hl, h)] := by
          intro l hl
          obtain ⟨m, x, rfl⟩ : ∃ m x, l = m ++ [x] := ⟨l.dropLast, l.getLast hl, (List.dropLast_concat_getLast hl).symm⟩
          rw [List.append_assoc]
          show path (m ++ [x, h]) = _
          rw [path_snoc]
          simp
        exact (k (z :: s) (by simp)).symm
      rw [e3, path_reverse, e1, List.map_append, hl]
      refine (List.Perm.cons _ (List.reverse_perm _)).trans ?_
      exact (List.perm_append_comm (l₁ := [(h, z)]))
theorem edgesL_perm {L M : List (List P2)} (h : L.Perm M) : (edgesL L).Perm (edgesL M) := h.flatMap_right edges
theorem has_swap (E : List E2) (p : P2) : hasE (E.map fun e => (e.2, e.1)) p = hasE E p := by
  unfold hasE
  rw [List.any_map, List.map_map]
  congr 1
  · congr 1; funext e; exact on_swap e.1 e.2 p
  · congr 1; exact List.map_congr_left fun e _ => cut_swap e.1 e.2 p
theorem meets_swap (E : List E2) (a b c d : Int) : (E.map fun e => (e.2, e.1)).any (meetE a b c d) = E.any (meetE a b c d) := by
  rw [List.any_map]; congr 1; funext e; exact meet_swap a b c d e.1.1 e.1.2 e.2.1 e.2.2
theorem cls_swap (E : List E2) (a b c d : Int) : clsE (E.map fun e => (e.2, e.1)) a b c d = clsE E a b c d := by
  unfold clsE; rw [meets_swap, has_swap]
/-- Moved. -/
def mvP (ex ey : Int) (p : P2) : P2 := (p.1 + ex, p.2 + ey)
theorem cr_move (x y u v s t e f : Int) : crI (x + e) (y + f) (u + e) (v + f) (s + e) (t + f) = crI x y u v s t := by
  unfold crI
  rw [show u + e - (x + e) = u - x by omega, show t + f - (y + f) = t - y by omega, show v + f - (y + f) = v - y by omega, show s + e - (x + e) = s - x by omega]
theorem mn_move (x u e : Int) : mnI (x + e) (u + e) = mnI x u + e := by unfold mnI; split <;> split <;> omega
theorem mx_move (x u e : Int) : mxI (x + e) (u + e) = mxI x u + e := by unfold mxI; split <;> split <;> omega
theorem sh_move (a c e g k : Int) : shB (a + k) (c + k) (e + k) (g + k) = shB a c e g := by rw [shB_eq, shB_eq, decide_eq_decide]; omega
theorem meet_move (a b c d x y u v e f : Int) : meetB (a + e) (b + f) (c + e) (d + f) (x + e) (y + f) (u + e) (v + f) = meetB a b c d x y u v := by
  unfold meetB sideB apB
  rw [cr_move, cr_move, cr_move, cr_move, mn_move, mn_move, mx_move, mx_move, sh_move, sh_move]
theorem on_move (ex ey : Int) (e : E2) (p : P2) : onE (mvP ex ey e.1, mvP ex ey e.2) (mvP ex ey p) = onE e p := by
  obtain ⟨⟨x, y⟩, ⟨u, v⟩⟩ := e
  obtain ⟨s, t⟩ := p
  show onE ((x + ex, y + ey), (u + ex, v + ey)) (s + ex, t + ey) = _
  rw [onE_at, onE_at, cr_move, mn_move, mn_move, mx_move, mx_move, decide_eq_decide]
  omega
theorem cut_move (ex ey : Int) (e : E2) (p : P2) : cutE (mvP ex ey e.1, mvP ex ey e.2) (mvP ex ey p) = cutE e p := by
  obtain ⟨⟨x, y⟩, ⟨u, v⟩⟩ := e
  obtain ⟨s, t⟩ := p
  show cutE ((x + ex, y + ey), (u + ex, v + ey)) (s + ex, t + ey) = _
  rw [cutE_at, cutE_at, cr_move, decide_eq_decide]
  omega
theorem has_move (E : List E2) (ex ey : Int) (p : P2) : hasE (E.map fun e => (mvP ex ey e.1, mvP ex ey e.2)) (mvP ex ey p) = hasE E p := by
  unfold hasE
  rw [List.any_map, List.map_map]
  congr 1
  · congr 1; funext e; exact on_move ex ey e p
  · congr 1; exact List.map_congr_left fun e _ => cut_move ex ey e p
theorem cls_move (E : List E2) (ex ey a b c d : Int) : clsE (E.map fun e => (mvP ex ey e.1, mvP ex ey e.2)) (a + ex) (b + ey) (c + ex) (d + ey) = clsE E a b c d := by
  unfold clsE
  have h : (E.map fun e => (mvP ex ey e.1, mvP ex ey e.2)).any (meetE (a + ex) (b + ey) (c + ex) (d + ey)) = E.any (meetE a b c d) := by
    rw [List.any_map]; congr 1; funext e; exact meet_move a b c d e.1.1 e.1.2 e.2.1 e.2.2 ex ey
  rw [h]
  have k := has_move E ex ey (a, b)
  rw [show mvP ex ey (a, b) = (a + ex, b + ey) from rfl] at k
  rw [k]
/-- Turned by a quarter. -/
def tuP (p : P2) : P2 := (-p.2, p.1)
theorem cr_turn (x y u v s t : Int) : crI (-y) x (-v) u (-t) s = crI x y u v s t := by
  unfold crI
  rw [show -v - -y = -(v - y) by omega, show -t - -y = -(t - y) by omega, Int.neg_mul, Int.mul_neg]
  omega
theorem meet_turn {a b c d x y u v : Int} : meetB (-d) a (-b) c (-y) x (-v) u = meetB a b c d x y u v := by
  unfold meetB sideB apB
  rw [cr_turn x y u v a d, cr_turn x y u v a b, cr_turn x y u v c d, cr_turn x y u v c b, mn_neg, mx_neg, sh_neg, Bool.or_comm]
  congr 2
  unfold besB; rw [decide_eq_decide]; omega
theorem on_turn (e : E2) (p : P2) : onE (tuP e.1, tuP e.2) (tuP p) = onE e p := by
  obtain ⟨⟨x, y⟩, ⟨u, v⟩⟩ := e
  obtain ⟨s, t⟩ := p
  show onE ((-y, x), (-v, u)) (-t, s) = _
  rw [onE_at, onE_at, cr_turn, mn_neg, mx_neg, decide_eq_decide]
  omega
/-- Beyond a point, and not above it. -/
def quad (p q : P2) : Bool := decide (p.1 < q.1 ∧ q.2 ≤ p.2)
theorem cut_flat_up {x y u v s t : Int} (h : (y ≤ t ∧ v ≤ t) ∨ (t < y ∧ t < v)) : cutE ((x, y), (u, v)) (s, t) = false := cut_flat h
theorem on_not {x y u v s t : Int} (h : onE ((x, y), (u, v)) (s, t) = false) : ¬ (crI x y u v s t = 0 ∧ ((x ≤ s ∧ s ≤ u) ∨ (u ≤ s ∧ s ≤ x)) ∧ ((y ≤ t ∧ t ≤ v) ∨ (v ≤ t ∧ t ≤ y))) := by
  rw [onE_at] at h
  have h := of_decide_eq_false h
  have m1 := mnI_le x u; have m2 := mxI_le x u; have m3 := mnI_le y v; have m4 := mxI_le y v
  intro k
  exact h ⟨k.1, by omega, by omega, by omega, by omega⟩
theorem sg_mul (X Y : Int) : (0 < X ∧ 0 ≤ Y ∧ (0 < X * Y ∨ (X * Y = 0 ∧ Y = 0))) ∨ (0 < X ∧ Y < 0 ∧ X * Y < 0) ∨ (X ≤ 0 ∧ 0 ≤ Y ∧ (X * Y < 0 ∨ (X * Y = 0 ∧ (X = 0 ∨ Y = 0)))) ∨ (X ≤ 0 ∧ Y < 0 ∧ (0 < X * Y ∨ (X * Y = 0 ∧ X = 0))) := by
  rcases Int.lt_trichotomy X 0 with h | h | h <;> rcases Int.lt_trichotomy Y 0 with k | k | k
  · have := Int.mul_pos_of_neg_of_neg h k; omega
  · subst k; rw [Int.mul_zero]; omega
  · have := Int.mul_neg_of_neg_of_pos h k; omega
  · subst h; rw [Int.zero_mul]; omega
  · subst h; rw [Int.zero_mul]; omega
  · subst h; rw [Int.zero_mul]; omega
  · have := Int.mul_neg_of_pos_of_neg h k; omega
  · subst k; rw [Int.mul_zero]; omega
  · have := Int.mul_pos h k; omega
theorem sg_mul' (X Y : Int) : (0 < X ∧ 0 < Y ∧ 0 < X * Y) ∨ (0 < X ∧ Y ≤ 0 ∧ (X * Y < 0 ∨ (X * Y = 0 ∧ Y = 0))) ∨ (X ≤ 0 ∧ 0 < Y ∧ (X * Y < 0 ∨ (X * Y = 0 ∧ X = 0))) ∨ (X ≤ 0 ∧ Y ≤ 0 ∧ (0 < X * Y ∨ (X * Y = 0 ∧ (X = 0 ∨ Y = 0)))) := by
  rcases Int.lt_trichotomy X 0 with h | h | h <;> rcases Int.lt_trichotomy Y 0 with k | k | k
  · have := Int.mul_pos_of_neg_of_neg h k; omega
  · subst k; rw [Int.mul_zero]; omega
  · have := Int.mul_neg_of_neg_of_pos h k; omega
  · subst h; rw [Int.zero_mul]; omega
  · subst h; rw [Int.zero_mul]; omega
  · subst h; rw [Int.zero_mul]; omega
  · have := Int.mul_neg_of_pos_of_neg h k; omega
  · subst k; rw [Int.mul_zero]; omega
  · have := Int.mul_pos h k; omega
set_option maxHeartbeats 4000000 in
/-- A point that lies on no edge has the edge cross one ray and not the other just if one end lies between them. -/
theorem cut_turn {e : E2} {p : P2} (h : onE e p = false) : (cutE e p ^^ cutE (tuP e.1, tuP e.2) (tuP p)) = (quad p e.1 ^^ quad p e.2) := by
  obtain ⟨⟨x, y⟩, ⟨u, v⟩⟩ := e
  obtain ⟨s, t⟩ := p
  have h := on_not h
  show (cutE ((x, y), (u, v)) (s, t) ^^ cutE ((-y, x), (-v, u)) (-t, s)) = (decide (s < x ∧ y ≤ t) ^^ decide (s < u ∧ v ≤ t))
  rw [cutE_at, cutE_at, cr_turn]
  have ce := cr_ends x y u v s t
  obtain ⟨C, hC⟩ : ∃ C, crI x y u v s t = C := ⟨_, rfl⟩
  rw [hC] at h ce ⊢
  clear hC
  have sa := sg_mul (u - s) (t - y)
  have sb := sg_mul' (x - s) (v - t)
  generalize (u - s) * (t - y) = A at *
  generalize (x - s) * (v - t) = B at *
  rcases sa with ⟨a1, a2, a3⟩ | ⟨a1, a2, a3⟩ | ⟨a1, a2, a3⟩ | ⟨a1, a2, a3⟩ <;> rcases sb with ⟨b1, b2, b3⟩ | ⟨b1, b2, b3⟩ | ⟨b1, b2, b3⟩ | ⟨b1, b2, b3⟩
  all_goals
    rcases Int.lt_trichotomy C 0 with hC | hC | hC
    all_goals
      refine xor4 ?_
      omega
theorem has_turn {E : List E2} (hc : Closed E) (p : P2) : hasE (E.map fun e => (tuP e.1, tuP e.2)) (tuP p) = hasE E p := by
  unfold hasE
  rw [List.any_map, List.map_map]
  have h1 : (E.any ((fun e => onE e (tuP p)) ∘ fun e => (tuP e.1, tuP e.2))) = E.any (fun e => onE e p) := by
    congr 1; funext e; exact on_turn e p
  rw [h1]
  cases ho : E.any (fun e => onE e p) with
  | true => rfl
  | false =>
    have miss : ∀ e ∈ E, onE e p = false := by
      intro e he
      have := List.any_eq_false.1 ho e he
      simpa using this
    have k := hc (quad p)
    rw [← map_same (f := fun e => cutE e p ^^ cutE (tuP e.1, tuP e.2) (tuP p)) (fun e he => cut_turn (miss e he)), xorL_pair] at k
    show xorL (E.map fun e => cutE (tuP e.1, tuP e.2) (tuP p)) = xorL (E.map fun e => cutE e p)
    cases z1 : xorL (E.map fun e => cutE e p) <;> cases z2 : xorL (E.map fun e => cutE (tuP e.1, tuP e.2) (tuP p)) <;> rw [z1, z2] at k <;> first | rfl | exact absurd k (by decide)
theorem cls_turn {E : List E2} (hc : Closed E) {a b c d : Int} (ac : a ≤ c) (bd : b ≤ d) : clsE (E.map fun e => (tuP e.1, tuP e.2)) (-d) a (-b) c = clsE E a b c d := by
  unfold clsE
  have h : (E.map fun e => (tuP e.1, tuP e.2)).any (meetE (-d) a (-b) c) = E.any (meetE a b c d) := by
    rw [List.any_map]; congr 1; funext e; exact meet_turn (a := a) (b := b) (c := c) (d := d) (x := e.1.1) (y := e.1.2) (u := e.2.1) (v := e.2.2)
  rw [h]
  cases hm : E.any (meetE a b c d) with
  | true => rfl
  | false =>
    have k := has_turn hc (a, d)
    rw [show tuP (a, d) = (-d, a) from rfl, has_const hc ac bd hm (Int.le_refl a) ac bd (Int.le_refl d) (Int.le_refl a) ac (Int.le_refl b) bd] at k
    rw [k]
theorem edgesL_map (f : P2 → P2) (L : List (List P2)) : edgesL (L.map (List.map f)) = (edgesL L).map fun e => (f e.1, f e.2) := by
  unfold edgesL
  rw [List.flatMap_map, List.map_flatMap]
  congr 1
  funext c
  exact edges_map f c
/-- Each contour told from another point on, all of them in another order. -/
theorem edgesL_rot (j : Nat) (L : List (List P2)) : (edgesL (L.map (rot j)).reverse).Perm (edgesL L) := by
  refine (edgesL_perm (List.reverse_perm _)).trans ?_
  induction L with
  | nil => exact List.Perm.refl _
  | cons c L ih => exact (edges_rot j c).append ih
theorem edgesL_back (L : List (List P2)) : (edgesL (L.map List.reverse).reverse).Perm ((edgesL L).map fun e => (e.2, e.1)) := by
  refine (edgesL_perm (List.reverse_perm _)).trans ?_
  induction L with
  | nil => exact List.Perm.refl _
  | cons c L ih =>
    show (edges c.reverse ++ edgesL (L.map List.reverse)).Perm ((edges c ++ edgesL L).map _)
    rw [List.map_append]
    exact (edges_reverse c).append ih
/-- What the law of turns finds. -/
theorem has_other (j : Nat) (L : List (List P2)) (p : P2) : hasE (edgesL (L.map (rot j)).reverse) p = hasE (edgesL L) p := has_perm (edgesL_rot j L) p
theorem cls_other (j : Nat) (L : List (List P2)) (a b c d : Int) : clsE (edgesL (L.map (rot j)).reverse) a b c d = clsE (edgesL L) a b c d := cls_perm (edgesL_rot j L) a b c d
theorem has_back (L : List (List P2)) (p : P2) : hasE (edgesL (L.map List.reverse).reverse) p = hasE (edgesL L) p := (has_perm (edgesL_back L) p).trans (has_swap _ p)
theorem cls_back (L : List (List P2)) (a b c d : Int) : clsE (edgesL (L.map List.reverse).reverse) a b c d = clsE (edgesL L) a b c d := (cls_perm (edgesL_back L) a b c d).trans (cls_swap _ a b c d)
theorem rows_map (f : P2 → P2) (j : Nat) (L : List (List P2)) : (L.map fun c => (rot j c).map f).reverse = ((L.map (rot j)).reverse).map (List.map f) := by
  rw [List.map_reverse, List.map_map]; rfl
theorem has_moved (j : Nat) (L : List (List P2)) (ex ey : Int) (p : P2) : hasE (edgesL (L.map fun c => (rot j c).map (mvP ex ey)).reverse) (mvP ex ey p) = hasE (edgesL L) p := by
  rw [rows_map, edgesL_map, has_move, has_other]
theorem cls_moved (j : Nat) (L : List (List P2)) (ex ey a b c d : Int) : clsE (edgesL (L.map fun c => (rot j c).map (mvP ex ey)).reverse) (a + ex) (b + ey) (c + ex) (d + ey) = clsE (edgesL L) a b c d := by
  rw [rows_map, edgesL_map, cls_move, cls_other]
theorem has_turned (j : Nat) (L : List (List P2)) (p : P2) : hasE (edgesL (L.map fun c => (rot j c).map tuP).reverse) (tuP p) = hasE (edgesL L) p := by
  rw [rows_map, edgesL_map, has_turn (closed_edgesL _), has_other]
theorem cls_turned (j : Nat) (L : List (List P2)) {a b c d : Int} (ac : a ≤ c) (bd : b ≤ d) : clsE (edgesL (L.map fun c => (rot j c).map tuP).reverse) (-d) a (-b) c = clsE (edgesL L) a b c d := by
  rw [rows_map, edgesL_map, cls_turn (closed_edgesL _) ac bd, cls_other]
end Go.Proofs.Ytoofbbmddddlcaa
