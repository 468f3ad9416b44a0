/- Plain mathematics: a contour's edges in the order in which a program meets them. No program in it. -/
import Derived.Test.YtcpnfafhekgabaaContour
namespace Go.Proofs.Ytcpnfafhekgabaa
open Go.RowKit

def ptN (c : List P2) (i : Nat) : P2 := c.getD i (0, 0)
/-- The edge that ends at a point, and the one that begins there. -/
def edB (c : List P2) (i : Nat) : E2 := (ptN c (if i = 0 then c.length - 1 else i - 1), ptN c i)
def edF (c : List P2) (i : Nat) : E2 := (ptN c i, ptN c ((i + 1) % c.length))
def doneB (c : List P2) (j : Nat) : List E2 := (List.range j).map (edB c)
def doneF (c : List P2) (j : Nat) : List E2 := (List.range j).map (edF c)
theorem doneB_succ (c : List P2) (j : Nat) : doneB c (j + 1) = doneB c j ++ [edB c j] := by simp [doneB, List.range_succ]
theorem doneF_succ (c : List P2) (j : Nat) : doneF c (j + 1) = doneF c j ++ [edF c j] := by simp [doneF, List.range_succ]
theorem ptN_at {c : List P2} {i : Nat} (h : i < c.length) : ptN c i = c[i] := by simp [ptN, List.getD, h]
theorem edges_length (c : List P2) : (edges c).length = c.length := by
  cases c with
  | nil => rfl
  | cons h t => simp [edges, List.length_zip]
theorem edges_F (c : List P2) : doneF c c.length = edges c := by
  refine List.ext_getElem (by simp [doneF, edges_length]) fun i h1 h2 => ?_
  have hi : i < c.length := by simpa [doneF] using h1
  rw [show (doneF c c.length)[i] = edF c i by simp [doneF]]
  cases c with
  | nil => simp at hi
  | cons h t =>
    unfold edF
    simp only [edges, List.getElem_zip]
    rw [ptN_at hi]
    congr 1
    by_cases e : i + 1 = (h :: t).length
    · rw [e, Nat.mod_self]
      have : i = t.length := by simpa using e
      subst this
      simp [ptN]
    · have hl : i + 1 < (h :: t).length := by omega
      rw [Nat.mod_eq_of_lt hl, ptN_at hl]
      have : i < t.length := by simpa using hl
      simp [List.getElem_append_left this]
theorem edB_F (c : List P2) (i : Nat) (h : i + 1 < c.length) : edB c (i + 1) = edF c i := by
  unfold edB edF
  rw [if_neg (by omega), Nat.mod_eq_of_lt h]; rfl
theorem edB_0 (c : List P2) (h : 0 < c.length) : edB c 0 = edF c (c.length - 1) := by
  unfold edB edF
  rw [if_pos rfl, show c.length - 1 + 1 = c.length by omega, Nat.mod_self]
theorem edges_B (c : List P2) : (doneB c c.length).Perm (edges c) := by
  rw [← edges_F]
  rcases Nat.eq_zero_or_pos c.length with h | h
  · simp [doneB, doneF, h]
  · obtain ⟨n, hn⟩ : ∃ n, c.length = n + 1 := ⟨c.length - 1, by omega⟩
    have e1 : doneB c (n + 1) = edB c 0 :: (List.range n).map fun i => edB c (i + 1) := by
      unfold doneB; rw [List.range_succ_eq_map]; simp
    have e2 : ((List.range n).map fun i => edB c (i + 1)) = doneF c n := by
      refine List.map_congr_left fun i hi => edB_F c i ?_
      have := List.mem_range.1 hi; omega
    rw [hn, e1, e2, doneF_succ, edB_0 c h, show c.length - 1 = n by omega]
    exact (List.perm_append_comm (l₁ := [edF c n]) (l₂ := doneF c n))
theorem edgesL_take (L : List (List P2)) (k : Nat) (h : k < L.length) : edgesL (L.take (k + 1)) = edgesL (L.take k) ++ edges L[k] := by
  unfold edgesL
  rw [List.take_succ_eq_append_getElem h, List.flatMap_append]
  simp
/-- What an odd number of edges and a met edge amount to, edge by edge. -/
structure Odd (E : List E2) (a b c d : Int) (p : P2) (x : Bool) : Prop where
  miss : E.any (meetE a b c d) = false
  odd : xorL (E.map fun e => cutE e p) = x
theorem Odd.nil (a b c d : Int) (p : P2) : Odd [] a b c d p false := ⟨rfl, rfl⟩
theorem Odd.more {E : List E2} {a b c d : Int} {p : P2} {x r : Bool} {e : E2} (h : Odd E a b c d p x) (hm : meetE a b c d e = false) (hr : cutE e p = r) : Odd (E ++ [e]) a b c d p (x != r) := by
  refine ⟨by simp [h.miss, hm], ?_⟩
  rw [List.map_append, xorL_append, h.odd]
  simp [xorL, hr]
theorem Odd.perm {E F : List E2} {a b c d : Int} {p : P2} {x : Bool} (h : Odd E a b c d p x) (k : E.Perm F) : Odd F a b c d p x :=
  ⟨by rw [← k.any_eq]; exact h.miss, by rw [← xorL_perm (k.map _)]; exact h.odd⟩
theorem any_in {E : List E2} {f : E2 → Bool} {e : E2} (he : f e = true) (hE : e ∈ E) : E.any f = true := List.any_eq_true.2 ⟨e, hE, he⟩
theorem edB_mem (c : List P2) {i : Nat} (h : i < c.length) : edB c i ∈ edges c := (edges_B c).mem_iff.1 (List.mem_map.2 ⟨i, List.mem_range.2 h, rfl⟩)
theorem edF_mem (c : List P2) {i : Nat} (h : i < c.length) : edF c i ∈ edges c := by
  rw [← edges_F]; exact List.mem_map.2 ⟨i, List.mem_range.2 h, rfl⟩
theorem edges_sub {L : List (List P2)} {k : Nat} (h : k < L.length) {e : E2} (he : e ∈ edges L[k]) : e ∈ edgesL L := List.mem_flatMap.2 ⟨_, List.getElem_mem h, he⟩
theorem cls_met {E : List E2} {a b c d : Int} {e : E2} (hE : e ∈ E) (he : meetE a b c d e = true) : clsE E a b c d = 1 := by
  unfold clsE; rw [if_pos (List.any_eq_true.2 ⟨e, hE, he⟩)]
theorem Odd.cls {E : List E2} {a b c d : Int} {x : Bool} (h : Odd E a b c d (a, b) x) (ac : a ≤ c) (bd : b ≤ d) : clsE E a b c d = if x then 2 else 0 := by
  unfold clsE hasE
  rw [h.miss, none_on (p := (a, b)) h.miss (Int.le_refl a) ac (Int.le_refl b) bd, h.odd]
  rfl
/-- A box of one point meets an edge just if the point lies on it. -/
theorem meet_dot (e : E2) (x y : Int) : meetE x y x y e = onE e (x, y) := by
  cases h : onE e (x, y) with
  | true => exact on_meets (p := (x, y)) (Int.le_refl x) (Int.le_refl x) (Int.le_refl y) (Int.le_refl y) h
  | false =>
    obtain ⟨⟨p, q⟩, ⟨u, v⟩⟩ := e
    have k := of_decide_eq_false h
    unfold crE at k
    simp only [] at k
    show meetB x y x y p q u v = false
    have m1 := mnI_le p u; have m2 := mxI_le p u; have m3 := mnI_le q v; have m4 := mxI_le q v
    unfold meetB apB sideB besB
    rw [shB_eq, shB_eq, Bool.and_eq_false_iff, Bool.not_eq_false', Bool.not_eq_false', Bool.or_eq_true, Bool.not_eq_true', Bool.not_eq_true', decide_eq_false_iff_not, decide_eq_false_iff_not, decide_eq_true_eq]
    omega
theorem cls_dot (E : List E2) (x y : Int) : hasE E (x, y) = (clsE E x y x y != 0) := by
  unfold clsE
  rw [show E.any (meetE x y x y) = E.any (fun e => onE e (x, y)) from congrArg E.any (funext fun e => meet_dot e x y)]
  unfold hasE
  cases E.any (fun e => onE e (x, y)) <;> cases xorL (E.map fun e => cutE e (x, y)) <;> rfl
end Go.Proofs.Ytcpnfafhekgabaa
