/- Contracts of package box: which side of a line a box lies on, and whether a segment meets it. -/
import Derived.Test.YtoofbbmddddlcaaBoxD
import Derived.Test.YtoofbbmddddlcaaBoxI
namespace Go.Proofs.Ytoofbbmddddlcaa
open Go.RowKit
open Go.Sort (grow)

def kOf (k l m n : Int) : Nat → Int
  | 0 => k
  | 1 => l
  | 2 => m
  | _ => n
/-- How many of the first numbers are above 0, and below. -/
def pos (f : Nat → Int) : Nat → Int
  | 0 => 0
  | j + 1 => pos f j + if 0 < f j then 1 else 0
def neg (f : Nat → Int) : Nat → Int
  | 0 => 0
  | j + 1 => neg f j + if f j < 0 then 1 else 0
structure Cnt (f : Nat → Int) (j : Nat) (l r : Int) : Prop where
  a : l = pos f j
  b : r = neg f j
theorem pos_bd (f : Nat → Int) (j : Nat) : 0 ≤ pos f j ∧ pos f j ≤ j := by
  induction j with
  | zero => simp [pos]
  | succ j ih => unfold pos; split <;> omega
theorem neg_bd (f : Nat → Int) (j : Nat) : 0 ≤ neg f j ∧ neg f j ≤ j := by
  induction j with
  | zero => simp [neg]
  | succ j ih => unfold neg; split <;> omega
theorem Cnt.bd {f : Nat → Int} {j : Nat} {l r : Int} (h : Cnt f j l r) (hj : j ≤ 4) : (0 ≤ l ∧ l ≤ 4) ∧ 0 ≤ r ∧ r ≤ 4 := by
  obtain ⟨rfl, rfl⟩ := h
  have := pos_bd f j; have := neg_bd f j
  omega
theorem Cnt.up {f : Nat → Int} {j : Nat} {l r : Int} (h : Cnt f j l r) (hf : 0 < f j) : Cnt f (j + 1) (l + 1) r := by
  obtain ⟨rfl, rfl⟩ := h
  exact ⟨by rw [pos, if_pos hf], by rw [neg, if_neg (by omega)]; omega⟩
theorem Cnt.down {f : Nat → Int} {j : Nat} {l r : Int} (h : Cnt f j l r) (hf : f j < 0) : Cnt f (j + 1) l (r + 1) := by
  obtain ⟨rfl, rfl⟩ := h
  exact ⟨by rw [pos, if_neg (by omega)]; omega, by rw [neg, if_pos hf]⟩
theorem Cnt.stay {f : Nat → Int} {j : Nat} {l r : Int} (h : Cnt f j l r) (hf : f j = 0) : Cnt f (j + 1) l r := by
  obtain ⟨rfl, rfl⟩ := h
  exact ⟨by rw [pos, if_neg (by omega)]; omega, by rw [neg, if_neg (by omega)]; omega⟩
theorem Cnt.done {k l m n p q : Int} (h : Cnt (kOf k l m n) 4 p q) : besB k l m n = (p == 4 || q == 4) := by
  obtain ⟨rfl, rfl⟩ := h
  have e : pos (kOf k l m n) 4 = (if 0 < k then 1 else 0) + (if 0 < l then 1 else 0) + (if 0 < m then 1 else 0) + (if 0 < n then 1 else 0) := by simp [pos, kOf]
  have e' : neg (kOf k l m n) 4 = (if k < 0 then 1 else 0) + (if l < 0 then 1 else 0) + (if m < 0 then 1 else 0) + (if n < 0 then 1 else 0) := by simp [neg, kOf]
  rw [e, e', Bool.eq_iff_iff]
  unfold besB
  simp only [decide_eq_true_eq, Bool.or_eq_true, beq_iff_eq]
  by_cases h1 : 0 < k <;> by_cases h2 : 0 < l <;> by_cases h3 : 0 < m <;> by_cases h4 : 0 < n <;> by_cases g1 : k < 0 <;> by_cases g2 : l < 0 <;> by_cases g3 : m < 0 <;> by_cases g4 : n < 0 <;> simp [h1, h2, h3, h4, g1, g2, g3, g4] <;> omega
/-- The head of a round: what has been counted, and where the points lie. -/
def SideAt (w : World) (bp bq : Nat) (f : Nat → Int) (x y u v : Int) (sl sr si : Value) (wr : World) : Prop :=
  ∃ l r : Int, sl = .int .i64 l ∧ sr = .int .i64 r ∧ ((si = .int .i64 0 ∧ Cnt f 0 l r) ∨ (si = .int .i64 1 ∧ Cnt f 1 l r) ∨ (si = .int .i64 2 ∧ Cnt f 2 l r) ∨ (si = .int .i64 3 ∧ Cnt f 3 l r) ∨ (si = .int .i64 4 ∧ Cnt f 4 l r)) ∧ PtAt wr bp x y ∧ PtAt wr bq u v ∧ Below w.heap.size w wr
theorem cross_is {x y u v s t k : Int} (h : crI x y u v s t = k) (x0 : -536870912 ≤ x) (x1 : x ≤ 536870912) (y0 : -536870912 ≤ y) (y1 : y ≤ 536870912) (u0 : -536870912 ≤ u) (u1 : u ≤ 536870912) (v0 : -536870912 ≤ v) (v1 : v ≤ 536870912) (s0 : -536870912 ≤ s) (s1 : s ≤ 536870912) (t0 : -536870912 ≤ t) (t1 : t ≤ 536870912) (w : World) :
    Calls Try.prog 60 #[ptV x y, ptV u v, ptV s t] w fun e w' => e = .returned (.int .i64 k) ∧ Below w.heap.size w w' := h ▸ cross_any x y u v s t x0 x1 y0 y1 u0 u1 v0 v1 s0 s1 t0 t1 w

end Go.Proofs.Ytoofbbmddddlcaa
