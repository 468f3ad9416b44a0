/- The plain arithmetic of units and coordinates, with no program in it. -/
import Derived.Test.YtapnekpilgbcaaaDoorDeciMath
import Derived.Test.YtapnekpilgbcaaaDoorDeciText
namespace Go.Proofs.YtapnekpilgbcaaaDoor

/-- How many grains a millionth of a unit has, 0 for no unit. -/
def grainsI (u : Int) : Int := if u = 1 then 10 else if u = 2 then 254 else 0
def nearB (g : Int) : Bool := decide (-536870912 ≤ g ∧ g ≤ 536870912)
def okN (n : Int) : Bool := decide (-1000000000000 < n ∧ n < 1000000000000)
/-- The grains of n millionths of the unit u. -/
def grainO (n u : Int) : Option Int := if (u = 1 ∨ u = 2) ∧ okN n = true ∧ nearB (n * grainsI u) = true then some (n * grainsI u) else none
def plB (n : Int) : Bool := decide (0 ≤ n ∧ n ≤ 6)
def fmtB (u a d : Int) : Bool := decide ((u = 1 ∨ u = 2) ∧ (0 ≤ a ∧ a ≤ 6) ∧ (0 ≤ d ∧ d ≤ 6) ∧ 0 < a + d)

theorem grains_cases (u : Int) : (u = 1 ∧ grainsI u = 10) ∨ (u = 2 ∧ grainsI u = 254) ∨ (¬ (u = 1 ∨ u = 2) ∧ grainsI u = 0) := by
  unfold grainsI
  by_cases h : u = 1
  · exact .inl ⟨h, by rw [if_pos h]⟩
  · by_cases k : u = 2
    · exact .inr (.inl ⟨k, by rw [if_neg h, if_pos k]⟩)
    · exact .inr (.inr ⟨by omega, by rw [if_neg h, if_neg k]⟩)
theorem grains_unit {u : Int} (h : u = 1 ∨ u = 2) : 10 ≤ grainsI u ∧ grainsI u ≤ 254 := by
  rcases h with rfl | rfl <;> decide
theorem near_yes {g : Int} (h : nearB g = true) : -536870912 ≤ g ∧ g ≤ 536870912 := of_decide_eq_true h
theorem okN_yes {g : Int} (h : okN g = true) : -1000000000000 < g ∧ g < 1000000000000 := of_decide_eq_true h
theorem grainO_none {n u : Int} (h : ¬ ((u = 1 ∨ u = 2) ∧ okN n = true ∧ nearB (n * grainsI u) = true)) : grainO n u = none := if_neg h
theorem grainO_some {n u : Int} (h : (u = 1 ∨ u = 2) ∧ okN n = true ∧ nearB (n * grainsI u) = true) : grainO n u = some (n * grainsI u) := if_pos h

theorem tens_step_bd {k : Int} (h0 : 0 ≤ k) (h1 : k ≤ 254) {m : Nat} (hm : m ≤ 6) : 0 ≤ tens k m ∧ tens k m ≤ 254000000 := by
  unfold tens
  have p : (0 : Int) < 10 ^ m := Int.pow_pos (by omega)
  have q : (10 : Int) ^ m ≤ 10 ^ 6 := ten_mono hm
  rw [show (10 : Int) ^ 6 = 1000000 from by decide] at q
  refine ⟨Int.mul_nonneg h0 (by omega), ?_⟩
  exact Int.le_trans (Int.mul_le_mul_of_nonneg_left q h0) (by omega)
/-- The grains of a last digit 1. -/
def stepI (u : Int) (d : Nat) : Int := tens (grainsI u) (6 - d)
/-- A run of noughts. -/
def zeros (k : Nat) : List UInt8 := List.replicate k 48
theorem zeros_len (k : Nat) : (zeros k).length = k := by simp [zeros]
theorem zeros_digs (k : Nat) : Digs (zeros k) := by
  intro c hc; rw [List.eq_of_mem_replicate hc]; decide
/-- A coordinate's sign. -/
def signL : List UInt8 → List UInt8
  | [] => []
  | c :: _ => if c.toNat = 45 ∨ c.toNat = 43 then [c] else []
/-- All digits of a coordinate. -/
def fillL (r : List UInt8) (n : Nat) (t : Bool) : List UInt8 := if t = true then r ++ zeros (n - r.length) else zeros (n - r.length) ++ r
theorem fill_len {r : List UInt8} {n : Nat} (h : r.length ≤ n) (t : Bool) : (fillL r n t).length = n := by
  unfold fillL; split <;> simp [zeros_len] <;> omega
/-- Digits without zeros in front. -/
def leadL (l : List UInt8) : List UInt8 := l.dropWhile (fun c => decide (c.toNat = 48))
def omitX (l : List UInt8) (t : Bool) : List UInt8 := if t = true then bareL l else leadL l
def orZero (l : List UInt8) : List UInt8 := if l = [] then [48] else l
theorem lead_len (l : List UInt8) : (leadL l).length ≤ l.length := (List.dropWhile_sublist _).length_le
theorem omit_len (l : List UInt8) (t : Bool) : (orZero (omitX l t)).length ≤ max 1 l.length := by
  have h : (omitX l t).length ≤ l.length := by
    unfold omitX; split
    · exact bare_len l
    · exact lead_len l
  unfold orZero; split
  · simp; omega
  · omega
end Go.Proofs.YtapnekpilgbcaaaDoor
