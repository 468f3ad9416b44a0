/- The plain arithmetic of decimal numbers and their digits, with no program in it. -/
import Derived.Laws.Bits64b
namespace Go.Proofs.YtapnekpilgbcaaaDoor

/-- A byte that is a decimal digit. -/
def dig (c : UInt8) : Bool := decide (48 ≤ c.toNat ∧ c.toNat ≤ 57)
def digI (c : UInt8) : Int := (c.toNat : Int) - 48
/-- How many digits stand in front, at most k. -/
def run : Nat → List UInt8 → Nat
  | 0, _ => 0
  | _ + 1, [] => 0
  | k + 1, c :: r => if dig c = true then run k r + 1 else 0
/-- The number that digits denote. -/
def val (l : List UInt8) : Int := l.foldl (fun n c => 10 * n + digI c) 0

theorem dig_yes {c : UInt8} (h : dig c = true) : 48 ≤ c.toNat ∧ c.toNat ≤ 57 := of_decide_eq_true h
theorem dig_of {c : UInt8} (h : 48 ≤ c.toNat ∧ c.toNat ≤ 57) : dig c = true := decide_eq_true h
theorem dig_no {c : UInt8} (h : dig c = false) : ¬ (48 ≤ c.toNat ∧ c.toNat ≤ 57) := of_decide_eq_false h

theorem run_le (k : Nat) (l : List UInt8) : run k l ≤ k ∧ run k l ≤ l.length := by
  induction k generalizing l with
  | zero => simp [run]
  | succ k ih =>
    cases l with
    | nil => simp [run]
    | cons c r =>
      unfold run
      have := ih r
      split <;> simp <;> omega
theorem run_digs (k : Nat) (l : List UInt8) : ∀ c ∈ l.take (run k l), dig c = true := by
  induction k generalizing l with
  | zero => simp [run]
  | succ k ih =>
    cases l with
    | nil => simp [run]
    | cons c r =>
      unfold run
      by_cases h : dig c = true
      · rw [if_pos h]
        intro d hd
        simp only [List.take_succ_cons, List.mem_cons] at hd
        rcases hd with rfl | hd
        · exact h
        · exact ih r d hd
      · rw [if_neg h]; simp
/-- The head of a count: so far k digits. -/
def Sofar (l : List UInt8) (k : Nat) : Prop := run 6 l = k + run (6 - k) (l.drop k)
theorem sofar0 (l : List UInt8) : Sofar l 0 := by unfold Sofar; simp
theorem sofar_step {l : List UInt8} {k : Nat} (h : Sofar l k) (hk : k < 6) (hl : k < l.length) (hd : dig l[k] = true) : Sofar l (k + 1) := by
  unfold Sofar at *
  rw [h, List.drop_eq_getElem_cons hl, show 6 - k = (6 - (k + 1)) + 1 from by omega]
  rw [show 6 - (k + 1) + 1 = (6 - (k + 1)) + 1 from rfl]
  conv => lhs; rw [run, if_pos hd]
  omega
theorem sofar_stop {l : List UInt8} {k : Nat} (h : Sofar l k) (hs : ¬ k < 6 ∨ ¬ k < l.length ∨ ∃ hl : k < l.length, dig l[k] = false) : run 6 l = k := by
  unfold Sofar at h
  rw [h]
  rcases hs with hs | hs | ⟨hl, hs⟩
  · rw [show 6 - k = 0 from by omega]; simp [run]
  · rw [List.drop_eq_nil_of_le (by omega)]
    have : run (6 - k) [] = 0 := by cases (6 - k) <;> rfl
    omega
  · rw [List.drop_eq_getElem_cons hl]
    have : run (6 - k) (l[k] :: l.drop (k + 1)) = 0 := by
      cases (6 - k) with
      | zero => rfl
      | succ j => rw [run, if_neg (by rw [hs]; simp)]
    omega

theorem val_append (a b : List UInt8) : val (a ++ b) = b.foldl (fun n c => 10 * n + digI c) (val a) := by unfold val; rw [List.foldl_append]
theorem val_snoc (a : List UInt8) (c : UInt8) : val (a ++ [c]) = 10 * val a + digI c := by rw [val_append]; rfl
theorem val_next {l : List UInt8} {k : Nat} (h : k < l.length) : val (l.take (k + 1)) = 10 * val (l.take k) + digI l[k] := by
  rw [List.take_succ_eq_append_getElem h, val_snoc]
def Digs (l : List UInt8) : Prop := ∀ c ∈ l, dig c = true
theorem digs_nil : Digs [] := by intro c hc; cases hc
theorem digs_cons {c : UInt8} {l : List UInt8} (h : dig c = true) (k : Digs l) : Digs (c :: l) := by
  intro d hd; rcases List.mem_cons.1 hd with rfl | hd
  · exact h
  · exact k d hd
theorem digs_append {a b : List UInt8} (h : Digs a) (k : Digs b) : Digs (a ++ b) := by
  intro d hd; rcases List.mem_append.1 hd with hd | hd
  · exact h d hd
  · exact k d hd
theorem digs_take {l : List UInt8} (h : Digs l) (k : Nat) : Digs (l.take k) := fun c hc => h c (List.mem_of_mem_take hc)
theorem digs_drop {l : List UInt8} (h : Digs l) (k : Nat) : Digs (l.drop k) := fun c hc => h c (List.mem_of_mem_drop hc)
theorem digs_at {l : List UInt8} (h : Digs l) {k : Nat} (hk : k < l.length) : 48 ≤ ((l[k]).toNat : Int) ∧ ((l[k]).toNat : Int) ≤ 57 := by
  have := dig_yes (h _ (List.getElem_mem hk)); omega
theorem digI_bd {c : UInt8} (h : dig c = true) : 0 ≤ digI c ∧ digI c ≤ 9 := by
  have := dig_yes h; unfold digI; omega
theorem val_bd {l : List UInt8} (h : Digs l) : 0 ≤ val l ∧ val l < 10 ^ l.length := by
  have : ∀ k, k ≤ l.length → 0 ≤ val (l.take k) ∧ val (l.take k) < 10 ^ k := by
    intro k
    induction k with
    | zero => intro _; simp [val]
    | succ k ih =>
      intro hk
      have i := ih (by omega)
      have d := digI_bd (h _ (List.getElem_mem (show k < l.length by omega)))
      rw [val_next (by omega), Int.pow_succ]
      generalize (10 : Int) ^ k = t at *
      omega
  simpa using this l.length (Nat.le_refl _)
theorem ten_mono {a b : Nat} (h : a ≤ b) : (10 : Int) ^ a ≤ 10 ^ b := by
  induction b with
  | zero => rw [show a = 0 from by omega]; omega
  | succ b ih =>
    rcases Nat.lt_or_ge a (b + 1) with hl | hl
    · have i := ih (by omega)
      have p : (0 : Int) < 10 ^ b := Int.pow_pos (by omega)
      rw [Int.pow_succ]; omega
    · rw [show a = b + 1 from by omega]; omega
theorem val_le {l : List UInt8} (h : Digs l) {k : Nat} (hk : l.length ≤ k) : 0 ≤ val l ∧ val l < 10 ^ k := by
  have a := val_bd h
  have b : (10 : Int) ^ l.length ≤ 10 ^ k := ten_mono hk
  exact ⟨a.1, Int.lt_of_lt_of_le a.2 b⟩
theorem val_six {l : List UInt8} (h : Digs l) (hk : l.length ≤ 6) : 0 ≤ val l ∧ val l ≤ 999999 := by
  have a := val_le h hk
  rw [show (10 : Int) ^ 6 = 1000000 from by decide] at a
  omega
theorem val_eighteen {l : List UInt8} (h : Digs l) (hk : l.length ≤ 18) : 0 ≤ val l ∧ val l ≤ 999999999999999999 := by
  have a := val_le h hk
  rw [show (10 : Int) ^ 18 = 1000000000000000000 from by decide] at a
  omega

/-- v times ten, j times. -/
def tens (v : Int) (j : Nat) : Int := v * 10 ^ j
theorem tens_zero (v : Int) : tens v 0 = v := by unfold tens; simp
theorem tens_succ (v : Int) (j : Nat) : tens v (j + 1) = tens v j * 10 := by unfold tens; rw [Int.pow_succ, Int.mul_assoc]
/-- Digits behind a point, as millionths. -/
def mil (l : List UInt8) : Int := tens (val l) (6 - l.length)
theorem tens_bd {l : List UInt8} (h : Digs l) {k : Nat} (hl : l.length ≤ k) : 0 ≤ tens (val l) (k - l.length) ∧ tens (val l) (k - l.length) < 10 ^ k := by
  have a := val_bd h
  unfold tens
  have p : (0 : Int) < 10 ^ (k - l.length) := Int.pow_pos (by omega)
  refine ⟨Int.mul_nonneg a.1 (by omega), ?_⟩
  have e : (10 : Int) ^ k = 10 ^ l.length * 10 ^ (k - l.length) := by rw [← Int.pow_add]; congr 1; omega
  rw [e]
  exact Int.mul_lt_mul_of_pos_right a.2 p
theorem tens_six {l : List UInt8} (h : Digs l) {k : Nat} (hl : l.length ≤ k) (hk : k ≤ 6) : 0 ≤ tens (val l) (k - l.length) ∧ tens (val l) (k - l.length) ≤ 999999 := by
  have a := tens_bd h hl
  have b : (10 : Int) ^ k ≤ 10 ^ 6 := ten_mono hk
  rw [show (10 : Int) ^ 6 = 1000000 from by decide] at b
  omega
theorem mil_bd {l : List UInt8} (h : Digs l) (hl : l.length ≤ 6) : 0 ≤ mil l ∧ mil l ≤ 999999 := tens_six h hl (Nat.le_refl _)

/-- What stands behind a sign. -/
def unsign : List UInt8 → List UInt8
  | [] => []
  | c :: r => if c.toNat = 45 ∨ c.toNat = 43 then r else c :: r
def minus : List UInt8 → Bool
  | [] => false
  | c :: _ => decide (c.toNat = 45)
/-- The decimals and what is left, of what stands behind the integer part. -/
def decs : List UInt8 → List UInt8
  | [] => []
  | c :: r => if c.toNat = 46 then r.take (run 6 r) else []
def left : List UInt8 → List UInt8
  | [] => []
  | c :: r => if c.toNat = 46 then r.drop (run 6 r) else c :: r
def unsigned (u : List UInt8) : Option Int :=
  if (left (u.drop (run 6 u))).length = 0 ∧ (u.take (run 6 u)).length + (decs (u.drop (run 6 u))).length ≠ 0 then
    some (val (u.take (run 6 u)) * 1000000 + mil (decs (u.drop (run 6 u)))) else none
def signed (m : Bool) (n : Int) : Int := if m = true then -n else n
/-- The number that a string denotes, in millionths. -/
def parseO (l : List UInt8) : Option Int := (unsigned (unsign l)).map (signed (minus l))
end Go.Proofs.YtapnekpilgbcaaaDoor
