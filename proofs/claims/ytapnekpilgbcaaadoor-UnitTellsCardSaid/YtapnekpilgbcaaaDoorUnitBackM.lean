/- Coordinates that are written and read back, with no program in it. -/
import Derived.Test.YtapnekpilgbcaaaDoorUnitCoord
namespace Go.Proofs.YtapnekpilgbcaaaDoor

theorem lead_zeros (k : Nat) (l : List UInt8) : leadL (zeros k ++ l) = leadL l := by
  induction k with
  | zero => rfl
  | succ k ih =>
    rw [show zeros (k + 1) ++ l = 48 :: (zeros k ++ l) from rfl, leadL, List.dropWhile_cons, if_pos (by decide)]
    exact ih
theorem lead_split (l : List UInt8) : l = zeros (l.length - (leadL l).length) ++ leadL l := by
  induction l with
  | nil => rfl
  | cons c r ih =>
    by_cases h : c.toNat = 48
    · have e : leadL (c :: r) = leadL r := by rw [leadL, List.dropWhile_cons, if_pos (by simpa using h)]; rfl
      have hl := lead_len r
      rw [e, List.length_cons, show r.length + 1 - (leadL r).length = (r.length - (leadL r).length) + 1 from by omega]
      rw [show zeros (r.length - (leadL r).length + 1) = 48 :: zeros (r.length - (leadL r).length) from rfl, List.cons_append, ← ih, byte_of h (by omega)]
      rfl
    · have e : leadL (c :: r) = c :: r := by rw [leadL, List.dropWhile_cons, if_neg (by simpa using h)]
      rw [e, Nat.sub_self]; rfl
theorem zeros_rev (k : Nat) : (zeros k).reverse = zeros k := by unfold zeros; simp
theorem bare_split (l : List UInt8) : l = bareL l ++ zeros (l.length - (bareL l).length) := by
  have h := lead_split l.reverse
  have e : bareL l = (leadL l.reverse).reverse := rfl
  have h2 := congrArg List.reverse h
  rw [List.reverse_reverse, List.reverse_append, zeros_rev, List.length_reverse] at h2
  rw [e, List.length_reverse]
  exact h2
/-- What was omitted is filled in again. -/
theorem fill_omit (l : List UInt8) (h : 0 < l.length) (t : Bool) : fillL (orZero (omitX l t)) l.length t = l := by
  cases t
  · have hs := lead_split l
    unfold omitX fillL
    rw [if_neg (by simp), if_neg (by simp)]
    unfold orZero
    split
    · next h0 =>
      rw [h0, List.append_nil, List.length_nil, Nat.sub_zero] at hs
      conv => rhs; rw [hs]
      obtain ⟨k, hk⟩ : ∃ k, l.length = k + 1 := ⟨l.length - 1, by omega⟩
      rw [hk]
      show zeros (k + 1 - 1) ++ [48] = zeros (k + 1)
      rw [Nat.add_sub_cancel]
      unfold zeros
      rw [List.replicate_succ']
    · exact hs.symm
  · have hs := bare_split l
    unfold omitX fillL
    rw [if_pos rfl, if_pos rfl]
    unfold orZero
    split
    · next h0 =>
      rw [h0, List.nil_append, List.length_nil, Nat.sub_zero] at hs
      conv => rhs; rw [hs]
      obtain ⟨k, hk⟩ : ∃ k, l.length = k + 1 := ⟨l.length - 1, by omega⟩
      rw [hk]
      show [48] ++ zeros (k + 1 - 1) = zeros (k + 1)
      rfl
    · exact hs.symm
theorem omit_digs {l : List UInt8} (h : Digs l) (t : Bool) : Digs (orZero (omitX l t)) := by
  unfold orZero
  split
  · intro c hc; simp at hc; subst hc; decide
  · unfold omitX
    split
    · exact bare_digs h
    · intro c hc
      exact h c ((List.dropWhile_sublist _).subset hc)
theorem omit_ne (l : List UInt8) (t : Bool) : orZero (omitX l t) ≠ [] := by
  unfold orZero
  split
  · simp
  · assumption
theorem omit_le {l : List UInt8} (h : 0 < l.length) (t : Bool) : (orZero (omitX l t)).length ≤ l.length := by
  have := omit_len l t; omega
/-- Digits have no sign. -/
theorem digs_plain {l : List UInt8} (h : Digs l) : unsign l = l ∧ minus l = false := by
  cases l with
  | nil => exact ⟨rfl, rfl⟩
  | cons c r =>
    have := dig_yes (h c (by simp))
    exact ⟨if_neg (by omega), decide_eq_false (by omega)⟩
theorem dash_plain (l : List UInt8) : unsign (45 :: l) = l ∧ minus (45 :: l) = true := ⟨rfl, rfl⟩

theorem pad_head {q : Nat} (h : q ≠ 0) : leadL (pad (ndig q) q) = pad (ndig q) q := by
  rw [ndig_pos h]
  rw [pad, leadL, List.dropWhile_cons, if_neg]
  have h1 : 0 < q / 10 ^ ndig (q / 10) := (ndig_iff q _).1 (by rw [ndig_pos h]; omega)
  have h2 := ndig_lt q
  rw [ndig_pos h, Nat.pow_succ] at h2
  have h3 : q / 10 ^ ndig (q / 10) < 10 := Nat.div_lt_of_lt_mul (by rw [Nat.mul_comm] at h2; omega)
  have h4 := d8_nat (q / 10 ^ ndig (q / 10))
  simp only [decide_eq_true_eq]
  omega
theorem pad_grow {n q : Nat} (h : q < 10 ^ n) : pad n q = zeros (n - ndig q) ++ pad (ndig q) q := by
  have hn := ndig_le h
  have e := pad_append (n - ndig q) (ndig q) q
  rw [show n - ndig q + ndig q = n from by omega, Nat.div_eq_of_lt (ndig_lt q)] at e
  rw [e, pad_zero _ 0 (by simp)]
  rfl
theorem lead_pad {n q : Nat} (h : q < 10 ^ n) : orZero (leadL (pad n q)) = numL q 1 := by
  rw [pad_grow h, lead_zeros]
  rcases Nat.eq_zero_or_pos q with h0 | h0
  · subst h0
    rw [ndig_zero]
    unfold numL
    rw [ndig_zero]
    rfl
  · rw [pad_head (by omega)]
    have h1 : 0 < ndig q := (ndig_iff q 0).2 (by simpa using h0)
    unfold orZero numL
    rw [if_neg (fun e => by have := pad_len (ndig q) q; rw [e] at this; simp at this; omega), show max 1 (ndig q) = ndig q from by omega]
theorem bare_pad {n q : Nat} (h : q < 10 ^ n) : numL q n = pad n q := by
  unfold numL
  rw [show max n (ndig q) = n from by have := ndig_le h; omega]
end Go.Proofs.YtapnekpilgbcaaaDoor
