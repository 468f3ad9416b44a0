/- The arithmetic of a coordinate that is read, with no program in it. -/
import Derived.Test.YtapnekpilgbcaaaDoorUnitMath
namespace Go.Proofs.YtapnekpilgbcaaaDoor

theorem digs_all (l : List UInt8) : Digs l ↔ l.all dig = true := by rw [List.all_eq_true]; exact Iff.rfl
/-- Digits in front, and what stops them. -/
theorem split_digs (l : List UInt8) : ∃ P Q, l = P ++ Q ∧ Digs P ∧ Stops Q := by
  induction l with
  | nil => exact ⟨[], [], rfl, digs_nil, stops_nil⟩
  | cons c r ih =>
    by_cases h : dig c = true
    · obtain ⟨P, Q, e, hP, hQ⟩ := ih
      exact ⟨c :: P, Q, by rw [e]; rfl, digs_cons h hP, hQ⟩
    · exact ⟨[], c :: r, rfl, digs_nil, stops_cons (by simpa using h)⟩
theorem runF_stop {l : List UInt8} (h : ∃ c ∈ l, dig c = false) : runF l < l.length := by
  rcases Nat.lt_or_ge (runF l) l.length with g | g
  · exact g
  · have hd := runF_digs l
    rw [List.take_of_length_le g] at hd
    obtain ⟨c, hc, hn⟩ := h
    rw [hd c hc] at hn; cases hn
/-- What stands around one point denotes a number where all of it is digits. -/
theorem unsigned_wd {W D : List UInt8} (hw : W.length ≤ 6) (hd : D.length ≤ 6) (h0 : 0 < W.length + D.length) :
    unsigned (W ++ 46 :: D) = if (W ++ D).all dig = true then some (val W * 1000000 + mil D) else none := by
  by_cases hW : Digs W
  · by_cases hD : Digs D
    · rw [if_pos ((digs_all _).1 (digs_append hW hD)), unsigned_point hW hD (by omega) hw hd]
    · rw [if_neg (fun h => hD (fun c hc => (digs_all _).2 h c (List.mem_append_right _ hc))), unsigned_form hW (stops_cons (by decide)), if_neg]
      intro h
      have h4 := h.2.2.2
      rw [leftF, if_pos (by decide)] at h4
      simp at h4
      apply hD
      have := runF_digs D
      rwa [List.take_of_length_le (by omega)] at this
  · rw [if_neg (fun h => hW (fun c hc => (digs_all _).2 h c (List.mem_append_left _ hc)))]
    obtain ⟨P, Q, e, hP, hQ⟩ := split_digs W
    cases Q with
    | nil => rw [List.append_nil] at e; exact absurd (e ▸ hP) hW
    | cons c Q =>
      have hc := hQ c Q rfl
      rw [e, List.append_assoc, List.cons_append, unsigned_form hP (stops_cons hc), if_neg]
      intro h
      have h4 := h.2.2.2
      rw [leftF] at h4
      split at h4
      · have := runF_stop (l := Q ++ 46 :: D) ⟨46, by simp, by decide⟩
        simp at h4 this; omega
      · simp at h4
theorem val_two (W D : List UInt8) : val (W ++ D) = val W * 10 ^ D.length + val D := by
  rw [val_append, fold_val]; rfl
theorem tens_add (x y : Int) (k : Nat) : tens (x + y) k = tens x k + tens y k := by unfold tens; rw [Int.add_mul]
theorem tens_tens (x : Int) (i j : Nat) : tens (tens x i) j = tens x (i + j) := by unfold tens; rw [Int.mul_assoc, ← Int.pow_add]
theorem val_parts {W D : List UInt8} (hd : D.length ≤ 6) : val W * 1000000 + mil D = tens (val (W ++ D)) (6 - D.length) := by
  rw [val_two, tens_add]
  show _ = tens (tens (val W) D.length) (6 - D.length) + _
  rw [tens_tens, show D.length + (6 - D.length) = 6 from by omega]
  rfl
theorem val_noughts (k : Nat) : val (zeros k) = 0 := by
  induction k with
  | zero => rfl
  | succ k ih =>
    rw [show zeros (k + 1) = 48 :: zeros k from rfl, val_cons, ih]
    rw [show digI 48 = 0 from rfl]; omega
theorem val_fill (r : List UInt8) (n : Nat) (t : Bool) : val (fillL r n t) = if t = true then tens (val r) (n - r.length) else val r := by
  unfold fillL
  split
  · rw [val_two, val_noughts, zeros_len]; unfold tens; omega
  · rw [val_two, val_noughts]; omega
theorem fill_all (r : List UInt8) (n : Nat) (t : Bool) : (fillL r n t).all dig = r.all dig := by
  have hz : (zeros (n - r.length)).all dig = true := (digs_all _).1 (zeros_digs _)
  unfold fillL
  split <;> rw [List.all_append, hz] <;> simp

theorem parse_plainU {l : List UInt8} (h : Plain l) : parseO l = unsigned l := by
  have := parse_signs (s := 0) (by omega) h
  rw [show signs 0 = [] from rfl, List.nil_append, if_neg (by omega)] at this
  rw [this]
  show (unsigned l).map (fun n => if false = true then -n else n) = _
  simp
theorem parse_plus' (l : List UInt8) : parseO (43 :: l) = unsigned l := by
  unfold parseO
  rw [show unsign (43 :: l) = l from rfl, show minus (43 :: l) = false from rfl]
  show (unsigned l).map (fun n => if false = true then -n else n) = _
  simp
theorem byte_of {c : UInt8} {n : Nat} (h : c.toNat = n) (hn : n < 256) : c = UInt8.ofNat n := by
  apply UInt8.toNat_inj.1
  rw [h, UInt8.toNat_ofNat']; omega
/-- A sign and an unsigned text behind it. -/
theorem parse_sign (l Y : List UInt8) (hY : signL l = [] → Plain Y) : parseO (signL l ++ Y) = (unsigned Y).map (signed (minus l)) := by
  have hp : ∀ o : Option Int, o.map (signed false) = o := by
    intro o; cases o <;> rfl
  cases l with
  | nil => rw [show signL [] = [] from rfl, List.nil_append, parse_plainU (hY rfl)]; exact (hp _).symm
  | cons c r =>
    by_cases h45 : c.toNat = 45
    · rw [show signL (c :: r) = [c] by simp [signL, h45], byte_of h45 (by omega)]
      rw [show minus (UInt8.ofNat 45 :: r) = true from rfl]
      exact parse_neg Y
    · by_cases h43 : c.toNat = 43
      · rw [show signL (c :: r) = [c] by simp [signL, h43], byte_of h43 (by omega)]
        rw [show minus (UInt8.ofNat 43 :: r) = false from rfl, hp]
        exact parse_plus' Y
      · have hs : signL (c :: r) = [] := by simp [signL, h43, h45]
        rw [hs, List.nil_append, parse_plainU (hY hs), show minus (c :: r) = false from decide_eq_false h45, hp]
/-- What package unit hands to package deci. -/
def wordL (l X : List UInt8) (a : Nat) : List UInt8 := signL l ++ X.take a ++ [46] ++ X.drop a
theorem plain_word {l : List UInt8} {a n : Nat} (t : Bool) (hr : unsign l ≠ []) (hs : signL l = []) : Plain ((fillL (unsign l) n t).take a ++ 46 :: (fillL (unsign l) n t).drop a) := by
  intro c q e
  cases a with
  | zero => rw [List.take_zero, List.nil_append] at e; cases e; decide
  | succ a =>
    cases l with
    | nil => exact absurd rfl hr
    | cons b l =>
      have hb : ¬ (b.toNat = 45 ∨ b.toNat = 43) := by
        intro h
        rw [signL, if_pos h] at hs; cases hs
      rw [unsign, if_neg hb] at e
      have hx : (∃ q, fillL (b :: l) n t = b :: q) ∨ ∃ q, fillL (b :: l) n t = 48 :: q := by
        unfold fillL
        split
        · exact .inl ⟨_, rfl⟩
        · cases n - (b :: l).length with
          | zero => exact .inl ⟨_, rfl⟩
          | succ k => exact .inr ⟨_, rfl⟩
      rcases hx with ⟨q', hx⟩ | ⟨q', hx⟩
      · rw [hx] at e; cases e; exact hb
      · rw [hx] at e; cases e; decide
/-- A coordinate's number, in millionths of its unit. -/
def coordI (r : List UInt8) (a d : Nat) (t : Bool) : Int := tens (val (fillL r (a + d) t)) (6 - d)
theorem parse_word {l : List UInt8} {a d : Nat} (t : Bool) (hr : unsign l ≠ []) (hl : (unsign l).length ≤ a + d) (ha : a ≤ 6) (hd : d ≤ 6) :
    parseO (wordL l (fillL (unsign l) (a + d) t) a) = if (unsign l).all dig = true then some (signed (minus l) (coordI (unsign l) a d t)) else none := by
  have lx := fill_len hl t
  have hp := List.length_pos_iff.2 hr
  have e : wordL l (fillL (unsign l) (a + d) t) a = signL l ++ ((fillL (unsign l) (a + d) t).take a ++ 46 :: (fillL (unsign l) (a + d) t).drop a) := by
    unfold wordL; simp
  have hplain := plain_word (l := l) (a := a) (n := a + d) t hr
  have hall := fill_all (unsign l) (a + d) t
  rw [e, parse_sign _ _ hplain]
  unfold coordI
  generalize fillL (unsign l) (a + d) t = X at *
  rw [unsigned_wd (by simp; omega) (by simp; omega) (by simp; omega), List.take_append_drop, hall]
  split
  · rw [Option.map_some, val_parts (by simp; omega), List.take_append_drop, List.length_drop, lx, show 6 - (a + d - a) = 6 - d from by omega]
  · rfl
theorem word_len {l X : List UInt8} {a : Nat} (hX : X.length ≤ 12) : (wordL l X a).length ≤ 14 := by
  have : (signL l).length ≤ 1 := by
    cases l with
    | nil => simp [signL]
    | cons c r => by_cases h : c.toNat = 45 ∨ c.toNat = 43 <;> simp [signL, h]
  have h2 : (X.take a).length + (X.drop a).length = X.length := by rw [← List.length_append, List.take_append_drop]
  unfold wordL
  rw [List.length_append, List.length_append, List.length_append, List.length_singleton]
  omega
/-- The grains that a coordinate denotes. -/
def coordO (l : List UInt8) (u a d : Int) (t : Bool) : Option Int :=
  if fmtB u a d = true ∧ unsign l ≠ [] ∧ (unsign l).length ≤ (a + d).toNat ∧ (unsign l).all dig = true then grainO (signed (minus l) (coordI (unsign l) a.toNat d.toNat t)) u else none
theorem coord_none {l : List UInt8} {u a d : Int} {t : Bool} (h : ¬ (fmtB u a d = true ∧ unsign l ≠ [] ∧ (unsign l).length ≤ (a + d).toNat ∧ (unsign l).all dig = true)) : coordO l u a d t = none := if_neg h
theorem coord_some {l : List UInt8} {u a d : Int} {t : Bool} (h : fmtB u a d = true ∧ unsign l ≠ [] ∧ (unsign l).length ≤ (a + d).toNat ∧ (unsign l).all dig = true) : coordO l u a d t = grainO (signed (minus l) (coordI (unsign l) a.toNat d.toNat t)) u := if_pos h
theorem fmt_form {u a d : Int} (h : fmtB u a d = true) : (u = 1 ∨ u = 2) ∧ ∃ A D : Nat, a = A ∧ d = D ∧ A ≤ 6 ∧ D ≤ 6 ∧ 0 < A + D := by
  obtain ⟨h1, h2, h3, h4⟩ := of_decide_eq_true h
  obtain ⟨A, rfl⟩ := Int.eq_ofNat_of_zero_le h2.1
  obtain ⟨D, rfl⟩ := Int.eq_ofNat_of_zero_le h3.1
  exact ⟨h1, A, D, rfl, rfl, by omega, by omega, by omega⟩
/-- A coordinate's number is no greater than a format can write. -/
theorem coord_bd {r : List UInt8} {a d : Nat} (t : Bool) (hd : Digs r) (hl : r.length ≤ a + d) (ha : a ≤ 6) (hd6 : d ≤ 6) : 0 ≤ coordI r a d t ∧ coordI r a d t < 1000000000000 := by
  have hX : Digs (fillL r (a + d) t) := (digs_all _).2 (by rw [fill_all]; exact (digs_all _).1 hd)
  have lx := fill_len hl t
  have v := val_bd hX
  unfold coordI
  have p : (0 : Int) < 10 ^ (6 - d) := Int.pow_pos (by omega)
  unfold tens
  refine ⟨Int.mul_nonneg v.1 (by omega), ?_⟩
  have h1 : val (fillL r (a + d) t) * 10 ^ (6 - d) < 10 ^ (a + d) * 10 ^ (6 - d) := by
    rw [lx] at v
    exact Int.mul_lt_mul_of_pos_right v.2 p
  rw [← Int.pow_add] at h1
  have h2 : (10 : Int) ^ (a + d + (6 - d)) ≤ 10 ^ 12 := ten_mono (by omega)
  rw [show (10 : Int) ^ 12 = 1000000000000 from by decide] at h2
  omega
end Go.Proofs.YtapnekpilgbcaaaDoor
