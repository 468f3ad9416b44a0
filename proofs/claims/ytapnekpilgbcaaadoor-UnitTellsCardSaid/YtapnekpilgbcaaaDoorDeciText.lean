/- The digits of a number, with no program in it. -/
import Derived.Test.YtapnekpilgbcaaaDoorDeciMath
import Derived.Laws.BitsAllLaws
import Derived.Laws.BitsLemmas
namespace Go.Proofs.YtapnekpilgbcaaaDoor

/-- The byte of a number's last digit. -/
def d8 (n : Nat) : UInt8 := UInt8.ofNat (48 + n % 10)
theorem d8_nat (n : Nat) : (d8 n).toNat = 48 + n % 10 := by
  unfold d8; rw [UInt8.toNat_ofNat']; omega
theorem d8_dig (n : Nat) : dig (d8 n) = true := dig_of (by rw [d8_nat]; omega)
theorem d8_digI (n : Nat) : digI (d8 n) = ((n % 10 : Nat) : Int) := by unfold digI; rw [d8_nat]; omega
/-- The last j digits of a number. -/
def pad : Nat → Nat → List UInt8
  | 0, _ => []
  | j + 1, n => d8 (n / 10 ^ j) :: pad j n
theorem pad_len (j n : Nat) : (pad j n).length = j := by
  induction j with
  | zero => rfl
  | succ j ih => simp [pad, ih]
theorem pad_digs (j n : Nat) : Digs (pad j n) := by
  induction j with
  | zero => exact digs_nil
  | succ j ih => exact digs_cons (d8_dig _) ih
theorem fold_val (l : List UInt8) (a : Int) : l.foldl (fun n c => 10 * n + digI c) a = a * 10 ^ l.length + l.foldl (fun n c => 10 * n + digI c) 0 := by
  induction l generalizing a with
  | nil => simp
  | cons c r ih =>
    rw [List.foldl_cons, ih, List.foldl_cons, ih (10 * 0 + digI c), List.length_cons, Int.pow_succ]
    generalize (10 : Int) ^ r.length = t
    generalize r.foldl (fun n c => 10 * n + digI c) 0 = z
    rw [Int.mul_zero, Int.zero_add, Int.add_mul, Int.mul_comm 10 a, Int.mul_assoc, Int.mul_comm 10 t]
    omega
theorem val_cons (c : UInt8) (l : List UInt8) : val (c :: l) = digI c * 10 ^ l.length + val l := by
  unfold val
  rw [List.foldl_cons, fold_val]
  simp
theorem val_pad (j n : Nat) : val (pad j n) = ((n % 10 ^ j : Nat) : Int) := by
  induction j with
  | zero => simp [pad, val, Nat.mod_one]
  | succ j ih =>
    rw [pad, val_cons, ih, pad_len, d8_digI]
    have e : n % 10 ^ (j + 1) = (n / 10 ^ j % 10) * 10 ^ j + n % 10 ^ j := by
      rw [Nat.pow_succ, Nat.mod_mul, Nat.add_comm, Nat.mul_comm]
    rw [e]
    simp
theorem val_pad_lt {j n : Nat} (h : n < 10 ^ j) : val (pad j n) = (n : Int) := by rw [val_pad, Nat.mod_eq_of_lt h]
theorem pad_append (i j n : Nat) : pad (i + j) n = pad i (n / 10 ^ j) ++ pad j n := by
  induction i with
  | zero => simp [pad]
  | succ i ih =>
    rw [show i + 1 + j = (i + j) + 1 from by omega, pad, ih, pad, List.cons_append, Nat.div_div_eq_div_mul, ← Nat.pow_add, Nat.add_comm j i]
/-- How many digits a number has, 0 for 0. -/
def ndig (n : Nat) : Nat := if h : n = 0 then 0 else ndig (n / 10) + 1
termination_by n
decreasing_by omega
theorem ndig_zero : ndig 0 = 0 := by rw [ndig]; simp
theorem ndig_pos {n : Nat} (h : n ≠ 0) : ndig n = ndig (n / 10) + 1 := by rw [ndig]; simp [h]
theorem ndig_iff (n j : Nat) : j < ndig n ↔ 0 < n / 10 ^ j := by
  induction j generalizing n with
  | zero =>
    rcases Nat.eq_zero_or_pos n with h | h
    · subst h; simp [ndig_zero]
    · rw [ndig_pos (by omega)]; simp; omega
  | succ j ih =>
    rcases Nat.eq_zero_or_pos n with h | h
    · subst h; simp [ndig_zero]
    · rw [ndig_pos (by omega), Nat.pow_succ, Nat.mul_comm, ← Nat.div_div_eq_div_mul, ← ih]; omega
theorem ndig_lt (n : Nat) : n < 10 ^ ndig n := by
  have h : ¬ 0 < n / 10 ^ ndig n := fun g => by have := (ndig_iff n (ndig n)).2 g; omega
  have p : 0 < 10 ^ ndig n := Nat.pow_pos (by omega)
  have z : n / 10 ^ ndig n = 0 := Nat.eq_zero_of_not_pos h
  rcases Nat.div_eq_zero_iff.1 z with e | e <;> omega
theorem ndig_le {n k : Nat} (h : n < 10 ^ k) : ndig n ≤ k := by
  rcases Nat.lt_or_ge k (ndig n) with g | g
  · rw [ndig_iff, Nat.div_eq_of_lt h] at g; omega
  · exact g
/-- The digits of a number, at least so many. -/
def numL (n least : Nat) : List UInt8 := pad (max least (ndig n)) n
theorem numL_len (n least : Nat) : (numL n least).length = max least (ndig n) := pad_len _ _
theorem numL_digs (n least : Nat) : Digs (numL n least) := pad_digs _ _
theorem val_numL (n least : Nat) : val (numL n least) = (n : Int) := by
  unfold numL
  refine val_pad_lt (Nat.lt_of_lt_of_le (ndig_lt n) (Nat.pow_le_pow_right (by omega) (by omega)))
/-- The state of a number that is written from its end. -/
theorem num_more {n least j : Nat} (h : 0 < n / 10 ^ j ∨ j < least) : j < max least (ndig n) := by
  rcases h with h | h
  · rw [← ndig_iff] at h; omega
  · omega
theorem num_done {n least j : Nat} (hj : j ≤ max least (ndig n)) (h : ¬ 0 < n / 10 ^ j) (k : ¬ j < least) : pad j n = numL n least := by
  rw [← ndig_iff] at h
  unfold numL
  rw [show max least (ndig n) = j from by omega]
theorem div_pow_succ (n j : Nat) : n / 10 ^ (j + 1) = n / 10 ^ j / 10 := by rw [Nat.pow_succ, Nat.div_div_eq_div_mul]

/-- Digits without zeros behind. -/
def bareL (l : List UInt8) : List UInt8 := (l.reverse.dropWhile (fun c => decide (c.toNat = 48))).reverse
theorem bare_step {l : List UInt8} {c : UInt8} (h : c.toNat = 48) : bareL (l ++ [c]) = bareL l := by
  unfold bareL; rw [List.reverse_append]; simp [h]
theorem bare_stop {l : List UInt8} {c : UInt8} (h : c.toNat ≠ 48) : bareL (l ++ [c]) = l ++ [c] := by
  unfold bareL; rw [List.reverse_append]; simp [h]
theorem bare_nil : bareL [] = [] := rfl
theorem bare_zeros (l : List UInt8) (k : Nat) : bareL (l ++ List.replicate k (UInt8.ofNat 48)) = bareL l := by
  induction k with
  | zero => simp
  | succ k ih => rw [List.replicate_succ', ← List.append_assoc, bare_step (by decide), ih]
theorem pad_zero (j n : Nat) (h : n % 10 ^ j = 0) : pad j n = List.replicate j (UInt8.ofNat 48) := by
  induction j with
  | zero => rfl
  | succ j ih =>
    have e : n % 10 ^ (j + 1) = (n / 10 ^ j % 10) * 10 ^ j + n % 10 ^ j := by rw [Nat.pow_succ, Nat.mod_mul, Nat.add_comm, Nat.mul_comm]
    rw [h] at e
    have e2 : n % 10 ^ j = 0 := by omega
    have e3 : n / 10 ^ j % 10 * 10 ^ j = 0 := by omega
    have p : 0 < 10 ^ j := Nat.pow_pos (by omega)
    have e4 : n / 10 ^ j % 10 = 0 := by
      rcases Nat.mul_eq_zero.1 e3 with q | q <;> omega
    rw [pad, ih e2, List.replicate_succ]
    unfold d8; rw [e4]
/-- The decimals that have been written from the front, j of six. -/
def front (j m : Nat) : List UInt8 := pad j (m / 10 ^ (6 - j))
theorem front_zero (m : Nat) : front 0 m = [] := rfl
theorem front_len (j m : Nat) : (front j m).length = j := pad_len _ _
theorem pad_snoc (j n : Nat) : pad (j + 1) n = pad j (n / 10) ++ [d8 n] := by
  have h := pad_append j 1 n
  rw [h]; simp [pad]
theorem front_succ {j : Nat} (m : Nat) (h : j < 6) : front (j + 1) m = front j m ++ [d8 (m % 10 ^ (6 - j) / 10 ^ (5 - j))] := by
  unfold front
  rw [pad_snoc, Nat.div_div_eq_div_mul, ← Nat.pow_succ]
  rw [show (6 - (j + 1)).succ = 6 - j from by omega, show 6 - (j + 1) = 5 - j from by omega]
  congr 2
  unfold d8
  rw [show 6 - j = (5 - j) + 1 from by omega, Nat.pow_succ, Nat.mod_mul_right_div_self]
  simp
theorem front_all {j m : Nat} (hj : j ≤ 6) (h : m % 10 ^ (6 - j) = 0) : pad 6 m = front j m ++ List.replicate (6 - j) (UInt8.ofNat 48) := by
  rw [← pad_zero (6 - j) m h, front, ← pad_append, show j + (6 - j) = 6 from by omega]
/-- The state of decimals that are written from the front: j have been written, and the last of them is no zero. -/
def Fronts (m j : Nat) : Prop := j ≤ 6 ∧ (j = 0 ∨ 0 < m % 10 ^ (6 - (j - 1)))
theorem fronts0 (m : Nat) : Fronts m 0 := ⟨by omega, .inl rfl⟩
theorem fronts_step {m j : Nat} (_h : Fronts m j) (h6 : j < 6) (hm : 0 < m % 10 ^ (6 - j)) : Fronts m (j + 1) := ⟨by omega, .inr hm⟩
theorem fronts_six {m j : Nat} (h : Fronts m j) (hm : 0 < m % 10 ^ (6 - j)) : j < 6 := by
  rcases Nat.lt_or_ge j 6 with g | g
  · exact g
  · rw [show 6 - j = 0 from by omega] at hm; simp [Nat.mod_one] at hm
theorem fronts_stop {m j : Nat} (h : Fronts m j) (hm : m % 10 ^ (6 - j) = 0) : front j m = bareL (pad 6 m) := by
  rw [front_all h.1 hm, bare_zeros]
  rcases h.2 with h0 | h0
  · subst h0; rfl
  · rcases Nat.eq_zero_or_pos j with hj | hj
    · subst hj; rfl
    · obtain ⟨i, rfl⟩ : ∃ i, j = i + 1 := ⟨j - 1, by omega⟩
      have h6 := h.1
      rw [front_succ m (by omega)]
      rw [bare_stop]
      rw [d8_nat]
      simp only [Nat.add_sub_cancel] at h0
      have e : 6 - i = (5 - i) + 1 := by omega
      rw [show 6 - (i + 1) = 5 - i from by omega] at hm
      rw [e, Nat.pow_succ, Nat.mod_mul] at h0
      rw [e, Nat.pow_succ, Nat.mod_mul_right_div_self]
      rw [hm] at h0
      have p : 0 < 10 ^ (5 - i) := Nat.pow_pos (by omega)
      have q : m / 10 ^ (5 - i) % 10 ≠ 0 := by
        intro z; rw [z] at h0; simp at h0
      omega
/-- The text of a number of millionths. -/
def decT (m : Nat) : List UInt8 := if m = 0 then [] else 46 :: bareL (pad 6 m)
def sizeT (n : Nat) : List UInt8 := numL (n / 1000000) 1 ++ decT (n % 1000000)
def textL (n : Int) : List UInt8 :=
  if -1000000000000 < n ∧ n < 1000000000000 then (if n < 0 then 45 :: sizeT n.natAbs else sizeT n.natAbs) else []
theorem bare_prefix (l : List UInt8) : ∃ k, l = bareL l ++ List.replicate k (UInt8.ofNat 48) := by
  have : ∀ r : List UInt8, ∃ k, r.reverse = bareL r.reverse ++ List.replicate k (UInt8.ofNat 48) := by
    intro r
    induction r with
    | nil => exact ⟨0, rfl⟩
    | cons c r ih =>
      obtain ⟨k, hk⟩ := ih
      rw [List.reverse_cons]
      by_cases h : c.toNat = 48
      · rw [bare_step h]
        refine ⟨k + 1, ?_⟩
        rw [List.replicate_succ', ← List.append_assoc, ← hk]
        congr 2
        rw [← h]; simp
      · rw [bare_stop h]; exact ⟨0, by simp⟩
  have h := this l.reverse
  rwa [List.reverse_reverse] at h
theorem bare_digs {l : List UInt8} (h : Digs l) : Digs (bareL l) := by
  obtain ⟨k, hk⟩ := bare_prefix l
  intro c hc
  exact h c (by rw [hk]; exact List.mem_append_left _ hc)
theorem bare_len (l : List UInt8) : (bareL l).length ≤ l.length := by
  obtain ⟨k, hk⟩ := bare_prefix l
  have := congrArg List.length hk
  simp at this; omega
theorem val_zeros (l : List UInt8) (k : Nat) : val (l ++ List.replicate k (UInt8.ofNat 48)) = tens (val l) k := by
  induction k with
  | zero => simp [tens_zero]
  | succ k ih =>
    rw [List.replicate_succ', ← List.append_assoc, val_snoc, ih, tens_succ]
    rw [show digI (UInt8.ofNat 48) = 0 from by decide]; omega
theorem mil_bare (l : List UInt8) (h : l.length = 6) : mil (bareL l) = val l := by
  obtain ⟨k, hk⟩ := bare_prefix l
  have e := congrArg List.length hk
  simp at e
  unfold mil
  rw [show 6 - (bareL l).length = k from by omega, ← val_zeros, ← hk]

/-- How many digits stand in front. -/
def runF : List UInt8 → Nat
  | [] => 0
  | c :: r => if dig c = true then runF r + 1 else 0
theorem run_runF (k : Nat) (l : List UInt8) : run k l = min k (runF l) := by
  induction k generalizing l with
  | zero => simp [run]
  | succ k ih =>
    cases l with
    | nil => simp [run, runF]
    | cons c r =>
      unfold run runF
      by_cases h : dig c = true
      · rw [if_pos h, if_pos h, ih]; omega
      · rw [if_neg h, if_neg h]; omega
theorem runF_le (l : List UInt8) : runF l ≤ l.length := by
  induction l with
  | nil => simp [runF]
  | cons c r ih => unfold runF; split <;> simp <;> omega
theorem runF_digs (l : List UInt8) : Digs (l.take (runF l)) := by
  have h := run_digs (runF l) l
  rwa [run_runF, Nat.min_self] at h
theorem runF_at {l : List UInt8} {k : Nat} (h : k < runF l) : ∃ hl : k < l.length, dig l[k] = true := by
  have hl := Nat.lt_of_lt_of_le h (runF_le l)
  refine ⟨hl, runF_digs l _ ?_⟩
  rw [List.mem_take_iff_getElem]
  exact ⟨k, by omega, rfl⟩
def decsF : List UInt8 → List UInt8
  | [] => []
  | c :: r => if c.toNat = 46 then r.take (runF r) else []
def leftF : List UInt8 → List UInt8
  | [] => []
  | c :: r => if c.toNat = 46 then r.drop (runF r) else c :: r
def unsignedF (u : List UInt8) : Option Int :=
  if runF u ≤ 6 ∧ (decsF (u.drop (runF u))).length ≤ 6 ∧ runF u + (decsF (u.drop (runF u))).length ≠ 0 ∧ (leftF (u.drop (runF u))).length = 0 then
    some (val (u.take (runF u)) * 1000000 + mil (decsF (u.drop (runF u)))) else none
theorem decsF_len (r : List UInt8) : (r.take (runF r)).length = runF r := by have := runF_le r; simp; omega
theorem unsignedF_eq (u : List UInt8) : unsignedF u = unsigned u := by
  unfold unsignedF unsigned
  rcases Nat.lt_or_ge 6 (runF u) with h | h
  · rw [if_neg (by omega)]
    have e : run 6 u = 6 := by rw [run_runF]; omega
    obtain ⟨hl, hd⟩ := runF_at h
    have hd := dig_yes hd
    rw [if_neg]
    rw [e, List.drop_eq_getElem_cons hl]
    intro hh
    rw [left, if_neg (by omega)] at hh
    simp at hh
    omega
  · have e : run 6 u = runF u := by rw [run_runF]; omega
    rw [e]
    have hr := runF_le u
    have el : (u.take (runF u)).length = runF u := by simp; omega
    rw [el]
    generalize u.take (runF u) = W
    generalize u.drop (runF u) = R
    cases R with
    | nil => simp only [decsF, leftF, decs, left, List.length_nil]; congr 1; simp; omega
    | cons c r =>
      by_cases h46 : c.toNat = 46
      · simp only [decsF, leftF, decs, left, h46, if_true]
        rw [decsF_len]
        rcases Nat.lt_or_ge 6 (runF r) with g | g
        · rw [if_neg (by omega), if_neg]
          intro hh
          obtain ⟨hl, _⟩ := runF_at g
          have e6 : run 6 r = 6 := by rw [run_runF]; omega
          rw [e6] at hh
          simp at hh; omega
        · have e6 : run 6 r = runF r := by rw [run_runF]; omega
          rw [e6, decsF_len]
          congr 1
          simp only [eq_iff_iff]
          omega
      · simp only [decsF, leftF, decs, left, h46, if_false, List.length_nil, List.length_cons]; congr 1; simp only [eq_iff_iff]; omega

/-- What stands behind digits and is no digit. -/
def Stops (X : List UInt8) : Prop := ∀ c r, X = c :: r → dig c = false
theorem stops_nil : Stops [] := by intro c r h; cases h
theorem stops_cons {c : UInt8} {r : List UInt8} (h : dig c = false) : Stops (c :: r) := by
  intro d s e; cases e; exact h
theorem runF_append {W X : List UInt8} (hW : Digs W) (hX : Stops X) : runF (W ++ X) = W.length := by
  induction W with
  | nil =>
    cases X with
    | nil => rfl
    | cons c r => rw [List.nil_append, runF, if_neg (by rw [hX c r rfl]; simp)]; rfl
  | cons c W ih =>
    rw [List.cons_append, runF, if_pos (hW c (by simp)), ih (fun d hd => hW d (by simp [hd]))]; simp
theorem run_append {W X : List UInt8} (hW : Digs W) (hX : Stops X) (hl : W.length ≤ 6) : run 6 (W ++ X) = W.length := by
  rw [run_runF, runF_append hW hX]; omega
theorem unsigned_whole {W : List UInt8} (hW : Digs W) (h0 : W ≠ []) (hl : W.length ≤ 6) : unsigned W = some (val W * 1000000) := by
  have e := run_append hW stops_nil hl
  rw [List.append_nil] at e
  have hp := List.length_pos_iff.2 h0
  unfold unsigned
  rw [e, List.take_length, List.drop_length, if_pos ⟨by simp [left], by omega⟩]
  simp [decs, mil, val, tens]
theorem unsigned_point {W D : List UInt8} (hW : Digs W) (hD : Digs D) (h0 : W.length + D.length ≠ 0) (hl : W.length ≤ 6) (hd : D.length ≤ 6) :
    unsigned (W ++ 46 :: D) = some (val W * 1000000 + mil D) := by
  have e := run_append hW (stops_cons (c := 46) (r := D) (by decide)) hl
  have e2 := run_append hD stops_nil hd
  rw [List.append_nil] at e2
  unfold unsigned
  rw [e, List.take_left, List.drop_left]
  simp only [left, decs, show (46 : UInt8).toNat = 46 from rfl, if_true]
  rw [e2, List.take_length, List.drop_length, if_pos ⟨by simp, h0⟩]
theorem unsigned_long {W D : List UInt8} (hW : Digs W) (hl : W.length ≤ 6) (hd : 7 ≤ D.length) (hD : Digs D) : unsigned (W ++ 46 :: D) = none := by
  have e := run_append hW (stops_cons (c := 46) (r := D) (by decide)) hl
  have e2 := runF_append hD stops_nil
  rw [List.append_nil] at e2
  have e3 : run 6 D = 6 := by rw [run_runF, e2]; omega
  unfold unsigned
  rw [e, List.drop_left]
  simp only [left, show (46 : UInt8).toNat = 46 from rfl, if_true]
  rw [if_neg (by rw [e3]; simp; omega)]
theorem unsigned_size {n : Nat} (h : n < 1000000000000) : unsigned (sizeT n) = some (n : Int) := by
  unfold sizeT decT
  have lw : (numL (n / 1000000) 1).length ≤ 6 := by rw [numL_len]; have := ndig_le (n := n / 1000000) (k := 6) (by omega); omega
  have l1 : 1 ≤ (numL (n / 1000000) 1).length := by rw [numL_len]; omega
  have hw := numL_digs (n / 1000000) 1
  have vw := val_numL (n / 1000000) 1
  split
  · next h0 =>
    rw [List.append_nil, unsigned_whole hw (by intro e; rw [e] at l1; simp at l1) lw, vw]
    congr 1; omega
  · have vp := val_pad_lt (n := n % 1000000) (j := 6) (by omega)
    have lb := bare_len (pad 6 (n % 1000000))
    rw [pad_len] at lb
    rw [unsigned_point hw (bare_digs (pad_digs 6 _)) (by omega) lw lb, mil_bare _ (pad_len 6 _), vw, vp]
    congr 1; omega
theorem size_head (n : Nat) : ∃ c r, sizeT n = c :: r ∧ dig c = true := by
  have l1 : 1 ≤ (numL (n / 1000000) 1).length := by rw [numL_len]; omega
  have hw := numL_digs (n / 1000000) 1
  unfold sizeT
  cases h : numL (n / 1000000) 1 with
  | nil => rw [h] at l1; simp at l1
  | cons c r => exact ⟨c, r ++ decT (n % 1000000), rfl, hw c (by rw [h]; simp)⟩
theorem parse_size {n : Nat} (h : n < 1000000000000) : parseO (sizeT n) = some (n : Int) := by
  have hu := unsigned_size h
  obtain ⟨c, r, e, hc⟩ := size_head n
  have := dig_yes hc
  unfold parseO
  rw [show unsign (sizeT n) = sizeT n by rw [e, unsign, if_neg (by omega)], hu, show minus (sizeT n) = false by rw [e]; exact decide_eq_false (by omega)]
  rfl
theorem parse_plus {n : Nat} (h : n < 1000000000000) : parseO (43 :: sizeT n) = some (n : Int) := by
  have hu := unsigned_size h
  unfold parseO
  rw [show unsign (43 :: sizeT n) = sizeT n from rfl, hu]; rfl
theorem parse_dash {n : Nat} (h : n < 1000000000000) : parseO (45 :: sizeT n) = some (-(n : Int)) := by
  have hu := unsigned_size h
  unfold parseO
  rw [show unsign (45 :: sizeT n) = sizeT n from rfl, hu]; rfl
theorem parse_text {n : Int} (h0 : -1000000000000 < n) (h1 : n < 1000000000000) : parseO (textL n) = some n := by
  unfold textL
  rw [if_pos ⟨h0, h1⟩]
  split
  · rw [parse_dash (by omega)]; congr 1; omega
  · rw [parse_size (by omega)]; congr 1; omega
theorem text_inj {a b : Int} (a0 : -1000000000000 < a) (a1 : a < 1000000000000) (b0 : -1000000000000 < b) (b1 : b < 1000000000000) : (textL a == textL b) = (a == b) := by
  by_cases h : a = b
  · subst h; simp
  · have : textL a ≠ textL b := by
      intro e
      have p := parse_text a0 a1
      rw [e, parse_text b0 b1] at p
      exact h (by injection p with p; exact p.symm)
    rw [beq_eq_false_iff_ne.2 this, beq_eq_false_iff_ne.2 h]
theorem size_len {n : Nat} (h : n < 1000000000000) : (sizeT n).length ≤ 13 := by
  unfold sizeT decT
  have lw : (numL (n / 1000000) 1).length ≤ 6 := by rw [numL_len]; have := ndig_le (n := n / 1000000) (k := 6) (by omega); omega
  have lb := bare_len (pad 6 (n % 1000000))
  rw [pad_len] at lb
  split <;> simp <;> omega
theorem text_len {n : Int} (h0 : -1000000000000 < n) (h1 : n < 1000000000000) : (textL n).length ≤ 14 := by
  unfold textL
  rw [if_pos ⟨h0, h1⟩]
  have := size_len (n := n.natAbs) (by omega)
  split <;> simp <;> omega
/-- The number that an integer part and six decimals denote. -/
def partsL (x y : Int) : List UInt8 := numL x.toNat 1 ++ [46] ++ numL y.toNat 6
theorem parts_num {x y : Int} (x0 : 0 ≤ x) (x1 : x < 1000000) (y0 : 0 ≤ y) (y1 : y < 1000000) :
    unsigned (partsL x y) = some (1000000 * x + y) ∧ unsigned (partsL x y ++ [48]) = none ∧ (∃ c r, partsL x y = c :: r ∧ dig c = true) ∧ (partsL x y).length ≤ 13 := by
  have lw : (numL x.toNat 1).length ≤ 6 := by rw [numL_len]; have := ndig_le (n := x.toNat) (k := 6) (by omega); omega
  have l1 : 1 ≤ (numL x.toNat 1).length := by rw [numL_len]; omega
  have ld : (numL y.toNat 6).length = 6 := by rw [numL_len]; have := ndig_le (n := y.toNat) (k := 6) (by omega); omega
  have hw := numL_digs x.toNat 1
  have hd := numL_digs y.toNat 6
  have e : partsL x y = numL x.toNat 1 ++ 46 :: numL y.toNat 6 := by unfold partsL; simp
  have e2 : partsL x y ++ [48] = numL x.toNat 1 ++ 46 :: (numL y.toNat 6 ++ [48]) := by rw [e]; simp
  refine ⟨?_, ?_, ?_, ?_⟩
  · rw [e, unsigned_point hw hd (by omega) lw (by omega)]
    unfold mil
    rw [ld, val_numL, val_numL, Nat.sub_self, tens_zero]
    congr 1; omega
  · rw [e2, unsigned_long hw lw (by simp; omega) (digs_append hd (by intro c hc; simp at hc; subst hc; decide))]
  · rw [e]
    cases h : numL x.toNat 1 with
    | nil => rw [h] at l1; simp at l1
    | cons c r => exact ⟨c, _, rfl, hw c (by rw [h]; simp)⟩
  · rw [e]; simp; omega
theorem parse_head {l : List UInt8} (h : ∃ c r, l = c :: r ∧ dig c = true) : parseO l = unsigned l := by
  obtain ⟨c, r, e, hc⟩ := h
  have := dig_yes hc
  unfold parseO
  rw [show unsign l = l by rw [e, unsign, if_neg (by omega)], show minus l = false by rw [e]; exact decide_eq_false (by omega)]
  show (unsigned l).map (fun n => if false = true then -n else n) = _
  simp
theorem parse_neg (l : List UInt8) : parseO (45 :: l) = (unsigned l).map (fun n => -n) := by
  unfold parseO
  rw [show unsign (45 :: l) = l from rfl]; rfl
theorem unsigned_form {W X : List UInt8} (hW : Digs W) (hX : Stops X) :
    unsigned (W ++ X) = if W.length ≤ 6 ∧ (decsF X).length ≤ 6 ∧ W.length + (decsF X).length ≠ 0 ∧ (leftF X).length = 0 then some (val W * 1000000 + mil (decsF X)) else none := by
  rw [← unsignedF_eq]
  unfold unsignedF
  rw [runF_append hW hX, List.drop_left, List.take_left]
theorem decsF_digs (l : List UInt8) : Digs (decsF l) := by
  cases l with
  | nil => exact digs_nil
  | cons c r =>
    by_cases h : c.toNat = 46
    · simp only [decsF, h, if_true]; exact runF_digs _
    · simp only [decsF, h, if_false]; exact digs_nil
/-- Nines, and the tail that a law lays behind them. -/
def nines (k : Nat) : List UInt8 := List.replicate k 57
theorem nines_len (k : Nat) : (nines k).length = k := by simp [nines]
theorem nines_digs (k : Nat) : Digs (nines k) := by
  intro c hc; rw [List.eq_of_mem_replicate hc]; decide
theorem nines_succ (k : Nat) : nines k ++ [57] = nines (k + 1) := by unfold nines; rw [List.replicate_succ']
def tailL (p : Bool) (b : Nat) : List UInt8 := if p = true then 46 :: nines b else []
theorem tail_parts (p : Bool) (b : Nat) (x : List UInt8) (hx : Stops x) : Stops (tailL p b ++ x) ∧ (decsF (tailL p b ++ x) = if p = true then nines b else decsF x) ∧ (leftF (tailL p b ++ x) = if p = true then x else leftF x) := by
  cases p
  · exact ⟨by simpa [tailL] using hx, rfl, rfl⟩
  · have h := runF_append (nines_digs b) hx
    refine ⟨stops_cons (by decide), ?_, ?_⟩
    · show decsF (46 :: (nines b ++ x)) = _
      rw [decsF, if_pos (by decide), h, List.take_left]; rfl
    · show leftF (46 :: (nines b ++ x)) = _
      rw [leftF, if_pos (by decide), h, List.drop_left]; rfl
def Plain (l : List UInt8) : Prop := ∀ c r, l = c :: r → ¬ (c.toNat = 45 ∨ c.toNat = 43)
theorem plain_nines (a : Nat) (p : Bool) (b : Nat) (x : List UInt8) (hx : Plain x) : Plain (nines a ++ (tailL p b ++ x)) := by
  intro c r e
  cases a with
  | succ a => rw [nines, List.replicate_succ] at e; cases e; decide
  | zero =>
    cases p
    · exact hx c r e
    · cases e; decide
def signs (s : Nat) : List UInt8 := if s = 0 then [] else if s = 1 then [43] else if s = 2 then [45] else [45, 45]
theorem parse_signs {s : Nat} (hs : s ≤ 3) {l : List UInt8} (hl : Plain l) : parseO (signs s ++ l) = if s = 3 then none else (unsigned l).map (signed (decide (s = 2))) := by
  have h4 : s = 0 ∨ s = 1 ∨ s = 2 ∨ s = 3 := by omega
  rcases h4 with rfl | rfl | rfl | rfl
  · unfold parseO
    cases l with
    | nil => rfl
    | cons c r =>
      have := hl c r rfl
      show (unsigned (unsign (c :: r))).map (signed (minus (c :: r))) = _
      rw [unsign, if_neg this, minus, decide_eq_false (fun h => this (.inl h))]; rfl
  · rfl
  · rfl
  · show (unsigned (45 :: l)).map _ = none
    have : unsigned (45 :: l) = none := by
      unfold unsigned
      rw [show run 6 (45 :: l) = 0 by rw [run, if_neg (by decide)], if_neg]
      intro h
      have h1 := h.1
      rw [List.drop_zero, left, if_neg (by decide)] at h1
      simp at h1
    rw [this]; rfl
/-- What the law's string denotes. -/
theorem bounds_num {s a b : Nat} {p : Bool} (hs : s ≤ 3) :
    ((s < 3 ∧ a ≤ 6 ∧ (if p = true then b else 0) ≤ 6 ∧ 0 < a + (if p = true then b else 0)) ∧ ∃ v, parseO (signs s ++ (nines a ++ tailL p b)) = some v ∧ -1000000000000 < v ∧ v < 1000000000000) ∨
    (¬ (s < 3 ∧ a ≤ 6 ∧ (if p = true then b else 0) ≤ 6 ∧ 0 < a + (if p = true then b else 0)) ∧ parseO (signs s ++ (nines a ++ tailL p b)) = none) := by
  have hp := parse_signs hs (plain_nines a p b [] (by intro c r h; cases h))
  have ht := tail_parts p b [] stops_nil
  rw [List.append_nil] at hp ht
  rw [hp]
  have hu := unsigned_form (nines_digs a) ht.1
  have hD : (decsF (tailL p b)).length = if p = true then b else 0 := by rw [ht.2.1]; cases p <;> simp [nines_len, decsF]
  have hL : (leftF (tailL p b)).length = 0 := by rw [ht.2.2]; cases p <;> rfl
  rw [nines_len, hD, hL] at hu
  by_cases h : s < 3 ∧ a ≤ 6 ∧ (if p = true then b else 0) ≤ 6 ∧ 0 < a + (if p = true then b else 0)
  · refine .inl ⟨h, ?_⟩
    rw [if_pos ⟨h.2.1, h.2.2.1, by omega, rfl⟩] at hu
    rw [if_neg (by omega), hu]
    refine ⟨_, rfl, ?_⟩
    have v := val_six (nines_digs a) (by rw [nines_len]; omega)
    have d := mil_bd (decsF_digs (tailL p b)) (by rw [hD]; omega)
    rw [signed]; split <;> omega
  · refine .inr ⟨h, ?_⟩
    by_cases h3 : s = 3
    · rw [if_pos h3]
    · rw [if_neg (by omega)] at hu
      rw [if_neg h3, hu]; rfl
theorem bounds_none {s a b : Nat} {p : Bool} (hs : s ≤ 3) (x : List UInt8) (hx : Stops x) (hx2 : Plain x) (hx3 : leftF x ≠ []) (hx4 : x ≠ []) : parseO (signs s ++ (nines a ++ (tailL p b ++ x))) = none := by
  have hp := parse_signs hs (plain_nines a p b x hx2)
  have ht := tail_parts p b x hx
  rw [hp]
  have hu := unsigned_form (nines_digs a) ht.1
  have hL : (leftF (tailL p b ++ x)).length ≠ 0 := by
    rw [ht.2.2]; intro h
    cases p
    · exact hx3 (List.length_eq_zero_iff.1 h)
    · exact hx4 (List.length_eq_zero_iff.1 h)
  rw [if_neg (fun h => hL h.2.2.2)] at hu
  split
  · rfl
  · rw [hu]; rfl
theorem and_mask (a : Int) (k : Nat) (hk : k < 63) : bits .and .i64 a ((2 ^ k - 1 : Nat) : Int) = a % 2 ^ k := by
  have pk : 2 ^ k ≤ 2 ^ 62 := Nat.pow_le_pow_right (by omega) (by omega)
  have p62 : (2 : Nat) ^ 62 = 4611686018427387904 := by decide
  have p0 : 0 < 2 ^ k := Nat.pow_pos (by omega)
  show IntKind.i64.wrap ((BitVec.ofInt 64 a &&& BitVec.ofInt 64 ((2 ^ k - 1 : Nat) : Int)).toNat : Int) = _
  rw [BitVec.toNat_and]
  have e : (BitVec.ofInt 64 ((2 ^ k - 1 : Nat) : Int)).toNat = 2 ^ k - 1 := by
    rw [BitVec.ofInt_natCast, BitVec.toNat_ofNat]; exact Nat.mod_eq_of_lt (by omega)
  rw [e, Nat.and_two_pow_sub_one_eq_mod, BitVec.toNat_ofInt]
  have h0 : 0 ≤ a % ((2 ^ 64 : Nat) : Int) := Int.emod_nonneg _ (by decide)
  have hlt : (a % ((2 ^ 64 : Nat) : Int)).toNat % 2 ^ k < 2 ^ k := Nat.mod_lt _ p0
  have q : (((a % ((2 ^ 64 : Nat) : Int)).toNat % 2 ^ k : Nat) : Int) = a % 2 ^ k := by
    have : ((2 ^ 64 : Nat) : Int) = ((2 : Nat) : Int) ^ k * 2 ^ (64 - k) := by
      rw [Int.natCast_pow, show ((2 : Nat) : Int) = 2 from rfl, ← Int.pow_add]; congr 1; omega
    rw [Int.natCast_emod, Int.toNat_of_nonneg h0, this, Int.natCast_pow, Int.emod_emod_of_dvd a (Int.dvd_mul_right _ _)]; rfl
  rw [q, IntKind.wrap_i64]
  have r0 : 0 ≤ a % 2 ^ k := by rw [← q]; omega
  have r1 : a % 2 ^ k < 4611686018427387904 := by rw [← q]; omega
  generalize a % 2 ^ k = z at *
  omega
theorem and_3 (a : Int) : bits .and .i64 a 3 = a % 4 := and_mask a 2 (by omega)
theorem and_15 (a : Int) : bits .and .i64 a 15 = a % 16 := and_mask a 4 (by omega)
theorem tmod_bd (a m : Int) (hm : 0 < m) : -m < a.tmod m ∧ a.tmod m < m := by
  have := Int.tmod_lt_of_pos a hm
  have h2 := Int.tmod_lt_of_pos (-a) hm
  rw [Int.neg_tmod] at h2
  omega
end Go.Proofs.YtapnekpilgbcaaaDoor
