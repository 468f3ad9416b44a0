/- The arithmetic of 128-bit numbers made of two 64-bit words, with no program in it. -/
import Derived.Laws.Bits64b
namespace Go.Proofs.Ytoofbbmddddlcaa

/-- The number that two words make. -/
def Wv (hi lo : Int) : Int := hi * 18446744073709551616 + lo
def mulHi (a b : Int) : Int := a * b / 18446744073709551616
def mulLo (a b : Int) : Int := a * b % 18446744073709551616
def sumLo (a b c : Int) : Int := (a + b + c) % 18446744073709551616
def sumHi (a b c : Int) : Int := (a + b + c) / 18446744073709551616
def addOk (a b c d : Int) : Bool := decide (Wv a b + Wv c d < 340282366920938463463374607431768211456)
def addHi (a b c d : Int) : Int := if addOk a b c d then (Wv a b + Wv c d) / 18446744073709551616 else 0
def addLo (a b c d : Int) : Int := if addOk a b c d then (Wv a b + Wv c d) % 18446744073709551616 else 0
def cmpW (a b : Int) : Int := if a < b then -1 else if b < a then 1 else 0
def cmpWide (a b c d : Int) : Int := cmpW (Wv a b) (Wv c d)
def absI (a : Int) : Int := if a < 0 then -a else a

theorem wrap64u (n : Int) : IntKind.u64.wrap n = n % 18446744073709551616 := IntKind.wrap_u64 n

theorem wrap_lo (n : Int) : 0 ≤ IntKind.u64.wrap n := by rw [wrap64u]; omega
theorem wrap_hi (n : Int) : IntKind.u64.wrap n ≤ 18446744073709551615 := by rw [wrap64u]; omega
theorem and32 (x : Int) (h0 : 0 ≤ x) (h1 : x ≤ 18446744073709551615) : bits .and .u64 x 4294967295 = x % 4294967296 := by
  obtain ⟨n, rfl⟩ := Int.eq_ofNat_of_zero_le h0
  have h := bits_and_u64_nat n 4294967295 (by omega) (by omega)
  have e : n &&& 4294967295 = n % 4294967296 := Nat.and_two_pow_sub_one_eq_mod n 32
  rw [e] at h
  exact h

theorem mulHi_bd (a b : Int) (h0 : 0 ≤ a) (h1 : a ≤ 18446744073709551615) (h2 : 0 ≤ b) (h3 : b ≤ 18446744073709551615) : 0 ≤ mulHi a b ∧ mulHi a b ≤ 18446744073709551614 := by
  have h4 : 0 ≤ a * b := Int.mul_nonneg h0 h2
  have h5 : a * b ≤ 18446744073709551615 * 18446744073709551615 := Int.mul_le_mul h1 h3 h2 (by omega)
  unfold mulHi
  generalize a * b = m at *
  omega
theorem mulLo_bd (a b : Int) : 0 ≤ mulLo a b ∧ mulLo a b ≤ 18446744073709551615 := by
  unfold mulLo; omega
theorem mul_Wv (a b : Int) : Wv (mulHi a b) (mulLo a b) = a * b := by
  unfold Wv mulHi mulLo; generalize a * b = m; omega
theorem wv_inj {a b c d : Int} (hb0 : 0 ≤ b) (hb1 : b ≤ 18446744073709551615) (hd0 : 0 ≤ d) (hd1 : d ≤ 18446744073709551615) (h : Wv a b = Wv c d) : a = c ∧ b = d := by
  unfold Wv at h; omega

/-- The product of halves is below 2^64 by far. -/
theorem half_bd {a b : Int} (h0 : 0 ≤ a) (h1 : a ≤ 4294967295) (h2 : 0 ≤ b) (h3 : b ≤ 4294967295) : 0 ≤ a * b ∧ a * b ≤ 18446744065119617025 :=
  ⟨Int.mul_nonneg h0 h2, by have := Int.mul_le_mul h1 h3 h2 (by omega); omega⟩

theorem split_mulI (x1 x0 y1 y0 : Int) : (x1 * 4294967296 + x0) * (y1 * 4294967296 + y0) = x1 * y1 * 18446744073709551616 + (x1 * y0 + x0 * y1) * 4294967296 + x0 * y0 := by
  rw [Int.add_mul, Int.mul_add, Int.mul_add]
  rw [show x1 * 4294967296 * (y1 * 4294967296) = x1 * y1 * 18446744073709551616 from by
    rw [Int.mul_assoc, Int.mul_left_comm 4294967296 y1, ← Int.mul_assoc]; rfl]
  rw [show x1 * 4294967296 * y0 = x1 * y0 * 4294967296 from Int.mul_right_comm _ _ _]
  rw [← Int.mul_assoc x0 y1 4294967296]
  omega

/-- The four products of the halves of two words. -/
structure Quad (a b p q r s : Int) : Prop where
  p0 : 0 ≤ p
  p1 : p ≤ 18446744065119617025
  q0 : 0 ≤ q
  q1 : q ≤ 18446744065119617025
  r0 : 0 ≤ r
  r1 : r ≤ 18446744065119617025
  s0 : 0 ≤ s
  s1 : s ≤ 18446744065119617025
  all : a * b = p * 18446744073709551616 + (q + r) * 4294967296 + s

theorem quad4 (a b : Int) (h0 : 0 ≤ a) (h1 : a ≤ 18446744073709551615) (h2 : 0 ≤ b) (h3 : b ≤ 18446744073709551615) :
    Quad a b (a / 4294967296 * (b / 4294967296)) (a / 4294967296 * (b % 4294967296)) (a % 4294967296 * (b / 4294967296)) (a % 4294967296 * (b % 4294967296)) := by
  obtain ⟨p0, p1⟩ := half_bd (a := a / 4294967296) (b := b / 4294967296) (by omega) (by omega) (by omega) (by omega)
  obtain ⟨q0, q1⟩ := half_bd (a := a / 4294967296) (b := b % 4294967296) (by omega) (by omega) (by omega) (by omega)
  obtain ⟨r0, r1⟩ := half_bd (a := a % 4294967296) (b := b / 4294967296) (by omega) (by omega) (by omega) (by omega)
  obtain ⟨s0, s1⟩ := half_bd (a := a % 4294967296) (b := b % 4294967296) (by omega) (by omega) (by omega) (by omega)
  refine ⟨p0, p1, q0, q1, r0, r1, s0, s1, ?_⟩
  rw [← split_mulI, show a / 4294967296 * 4294967296 + a % 4294967296 = a from by omega, show b / 4294967296 * 4294967296 + b % 4294967296 = b from by omega]

/-- What the walk of Mul leaves as the high word. -/
theorem mul_form (a b : Int) (h0 : 0 ≤ a) (h1 : a ≤ 18446744073709551615) (h2 : 0 ≤ b) (h3 : b ≤ 18446744073709551615) :
    IntKind.u64.wrap (IntKind.u64.wrap (IntKind.u64.wrap (a / 4294967296 * (b / 4294967296)) +
        IntKind.u64.wrap (IntKind.u64.wrap (a / 4294967296 * bits BinOp.and IntKind.u64 b 4294967295) +
          IntKind.u64.wrap (bits BinOp.and IntKind.u64 a 4294967295 * bits BinOp.and IntKind.u64 b 4294967295) / 4294967296) / 4294967296) +
      IntKind.u64.wrap (IntKind.u64.wrap (bits BinOp.and IntKind.u64 a 4294967295 * (b / 4294967296)) +
        bits BinOp.and IntKind.u64 (IntKind.u64.wrap (IntKind.u64.wrap (a / 4294967296 * bits BinOp.and IntKind.u64 b 4294967295) +
          IntKind.u64.wrap (bits BinOp.and IntKind.u64 a 4294967295 * bits BinOp.and IntKind.u64 b 4294967295) / 4294967296)) 4294967295) / 4294967296) = mulHi a b := by
  obtain ⟨p0, p1, q0, q1, r0, r1, s0, s1, all⟩ := quad4 a b h0 h1 h2 h3
  rw [and32 a h0 h1, and32 b h2 h3]
  unfold mulHi
  rw [all]
  generalize a / 4294967296 * (b / 4294967296) = p at *
  generalize a / 4294967296 * (b % 4294967296) = q at *
  generalize a % 4294967296 * (b / 4294967296) = r at *
  generalize a % 4294967296 * (b % 4294967296) = s at *
  simp only [wrap64u]
  rw [and32 _ (by omega) (by omega)]
  omega

/-- What the walk of addWord leaves. -/
theorem sum_form (a b c : Int) : IntKind.u64.wrap (IntKind.u64.wrap (a + b) + c) = sumLo a b c := by
  simp only [wrap64u, sumLo]; omega
theorem sum_carry (a b c : Int) (h0 : 0 ≤ a) (h1 : a ≤ 18446744073709551615) (h2 : 0 ≤ b) (h3 : b ≤ 18446744073709551615) (h4 : 0 ≤ c) (h5 : c ≤ 1)
    (h : IntKind.u64.wrap (a + b) < a ∨ IntKind.u64.wrap (IntKind.u64.wrap (a + b) + c) < IntKind.u64.wrap (a + b)) : 1 = sumHi a b c := by
  simp only [wrap64u, sumHi] at *; omega
theorem sum_none (a b c : Int) (h0 : 0 ≤ a) (h1 : a ≤ 18446744073709551615) (h2 : 0 ≤ b) (h3 : b ≤ 18446744073709551615) (h4 : 0 ≤ c) (h5 : c ≤ 1)
    (h : a ≤ IntKind.u64.wrap (a + b) ∧ IntKind.u64.wrap (a + b) ≤ IntKind.u64.wrap (IntKind.u64.wrap (a + b) + c)) : 0 = sumHi a b c := by
  simp only [wrap64u, sumHi] at *; omega
theorem sumHi_bd (a b c : Int) (h0 : 0 ≤ a) (h1 : a ≤ 18446744073709551615) (h2 : 0 ≤ b) (h3 : b ≤ 18446744073709551615) (h4 : 0 ≤ c) (h5 : c ≤ 1) : 0 ≤ sumHi a b c ∧ sumHi a b c ≤ 1 := by
  unfold sumHi; omega
theorem sumLo_bd (a b c : Int) : 0 ≤ sumLo a b c ∧ sumLo a b c ≤ 18446744073709551615 := by unfold sumLo; omega

theorem add_over (a b c d : Int) (ha : 0 ≤ a) (ha' : a ≤ 18446744073709551615) (hb : 0 ≤ b) (hb' : b ≤ 18446744073709551615) (hc : 0 ≤ c) (hc' : c ≤ 18446744073709551615) (hd : 0 ≤ d) (hd' : d ≤ 18446744073709551615) :
    addOk a b c d = decide (sumHi a c (sumHi b d 0) = 0) := by
  unfold addOk Wv sumHi
  rw [Bool.eq_iff_iff]; simp only [decide_eq_true_eq]; omega
theorem addHi_ok (a b c d : Int) (h : addOk a b c d = true) (hb : 0 ≤ b) (hb' : b ≤ 18446744073709551615) (hd : 0 ≤ d) (hd' : d ≤ 18446744073709551615) (ha : 0 ≤ a) (hc : 0 ≤ c) :
    sumLo a c (sumHi b d 0) = addHi a b c d ∧ sumLo b d 0 = addLo a b c d := by
  unfold addHi addLo
  rw [if_pos h, if_pos h]
  unfold addOk at h
  simp only [decide_eq_true_eq] at h
  unfold Wv at *; unfold sumLo sumHi; omega
theorem addHi_no (a b c d : Int) (h : addOk a b c d = false) : addHi a b c d = 0 ∧ addLo a b c d = 0 := by
  unfold addHi addLo; rw [h]; simp

theorem add_bd (a b c d : Int) (ha : 0 ≤ a) (hb : 0 ≤ b) (hc : 0 ≤ c) (hd : 0 ≤ d) :
    0 ≤ addHi a b c d ∧ addHi a b c d ≤ 18446744073709551615 ∧ 0 ≤ addLo a b c d ∧ addLo a b c d ≤ 18446744073709551615 := by
  unfold addHi addLo
  by_cases h : addOk a b c d = true
  · rw [if_pos h, if_pos h]; unfold addOk at h; simp only [decide_eq_true_eq] at h; unfold Wv at *; omega
  · rw [if_neg h, if_neg h]; omega
theorem add_Wv (a b c d : Int) (h : addOk a b c d = true) : Wv (addHi a b c d) (addLo a b c d) = Wv a b + Wv c d := by
  unfold addHi addLo
  rw [if_pos h, if_pos h]; generalize Wv a b + Wv c d = m; unfold Wv; omega
theorem addOk_of {a b c d : Int} (h : Wv a b + Wv c d < 340282366920938463463374607431768211456) : addOk a b c d = true := decide_eq_true h
theorem addOk_lt {a b c d : Int} (h : addOk a b c d = true) : Wv a b + Wv c d < 340282366920938463463374607431768211456 := of_decide_eq_true h
theorem addOk_comm (a b c d : Int) : addOk a b c d = addOk c d a b := by unfold addOk; rw [Int.add_comm]
theorem addHi_comm (a b c d : Int) : addHi a b c d = addHi c d a b := by unfold addHi; rw [addOk_comm, Int.add_comm]
theorem addLo_comm (a b c d : Int) : addLo a b c d = addLo c d a b := by unfold addLo; rw [addOk_comm, Int.add_comm]

theorem absI_bd (a : Int) (h0 : -9223372036854775808 ≤ a) (h1 : a ≤ 9223372036854775807) : 0 ≤ absI a ∧ absI a ≤ 9223372036854775808 := by
  unfold absI; split <;> omega
theorem abs_neg_form (a : Int) (h0 : -9223372036854775808 ≤ a) (h : a < 0) : IntKind.u64.wrap (-IntKind.u64.wrap a) = absI a := by
  unfold absI; rw [if_pos h]; simp only [wrap64u]; omega
theorem abs_pos_form (a : Int) (h1 : a ≤ 9223372036854775807) (h : 0 ≤ a) : IntKind.u64.wrap a = absI a := by
  unfold absI; rw [if_neg (by omega)]; simp only [wrap64u]; omega

theorem cmpWide_hi (a b c d : Int) (hb : 0 ≤ b) (hb' : b ≤ 18446744073709551615) (hd : 0 ≤ d) (hd' : d ≤ 18446744073709551615) (h : a ≠ c) : cmpW a c = cmpWide a b c d := by
  unfold cmpWide cmpW Wv
  by_cases h1 : a < c
  · rw [if_pos h1, if_pos (by omega)]
  · rw [if_neg h1, if_pos (by omega), if_neg (by omega), if_pos (by omega)]
theorem cmpWide_lo (a b d : Int) : cmpW b d = cmpWide a b a d := by
  unfold cmpWide cmpW Wv
  rcases Int.lt_trichotomy b d with h | h | h
  · rw [if_pos h, if_pos (by omega)]
  · subst h; simp
  · rw [if_neg (by omega), if_pos h, if_neg (by omega), if_pos (by omega)]
theorem cmpW_cases (a b : Int) : (a < b ∧ cmpW a b = -1) ∨ (a = b ∧ cmpW a b = 0) ∨ (b < a ∧ cmpW a b = 1) := by
  unfold cmpW
  by_cases h1 : a < b
  · rw [if_pos h1]; exact .inl ⟨h1, rfl⟩
  · rw [if_neg h1]
    by_cases h2 : b < a
    · rw [if_pos h2]; exact .inr (.inr ⟨h2, rfl⟩)
    · rw [if_neg h2]; exact .inr (.inl ⟨by omega, rfl⟩)

/-- A half-word product, shifted by half a word and parted into two words. -/
theorem shl_form (q : Int) : Wv (q / 4294967296) (IntKind.u64.wrap (q * 4294967296)) = q * 4294967296 := by
  unfold Wv; rw [wrap64u]; omega
theorem halves1 (p s : Int) (p0 : 0 ≤ p) (p1 : p ≤ 18446744065119617025) (s0 : 0 ≤ s) (s1 : s ≤ 18446744065119617025) :
    addOk p 0 0 s = true ∧ addHi p 0 0 s = p ∧ addLo p 0 0 s = s := by
  have h : addOk p 0 0 s = true := addOk_of (by unfold Wv; omega)
  have e := add_Wv p 0 0 s h
  have b := add_bd p 0 0 s p0 (by omega) (by omega) s0
  have i := wv_inj (a := addHi p 0 0 s) (b := addLo p 0 0 s) (c := p) (d := s) (by omega) (by omega) (by omega) (by omega) (by rw [e]; unfold Wv; omega)
  exact ⟨h, i.1, i.2⟩
theorem halves (a b p q r s : Int) (Q : Quad a b p q r s) (h0 : 0 ≤ a) (h1 : a ≤ 18446744073709551615) (h2 : 0 ≤ b) (h3 : b ≤ 18446744073709551615) :
    ∃ h l, addOk p s (q / 4294967296) (IntKind.u64.wrap (q * 4294967296)) = true ∧ addHi p s (q / 4294967296) (IntKind.u64.wrap (q * 4294967296)) = h ∧ addLo p s (q / 4294967296) (IntKind.u64.wrap (q * 4294967296)) = l ∧
      0 ≤ h ∧ h ≤ 18446744073709551615 ∧ 0 ≤ l ∧ l ≤ 18446744073709551615 ∧
      addOk h l (r / 4294967296) (IntKind.u64.wrap (r * 4294967296)) = true ∧ addHi h l (r / 4294967296) (IntKind.u64.wrap (r * 4294967296)) = mulHi a b ∧ addLo h l (r / 4294967296) (IntKind.u64.wrap (r * 4294967296)) = mulLo a b := by
  obtain ⟨p0, p1, q0, q1, r0, r1, s0, s1, all⟩ := Q
  have hm := mul_Wv a b
  have mb := mulHi_bd a b h0 h1 h2 h3
  have lb := mulLo_bd a b
  rw [all] at hm
  have eq := shl_form q
  have er := shl_form r
  have wq : 0 ≤ IntKind.u64.wrap (q * 4294967296) := by rw [wrap64u]; omega
  have wr : 0 ≤ IntKind.u64.wrap (r * 4294967296) := by rw [wrap64u]; omega
  generalize IntKind.u64.wrap (q * 4294967296) = ql at *
  generalize IntKind.u64.wrap (r * 4294967296) = rl at *
  generalize mulHi a b = mh at *
  generalize mulLo a b = ml at *
  have k1 : addOk p s (q / 4294967296) ql = true := addOk_of (by rw [eq]; unfold Wv at *; omega)
  have e1 := add_Wv _ _ _ _ k1
  have b1 := add_bd p s (q / 4294967296) ql p0 s0 (by omega) wq
  refine ⟨_, _, k1, rfl, rfl, b1.1, b1.2.1, b1.2.2.1, b1.2.2.2, ?_⟩
  generalize addHi p s (q / 4294967296) ql = h at *
  generalize addLo p s (q / 4294967296) ql = l at *
  have k2 : addOk h l (r / 4294967296) rl = true := addOk_of (by rw [e1, er, eq]; unfold Wv at *; omega)
  have e2 := add_Wv _ _ _ _ k2
  have b2 := add_bd h l (r / 4294967296) rl (by omega) (by omega) (by omega) wr
  have i := wv_inj (c := mh) (d := ml) b2.2.2.1 b2.2.2.2 lb.1 lb.2 (by rw [e2, e1, er, eq, hm]; unfold Wv; omega)
  exact ⟨k2, i.1, i.2⟩

/-- a b + a c, where b + c fits a word. -/
theorem parts1 (a b c : Int) (h0 : 0 ≤ a) (h1 : a ≤ 18446744073709551615) (h2 : 0 ≤ b) (h4 : 0 ≤ c) (h5 : b + c ≤ 18446744073709551615) :
    addOk (mulHi a b) (mulLo a b) (mulHi a c) (mulLo a c) = true ∧ addHi (mulHi a b) (mulLo a b) (mulHi a c) (mulLo a c) = mulHi a (b + c) ∧ addLo (mulHi a b) (mulLo a b) (mulHi a c) (mulLo a c) = mulLo a (b + c) := by
  have e1 := mul_Wv a b
  have e2 := mul_Wv a c
  have e3 := mul_Wv a (b + c)
  have eb := mulHi_bd a b h0 h1 h2 (by omega)
  have ec := mulHi_bd a c h0 h1 h4 (by omega)
  have ed := mulHi_bd a (b + c) h0 h1 (by omega) h5
  have fb := mulLo_bd a b
  have fc := mulLo_bd a c
  have fd := mulLo_bd a (b + c)
  have all : a * (b + c) = a * b + a * c := Int.mul_add _ _ _
  have ok : addOk (mulHi a b) (mulLo a b) (mulHi a c) (mulLo a c) = true := addOk_of (by
    rw [e1, e2, ← all, ← e3]; unfold Wv; omega)
  have e4 := add_Wv _ _ _ _ ok
  have bd := add_bd (mulHi a b) (mulLo a b) (mulHi a c) (mulLo a c) eb.1 fb.1 ec.1 fc.1
  have i := wv_inj bd.2.2.1 bd.2.2.2 fd.1 fd.2 (a := addHi (mulHi a b) (mulLo a b) (mulHi a c) (mulLo a c)) (c := mulHi a (b + c)) (by rw [e4, e1, e2, e3, all])
  exact ⟨ok, i.1, i.2⟩
theorem mulHi_comm (a b : Int) : mulHi a b = mulHi b a := by unfold mulHi; rw [Int.mul_comm]
theorem mulLo_comm (a b : Int) : mulLo a b = mulLo b a := by unfold mulLo; rw [Int.mul_comm]
theorem mul_small (a b : Int) (h0 : 0 ≤ a * b) (h1 : a * b ≤ 18446744073709551615) : mulHi a b = 0 ∧ mulLo a b = a * b := by
  unfold mulHi mulLo; generalize a * b = m at *; omega

theorem cmpW_lt {a b : Int} (h : a < b) : cmpW a b = -1 := by unfold cmpW; rw [if_pos h]
theorem cmpW_eq {a b : Int} (h : a = b) : cmpW a b = 0 := by subst h; unfold cmpW; simp
theorem cmpW_gt {a b : Int} (h : b < a) : cmpW a b = 1 := by unfold cmpW; rw [if_neg (by omega), if_pos h]
theorem cmpMul (a b c d : Int) : cmpWide (mulHi a b) (mulLo a b) (mulHi c d) (mulLo c d) = cmpW (a * b) (c * d) := by
  unfold cmpWide; rw [mul_Wv, mul_Wv]
theorem cmpMul_lt {a b c : Int} (h : a < b) (h0 : 0 < c) : cmpWide (mulHi a c) (mulLo a c) (mulHi b c) (mulLo b c) = -1 := by
  rw [cmpMul]; exact cmpW_lt (Int.mul_lt_mul_of_pos_right h h0)
theorem cmpMul_zero (a b c : Int) (h0 : c = 0) : cmpWide (mulHi a c) (mulLo a c) (mulHi b c) (mulLo b c) = 0 := by
  subst h0; rw [cmpMul]; exact cmpW_eq (by simp)
theorem cmpMul_same (a c : Int) : cmpWide (mulHi a c) (mulLo a c) (mulHi a c) (mulLo a c) = 0 := by
  rw [cmpMul]; exact cmpW_eq rfl
theorem sq_lt {a b : Int} (h : a < b) (h0 : 0 ≤ a) : a * a < b * b :=
  Int.lt_of_le_of_lt (Int.mul_le_mul_of_nonneg_left (Int.le_of_lt h) h0) (Int.mul_lt_mul_of_pos_right h (by omega))
theorem cmpSq_lt {a b : Int} (h : absI a < absI b) : cmpWide (mulHi (absI a) (absI a)) (mulLo (absI a) (absI a)) (mulHi (absI b) (absI b)) (mulLo (absI b) (absI b)) = -1 := by
  have h0 : 0 ≤ absI a := by unfold absI; split <;> omega
  rw [cmpMul]
  exact cmpW_lt (sq_lt h h0)
theorem cmpSq_gt {a b : Int} (h : absI b < absI a) : cmpWide (mulHi (absI a) (absI a)) (mulLo (absI a) (absI a)) (mulHi (absI b) (absI b)) (mulLo (absI b) (absI b)) = 1 := by
  have h0 : 0 ≤ absI b := by unfold absI; split <;> omega
  rw [cmpMul]
  exact cmpW_gt (sq_lt h h0)
theorem cmpSq_eq {a b : Int} (h : absI a = absI b) : cmpWide (mulHi (absI a) (absI a)) (mulLo (absI a) (absI a)) (mulHi (absI b) (absI b)) (mulLo (absI b) (absI b)) = 0 := by
  rw [cmpMul, h]; exact cmpW_eq rfl

theorem abs_ref_form (a : Int) (h : a < 0) : -(a + 1) + 1 = absI a := by
  unfold absI; rw [if_pos h]; omega
theorem or_form (m x : Int) (hx : 0 ≤ x) (hx' : x < 4294967296) : bits BinOp.or IntKind.u64 (IntKind.u64.wrap (m * 4294967296)) x = m % 4294967296 * 4294967296 + x := by
  have e : IntKind.u64.wrap (m * 4294967296) = m % 4294967296 * 4294967296 := by rw [wrap64u]; omega
  rw [e]
  obtain ⟨k, hk⟩ := Int.eq_ofNat_of_zero_le (show 0 ≤ m % 4294967296 from by omega)
  have hk' : k < 4294967296 := by omega
  rw [hk]
  obtain ⟨n, rfl⟩ := Int.eq_ofNat_of_zero_le hx
  have h := bits_or_u64_nat (k * 4294967296) n (by omega) (by omega)
  have g : k * 4294967296 ||| n = k * 4294967296 + n := by
    have e32 : (2 : Nat) ^ 32 = 4294967296 := by decide
    have := Nat.two_pow_add_eq_or_of_lt (i := 32) (b := n) (by rw [e32]; omega) k
    rw [e32, Nat.mul_comm] at this
    exact this.symm
  rw [g] at h
  have c1 : ((k * 4294967296 : Nat) : Int) = (k : Int) * 4294967296 := by omega
  have c2 : ((k * 4294967296 + n : Nat) : Int) = (k : Int) * 4294967296 + (n : Int) := by rw [Int.natCast_add, c1]
  rw [c1, c2] at h
  exact h
/-- What the walk of the document's Mul leaves. -/
theorem refMul_form (a b p q r s : Int) (Q : Quad a b p q r s) :
    p + q / 4294967296 + r / 4294967296 + (s / 4294967296 + q % 4294967296 + r % 4294967296) / 4294967296 = mulHi a b ∧
    bits BinOp.or IntKind.u64 (IntKind.u64.wrap ((s / 4294967296 + q % 4294967296 + r % 4294967296) * 4294967296)) (s % 4294967296) = mulLo a b := by
  obtain ⟨p0, p1, q0, q1, r0, r1, s0, s1, all⟩ := Q
  rw [or_form _ _ (by omega) (by omega)]
  unfold mulHi mulLo
  rw [all]
  omega
theorem refAdd_no (a b c d : Int) (ha : 0 ≤ a) (ha' : a ≤ 18446744073709551615) (hb : 0 ≤ b) (hb' : b ≤ 18446744073709551615) (hc : 0 ≤ c) (hc' : c ≤ 18446744073709551615) (hd : 0 ≤ d) (hd' : d ≤ 18446744073709551615)
    (h : IntKind.u64.wrap (a + c) < a ∨ (IntKind.u64.wrap (b + d) < b ∧ IntKind.u64.wrap (IntKind.u64.wrap (a + c) + 1) = 0)) : addOk a b c d = false ∧ addHi a b c d = 0 ∧ addLo a b c d = 0 := by
  have k : addOk a b c d = false := by
    unfold addOk Wv; apply decide_eq_false; simp only [wrap64u] at h; omega
  exact ⟨k, addHi_no a b c d k⟩
theorem refAdd_ok1 (a b c d : Int) (ha : 0 ≤ a) (ha' : a ≤ 18446744073709551615) (hb : 0 ≤ b) (hb' : b ≤ 18446744073709551615) (hc : 0 ≤ c) (hc' : c ≤ 18446744073709551615) (hd : 0 ≤ d) (hd' : d ≤ 18446744073709551615)
    (h : IntKind.u64.wrap (b + d) < b) (h1 : a ≤ IntKind.u64.wrap (a + c)) (h2 : IntKind.u64.wrap (IntKind.u64.wrap (a + c) + 1) ≠ 0) : addOk a b c d = true ∧ addHi a b c d = IntKind.u64.wrap (IntKind.u64.wrap (a + c) + 1) ∧ addLo a b c d = IntKind.u64.wrap (b + d) := by
  have k : addOk a b c d = true := by
    unfold addOk Wv; apply decide_eq_true; simp only [wrap64u] at *; omega
  refine ⟨k, ?_⟩
  unfold addHi addLo; rw [if_pos k, if_pos k]
  unfold Wv; simp only [wrap64u] at *; omega
theorem refAdd_ok2 (a b c d : Int) (ha : 0 ≤ a) (ha' : a ≤ 18446744073709551615) (hb : 0 ≤ b) (hb' : b ≤ 18446744073709551615) (hc : 0 ≤ c) (hc' : c ≤ 18446744073709551615) (hd : 0 ≤ d) (hd' : d ≤ 18446744073709551615)
    (h : b ≤ IntKind.u64.wrap (b + d)) (h1 : a ≤ IntKind.u64.wrap (a + c)) : addOk a b c d = true ∧ addHi a b c d = IntKind.u64.wrap (a + c) ∧ addLo a b c d = IntKind.u64.wrap (b + d) := by
  have k : addOk a b c d = true := by
    unfold addOk Wv; apply decide_eq_true; simp only [wrap64u] at *; omega
  refine ⟨k, ?_⟩
  unfold addHi addLo; rw [if_pos k, if_pos k]
  unfold Wv; simp only [wrap64u] at *; omega

theorem not_form (x : Int) (h0 : 0 ≤ x) (h1 : x ≤ 18446744073709551615) : bits BinOp.xor IntKind.u64 IntKind.u64.max x = 18446744073709551615 - x := by
  obtain ⟨n, rfl⟩ := Int.eq_ofNat_of_zero_le h0
  have e : (BitVec.ofInt 64 (n : Int)).toNat = n := by
    rw [BitVec.ofInt_natCast, BitVec.toNat_ofNat]; exact Nat.mod_eq_of_lt (by omega)
  have m : BitVec.ofInt 64 IntKind.u64.max = BitVec.allOnes 64 := by decide
  show IntKind.u64.wrap ((BitVec.ofInt 64 IntKind.u64.max ^^^ BitVec.ofInt 64 (n : Int)).toNat : Int) = _
  rw [m, BitVec.allOnes_xor, BitVec.toNat_not, e, wrap64u]
  omega
theorem addNot_ok (a b : Int) : addOk a b (18446744073709551615 - a) (18446744073709551615 - b) = true := addOk_of (by unfold Wv; omega)
theorem cmpSum (a b c d : Int) (hc : 0 ≤ c) (hd : 0 ≤ d) (h : addOk a b c d = true) : 0 ≤ cmpWide (addHi a b c d) (addLo a b c d) a b := by
  unfold cmpWide
  rw [add_Wv a b c d h]
  have : 0 ≤ Wv c d := by unfold Wv; omega
  rcases cmpW_cases (Wv a b + Wv c d) (Wv a b) with ⟨g, _⟩ | ⟨_, e⟩ | ⟨_, e⟩ <;> omega
theorem cmpNot (a b c d : Int) (h : addOk a b c d = false) : cmpWide c d (18446744073709551615 - a) (18446744073709551615 - b) = 1 := by
  unfold cmpWide
  have := of_decide_eq_false h
  exact cmpW_gt (by unfold Wv at *; omega)
end Go.Proofs.Ytoofbbmddddlcaa
