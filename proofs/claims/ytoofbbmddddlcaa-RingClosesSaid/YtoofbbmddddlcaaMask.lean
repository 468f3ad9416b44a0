/- A bitwise and with 1, 3, 7, .. and a remainder, as bounded numbers. No program in it. -/
import Derived.Test.YtoofbbmddddlcaaBase
namespace Go.Proofs.Ytoofbbmddddlcaa
open Go.RowKit

theorem mask_emod (a : Int) (k : Nat) (hk : k < 63) : bits .and .i64 a ((2 ^ k - 1 : Nat) : Int) = a % 2 ^ k := by
  have pk : 2 ^ k ≤ 2 ^ 62 := Nat.pow_le_pow_right (by omega) (by omega)
  have p62 : (2 : Nat) ^ 62 = 4611686018427387904 := by decide
  have p0 : 0 < 2 ^ k := Nat.pow_pos (by omega)
  show IntKind.i64.wrap ((BitVec.ofInt 64 a &&& BitVec.ofInt 64 ((2 ^ k - 1 : Nat) : Int)).toNat : Int) = _
  rw [BitVec.toNat_and]
  have e : (BitVec.ofInt 64 ((2 ^ k - 1 : Nat) : Int)).toNat = 2 ^ k - 1 := by
    rw [BitVec.ofInt_natCast, BitVec.toNat_ofNat]; exact Nat.mod_eq_of_lt (by omega)
  rw [e, Nat.and_two_pow_sub_one_eq_mod, BitVec.toNat_ofInt]
  have h0 : 0 ≤ a % ((2 ^ 64 : Nat) : Int) := Int.emod_nonneg _ (by decide)
  have hlt : (a % ((2 ^ 64 : Nat) : Int)).toNat % 2 ^ k < 2 ^ k := Nat.mod_lt _ p0
  have q : (((a % ((2 ^ 64 : Nat) : Int)).toNat % 2 ^ k : Nat) : Int) = a % 2 ^ k := by
    have : ((2 ^ 64 : Nat) : Int) = ((2 : Nat) : Int) ^ k * 2 ^ (64 - k) := by
      rw [Int.natCast_pow, show ((2 : Nat) : Int) = 2 from rfl, ← Int.pow_add]; congr 1; omega
    rw [Int.natCast_emod, Int.toNat_of_nonneg h0, this, Int.natCast_pow, Int.emod_emod_of_dvd a (Int.dvd_mul_right _ _)]; rfl
  rw [q, IntKind.wrap_i64]
  have r0 : 0 ≤ a % 2 ^ k := by rw [← q]; omega
  have r1 : a % 2 ^ k < 4611686018427387904 := by rw [← q]; omega
  generalize a % 2 ^ k = z at *
  omega
/-- 'a & 7' and 'a & 3' are small numbers. -/
theorem mask_7 (a : Int) : ∃ u : Int, 0 ≤ u ∧ u ≤ 7 ∧ bits .and .i64 a 7 = u := by
  refine ⟨a % 8, by omega, by omega, mask_emod a 3 (by omega)⟩
theorem mask_3 (a : Int) : ∃ u : Int, 0 ≤ u ∧ u ≤ 3 ∧ bits .and .i64 a 3 = u := by
  refine ⟨a % 4, by omega, by omega, mask_emod a 2 (by omega)⟩
theorem tmod_in (a m : Int) (hm : 0 < m) : -m < a.tmod m ∧ a.tmod m < m := by
  have := Int.tmod_lt_of_pos a hm
  have h2 := Int.tmod_lt_of_pos (-a) hm
  rw [Int.neg_tmod] at h2
  omega
/-- A remainder as a letter. -/
theorem tmod_at (a m : Int) (hm : 0 < m) : ∃ r : Int, -m < r ∧ r < m ∧ a.tmod m = r := ⟨_, (tmod_in a m hm).1, (tmod_in a m hm).2, rfl⟩
end Go.Proofs.Ytoofbbmddddlcaa
