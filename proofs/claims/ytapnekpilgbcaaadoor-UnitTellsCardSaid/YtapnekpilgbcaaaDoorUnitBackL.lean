/- What Digits writes Coord reads back, in the functions' plain terms. -/
import Derived.Test.YtapnekpilgbcaaaDoorUnitG
import Derived.Test.YtapnekpilgbcaaaDoorUnitBackM
namespace Go.Proofs.YtapnekpilgbcaaaDoor

theorem step_form (u : Int) (d : Nat) (q : Int) : tens q (6 - d) * grainsI u = q * stepI u d := by
  unfold stepI tens
  rw [Int.mul_assoc, Int.mul_comm (10 ^ (6 - d)) (grainsI u)]
theorem fill_full {l : List UInt8} {n : Nat} (h : l.length = n) (t : Bool) : fillL l n t = l := by
  unfold fillL
  rw [h, Nat.sub_self]
  split <;> simp [zeros]
theorem coord_pad {u : Int} {a d n v : Nat} {t : Bool} (hf : fmtB u a d = true) (hn : a + d = n) (hv : v < 10 ^ n) :
    coordO (pad n v) u a d t = grainO (tens v (6 - d)) u ∧ coordO (45 :: pad n v) u a d t = grainO (-(tens v (6 - d))) u := by
  obtain ⟨hu, A, D, hA, hD, ha, hd, h0⟩ := fmt_form hf
  obtain rfl : a = A := by omega
  obtain rfl : d = D := by omega
  have hdg := pad_digs n v
  obtain ⟨p1, p2⟩ := digs_plain hdg
  have hl := pad_len n v
  have hne : pad n v ≠ [] := by intro e; rw [e] at hl; simp at hl; omega
  have ht : ((a : Int) + (d : Int)).toNat = n := by omega
  have hI : coordI (pad n v) a d t = tens v (6 - d) := by unfold coordI; rw [hn, fill_full hl, val_pad_lt hv]
  constructor
  · rw [coord_some ⟨hf, by rw [p1]; exact hne, by rw [p1, ht]; omega, by rw [p1]; exact (digs_all _).1 hdg⟩, p1, p2]
    show grainO (signed false (coordI (pad n v) a d t)) u = _
    rw [hI]; rfl
  · rw [coord_some (l := 45 :: pad n v) ⟨hf, hne, by rw [ht]; show (pad n v).length ≤ n; omega, (digs_all _).1 hdg⟩]
    show grainO (signed true (coordI (pad n v) a d t)) u = _
    rw [hI]; rfl
theorem digits_back {g u : Int} {a d : Int} {t : Bool} {T : List UInt8} (h : digitsO g u a d t = some T) :
    coordO T u a d t = some g ∧ 1 ≤ T.length ∧ T.length ≤ (a + d).toNat + 1 ∧ (0 ≤ g → T.length ≤ (a + d).toNat) := by
  by_cases hc : fmtB u a d = true ∧ nearB g = true ∧ g % stepI u d.toNat = 0 ∧ quoN g u d.toNat < 10 ^ (a + d).toNat
  · rw [digits_some hc] at h
    obtain ⟨hf, hg, hr, hq⟩ := hc
    obtain ⟨hu, A, D, rfl, rfl, ha, hd, h0⟩ := fmt_form hf
    have ht : ((A : Int) + (D : Int)).toNat = A + D := by omega
    have hD : ((D : Int)).toNat = D := by omega
    rw [ht, hD] at h hq
    rw [hD] at hr
    obtain ⟨s0, s1⟩ := step_pos hu hd
    have eq : (g.natAbs : Int) = (quoN g u D : Int) * stepI u D := by
      unfold quoN
      obtain ⟨s, hs⟩ := Int.eq_ofNat_of_zero_le (show 0 ≤ stepI u D by omega)
      rw [hs] at hr ⊢
      have h1 : s ∣ g.natAbs := by
        have := Int.natAbs_dvd_natAbs.2 (Int.dvd_of_emod_eq_zero hr)
        simpa using this
      have h2 := Nat.div_mul_cancel h1
      rw [show ((s : Int)).toNat = s from by omega]
      exact_mod_cast h2.symm
    generalize quoN g u D = q at *
    have hv := val_pad_lt hq
    have hdg := pad_digs (A + D) q
    have hl := pad_len (A + D) q
    generalize pad (A + D) q = X at *
    have hfill := fill_omit X (by omega) t
    have hRd := omit_digs hdg t
    have hRn := omit_ne X t
    have hRl := omit_le (l := X) (by omega) t
    generalize orZero (omitX X t) = R at *
    rw [hl] at hfill hRl
    have hR1 := List.length_pos_iff.2 hRn
    have hI : coordI R A D t = tens q (6 - D) := by unfold coordI; rw [hfill, hv]
    have hbd := coord_bd t hRd hRl ha hd
    rw [hI] at hbd
    have hval : tens q (6 - D) * grainsI u = (g.natAbs : Int) := by rw [step_form, eq]
    obtain rfl : dashL g ++ R = T := by injection h
    by_cases hneg : g < 0
    · have hd1 : dashL g ++ R = 45 :: R := by unfold dashL; rw [if_pos hneg]; rfl
      rw [hd1]
      refine ⟨?_, by simp, by rw [List.length_cons, ht]; omega, by omega⟩
      rw [coord_some (l := 45 :: R) ⟨hf, hRn, by rw [ht]; exact hRl, (digs_all _).1 hRd⟩]
      show grainO (signed true (coordI R A ((D : Int)).toNat t)) u = _
      rw [hD, hI]
      show grainO (-(tens q (6 - D))) u = _
      have e : -(tens q (6 - D)) * grainsI u = g := by rw [Int.neg_mul, hval]; omega
      rw [grainO_some ⟨hu, decide_eq_true (by omega), by rw [e]; exact hg⟩, e]
    · have hd1 : dashL g ++ R = R := by unfold dashL; rw [if_neg hneg]; rfl
      obtain ⟨p1, p2⟩ := digs_plain hRd
      rw [hd1]
      refine ⟨?_, hR1, by rw [ht]; omega, fun _ => by rw [ht]; exact hRl⟩
      rw [coord_some ⟨hf, by rw [p1]; exact hRn, by rw [p1, ht]; exact hRl, by rw [p1]; exact (digs_all _).1 hRd⟩, p1, p2]
      show grainO (signed false (coordI R A ((D : Int)).toNat t)) u = _
      rw [hD, hI]
      show grainO (tens q (6 - D)) u = _
      have e : tens q (6 - D) * grainsI u = g := by rw [hval]; omega
      rw [grainO_some ⟨hu, decide_eq_true (by omega), by rw [e]; exact hg⟩, e]
  · rw [digits_none hc] at h; cases h
/-- Digits are read as the grains that they were told of, and written again no longer. -/
theorem pad_back {u : Int} {a d n v : Nat} {t : Bool} {g : Int} (hf : fmtB u a d = true) (hn : a + d = n) (hv : v < 10 ^ n) (hg : coordO (pad n v) u a d t = some g) :
    ∃ T, digitsO g u a d t = some T ∧ coordO T u a d t = some g ∧ 1 ≤ T.length ∧ T.length ≤ n ∧ coordO (45 :: pad n v) u a d t = some (-g) ∧ -536870912 ≤ g ∧ g ≤ 536870912 := by
  obtain ⟨c1, c2⟩ := coord_pad (t := t) hf hn hv
  obtain ⟨hu, A, D, hA, hD, ha, hd, h0⟩ := fmt_form hf
  obtain rfl : a = A := by omega
  obtain rfl : d = D := by omega
  have ht : ((a : Int) + (d : Int)).toNat = n := by omega
  have hD : ((d : Int)).toNat = d := by omega
  obtain ⟨s0, s1⟩ := step_pos hu hd
  rw [c1] at hg
  by_cases hc : (u = 1 ∨ u = 2) ∧ okN (tens v (6 - d)) = true ∧ nearB (tens v (6 - d) * grainsI u) = true
  · rw [grainO_some hc] at hg
    have e : g = (v : Int) * stepI u d := by rw [← step_form]; injection hg with hg; exact hg.symm
    have hnear : nearB g = true := by injection hg with hg; rw [← hg]; exact hc.2.2
    have hg0 : 0 ≤ g := by rw [e]; exact Int.mul_nonneg (by omega) (by omega)
    have hq : quoN g u d = v := by
      unfold quoN
      rw [e, Int.natAbs_mul]
      have : (stepI u d).toNat = (stepI u d).natAbs := by omega
      rw [this, Int.natAbs_natCast]
      exact Nat.mul_div_cancel _ (by omega)
    have hdig : digitsO g u a d t = some (dashL g ++ orZero (omitX (pad n v) t)) := by
      rw [digits_some ⟨hf, hnear, by rw [hD, e]; exact Int.mul_emod_left _ _, by rw [hD, ht, hq]; exact hv⟩, hD, ht, hq]
    obtain ⟨b1, b2, b3, b4⟩ := digits_back hdig
    have nb := near_yes hnear
    have okv := okN_yes hc.2.1
    refine ⟨_, hdig, b1, b2, by rw [ht] at b4; exact b4 hg0, ?_, nb.1, nb.2⟩
    have e2 : -(tens v (6 - d)) * grainsI u = -g := by rw [Int.neg_mul, step_form, e]
    rw [c2, grainO_some ⟨hu, decide_eq_true (by omega), by rw [e2]; exact decide_eq_true (by omega)⟩, e2]
  · rw [grainO_none hc] at hg; cases hg
/-- Beside a whole number of steps there is none. -/
theorem digits_beside {g u a d : Int} {t : Bool} {T : List UInt8} (h : digitsO g u a d t = some T) : digitsO (g + 1) u a d false = none := by
  refine digits_none (fun k => ?_)
  by_cases hc : fmtB u a d = true ∧ nearB g = true ∧ g % stepI u d.toNat = 0 ∧ quoN g u d.toNat < 10 ^ (a + d).toNat
  · obtain ⟨hu, A, D, rfl, rfl, ha, hd, h0⟩ := fmt_form hc.1
    have h1 := hc.2.2.1
    have h2 := k.2.2.1
    rw [show ((D : Int)).toNat = D from by omega] at h1 h2
    obtain ⟨s0, s1⟩ := step_pos hu hd
    have d1 := Int.dvd_of_emod_eq_zero h1
    have d2 := Int.dvd_of_emod_eq_zero h2
    have d3 := Int.dvd_sub d2 d1
    rw [show g + 1 - g = 1 from by omega] at d3
    have := Int.le_of_dvd (by omega) d3
    omega
  · rw [digits_none hc] at h; cases h
theorem digits_both {g u a d : Int} (t : Bool) : (digitsO g u a d t).isSome = (digitsO g u a d false).isSome := by
  unfold digitsO; split <;> rfl
end Go.Proofs.YtapnekpilgbcaaaDoor
