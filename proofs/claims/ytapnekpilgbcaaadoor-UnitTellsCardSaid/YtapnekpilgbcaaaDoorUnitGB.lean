/- Contract of package unit's Digits, for every number and format. -/
import Derived.Test.YtapnekpilgbcaaaDoorUnitGA
namespace Go.Proofs.YtapnekpilgbcaaaDoor
open Go.RowKit

theorem tmod0 (g st : Int) : g.tmod st = 0 ↔ g % st = 0 := by
  rw [← Int.dvd_iff_tmod_eq_zero, ← Int.dvd_iff_emod_eq_zero]
theorem tmod_neg0 (g st : Int) : (-g).tmod st = 0 ↔ g.tmod st = 0 := by rw [Int.neg_tmod]; omega
theorem tdiv_nat (k : Nat) {st : Int} (s0 : 0 < st) : (k : Int).tdiv st = ((k / st.toNat : Nat) : Int) := by
  obtain ⟨s, rfl⟩ := Int.eq_ofNat_of_zero_le (Int.le_of_lt s0)
  rw [Int.tdiv_eq_ediv_of_nonneg (by omega), Int.natCast_ediv]
  simp
theorem unitDigits_any (g u a d : Int) (t : Bool) (w : World) :
    Calls Tryd.prog 8 #[.int .i64 g, fmtV u a d t] w fun e w' => e = .returned (strOk (digitsO g u a d t)) ∧ Below w.heap.size w w' := by
  cases hf : fmtB u a d with
  | false =>
    rw [digits_none (fun h => by rw [hf] at h; simp at h)]
    exact digits_bad g u a d t hf w
  | true =>
    cases hn : nearB g with
    | false =>
      rw [digits_none (fun h => by rw [hn] at h; simp at h)]
      exact digits_far g u a d t hf hn w
    | true =>
      obtain ⟨hu, A, D, rfl, rfl, ha, hd, h0⟩ := fmt_form hf
      obtain ⟨s0, s1⟩ := step_pos hu hd
      have ht : ((A : Int) + (D : Int)).toNat = A + D := by omega
      have hD : ((D : Int)).toNat = D := by omega
      by_cases hr : g.tmod (stepI u D) = 0
      · have hr2 := (tmod0 _ _).1 hr
        by_cases hneg : g < 0
        · obtain ⟨k, rfl⟩ : ∃ k : Nat, g = -(k : Int) := ⟨g.natAbs, by omega⟩
          have hk : (k : Int).tmod (stepI u D) = 0 := (tmod_neg0 _ _).1 hr
          have hq := tdiv_nat k (st := stepI u D) (by omega)
          refine digits_neg k (k / (stepI u D).toNat) (A + D) u A D (stepI u D) t _ _ _ _ hf hu ha hd rfl (by omega) hn rfl (by omega) s1 hk hq rfl rfl rfl ?_ w
          have hQ : quoN (-(k : Int)) u D = k / (stepI u D).toNat := by unfold quoN; congr 1; omega
          by_cases hb : k / (stepI u D).toNat < 10 ^ (A + D)
          · rw [decide_eq_true hb, if_pos rfl, digits_some ⟨hf, hn, by rw [hD]; exact hr2, by rw [hD, ht, hQ]; exact hb⟩, hD, ht, hQ]
            unfold dashL; rw [if_pos hneg]; rfl
          · rw [decide_eq_false hb, if_neg (by simp), digits_none (fun h => hb (by rw [hD, ht, hQ] at h; exact h.2.2.2))]
        · obtain ⟨k, rfl⟩ : ∃ k : Nat, g = (k : Int) := ⟨g.natAbs, by omega⟩
          have hq := tdiv_nat k (st := stepI u D) (by omega)
          refine digits_pos k (k / (stepI u D).toNat) (A + D) u A D (stepI u D) t _ _ _ _ hf hu ha hd rfl hn rfl (by omega) s1 hr hq rfl rfl rfl ?_ w
          have hQ : quoN (k : Int) u D = k / (stepI u D).toNat := by unfold quoN; congr 1
          by_cases hb : k / (stepI u D).toNat < 10 ^ (A + D)
          · rw [decide_eq_true hb, if_pos rfl, digits_some ⟨hf, hn, by rw [hD]; exact hr2, by rw [hD, ht, hQ]; exact hb⟩, hD, ht, hQ]
            unfold dashL; rw [if_neg hneg]; rfl
          · rw [decide_eq_false hb, if_neg (by simp), digits_none (fun h => hb (by rw [hD, ht, hQ] at h; exact h.2.2.2))]
      · rw [digits_none (fun h => hr ((tmod0 _ _).2 (by rw [hD] at h; exact h.2.2.1)))]
        exact digits_odd g u A D (stepI u D) t hf hu hd hn rfl (by omega) s1 (bne_iff_ne.2 hr) w
end Go.Proofs.YtapnekpilgbcaaaDoor
