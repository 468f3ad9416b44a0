/- The document's Digits of layer 3, for every number and format. -/
import Derived.Test.YtapnekpilgbcaaaDoorRefDigits
namespace Go.Proofs.YtapnekpilgbcaaaDoor
open Go.RowKit

theorem refCoord_is {l : List UInt8} {u a d : Int} {t : Bool} {o : Option Int} (h : coordO l u a d t = o) (hl : l.length ≤ 1000) (w : World) :
    Calls Tryd.prog 13 #[.string ⟨l.toArray⟩, fmtV u a d t] w fun e w' => e = .returned (.tuple #[.int .i64 (o.getD 0), .bool o.isSome]) ∧ Below w.heap.size w w' := h ▸ refCoord_any l u a d t hl w
theorem unit_form {u : Int} (h : u = 1 ∨ u = 2) : (u = 1 ∧ grainsI u = 10) ∨ (u = 2 ∧ grainsI u = 254) := by
  rcases h with rfl | rfl
  · exact .inl ⟨rfl, rfl⟩
  · exact .inr ⟨rfl, rfl⟩
theorem six_bd {d : Nat} : (1 : Int) ≤ 10 ^ (6 - d) ∧ (10 : Int) ^ (6 - d) ≤ 1000000 := by
  have p : (1 : Int) ≤ 10 ^ (6 - d) := Int.pow_pos (by omega)
  have q : (10 : Int) ^ (6 - d) ≤ 10 ^ 6 := ten_mono (by omega)
  rw [show (10 : Int) ^ 6 = 1000000 from by decide] at q
  exact ⟨p, q⟩
theorem refDigits_any (g u a d : Int) (t : Bool) (w : World) :
    Calls Tryd.prog 14 #[.int .i64 g, fmtV u a d t] w fun e w' => e = .returned (strOk (digitsO g u a d t)) ∧ Below w.heap.size w w' := by
  cases hf : fmtB u a d with
  | false =>
    rw [digits_none (fun h => by rw [hf] at h; simp at h)]
    exact refDigits_fmt g u a d t hf w
  | true =>
    cases hn : nearB g with
    | false =>
      rw [digits_none (fun h => by rw [hn] at h; simp at h)]
      exact refDigits_far g u a d t hf hn w
    | true =>
      obtain ⟨hu, A, D, rfl, rfl, ha, hd, h0⟩ := fmt_form hf
      obtain ⟨s0, s1⟩ := step_pos hu hd
      have hG := unit_form hu
      have p2 := six_bd (d := D)
      have p3 := ten_bd (k := A + D) (by omega)
      have nb := near_yes hn
      have ht : ((A : Int) + (D : Int)).toNat = A + D := by omega
      have hD : ((D : Int)).toNat = D := by omega
      have e3 : ((10 ^ (A + D) : Nat) : Int) = (10 : Int) ^ (A + D) := by rw [Int.natCast_pow]; rfl
      have hst : grainsI u * 10 ^ (6 - D) = stepI u D := rfl
      by_cases hr : g.tmod (stepI u D) = 0
      · have hr2 := (tmod0 _ _).1 hr
        by_cases hneg : g < 0
        · obtain ⟨k, rfl⟩ : ∃ k : Nat, g = -(k : Int) := ⟨g.natAbs, by omega⟩
          have hk : (k : Int).tmod (stepI u D) = 0 := (tmod_neg0 _ _).1 hr
          have hq := tdiv_nat k (st := stepI u D) (by omega)
          have hQ : quoN (-(k : Int)) u D = k / (stepI u D).toNat := by unfold quoN; congr 1; omega
          have hmk : k / (stepI u D).toNat ≤ k := Nat.div_le_self _ _
          have hm0 : 0 < k / (stepI u D).toNat := by
            rcases Nat.eq_zero_or_pos (k / (stepI u D).toNat) with e | e
            · rw [e] at hq
              have := Int.tdiv_mul_add_tmod (k : Int) (stepI u D)
              rw [hq, hk] at this
              omega
            · exact e
          generalize hm : k / (stepI u D).toNat = m at *
          by_cases hb : m < 10 ^ (A + D)
          · rw [digits_some ⟨hf, hn, by rw [hD]; exact hr2, by rw [hD, ht, hQ]; exact hb⟩, hD, ht, hQ]
            have hl := pad_len (A + D) m
            have hbig : (m : Int) < 10 ^ (A + D) := by rw [← e3]; omega
            unfold dashL; rw [if_pos hneg]
            cases t
            · rw [show orZero (omitX (pad (A + D) m) false) = numL m 1 from lead_pad hb]
              exact refDigits_neg_false k (A + D) u (grainsI u) A D _ _ _ hf hG ha hd rfl (by omega) rfl p2.1 p2.2 hst (by omega) s1 rfl p3.1 p3.2 (by omega) m hk hq hmk hm0 hbig _ rfl (by have := omit_le (l := pad (A + D) m) (by omega) false; rw [show orZero (omitX (pad (A + D) m) false) = numL m 1 from lead_pad hb] at this; omega) hn w
            · exact refDigits_neg_true k (A + D) u (grainsI u) A D _ _ _ hf hG ha hd rfl (by omega) rfl p2.1 p2.2 hst (by omega) s1 rfl p3.1 p3.2 (by omega) m hk hq hmk hm0 hbig _ _ (bare_pad hb) rfl (by omega) (by have := bare_len (pad (A + D) m); omega) hn w
          · rw [digits_none (fun h => hb (by rw [hD, ht, hQ] at h; exact h.2.2.2))]
            exact refDigits_big_neg k (A + D) u (grainsI u) A D t _ _ _ hf hG ha hd rfl (by omega) rfl p2.1 p2.2 hst (by omega) s1 rfl p3.1 p3.2 (by omega) m hk hq hmk (by rw [← e3]; omega) hn w
        · obtain ⟨k, rfl⟩ : ∃ k : Nat, g = (k : Int) := ⟨g.natAbs, by omega⟩
          have hq := tdiv_nat k (st := stepI u D) (by omega)
          have hQ : quoN (k : Int) u D = k / (stepI u D).toNat := by unfold quoN; congr 1
          have hmk : k / (stepI u D).toNat ≤ k := Nat.div_le_self _ _
          generalize hm : k / (stepI u D).toNat = m at *
          by_cases hb : m < 10 ^ (A + D)
          · rw [digits_some ⟨hf, hn, by rw [hD]; exact hr2, by rw [hD, ht, hQ]; exact hb⟩, hD, ht, hQ]
            have hl := pad_len (A + D) m
            have hbig : (m : Int) < 10 ^ (A + D) := by rw [← e3]; omega
            unfold dashL; rw [if_neg hneg]
            cases t
            · rw [show orZero (omitX (pad (A + D) m) false) = numL m 1 from lead_pad hb]
              exact refDigits_pos_false k (A + D) u (grainsI u) A D _ _ _ hf hG ha hd rfl (by omega) rfl p2.1 p2.2 hst (by omega) s1 rfl p3.1 p3.2 m hr hq hmk hbig _ rfl (by have := omit_le (l := pad (A + D) m) (by omega) false; rw [show orZero (omitX (pad (A + D) m) false) = numL m 1 from lead_pad hb] at this; omega) hn w
            · exact refDigits_pos_true k (A + D) u (grainsI u) A D _ _ _ hf hG ha hd rfl (by omega) rfl p2.1 p2.2 hst (by omega) s1 rfl p3.1 p3.2 m hr hq hmk hbig _ _ (bare_pad hb) rfl (by omega) (by have := bare_len (pad (A + D) m); omega) hn w
          · rw [digits_none (fun h => hb (by rw [hD, ht, hQ] at h; exact h.2.2.2))]
            exact refDigits_big_pos k (A + D) u (grainsI u) A D t _ _ _ hf hG ha hd rfl (by omega) rfl p2.1 p2.2 hst (by omega) s1 rfl p3.1 p3.2 m hr hq hmk (by rw [← e3]; omega) hn w
      · rw [digits_none (fun h => hr ((tmod0 _ _).2 (by rw [hD] at h; exact h.2.2.1)))]
        by_cases hneg : g < 0
        · obtain ⟨k, rfl⟩ : ∃ k : Nat, g = -(k : Int) := ⟨g.natAbs, by omega⟩
          have hk : (k : Int).tmod (stepI u D) ≠ 0 := fun h => hr ((tmod_neg0 _ _).2 h)
          have hb := tmod_bd (k : Int) (stepI u D) (by omega)
          exact refDigits_odd_neg k (A + D) u (grainsI u) A D t _ _ _ hf hG ha hd rfl (by omega) rfl p2.1 p2.2 hst (by omega) s1 rfl p3.1 p3.2 (by omega) _ rfl (bne_iff_ne.2 hk) (bne_iff_ne.2 (by omega)) (by omega) hn w
        · obtain ⟨k, rfl⟩ : ∃ k : Nat, g = (k : Int) := ⟨g.natAbs, by omega⟩
          have hb := tmod_bd (k : Int) (stepI u D) (by omega)
          exact refDigits_odd_pos k (A + D) u (grainsI u) A D t _ _ _ hf hG ha hd rfl (by omega) rfl p2.1 p2.2 hst (by omega) s1 rfl p3.1 p3.2 _ rfl (bne_iff_ne.2 hr) (bne_iff_ne.2 (by omega)) (by omega) hn w
theorem refDigits_is {g u a d : Int} {t : Bool} {o : Option (List UInt8)} (h : digitsO g u a d t = o) (w : World) :
    Calls Tryd.prog 14 #[.int .i64 g, fmtV u a d t] w fun e w' => e = .returned (strOk o) ∧ Below w.heap.size w w' := h ▸ refDigits_any g u a d t w
end Go.Proofs.YtapnekpilgbcaaaDoor
