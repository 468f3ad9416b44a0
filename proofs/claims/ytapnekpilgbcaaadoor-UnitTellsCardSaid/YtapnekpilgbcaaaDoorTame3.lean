/- Contract of the laws' Tame of layer 3: a valid format of any. -/
import Derived.Test.YtapnekpilgbcaaaDoorUnitC
namespace Go.Proofs.YtapnekpilgbcaaaDoor
open Go.RowKit

set_option maxHeartbeats 1000000 in
theorem tame_core (u a d : Int) (t : Bool) (U A D E : Nat) (eu : bits .and .i64 u 1 = (U : Int)) (ea : bits .and .i64 a 255 = (A : Int)) (ed : bits .and .i64 d 255 = (D : Int)) (hU : U ≤ 1) (hA : A ≤ 255) (hD : D ≤ 255) (hE : (A % 7 + D % 7 = 0 ∧ E = 6) ∨ (A % 7 + D % 7 ≠ 0 ∧ E = D % 7)) (w : World) :
    Calls Tryd.prog 7 #[fmtV u a d t] w fun e w' => e = .returned (fmtV (U + 1) ((A % 7 : Nat) : Int) E t) ∧ Below w.heap.size w w' := by
  rcases hE with ⟨hz, rfl⟩ | ⟨hz, rfl⟩
  · have hzb : ((A : Int) % 7 + (D : Int) % 7 == 0) = true := by simp; omega
    clear hz
    go_enter Tryd.func7, Tryd.ntmps7
    go_wp2
    exact bodyPost_ret (v := fmtV (U + 1) ((A % 7 : Nat) : Int) ((6 : Nat) : Int) t) (by simp [results, Tryd.results7, go_sem]) rfl ⟨rfl, bel_alloc (bel_alloc (bel_refl w) _) _⟩
  · have hzb : ((A : Int) % 7 + (D : Int) % 7 == 0) = false := by simp; omega
    clear hz
    go_enter Tryd.func7, Tryd.ntmps7
    go_wp2
    exact bodyPost_ret (v := fmtV (U + 1) ((A % 7 : Nat) : Int) ((D % 7 : Nat) : Int) t) (by simp [results, Tryd.results7, go_sem]) rfl ⟨rfl, bel_alloc (bel_alloc (bel_refl w) _) _⟩
theorem and_nat (a : Int) (k : Nat) (hk : k < 63) : ∃ n : Nat, n ≤ 2 ^ k - 1 ∧ bits .and .i64 a ((2 ^ k - 1 : Nat) : Int) = (n : Int) := by
  have p : (0 : Int) < 2 ^ k := Int.pow_pos (by omega)
  have h0 := Int.emod_nonneg a (b := 2 ^ k) (by omega)
  have h1 := Int.emod_lt_of_pos a p
  obtain ⟨n, hn⟩ := Int.eq_ofNat_of_zero_le h0
  refine ⟨n, ?_, by rw [and_mask a k hk, hn]⟩
  have e : ((2 ^ k : Nat) : Int) = 2 ^ k := by rw [Int.natCast_pow]; rfl
  rw [hn] at h1
  omega
theorem tame_form (u a d : Int) (t : Bool) : ∃ (v : Int) (A D : Nat), fmtB v A D = true ∧ (v = 1 ∨ v = 2) ∧ A ≤ 6 ∧ D ≤ 6 ∧ 0 < A + D ∧ ∀ w, Calls Tryd.prog 7 #[fmtV u a d t] w fun e w' => e = .returned (fmtV v A D t) ∧ Below w.heap.size w w' := by
  obtain ⟨U, hU, eu⟩ := and_nat u 1 (by omega)
  obtain ⟨A, hA, ea⟩ := and_nat a 8 (by omega)
  obtain ⟨D, hD, ed⟩ := and_nat d 8 (by omega)
  have hU' : U ≤ 1 := hU
  have hE : ∃ E, (A % 7 + D % 7 = 0 ∧ E = 6) ∨ (A % 7 + D % 7 ≠ 0 ∧ E = D % 7) := by
    by_cases h : A % 7 + D % 7 = 0
    · exact ⟨6, .inl ⟨h, rfl⟩⟩
    · exact ⟨_, .inr ⟨h, rfl⟩⟩
  obtain ⟨E, hE⟩ := hE
  refine ⟨(U : Int) + 1, A % 7, E, decide_eq_true ?_, by omega, by omega, by omega, by omega, fun w => tame_core u a d t U A D E eu ea ed hU hA hD hE w⟩
  omega
end Go.Proofs.YtapnekpilgbcaaaDoor
