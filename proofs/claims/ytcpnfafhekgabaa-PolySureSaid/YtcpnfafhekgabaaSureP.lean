/- Plain mathematics of contours: In and Out are sure. No program in it. -/
import Derived.Test.YtcpnfafhekgabaaCyc
namespace Go.Proofs.Ytcpnfafhekgabaa
open Go.RowKit

theorem sure_way (L : List (List P2)) {a b c d u t k : Int} {h : Bool} (ac : a ≤ c) (bd : b ≤ d) (hut : a ≤ u ∧ u ≤ c ∧ b ≤ t ∧ t ≤ d) (hk : clsE (edgesL L) a b c d = k) (hh : hasE (edgesL L) (u, t) = h) : k = 1 ∨ (k = 2 ∧ h = true) ∨ (k = 0 ∧ h = false) := by
  unfold clsE at hk
  cases hE : (edgesL L).any (meetE a b c d) with
  | true => rw [hE, if_pos rfl] at hk; exact .inl hk.symm
  | false =>
    have := has_const (closed_edgesL L) ac bd hE (Int.le_refl a) ac (Int.le_refl b) bd hut.1 hut.2.1 hut.2.2.1 hut.2.2.2
    rw [hE, if_neg (by decide), this, hh] at hk
    cases h
    · exact .inr (.inr ⟨by simpa using hk.symm, rfl⟩)
    · exact .inr (.inl ⟨by simpa using hk.symm, rfl⟩)
end Go.Proofs.Ytcpnfafhekgabaa
