/- A slice of slices of points, read: its cells where a program looks for them. No program in it. -/
import Derived.Test.YtcpnfafhekgabaaRowsOpen
import Derived.Test.YtcpnfafhekgabaaCyc
namespace Go.Proofs.Ytcpnfafhekgabaa
open Go.RowKit

theorem spot_none {w : World} {a : Addr} {k : Nat} {u : Value} (h : w.cell? (a.add k) = some u) (hk : k = 0) : a = ⟨a.block, a.off, none⟩ := by
  subst hk
  rw [Addr.add_zero'] at h
  obtain ⟨b, o, s⟩ := a
  cases s with
  | none => rfl
  | some s => unfold World.cell? at h; simp only [] at h; split at h <;> simp at h
theorem PtsAt.open_ {w : World} {B : Nat} {v : Value} {c : List P2} (h : PtsAt w B v c) : (c = [] ∧ ∃ A cap, v = .slice A 0 cap) ∨
    ∃ b o cap, v = .slice (some ⟨b, o, none⟩) c.length cap ∧ b < B ∧ 0 < c.length ∧ ∀ k, k < c.length → w.cell? ⟨b, o + k * 2, none⟩ = some (.int .i64 (ptN c k).1) ∧ w.cell? ⟨b, o + k * 2 + 1, none⟩ = some (.int .i64 (ptN c k).2) := by
  obtain ⟨A, cap, e, f⟩ := h
  rcases Nat.eq_zero_or_pos c.length with hl | hl
  · exact .inl ⟨List.eq_nil_of_length_eq_zero hl, A, cap, by rw [e, hl]⟩
  · obtain ⟨a, rfl, hb, hc⟩ := f hl
    have h0 := (hc 0 _ (List.getElem?_eq_getElem hl)).1
    have ha := spot_none h0 rfl
    rw [ha] at e hc
    refine .inr ⟨a.block, a.off, cap, e, hb, hl, fun k hk => ?_⟩
    have := hc k _ (List.getElem?_eq_getElem hk)
    rw [Addr.add_lit, Addr.add_lit] at this
    rw [ptN_at hk]
    exact this
theorem RowsAt.open_ {w : World} {B : Nat} {v : Value} {L : List (List P2)} (h : RowsAt w B v L) : (L = [] ∧ ∃ A cap, v = .slice A 0 cap) ∨
    ∃ b o cap, v = .slice (some ⟨b, o, none⟩) L.length cap ∧ b < B ∧ 0 < L.length ∧ ∀ k (hk : k < L.length), ∃ u, w.cell? ⟨b, o + k, none⟩ = some u ∧ PtsAt w B u L[k] := by
  obtain ⟨A, cap, e, f⟩ := h
  rcases Nat.eq_zero_or_pos L.length with hl | hl
  · exact .inl ⟨List.eq_nil_of_length_eq_zero hl, A, cap, by rw [e, hl]⟩
  · obtain ⟨a, rfl, hb, hc⟩ := f hl
    obtain ⟨u0, h0, _⟩ := hc 0 _ (List.getElem?_eq_getElem hl)
    have ha := spot_none h0 rfl
    rw [ha] at e hc
    refine .inr ⟨a.block, a.off, cap, e, hb, hl, fun k hk => ?_⟩
    obtain ⟨u, h1, h2⟩ := hc k _ (List.getElem?_eq_getElem hk)
    rw [Addr.add_lit] at h1
    exact ⟨u, h1, h2⟩
/-- A list of contours that a program can take: not beyond Far, no longer than whole numbers tell. -/
structure Fine (L : List (List P2)) : Prop where
  len : L.length ≤ 4611686018427387904
  row : ∀ c ∈ L, c.length ≤ 4611686018427387904
  far : ∀ c ∈ L, ∀ p ∈ c, (-536870912 ≤ p.1 ∧ p.1 ≤ 536870912) ∧ -536870912 ≤ p.2 ∧ p.2 ≤ 536870912
theorem Fine.at_ {L : List (List P2)} (h : Fine L) {k i : Nat} (hk : k < L.length) (hi : i < L[k].length) : (-536870912 ≤ (ptN L[k] i).1 ∧ (ptN L[k] i).1 ≤ 536870912) ∧ -536870912 ≤ (ptN L[k] i).2 ∧ (ptN L[k] i).2 ≤ 536870912 := by
  rw [ptN_at hi]; exact h.far _ (List.getElem_mem hk) _ (List.getElem_mem hi)
end Go.Proofs.Ytcpnfafhekgabaa
