/- Slices of points, and slices of such slices, that a call has made of its own: by append, or written out. No program in it. -/
import Derived.Test.YtcpnfafhekgabaaRowsRead
import Derived.Maps.AppendAt
import Derived.OwnWalk
namespace Go.Proofs.Ytcpnfafhekgabaa
open Go.RowKit

def cellsP (c : List P2) : List Value := c.flatMap fun p => [.int .i64 p.1, .int .i64 p.2]
theorem cellsP_cons (p : P2) (c : List P2) : cellsP (p :: c) = .int .i64 p.1 :: .int .i64 p.2 :: cellsP c := rfl
theorem cellsP_snoc (c : List P2) (p : P2) : cellsP (c ++ [p]) = cellsP c ++ [.int .i64 p.1, .int .i64 p.2] := by simp [cellsP]
theorem cellsP_len (c : List P2) : (cellsP c).length = c.length * 2 := by
  induction c with
  | nil => rfl
  | cons p c ih => rw [cellsP_cons]; simp only [List.length_cons, ih]; omega
theorem cellsP_at {c : List P2} {k : Nat} {p : P2} (h : c[k]? = some p) : (cellsP c)[k * 2]? = some (.int .i64 p.1) ∧ (cellsP c)[k * 2 + 1]? = some (.int .i64 p.2) := by
  induction c generalizing k with
  | nil => simp at h
  | cons q c ih =>
    rw [cellsP_cons]
    cases k with
    | zero =>
      obtain rfl : q = p := by simpa using h
      exact ⟨rfl, rfl⟩
    | succ k =>
      have := ih (k := k) (by simpa using h)
      rw [show (k + 1) * 2 = k * 2 + 1 + 1 by omega]
      simpa using this
theorem nil_of_cells {c : List P2} (h : (cellsP c).length = 0) : c = [] := by
  rw [cellsP_len] at h
  exact List.eq_nil_of_length_eq_zero (by omega)
theorem PtsAt.of_own {w : World} {base : Nat} {e : TypeId} {v : Value} {c : List P2} (h : w.ownsRow base e 2 v c.length (cellsP c)) : PtsAt w w.heap.size v c := by
  rcases h.2 with ⟨rfl, h0⟩ | ⟨g, cap, cur, rfl, _, hg, _⟩
  · exact ⟨none, 0, by rw [h0], fun hl => by omega⟩
  · refine ⟨_, cap, rfl, fun _ => ⟨⟨g, 0, none⟩, rfl, (Array.getElem?_eq_some_iff.1 hg).1, fun k p hp => ?_⟩⟩
    obtain ⟨h1, h2⟩ := cellsP_at hp
    exact ⟨h.cells (g := g) rfl _ _ h1, h.cells (g := g) rfl _ _ h2⟩
/-- The rows of a slice of slices, each owned. -/
structure RowsV (w : World) (base : Nat) (e1 e0 : TypeId) (v : Value) (T : List (List P2)) (V : List Value) : Prop where
  len : V.length = T.length
  own : w.ownsRow base e1 1 v T.length V
  each : ∀ (r : Nat) (c : List P2), T[r]? = some c → ∃ u, V[r]? = some u ∧ w.ownsRow base e0 2 u c.length (cellsP c)
def RowsOwn (w : World) (base : Nat) (e1 e0 : TypeId) (v : Value) (T : List (List P2)) : Prop := ∃ V, RowsV w base e1 e0 v T V
theorem RowsOwn.nil (w : World) (base : Nat) (e1 e0 : TypeId) : RowsOwn w base e1 e0 (.slice none 0 0) [] := ⟨[], rfl, World.ownsRow_nil _ _ _ _, fun r c h => by simp at h⟩
theorem RowsOwn.rows {w : World} {base : Nat} {e1 e0 : TypeId} {v : Value} {T : List (List P2)} (h : RowsOwn w base e1 e0 v T) : RowsAt w w.heap.size v T := by
  obtain ⟨V, hl, ho, he⟩ := h
  rcases ho.2 with ⟨rfl, h0⟩ | ⟨g, cap, cur, rfl, _, hg, _⟩
  · exact ⟨none, 0, by rw [h0], fun hl => by omega⟩
  · refine ⟨_, cap, rfl, fun _ => ⟨⟨g, 0, none⟩, rfl, (Array.getElem?_eq_some_iff.1 hg).1, fun r c hc => ?_⟩⟩
    obtain ⟨u, h1, h2⟩ := he r c hc
    exact ⟨u, ho.cells (g := g) rfl _ _ h1, .of_own h2⟩
theorem own_below {w w' : World} {base B : Nat} {e : TypeId} {s : Nat} {v : Value} {n : Nat} {xs : List Value} (h : w.ownsRow base e s v n xs) (k : Below B w w') (hB : ∀ g, v.ownBlock = some g → g < B) : w'.ownsRow base e s v n xs := by
  refine ⟨h.1, ?_⟩
  rcases h.2 with hn | ⟨g, cap, cur, rfl, hb, hg, rest⟩
  · exact .inl hn
  · exact .inr ⟨g, cap, cur, rfl, hb, (k.block g (hB g rfl)).trans hg, rest⟩
theorem own_later {w w' : World} {base : Nat} {e : TypeId} {s : Nat} {v : Value} {n : Nat} {xs : List Value} (h : w.ownsRow base e s v n xs) (k : Below w.heap.size w w') : w'.ownsRow base e s v n xs :=
  own_below h k fun g hg => (h.lt g hg).2
/-- Rows of different elements lie in different blocks. -/
theorem own_far {w : World} {b b' : Nat} {e e' : TypeId} {s s' : Nat} {v v' : Value} {n n' : Nat} {xs xs' : List Value} (h : w.ownsRow b e s v n xs) (h' : w.ownsRow b' e' s' v' n' xs') (hne : e ≠ e') : v.ownBlock = none ∨ v.ownBlock ≠ v'.ownBlock := by
  rcases h.2 with ⟨rfl, _⟩ | ⟨g, cap, cur, rfl, _, hg, _⟩
  · exact .inl rfl
  · refine .inr fun e => ?_
    rcases h'.2 with ⟨rfl, _⟩ | ⟨g', cap', cur', rfl, _, hg', _⟩
    · simp [Value.ownBlock] at e
    · obtain rfl : g = g' := by simpa [Value.ownBlock] using e
      rw [hg] at hg'
      simp only [Option.some.injEq, Obj.cells.injEq] at hg'
      exact hne hg'.2.1
theorem RowsV.later {w w' : World} {base : Nat} {e1 e0 : TypeId} {v : Value} {T : List (List P2)} {V : List Value} (h : RowsV w base e1 e0 v T V) (k : Below w.heap.size w w') : RowsV w' base e1 e0 v T V :=
  ⟨h.len, own_later h.own k, fun r c hc => let ⟨u, h1, h2⟩ := h.each r c hc; ⟨u, h1, own_later h2 k⟩⟩
theorem RowsOwn.later {w w' : World} {base : Nat} {e1 e0 : TypeId} {v : Value} {T : List (List P2)} (h : RowsOwn w base e1 e0 v T) (k : Below w.heap.size w w') : RowsOwn w' base e1 e0 v T :=
  let ⟨V, hV⟩ := h; ⟨V, hV.later k⟩
/-- Another slice of slices has been appended to. -/
theorem RowsV.kept {w w' : World} {base b : Nat} {e1 e0 : TypeId} {v x : Value} {n : Nat} {xs : List Value} {T : List (List P2)} {V : List Value} (h : RowsV w base e1 e0 v T V) (hne : e0 ≠ e1) (hx : w.ownsRow b e1 1 x n xs) (hg : w.grownBy w' x.ownBlock) (hv : v.ownBlock = none ∨ v.ownBlock ≠ x.ownBlock) : RowsV w' base e1 e0 v T V :=
  ⟨h.len, h.own.kept hg hv, fun r c hc => let ⟨u, h1, h2⟩ := h.each r c hc; ⟨u, h1, h2.kept hg (own_far h2 hx hne)⟩⟩
theorem RowsV.push {w w' : World} {base : Nat} {e1 e0 : TypeId} {v v' u : Value} {T : List (List P2)} {V : List Value} {c : List P2} (h : RowsV w base e1 e0 v T V) (hne : e0 ≠ e1) (hu : w.ownsRow base e0 2 u c.length (cellsP c)) (hg : w.grownBy w' v.ownBlock) (ho : w'.ownsRow base e1 1 v' (T.length + 1) (V ++ [u])) : RowsV w' base e1 e0 v' (T ++ [c]) (V ++ [u]) := by
  refine ⟨by simp [h.len], by simpa using ho, fun r d hd => ?_⟩
  rcases Nat.lt_or_ge r T.length with hr | hr
  · rw [List.getElem?_append_left hr] at hd
    obtain ⟨z, h1, h2⟩ := h.each r d hd
    exact ⟨z, by rw [List.getElem?_append_left (by rw [h.len]; exact hr)]; exact h1, h2.kept hg (own_far h2 h.own hne)⟩
  · rw [List.getElem?_append_right hr] at hd
    have h0 : r - T.length = 0 := by
      rcases Nat.eq_zero_or_pos (r - T.length) with h0 | h0
      · exact h0
      · rw [List.getElem?_eq_none (by show 1 ≤ _; omega)] at hd; cases hd
    rw [h0] at hd
    obtain rfl : c = d := by simpa using hd
    exact ⟨u, by rw [List.getElem?_append_right (by rw [h.len]; exact hr), h.len, h0]; rfl, hu.kept hg (own_far hu h.own hne)⟩
/-- Points that are written out in one block. -/
theorem pts_block {w : World} {g B cap : Nat} {cs : Array Value} {t : TypeId} {c : List P2} (h : w.heap[g]? = some (.cells cs t (0, 0))) (hc : cs.toList = cellsP c) (hB : g < B) : PtsAt w B (.slice (some ⟨g, 0, none⟩) c.length cap) c := by
  refine ⟨_, cap, rfl, fun _ => ⟨⟨g, 0, none⟩, rfl, hB, fun k p hp => ?_⟩⟩
  obtain ⟨h1, h2⟩ := cellsP_at hp
  rw [← hc] at h1 h2
  rw [Addr.add_lit, Addr.add_lit]
  exact ⟨(cell_of_row w g _ cs t (0, 0) h).trans (by simpa using h1), (cell_of_row w g _ cs t (0, 0) h).trans (by simpa using h2)⟩
theorem rows_block {w : World} {g B cap : Nat} {cs : Array Value} {t : TypeId} {L : List (List P2)} (h : w.heap[g]? = some (.cells cs t (0, 0))) (hc : ∀ (r : Nat) (c : List P2), L[r]? = some c → ∃ u, cs[r]? = some u ∧ PtsAt w B u c) (hB : g < B) : RowsAt w B (.slice (some ⟨g, 0, none⟩) L.length cap) L := by
  refine ⟨_, cap, rfl, fun _ => ⟨⟨g, 0, none⟩, rfl, hB, fun r c hr => ?_⟩⟩
  obtain ⟨u, h1, h2⟩ := hc r c hr
  rw [Addr.add_lit]
  exact ⟨u, (cell_of_row w g _ cs t (0, 0) h).trans (by simpa using h1), h2⟩
theorem PtsAt.nil (w : World) (B cap : Nat) (A : Option Addr) : PtsAt w B (.slice A 0 cap) [] := ⟨A, cap, rfl, fun h => absurd h (by simp)⟩
theorem RowsAt.nil (w : World) (B cap : Nat) (A : Option Addr) : RowsAt w B (.slice A 0 cap) [] := ⟨A, cap, rfl, fun h => absurd h (by simp)⟩
/-- Small lists of contours that are written out. -/
theorem fine_of {L : List (List P2)} (h1 : L.length ≤ 100) (h2 : ∀ c ∈ L, c.length ≤ 100) (h3 : ∀ c ∈ L, ∀ p ∈ c, (-536870912 ≤ p.1 ∧ p.1 ≤ 536870912) ∧ -536870912 ≤ p.2 ∧ p.2 ≤ 536870912) : Fine L :=
  ⟨by omega, fun c hc => by have := h2 c hc; omega, h3⟩
end Go.Proofs.Ytcpnfafhekgabaa
