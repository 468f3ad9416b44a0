/- Slices that a call appends to, side by side, each in a block of its own. No program in it. -/
import Derived.Test.YtcpnfafhekgabaaTame6
import Derived.Test.YtcpnfafhekgabaaContourMove
namespace Go.Proofs.Ytcpnfafhekgabaa
open Go.RowKit

/-- Two values that own no block in common. -/
def Apart (v u : Value) : Prop := v.ownBlock = none ∨ v.ownBlock ≠ u.ownBlock
theorem Apart.symm {v u : Value} (h : Apart v u) : Apart u v := by
  unfold Apart at *
  rcases h with h | h
  · cases k : u.ownBlock with
    | none => exact .inl rfl
    | some g => exact .inr (by rw [h]; simp)
  · exact .inr fun e => h e.symm
abbrev Own := Value × Nat × List Value
def Grp (w : World) (base : Nat) (e : TypeId) (size : Nat) (l : List Own) : Prop := (∀ x ∈ l, w.ownsRow base e size x.1 x.2.1 x.2.2) ∧ l.Pairwise fun x y => Apart x.1 y.1
theorem Grp.nil4 (w : World) (base : Nat) (e : TypeId) (size : Nat) : Grp w base e size [(.slice none 0 0, 0, []), (.slice none 0 0, 0, []), (.slice none 0 0, 0, []), (.slice none 0 0, 0, [])] := by
  refine ⟨fun x hx => ?_, by simp [Apart, Value.ownBlock]⟩
  simp only [List.mem_cons, List.not_mem_nil, or_false, or_self] at hx
  subst hx
  exact World.ownsRow_nil _ _ _ _
theorem Grp.later {w w' : World} {base : Nat} {e : TypeId} {size : Nat} {l : List Own} (h : Grp w base e size l) (k : Below w.heap.size w w') : Grp w' base e size l := ⟨fun x hx => own_later (h.1 x hx) k, h.2⟩
theorem Grp.head {w : World} {base : Nat} {e : TypeId} {size : Nat} {x : Own} {l : List Own} (h : Grp w base e size (x :: l)) : w.ownsRow base e size x.1 x.2.1 x.2.2 := h.1 x (by simp)
theorem Grp.step {w w' : World} {base : Nat} {e : TypeId} {size m n : Nat} {v v' : Value} {xs ys : List Value} {l : List Own} (h : Grp w base e size ((v, n, xs) :: l)) (ho : w'.ownsRow base e size v' m ys) (hg : w.grownBy w' v.ownBlock) (hat : v'.ownBlock = v.ownBlock ∨ v'.ownBlock = some w.heap.size) : Grp w' base e size (l ++ [(v', m, ys)]) := by
  obtain ⟨h1, h2⟩ := h
  rw [List.pairwise_cons] at h2
  have ha : ∀ y ∈ l, Apart v y.1 := fun y hy => h2.1 y hy
  refine ⟨fun x hx => ?_, ?_⟩
  · rcases List.mem_append.1 hx with hx | hx
    · exact (h1 x (by simp [hx])).kept hg (ha x hx).symm
    · obtain rfl : x = (v', m, ys) := by simpa using hx
      exact ho
  · refine List.pairwise_append.2 ⟨h2.2, by simp, fun x hx y hy => ?_⟩
    obtain rfl : y = (v', m, ys) := by simpa using hy
    show Apart x.1 v'
    have hx1 := h1 x (by simp [hx])
    cases k : x.1.ownBlock with
    | none => exact .inl k
    | some g =>
      refine .inr fun e => ?_
      rcases hat with hat | hat
      · rcases (ha x hx).symm with z | z
        · rw [z] at k; cases k
        · exact z (e.trans hat)
      · have := (hx1.lt g k).2
        rw [k, hat] at e
        simp only [Option.some.injEq] at e
        omega
theorem own_base_all {w : World} {b b' : Nat} {e : TypeId} {s : Nat} {l : List Own} (h : Grp w b e s l) (k : b' ≤ b) : Grp w b' e s l := ⟨fun x hx => own_base (h.1 x hx) k, h.2⟩
/-- What the elements of a slice of slices are. -/
structure Each (w : World) (base : Nat) (e0 : TypeId) (T : List (List P2)) (V : List Value) : Prop where
  len : V.length = T.length
  each : ∀ (r : Nat) (c : List P2), T[r]? = some c → ∃ u, V[r]? = some u ∧ w.ownsRow base e0 2 u c.length (cellsP c)
theorem Each.nil (w : World) (base : Nat) (e0 : TypeId) : Each w base e0 [] [] := ⟨rfl, fun r c h => by simp at h⟩
theorem Each.later {w w' : World} {base : Nat} {e0 : TypeId} {T : List (List P2)} {V : List Value} (h : Each w base e0 T V) (k : Below w.heap.size w w') : Each w' base e0 T V := ⟨h.len, fun r c hc => let ⟨u, h1, h2⟩ := h.each r c hc; ⟨u, h1, own_later h2 k⟩⟩
theorem Each.kept {w w' : World} {base b : Nat} {e1 e0 : TypeId} {x : Value} {n : Nat} {xs : List Value} {T : List (List P2)} {V : List Value} (h : Each w base e0 T V) (hne : e0 ≠ e1) (hx : w.ownsRow b e1 1 x n xs) (hg : w.grownBy w' x.ownBlock) : Each w' base e0 T V :=
  ⟨h.len, fun r c hc => let ⟨u, h1, h2⟩ := h.each r c hc; ⟨u, h1, h2.kept hg (own_far h2 hx hne)⟩⟩
theorem Each.push {w : World} {base : Nat} {e0 : TypeId} {T : List (List P2)} {V : List Value} {c : List P2} {u : Value} (h : Each w base e0 T V) (hu : w.ownsRow base e0 2 u c.length (cellsP c)) : Each w base e0 (T ++ [c]) (V ++ [u]) := by
  refine ⟨by simp [h.len], fun r d hd => ?_⟩
  rcases Nat.lt_or_ge r T.length with hr | hr
  · rw [List.getElem?_append_left hr] at hd
    obtain ⟨z, h1, h2⟩ := h.each r d hd
    exact ⟨z, by rw [List.getElem?_append_left (by rw [h.len]; exact hr)]; exact h1, h2⟩
  · rw [List.getElem?_append_right hr] at hd
    have h0 : r - T.length = 0 := by
      rcases Nat.eq_zero_or_pos (r - T.length) with h0 | h0
      · exact h0
      · rw [List.getElem?_eq_none (by show 1 ≤ _; omega)] at hd; cases hd
    rw [h0] at hd
    obtain rfl : c = d := by simpa using hd
    exact ⟨u, by rw [List.getElem?_append_right (by rw [h.len]; exact hr), h.len, h0]; rfl, hu⟩
theorem Each.rows {w : World} {base : Nat} {e1 e0 : TypeId} {T : List (List P2)} {V : List Value} {v : Value} {n : Nat} (h : Each w base e0 T V) (ho : w.ownsRow base e1 1 v n V) : RowsAt w w.heap.size v T := by
  have hn : n = T.length := by have := ho.1; rw [h.len] at this; omega
  subst hn
  exact RowsOwn.rows (base := base) (e1 := e1) (e0 := e0) ⟨V, h.len, ho, h.each⟩
theorem mask_255 (a : Int) : ∃ j : Nat, j ≤ 255 ∧ bits .and .i64 a 255 = (j : Int) := by
  have h : bits .and .i64 a 255 = a % 256 := mask_emod a 8 (by omega)
  have h0 := Int.emod_nonneg a (show (256 : Int) ≠ 0 by omega)
  have h1 := Int.emod_lt_of_pos a (show (0 : Int) < 256 by omega)
  exact ⟨(a % 256).toNat, by omega, by rw [h]; omega⟩
/-- What is gathered of each contour, from the last to the first. -/
def back (f : List P2 → List P2) (L : List (List P2)) (m : Nat) : List (List P2) := ((L.drop m).map f).reverse
theorem back_end (f : List P2 → List P2) (L : List (List P2)) : back f L L.length = [] := by simp [back]
theorem back_step (f : List P2 → List P2) (L : List (List P2)) {m : Nat} (h : m < L.length) : back f L m = back f L (m + 1) ++ [f L[m]] := by
  unfold back
  rw [List.drop_eq_getElem_cons h, List.map_cons, List.reverse_cons]
theorem back_len (f : List P2 → List P2) (L : List (List P2)) (m : Nat) : (back f L m).length = L.length - m := by simp [back]
theorem rot_get (j : Nat) (c : List P2) {k : Nat} (h : k < c.length) : (rot j c)[k]'(by rw [rot_length]; exact h) = ptN c ((k + j) % c.length) := by
  rw [← ptN_at (by rw [rot_length]; exact h)]
  exact rot_at j c k h
theorem cells_rot (f : P2 → P2) (j : Nat) (c : List P2) {k : Nat} (h : k < c.length) : cellsP (((rot j c).take (k + 1)).map f) = cellsP (((rot j c).take k).map f) ++ [.int .i64 (f (ptN c ((k + j) % c.length))).1, .int .i64 (f (ptN c ((k + j) % c.length))).2] := by
  rw [take_next f (by rw [rot_length]; exact h), cellsP_snoc, rot_get j c h]
theorem cells_back (c : List P2) {k : Nat} (h : k < c.length) : cellsP (c.reverse.take (k + 1)) = cellsP (c.reverse.take k) ++ [.int .i64 (ptN c (c.length - 1 - k)).1, .int .i64 (ptN c (c.length - 1 - k)).2] := by
  have := take_next (c := c.reverse) id (by rw [List.length_reverse]; exact h)
  simp only [List.map_id] at this
  rw [this, cellsP_snoc, List.getElem_reverse, ptN_at (by omega)]
  rfl
end Go.Proofs.Ytcpnfafhekgabaa
