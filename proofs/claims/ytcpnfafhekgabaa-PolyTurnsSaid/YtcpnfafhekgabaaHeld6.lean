/- Contours that a call has made, behind stores into older blocks. No program in it. -/
import Derived.Test.YtcpnfafhekgabaaOwnRows
import Derived.Test.YtcpnfafhekgabaaHeldBox
namespace Go.Proofs.Ytcpnfafhekgabaa
open Go.RowKit

theorem RowsOwn.set {w : World} {base : Nat} {e1 e0 : TypeId} {v : Value} {T : List (List P2)} (h : RowsOwn w base e1 e0 v T) {g : Nat} (hg : g < base) (i : Nat) (u : Value) : RowsOwn (w.setCell ⟨g, i, none⟩ u) base e1 e0 v T := by
  obtain ⟨V, h1, h2, h3⟩ := h
  refine ⟨V, h1, ownsRow_setCell_below h2 hg u, fun r c hc => ?_⟩
  obtain ⟨x, h4, h5⟩ := h3 r c hc
  exact ⟨x, h4, ownsRow_setCell_below h5 hg u⟩
theorem RowsOwn.setBox {w : World} {base : Nat} {e1 e0 : TypeId} {v : Value} {T : List (List P2)} (h : RowsOwn w base e1 e0 v T) {g : Nat} (hg : g < base) (a b c d : Int) :
    RowsOwn ((((w.setCell ⟨g, 0, none⟩ (.int .i64 a)).setCell ⟨g, 1, none⟩ (.int .i64 b)).setCell ⟨g, 2, none⟩ (.int .i64 c)).setCell ⟨g, 3, none⟩ (.int .i64 d)) base e1 e0 v T := (((h.set hg _ _).set hg _ _).set hg _ _).set hg _ _
theorem bel_box {W w1 : World} (h : Below W.heap.size W w1) {b : Nat} (hb : W.heap.size ≤ b) (p q r s : Int) : Below W.heap.size W ((((w1.setCell ⟨b, 0, none⟩ (.int .i64 p)).setCell ⟨b, 1, none⟩ (.int .i64 q)).setCell ⟨b, 2, none⟩ (.int .i64 r)).setCell ⟨b, 3, none⟩ (.int .i64 s)) :=
  bel_set (bel_set (bel_set (bel_set h hb _ _) hb _ _) hb _ _) hb _ _
theorem RowsAt.on {w w1 : World} {v : Value} {L : List (List P2)} (h : RowsAt w w.heap.size v L) (k : Below w.heap.size w w1) : RowsAt w1 w1.heap.size v L := (h.later k).more k.size
end Go.Proofs.Ytcpnfafhekgabaa
