/- Boxes and points that lie in blocks of the caller's own: behind stores into the same block or another. -/
import Derived.Test.YtoofbbmddddlcaaBoxD
namespace Go.Proofs.Ytoofbbmddddlcaa
open Go.RowKit

theorem set_off {w : World} {b i j : Nat} {v x : Value} (h : w.cell? ⟨b, j, none⟩ = some x) (hij : i ≠ j) : (w.setCell ⟨b, i, none⟩ v).cell? ⟨b, j, none⟩ = some x := by
  rw [World.cell?_setCell_other]
  · exact h
  · intro e
    simp only [Addr.mk.injEq] at e
    omega
theorem set_far {w : World} {b c i j : Nat} {v x : Value} (h : w.cell? ⟨b, j, none⟩ = some x) (hij : c ≠ b) : (w.setCell ⟨c, i, none⟩ v).cell? ⟨b, j, none⟩ = some x := by
  rw [World.cell?_setCell_other]
  · exact h
  · intro e
    simp only [Addr.mk.injEq] at e
    omega
theorem set_on {w : World} {b i : Nat} {v x : Value} (h : w.cell? ⟨b, i, none⟩ = some x) : (w.setCell ⟨b, i, none⟩ v).cell? ⟨b, i, none⟩ = some v := World.cell?_setCell_same _ _ _ h
/-- A box that is stored over another one in a block of the caller's own. -/
theorem BoxAt.stored {w : World} {b : Nat} {x0 y0 x1 y1 : Int} (h : BoxAt w b x0 y0 x1 y1) (v0 v1 v2 v3 : Int) :
    BoxAt ((((w.setCell ⟨b, 0, none⟩ (.int .i64 v0)).setCell ⟨b, 1, none⟩ (.int .i64 v1)).setCell ⟨b, 2, none⟩ (.int .i64 v2)).setCell ⟨b, 3, none⟩ (.int .i64 v3)) b v0 v1 v2 v3 := by
  obtain ⟨c0, c1, c2, c3, lt⟩ := h
  refine ⟨?_, ?_, ?_, ?_, ?_⟩
  · exact set_off (set_off (set_off (set_on c0) (by omega)) (by omega)) (by omega)
  · exact set_off (set_off (set_on (set_off c1 (by omega))) (by omega)) (by omega)
  · exact set_off (set_on (set_off (set_off c2 (by omega)) (by omega))) (by omega)
  · exact set_on (set_off (set_off (set_off c3 (by omega)) (by omega)) (by omega))
  · simpa using lt
theorem PtAt.stored {w : World} {b : Nat} {x y : Int} (h : PtAt w b x y) (v0 v1 : Int) :
    PtAt ((w.setCell ⟨b, 0, none⟩ (.int .i64 v0)).setCell ⟨b, 1, none⟩ (.int .i64 v1)) b v0 v1 := by
  obtain ⟨c0, c1, lt⟩ := h
  refine ⟨?_, ?_, ?_⟩
  · exact set_off (set_on c0) (by omega)
  · exact set_on (set_off c1 (by omega))
  · simpa using lt
theorem BoxAt.far {w : World} {b : Nat} {x0 y0 x1 y1 : Int} (h : BoxAt w b x0 y0 x1 y1) {c : Nat} (hc : c ≠ b) (i : Nat) (v : Value) : BoxAt (w.setCell ⟨c, i, none⟩ v) b x0 y0 x1 y1 :=
  ⟨set_far h.c0 hc, set_far h.c1 hc, set_far h.c2 hc, set_far h.c3 hc, by simpa using h.lt⟩
theorem PtAt.far {w : World} {b : Nat} {x y : Int} (h : PtAt w b x y) {c : Nat} (hc : c ≠ b) (i : Nat) (v : Value) : PtAt (w.setCell ⟨c, i, none⟩ v) b x y :=
  ⟨set_far h.c0 hc, set_far h.c1 hc, by simpa using h.lt⟩
theorem BoxAt.drew {w : World} {b : Nat} {x0 y0 x1 y1 : Int} (h : BoxAt w b x0 y0 x1 y1) : BoxAt w.drew b x0 y0 x1 y1 := ⟨h.c0, h.c1, h.c2, h.c3, h.lt⟩
theorem PtAt.drew {w : World} {b : Nat} {x y : Int} (h : PtAt w b x y) : PtAt w.drew b x y := ⟨h.c0, h.c1, h.lt⟩
/-- A box, and a point, in a block of the caller's own that may be written. -/
structure BoxIn (w : World) (b : Nat) (x0 y0 x1 y1 : Int) : Prop where
  at_ : BoxAt w b x0 y0 x1 y1
  free : ∀ i, w.frozen? ⟨b, i, none⟩ = false
structure PtIn (w : World) (b : Nat) (x y : Int) : Prop where
  at_ : PtAt w b x y
  free : ∀ i, w.frozen? ⟨b, i, none⟩ = false
theorem BoxIn.later {w w1 : World} {b : Nat} {x0 y0 x1 y1 : Int} (h : BoxIn w b x0 y0 x1 y1) (k : Below w.heap.size w w1) : BoxIn w1 b x0 y0 x1 y1 :=
  ⟨h.at_.later k, fun i => by rw [k.frozen (p := ⟨b, i, none⟩) h.at_.lt]; exact h.free i⟩
theorem PtIn.later {w w1 : World} {b : Nat} {x y : Int} (h : PtIn w b x y) (k : Below w.heap.size w w1) : PtIn w1 b x y :=
  ⟨h.at_.later k, fun i => by rw [k.frozen (p := ⟨b, i, none⟩) h.at_.lt]; exact h.free i⟩
theorem boxIn_new (w : World) (a b c d : Int) (n : TypeId) : BoxIn (w.alloc (.cells #[.int .i64 a, .int .i64 b, .int .i64 c, .int .i64 d] n)) w.heap.size a b c d := ⟨boxAt_new w a b c d n, fun i => by simp⟩
theorem ptIn_new (w : World) (a b : Int) (n : TypeId) : PtIn (w.alloc (.cells #[.int .i64 a, .int .i64 b] n)) w.heap.size a b := ⟨ptAt_new w a b n, fun i => by simp⟩
theorem BoxIn.stored {w : World} {b : Nat} {x0 y0 x1 y1 : Int} (h : BoxIn w b x0 y0 x1 y1) (v0 v1 v2 v3 : Int) :
    BoxIn ((((w.setCell ⟨b, 0, none⟩ (.int .i64 v0)).setCell ⟨b, 1, none⟩ (.int .i64 v1)).setCell ⟨b, 2, none⟩ (.int .i64 v2)).setCell ⟨b, 3, none⟩ (.int .i64 v3)) b v0 v1 v2 v3 :=
  ⟨h.at_.stored v0 v1 v2 v3, fun i => by simpa using h.free i⟩
theorem PtIn.stored {w : World} {b : Nat} {x y : Int} (h : PtIn w b x y) (v0 v1 : Int) :
    PtIn ((w.setCell ⟨b, 0, none⟩ (.int .i64 v0)).setCell ⟨b, 1, none⟩ (.int .i64 v1)) b v0 v1 :=
  ⟨h.at_.stored v0 v1, fun i => by simpa using h.free i⟩
theorem BoxIn.far {w : World} {b : Nat} {x0 y0 x1 y1 : Int} (h : BoxIn w b x0 y0 x1 y1) {c : Nat} (hc : c ≠ b) (i : Nat) (v : Value) : BoxIn (w.setCell ⟨c, i, none⟩ v) b x0 y0 x1 y1 :=
  ⟨h.at_.far hc i v, fun j => by simpa using h.free j⟩
theorem PtIn.far {w : World} {b : Nat} {x y : Int} (h : PtIn w b x y) {c : Nat} (hc : c ≠ b) (i : Nat) (v : Value) : PtIn (w.setCell ⟨c, i, none⟩ v) b x y :=
  ⟨h.at_.far hc i v, fun j => by simpa using h.free j⟩
theorem BoxIn.alloc {w : World} {b : Nat} {x0 y0 x1 y1 : Int} (h : BoxIn w b x0 y0 x1 y1) (o : Obj) : BoxIn (w.alloc o) b x0 y0 x1 y1 := h.later (bel_alloc (bel_refl w) o)
theorem PtIn.alloc {w : World} {b : Nat} {x y : Int} (h : PtIn w b x y) (o : Obj) : PtIn (w.alloc o) b x y := h.later (bel_alloc (bel_refl w) o)
theorem bel_set {W w1 : World} (h : Below W.heap.size W w1) {b : Nat} (hb : W.heap.size ≤ b) (i : Nat) (v : Value) : Below W.heap.size W (w1.setCell ⟨b, i, none⟩ v) := h.setCell hb _
end Go.Proofs.Ytoofbbmddddlcaa
