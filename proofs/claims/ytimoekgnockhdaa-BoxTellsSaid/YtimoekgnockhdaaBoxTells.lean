/- Ok, Has, Corners, Split, Near, Most, Cross, Meets and Apart return what the document says: Split and Ok for every box of four numbers of 64 bits, all of them for every box that may be and every point that is not too far, and for small ones. No condition. -/
import Derived.Test.YtimoekgnockhdaaRows
import Derived.Test.YtimoekgnockhdaaAwake4
import Derived.Test.YtimoekgnockhdaaClose4
import Derived.Test.YtimoekgnockhdaaFourEq
import Derived.Test.YtimoekgnockhdaaRefBoxS
import Derived.Test.YtimoekgnockhdaaRefMost
import Derived.ProofKit
import Derived.OpenShut
import Derived.ShutString
import Derived.ChangeOld
import Derived.Below
import Derived.Lib.SmallJoins
import Derived.Lib.QuietBelow
import Derived.BigQuiet
namespace Go.Proofs.Ytimoekgnockhdaa.boxTells
open Go.ChangeShapes Go.WideShapes Go.ChangeAt Go.RowKit Go.Joins
open Go.Sort (grow)

/-- Both boxes and the three points, in blocks of the law's own that may be written. -/
structure FiveIn (n : Nat) (b0 b1 b2 b3 c0 c1 c2 c3 p0 p1 q0 q1 o0 o1 : Int) (wr : World) : Prop where
  b : BoxIn wr (n + 1) b0 b1 b2 b3
  c : BoxIn wr (n + 1 + 1) c0 c1 c2 c3
  p : PtIn wr (n + 1 + 1 + 1) p0 p1
  q : PtIn wr (n + 1 + 1 + 1 + 1) q0 q1
  o : PtIn wr (n + 1 + 1 + 1 + 1 + 1) o0 o1
theorem FiveIn.later {n : Nat} {w w1 : World} {b0 b1 b2 b3 c0 c1 c2 c3 p0 p1 q0 q1 o0 o1 : Int} (h : FiveIn n b0 b1 b2 b3 c0 c1 c2 c3 p0 p1 q0 q1 o0 o1 w) (k : Below w.heap.size w w1) : FiveIn n b0 b1 b2 b3 c0 c1 c2 c3 p0 p1 q0 q1 o0 o1 w1 :=
  ⟨h.b.later k, h.c.later k, h.p.later k, h.q.later k, h.o.later k⟩
theorem FiveIn.setRow {n : Nat} {w : World} {b0 b1 b2 b3 c0 c1 c2 c3 p0 p1 q0 q1 o0 o1 : Int} (h : FiveIn n b0 b1 b2 b3 c0 c1 c2 c3 p0 p1 q0 q1 o0 o1 w) {g : Nat} (hg : n + 6 ≤ g) (cs : Array Value) {old : Array Value} {t : TypeId} (hr : w.heap[g]? = some (.cells old t (0, 0))) : FiveIn n b0 b1 b2 b3 c0 c1 c2 c3 p0 p1 q0 q1 o0 o1 (w.setRow g cs) := by
  have hc : ∀ b i, b ≠ g → (w.setRow g cs).cell? ⟨b, i, none⟩ = w.cell? ⟨b, i, none⟩ := fun b i hb => cell_setRow_other w g cs ⟨b, i, none⟩ hb
  have hf : ∀ b i, b ≠ g → (w.setRow g cs).frozen? ⟨b, i, none⟩ = w.frozen? ⟨b, i, none⟩ := fun b i hb => by
    unfold World.frozen?
    rw [setRow_other w g b cs hb]
  have hs : ∀ b, b < w.heap.size → b < (w.setRow g cs).heap.size := fun b hb => by rw [setRow_size]; exact hb
  obtain ⟨⟨⟨x0, x1, x2, x3, xl⟩, xf⟩, ⟨⟨y0, y1, y2, y3, yl⟩, yf⟩, ⟨⟨z0, z1, zl⟩, zf⟩, ⟨⟨u0, u1, ul⟩, uf⟩, ⟨⟨v0, v1, vl⟩, vf⟩⟩ := h
  refine ⟨⟨⟨?_, ?_, ?_, ?_, hs _ xl⟩, fun i => ?_⟩, ⟨⟨?_, ?_, ?_, ?_, hs _ yl⟩, fun i => ?_⟩, ⟨⟨?_, ?_, hs _ zl⟩, fun i => ?_⟩, ⟨⟨?_, ?_, hs _ ul⟩, fun i => ?_⟩, ⟨⟨?_, ?_, hs _ vl⟩, fun i => ?_⟩⟩
  all_goals first
    | (rw [hc _ _ (by omega)]; assumption)
    | (rw [hf _ _ (by omega)]; first | exact xf i | exact yf i | exact zf i | exact uf i | exact vf i)
/-- Both arrays of quarters, each a row in a block of its own. -/
structure RowsAt (g1 g2 : Nat) (L : Array Value) (wr : World) : Prop where
  a : wr.heap[g1]? = some (.cells L 30 (0, 0))
  b : wr.heap[g2]? = some (.cells L 30 (0, 0))
theorem RowsAt.later {g1 g2 : Nat} {L : Array Value} {w w1 : World} (h : RowsAt g1 g2 L w) (k : Below w.heap.size w w1) : RowsAt g1 g2 L w1 := ⟨row_later h.a k, row_later h.b k⟩
theorem row_cell {w : World} {g : Nat} {o : Obj} (h : w.heap[g]? = some o) {b i : Nat} (hb : b ≠ g) (v : Value) : (w.setCell ⟨b, i, none⟩ v).heap[g]? = some o := by
  unfold World.setCell
  rw [Array.getElem?_modify]
  simp [hb, h]
theorem RowsAt.far {g1 g2 : Nat} {L : Array Value} {w : World} (h : RowsAt g1 g2 L w) {b : Nat} (h1 : b ≠ g1) (h2 : b ≠ g2) (i : Nat) (v : Value) : RowsAt g1 g2 L (w.setCell ⟨b, i, none⟩ v) := ⟨row_cell h.a h1 v, row_cell h.b h2 v⟩
/-- What the law compares: boxes and points that may be, and the rows. -/
def Fin (w : World) (g1 g2 : Nat) (L : Array Value) (wc : World) : Prop :=
  ∃ b0 b1 b2 b3 c0 c1 c2 c3 p0 p1 q0 q1 o0 o1 : Int, (((-536870912 ≤ b0 ∧ b0 ≤ b2 ∧ b2 ≤ 536870912) ∧ (-536870912 ≤ b1 ∧ b1 ≤ b3 ∧ b3 ≤ 536870912)) ∧ ((c0 ≤ c2) ∧ (c1 ≤ c3)) ∧ (-536870912 ≤ p0 ∧ p0 ≤ 536870912 ∧ -536870912 ≤ p1 ∧ p1 ≤ 536870912) ∧ (-536870912 ≤ q0 ∧ q0 ≤ 536870912 ∧ -536870912 ≤ q1 ∧ q1 ≤ 536870912) ∧ (-536870912 ≤ o0 ∧ o0 ≤ 536870912 ∧ -536870912 ≤ o1 ∧ o1 ≤ 536870912)) ∧ FiveIn w.heap.size b0 b1 b2 b3 c0 c1 c2 c3 p0 p1 q0 q1 o0 o1 wc ∧ RowsAt g1 g2 L wc ∧ Below w.heap.size w wc
theorem pt_below {a b x y : Int} (h : ∀ w, Calls Try.prog 11 #[ptV a b] w fun e w' => e = .returned (ptV x y) ∧ (w.alloc (.cells #[.int .i64 a, .int .i64 b] 26)).alloc (.cells #[.int .i64 x, .int .i64 y] 26) = w') (w : World) :
    Calls Try.prog 11 #[ptV a b] w fun e w' => e = .returned (ptV x y) ∧ Below w.heap.size w w' := (h w).mono fun _ _ k => ⟨k.1, k.2 ▸ bel_alloc (bel_alloc (bel_refl w) _) _⟩
theorem close_below {a b x y : Int} (h : a.tmod 9 = x) (k : b.tmod 9 = y) (w : World) :
    Calls Try.prog 21 #[ptV a b, .int .i64 8] w fun e w' => e = .returned (ptV x y) ∧ Below w.heap.size w w' := (close8 h k w).mono fun _ _ k => ⟨k.1, k.2 ▸ bel_drew (bel_alloc (bel_alloc (bel_refl w) _) _)⟩

set_option maxRecDepth 100000 in
set_option maxHeartbeats 16000000 in
theorem core (r0 r1 r2 r3 b0 b1 b2 b3 c0 c1 c2 c3 p0 p1 q0 q1 o0 o1 : Int) (small g : Bool) (L : Array Value) (ok : Bool) (k0 k1 k2 k3 l0 l1 l2 l3 s0 s1 t0 t1 u0 u1 : Int)
    (S1 : ∀ w, Calls Try.prog 12 #[boxV r0 r1 r2 r3] w fun e w' => e = .returned (.tuple #[.agg L, .bool ok]) ∧ Below w.heap.size w w')
    (T1 : ∀ w, Calls Try.prog 18 #[boxV r0 r1 r2 r3] w fun e w' => e = .returned (.tuple #[.agg L, .bool ok]) ∧ Below w.heap.size w w')
    (hL : L.size = 16) (hA : L.all (·.oneCell') = true) (hE : ∀ w, (Op.equalIn 10000 30 (.agg L) (.agg L)).run Try.prog w = .ok true w) (hg : okX r0 r1 r2 r3 = g)
    (hbd : ((-536870912 ≤ k0 ∧ k0 ≤ k2 ∧ k2 ≤ 536870912) ∧ (-536870912 ≤ k1 ∧ k1 ≤ k3 ∧ k3 ≤ 536870912)) ∧ ((l0 ≤ l2) ∧ (l1 ≤ l3)) ∧ (-536870912 ≤ s0 ∧ s0 ≤ 536870912 ∧ -536870912 ≤ s1 ∧ s1 ≤ 536870912) ∧ (-536870912 ≤ t0 ∧ t0 ≤ 536870912 ∧ -536870912 ≤ t1 ∧ t1 ≤ 536870912) ∧ (-536870912 ≤ u0 ∧ u0 ≤ 536870912 ∧ -536870912 ≤ u1 ∧ u1 ≤ 536870912))
    (X1 : ∀ w, Calls Try.prog 20 #[boxV b0 b1 b2 b3] w fun e w' => e = .returned (boxV k0 k1 k2 k3) ∧ Below w.heap.size w w')
    (X2 : ∀ w, Calls Try.prog 20 #[boxV c0 c1 c2 c3] w fun e w' => e = .returned (boxV l0 l1 l2 l3) ∧ Below w.heap.size w w')
    (X3 : ∀ w, Calls Try.prog 11 #[ptV p0 p1] w fun e w' => e = .returned (ptV s0 s1) ∧ Below w.heap.size w w')
    (X4 : ∀ w, Calls Try.prog 11 #[ptV q0 q1] w fun e w' => e = .returned (ptV t0 t1) ∧ Below w.heap.size w w')
    (X5 : ∀ w, Calls Try.prog 11 #[ptV o0 o1] w fun e w' => e = .returned (ptV u0 u1) ∧ Below w.heap.size w w') (w : World) :
    Calls Try.prog 5 #[boxV r0 r1 r2 r3, boxV b0 b1 b2 b3, boxV c0 c1 c2 c3, ptV p0 p1, ptV q0 q1, ptV o0 o1, .bool small] w fun e w' => e = .returned (.bool true) ∧ Below w.heap.size w w' := by
  have HS1 := Lib.hid S1
  have HT1 := Lib.hid T1
  have HL := Lib.hid hL
  have HA := Lib.hid hA
  have HE := Lib.hid hE
  have HX1 := Lib.hid X1
  have HX2 := Lib.hid X2
  have HX3 := Lib.hid X3
  have HX4 := Lib.hid X4
  have HX5 := Lib.hid X5
  have HBD := Lib.hid hbd
  have K1 := Lib.hid (fun w => ok_is hg w)
  have K2 := Lib.hid (fun w => refOk_is hg w)
  clear S1 T1 hL hA hE X1 X2 X3 X4 X5 hbd hg
  have vr := ((((((boxIn_new w r0 r1 r2 r3 23).alloc (.cells #[.int .i64 b0, .int .i64 b1, .int .i64 b2, .int .i64 b3] 23)).alloc (.cells #[.int .i64 c0, .int .i64 c1, .int .i64 c2, .int .i64 c3] 23)).alloc (.cells #[.int .i64 p0, .int .i64 p1] 26)).alloc (.cells #[.int .i64 q0, .int .i64 q1] 26)).alloc (.cells #[.int .i64 o0, .int .i64 o1] 26))
  have vb := (((((boxIn_new (w.alloc (.cells #[.int .i64 r0, .int .i64 r1, .int .i64 r2, .int .i64 r3] 23)) b0 b1 b2 b3 23).alloc (.cells #[.int .i64 c0, .int .i64 c1, .int .i64 c2, .int .i64 c3] 23)).alloc (.cells #[.int .i64 p0, .int .i64 p1] 26)).alloc (.cells #[.int .i64 q0, .int .i64 q1] 26)).alloc (.cells #[.int .i64 o0, .int .i64 o1] 26))
  rw [show (w.alloc (.cells #[.int .i64 r0, .int .i64 r1, .int .i64 r2, .int .i64 r3] 23)).heap.size = w.heap.size + 1 by simp] at vb
  have vc := ((((boxIn_new ((w.alloc (.cells #[.int .i64 r0, .int .i64 r1, .int .i64 r2, .int .i64 r3] 23)).alloc (.cells #[.int .i64 b0, .int .i64 b1, .int .i64 b2, .int .i64 b3] 23)) c0 c1 c2 c3 23).alloc (.cells #[.int .i64 p0, .int .i64 p1] 26)).alloc (.cells #[.int .i64 q0, .int .i64 q1] 26)).alloc (.cells #[.int .i64 o0, .int .i64 o1] 26))
  rw [show ((w.alloc (.cells #[.int .i64 r0, .int .i64 r1, .int .i64 r2, .int .i64 r3] 23)).alloc (.cells #[.int .i64 b0, .int .i64 b1, .int .i64 b2, .int .i64 b3] 23)).heap.size = w.heap.size + 1 + 1 by simp] at vc
  have vp := (((ptIn_new (((w.alloc (.cells #[.int .i64 r0, .int .i64 r1, .int .i64 r2, .int .i64 r3] 23)).alloc (.cells #[.int .i64 b0, .int .i64 b1, .int .i64 b2, .int .i64 b3] 23)).alloc (.cells #[.int .i64 c0, .int .i64 c1, .int .i64 c2, .int .i64 c3] 23)) p0 p1 26).alloc (.cells #[.int .i64 q0, .int .i64 q1] 26)).alloc (.cells #[.int .i64 o0, .int .i64 o1] 26))
  rw [show (((w.alloc (.cells #[.int .i64 r0, .int .i64 r1, .int .i64 r2, .int .i64 r3] 23)).alloc (.cells #[.int .i64 b0, .int .i64 b1, .int .i64 b2, .int .i64 b3] 23)).alloc (.cells #[.int .i64 c0, .int .i64 c1, .int .i64 c2, .int .i64 c3] 23)).heap.size = w.heap.size + 1 + 1 + 1 by simp] at vp
  have vq := ((ptIn_new ((((w.alloc (.cells #[.int .i64 r0, .int .i64 r1, .int .i64 r2, .int .i64 r3] 23)).alloc (.cells #[.int .i64 b0, .int .i64 b1, .int .i64 b2, .int .i64 b3] 23)).alloc (.cells #[.int .i64 c0, .int .i64 c1, .int .i64 c2, .int .i64 c3] 23)).alloc (.cells #[.int .i64 p0, .int .i64 p1] 26)) q0 q1 26).alloc (.cells #[.int .i64 o0, .int .i64 o1] 26))
  rw [show ((((w.alloc (.cells #[.int .i64 r0, .int .i64 r1, .int .i64 r2, .int .i64 r3] 23)).alloc (.cells #[.int .i64 b0, .int .i64 b1, .int .i64 b2, .int .i64 b3] 23)).alloc (.cells #[.int .i64 c0, .int .i64 c1, .int .i64 c2, .int .i64 c3] 23)).alloc (.cells #[.int .i64 p0, .int .i64 p1] 26)).heap.size = w.heap.size + 1 + 1 + 1 + 1 by simp] at vq
  have vo := (ptIn_new (((((w.alloc (.cells #[.int .i64 r0, .int .i64 r1, .int .i64 r2, .int .i64 r3] 23)).alloc (.cells #[.int .i64 b0, .int .i64 b1, .int .i64 b2, .int .i64 b3] 23)).alloc (.cells #[.int .i64 c0, .int .i64 c1, .int .i64 c2, .int .i64 c3] 23)).alloc (.cells #[.int .i64 p0, .int .i64 p1] 26)).alloc (.cells #[.int .i64 q0, .int .i64 q1] 26)) o0 o1 26)
  rw [show (((((w.alloc (.cells #[.int .i64 r0, .int .i64 r1, .int .i64 r2, .int .i64 r3] 23)).alloc (.cells #[.int .i64 b0, .int .i64 b1, .int .i64 b2, .int .i64 b3] 23)).alloc (.cells #[.int .i64 c0, .int .i64 c1, .int .i64 c2, .int .i64 c3] 23)).alloc (.cells #[.int .i64 p0, .int .i64 p1] 26)).alloc (.cells #[.int .i64 q0, .int .i64 q1] 26)).heap.size = w.heap.size + 1 + 1 + 1 + 1 + 1 by simp] at vo
  have B0 := Lib.hid (bel_alloc (bel_alloc (bel_alloc (bel_alloc (bel_alloc (bel_alloc (bel_refl w) (.cells #[.int .i64 r0, .int .i64 r1, .int .i64 r2, .int .i64 r3] 23)) (.cells #[.int .i64 b0, .int .i64 b1, .int .i64 b2, .int .i64 b3] 23)) (.cells #[.int .i64 c0, .int .i64 c1, .int .i64 c2, .int .i64 c3] 23)) (.cells #[.int .i64 p0, .int .i64 p1] 26)) (.cells #[.int .i64 q0, .int .i64 q1] 26)) (.cells #[.int .i64 o0, .int .i64 o1] 26))
  have hsz : ((((((w.alloc (.cells #[.int .i64 r0, .int .i64 r1, .int .i64 r2, .int .i64 r3] 23)).alloc (.cells #[.int .i64 b0, .int .i64 b1, .int .i64 b2, .int .i64 b3] 23)).alloc (.cells #[.int .i64 c0, .int .i64 c1, .int .i64 c2, .int .i64 c3] 23)).alloc (.cells #[.int .i64 p0, .int .i64 p1] 26)).alloc (.cells #[.int .i64 q0, .int .i64 q1] 26)).alloc (.cells #[.int .i64 o0, .int .i64 o1] 26)).heap.size = w.heap.size + 6 := by simp
  have F0 := Lib.hid (FiveIn.mk (n := w.heap.size) vb vc vp vq vo)
  have R0 := Lib.hid vr.at_
  have HZ := Lib.hid hsz
  clear vr vb vc vp vq vo hsz
  go_enter Try.func5, Try.ntmps5
  go_wp2_with fail
  generalize ((((((w.alloc (.cells #[.int .i64 r0, .int .i64 r1, .int .i64 r2, .int .i64 r3] 23)).alloc (.cells #[.int .i64 b0, .int .i64 b1, .int .i64 b2, .int .i64 b3] 23)).alloc (.cells #[.int .i64 c0, .int .i64 c1, .int .i64 c2, .int .i64 c3] 23)).alloc (.cells #[.int .i64 p0, .int .i64 p1] 26)).alloc (.cells #[.int .i64 q0, .int .i64 q1] 26)).alloc (.cells #[.int .i64 o0, .int .i64 o1] 26)) = V at *
  refine (HS1.out _).mono ?_; rintro e w1 ⟨rfl, z1⟩
  have F1 := Lib.hid (F0.out.later z1)
  have R1 := Lib.hid (R0.out.later z1)
  have B1 := Lib.hid (bel_trans B0.out z1)
  have g1 : w.heap.size + 6 ≤ w1.heap.size := by have := z1.size; have := HZ.out; omega
  clear z1 F0 R0 B0 HZ HS1
  have F1a := Lib.hid (F1.out.later (bel_alloc (bel_refl w1) (.cells L 30)))
  have R1a := Lib.hid (R1.out.alloc (.cells L 30))
  have B1a := Lib.hid (bel_alloc B1.out (.cells L 30))
  obtain ⟨x0, x1, x2, x3, xl⟩ := R1.out
  go_wp2_with ((with_reducible (refine wpList_store_row ?za1 30 (.tmp 15) (.tmp 22) ?za2 w1.heap.size L ?zh1 ?zh2 _ _ (row_new _ _ _) ?zh3 ?zh4 ?zh5 ?zh6)); (case za1 => rfl); (case za2 => rfl); (case zh1 => rfl); (case zh2 => rfl); (case zh3 => (rw [HL.out]; kernel_rfl)); (case zh4 => (rw [HL.out]; rfl)); (case zh5 => exact HA.out); rw [setRow_new])
  refine (HT1.out _).mono ?_; rintro e w2 ⟨rfl, z2⟩
  have F2 := Lib.hid (F1a.out.later z2)
  have R2 := Lib.hid (R1a.out.later z2)
  have B2 := Lib.hid (bel_trans B1a.out z2)
  have q15 := Lib.hid (row_later (row_new w1 L 30) z2)
  have g2 : w1.heap.size < w2.heap.size := by have := z2.size; simp at this; omega
  clear z2 F1 R1 B1 F1a R1a B1a HT1 x0 x1 x2 x3 xl
  have F3 := Lib.hid (F2.out.later (bel_alloc (bel_refl w2) (.cells L 30)))
  have R3 := R2.out.alloc (.cells L 30)
  have B3 := Lib.hid (bel_alloc B2.out (.cells L 30))
  have Q3 := Lib.hid (RowsAt.mk (row_later q15.out (bel_alloc (bel_refl w2) (.cells L 30))) (row_new w2 L 30))
  go_wp2_with ((with_reducible (refine wpList_store_row ?ya1 30 (.tmp 17) (.tmp 27) ?ya2 w2.heap.size L ?yh1 ?yh2 _ _ (row_new _ _ _) ?yh3 ?yh4 ?yh5 ?yh6)); (case ya1 => rfl); (case ya2 => rfl); (case yh1 => rfl); (case yh2 => rfl); (case yh3 => (rw [HL.out]; kernel_rfl)); (case yh4 => (rw [HL.out]; rfl)); (case yh5 => exact HA.out); rw [setRow_new])
  generalize w2.alloc (.cells L 30) = U at *
  clear F2 R2 B2 q15
  obtain ⟨x0, x1, x2, x3, xl⟩ := R3
  have x0 := cell_regrown x0
  have x1 := cell_regrown x1
  have x2 := cell_regrown x2
  have x3 := cell_regrown x3
  have D1 := Lib.hid (fun p : Regrown => Calls.regrown_of (K1.out (grow (redrawn U p.d) p.os)))
  have D2 := Lib.hid (fun p : Regrown => Calls.regrown_of (K2.out (grow (redrawn U p.d) p.os)))
  clear xl K1 K2
  refine wp_region_quiet_below (by kernel_rfl) (by kernel_rfl) ?_
  refine quiet_load_row rfl 30 (.tmp 15) rfl w1.heap.size rfl _ L (0, 0) _ (fun w' hw' => by obtain ⟨p, rfl⟩ := hw'; exact row_later Q3.out.a (below_regrown U p.d p.os)) Try.underlying30 rfl (by rw [HL.out]; kernel_rfl) ?_
  refine quiet_load_row rfl 30 (.tmp 17) rfl w2.heap.size rfl _ L (0, 0) _ (fun w' hw' => by obtain ⟨p, rfl⟩ := hw'; exact row_later Q3.out.b (below_regrown U p.d p.os)) Try.underlying30 rfl (by rw [HL.out]; kernel_rfl) ?_
  simp only [Act.put, List.setIfInBounds_toArray, List.set_cons_zero, List.set_cons_succ]
  have hE := HE.out
  repeat (go_big_quiet_step (first | with_reducible exact D1.out _ | with_reducible exact D2.out _))
  refine wpQuiet_nil ?_
  intro _ hw'
  obtain ⟨⟨dq, osq⟩, hw''⟩ := hw'
  subst hw''
  clear hE x0 x1 x2 x3 D1 D2
  have zz := below_regrown U dq osq
  have F4 := Lib.hid (F3.out.later zz)
  have B4 := Lib.hid (bel_trans B3.out zz)
  have Q4 := Lib.hid (Q3.out.later zz)
  clear F3 B3 Q3 zz
  generalize grow (redrawn U dq) osq = U2 at *
  go_wp2_with fail
  obtain ⟨⟨⟨va0, va1, va2, va3, val⟩, vaf⟩, ⟨⟨vc0, vc1, vc2, vc3, vcl⟩, vcf⟩, ⟨⟨vd0, vd1, vdl⟩, vdf⟩, ⟨⟨ve0, ve1, vel⟩, vef⟩, ⟨⟨vf0, vf1, vfl⟩, vff⟩⟩ := F4.out
  have va0 := cell_regrown va0
  have va1 := cell_regrown va1
  have va2 := cell_regrown va2
  have va3 := cell_regrown va3
  have vc0 := cell_regrown vc0
  have vc1 := cell_regrown vc1
  have vc2 := cell_regrown vc2
  have vc3 := cell_regrown vc3
  have vd0 := cell_regrown vd0
  have vd1 := cell_regrown vd1
  have ve0 := cell_regrown ve0
  have ve1 := cell_regrown ve1
  have vf0 := cell_regrown vf0
  have vf1 := cell_regrown vf1
  have D1 := Lib.hid (fun p : Regrown => Calls.regrown_of (HX1.out (grow (redrawn U2 p.d) p.os)))
  have D2 := Lib.hid (fun p : Regrown => Calls.regrown_of (HX2.out (grow (redrawn U2 p.d) p.os)))
  have D3 := Lib.hid (fun p : Regrown => Calls.regrown_of (HX3.out (grow (redrawn U2 p.d) p.os)))
  have D4 := Lib.hid (fun p : Regrown => Calls.regrown_of (HX4.out (grow (redrawn U2 p.d) p.os)))
  have D5 := Lib.hid (fun p : Regrown => Calls.regrown_of (HX5.out (grow (redrawn U2 p.d) p.os)))
  clear HX1 HX2 HX3 HX4 HX5
  refine region_below_tail 10 (by kernel_rfl) (by kernel_rfl) ?_
  simp only [List.take_succ_cons, List.take_zero]
  repeat (go_big_quiet_step (first | with_reducible exact D1.out _ | with_reducible exact D2.out _ | with_reducible exact D3.out _ | with_reducible exact D4.out _ | with_reducible exact D5.out _))
  refine wpQuiet_nil ?_
  intro _ hw'
  obtain ⟨⟨dr, osr⟩, hw''⟩ := hw'
  subst hw''
  clear va0 va1 va2 va3 vc0 vc1 vc2 vc3 vd0 vd1 ve0 ve1 vf0 vf1 D1 D2 D3 D4 D5
  have zz := below_regrown U2 dr osr
  have F5 := Lib.hid (F4.out.later zz)
  have B5 := Lib.hid (bel_trans B4.out zz)
  have Q5 := Lib.hid (Q4.out.later zz)
  clear F4 B4 Q4 zz
  generalize grow (redrawn U2 dr) osr = U3 at *
  simp only [List.drop_succ_cons, List.drop_zero]
  obtain ⟨⟨⟨ua0, ua1, ua2, ua3, ual⟩, uaf⟩, ⟨⟨uc0, uc1, uc2, uc3, ucl⟩, ucf⟩, ⟨⟨ud0, ud1, udl⟩, udf⟩, ⟨⟨ue0, ue1, uel⟩, uef⟩, ⟨⟨uf0, uf1, ufl⟩, uff⟩⟩ := F5.out
  go_upto_if 54 with (fail)
  clear ua0 ua1 ua2 ua3 ual uaf uc0 uc1 uc2 uc3 ucl ucf ud0 ud1 udl udf ue0 ue1 uel uef uf0 uf1 ufl uff
  have F6 := Lib.hid (FiveIn.mk (n := w.heap.size) (((((((((((F5.out.b.stored k0 k1 k2 k3).far (c := w.heap.size + 1 + 1) (by omega) 0 (.int .i64 l0)).far (c := w.heap.size + 1 + 1) (by omega) 1 (.int .i64 l1)).far (c := w.heap.size + 1 + 1) (by omega) 2 (.int .i64 l2)).far (c := w.heap.size + 1 + 1) (by omega) 3 (.int .i64 l3)).far (c := w.heap.size + 1 + 1 + 1) (by omega) 0 (.int .i64 s0)).far (c := w.heap.size + 1 + 1 + 1) (by omega) 1 (.int .i64 s1)).far (c := w.heap.size + 1 + 1 + 1 + 1) (by omega) 0 (.int .i64 t0)).far (c := w.heap.size + 1 + 1 + 1 + 1) (by omega) 1 (.int .i64 t1)).far (c := w.heap.size + 1 + 1 + 1 + 1 + 1) (by omega) 0 (.int .i64 u0)).far (c := w.heap.size + 1 + 1 + 1 + 1 + 1) (by omega) 1 (.int .i64 u1)) (((((((((((F5.out.c.far (c := w.heap.size + 1) (by omega) 0 (.int .i64 k0)).far (c := w.heap.size + 1) (by omega) 1 (.int .i64 k1)).far (c := w.heap.size + 1) (by omega) 2 (.int .i64 k2)).far (c := w.heap.size + 1) (by omega) 3 (.int .i64 k3)).stored l0 l1 l2 l3).far (c := w.heap.size + 1 + 1 + 1) (by omega) 0 (.int .i64 s0)).far (c := w.heap.size + 1 + 1 + 1) (by omega) 1 (.int .i64 s1)).far (c := w.heap.size + 1 + 1 + 1 + 1) (by omega) 0 (.int .i64 t0)).far (c := w.heap.size + 1 + 1 + 1 + 1) (by omega) 1 (.int .i64 t1)).far (c := w.heap.size + 1 + 1 + 1 + 1 + 1) (by omega) 0 (.int .i64 u0)).far (c := w.heap.size + 1 + 1 + 1 + 1 + 1) (by omega) 1 (.int .i64 u1)) (((((((((((((F5.out.p.far (c := w.heap.size + 1) (by omega) 0 (.int .i64 k0)).far (c := w.heap.size + 1) (by omega) 1 (.int .i64 k1)).far (c := w.heap.size + 1) (by omega) 2 (.int .i64 k2)).far (c := w.heap.size + 1) (by omega) 3 (.int .i64 k3)).far (c := w.heap.size + 1 + 1) (by omega) 0 (.int .i64 l0)).far (c := w.heap.size + 1 + 1) (by omega) 1 (.int .i64 l1)).far (c := w.heap.size + 1 + 1) (by omega) 2 (.int .i64 l2)).far (c := w.heap.size + 1 + 1) (by omega) 3 (.int .i64 l3)).stored s0 s1).far (c := w.heap.size + 1 + 1 + 1 + 1) (by omega) 0 (.int .i64 t0)).far (c := w.heap.size + 1 + 1 + 1 + 1) (by omega) 1 (.int .i64 t1)).far (c := w.heap.size + 1 + 1 + 1 + 1 + 1) (by omega) 0 (.int .i64 u0)).far (c := w.heap.size + 1 + 1 + 1 + 1 + 1) (by omega) 1 (.int .i64 u1)) (((((((((((((F5.out.q.far (c := w.heap.size + 1) (by omega) 0 (.int .i64 k0)).far (c := w.heap.size + 1) (by omega) 1 (.int .i64 k1)).far (c := w.heap.size + 1) (by omega) 2 (.int .i64 k2)).far (c := w.heap.size + 1) (by omega) 3 (.int .i64 k3)).far (c := w.heap.size + 1 + 1) (by omega) 0 (.int .i64 l0)).far (c := w.heap.size + 1 + 1) (by omega) 1 (.int .i64 l1)).far (c := w.heap.size + 1 + 1) (by omega) 2 (.int .i64 l2)).far (c := w.heap.size + 1 + 1) (by omega) 3 (.int .i64 l3)).far (c := w.heap.size + 1 + 1 + 1) (by omega) 0 (.int .i64 s0)).far (c := w.heap.size + 1 + 1 + 1) (by omega) 1 (.int .i64 s1)).stored t0 t1).far (c := w.heap.size + 1 + 1 + 1 + 1 + 1) (by omega) 0 (.int .i64 u0)).far (c := w.heap.size + 1 + 1 + 1 + 1 + 1) (by omega) 1 (.int .i64 u1)) (((((((((((((F5.out.o.far (c := w.heap.size + 1) (by omega) 0 (.int .i64 k0)).far (c := w.heap.size + 1) (by omega) 1 (.int .i64 k1)).far (c := w.heap.size + 1) (by omega) 2 (.int .i64 k2)).far (c := w.heap.size + 1) (by omega) 3 (.int .i64 k3)).far (c := w.heap.size + 1 + 1) (by omega) 0 (.int .i64 l0)).far (c := w.heap.size + 1 + 1) (by omega) 1 (.int .i64 l1)).far (c := w.heap.size + 1 + 1) (by omega) 2 (.int .i64 l2)).far (c := w.heap.size + 1 + 1) (by omega) 3 (.int .i64 l3)).far (c := w.heap.size + 1 + 1 + 1) (by omega) 0 (.int .i64 s0)).far (c := w.heap.size + 1 + 1 + 1) (by omega) 1 (.int .i64 s1)).far (c := w.heap.size + 1 + 1 + 1 + 1) (by omega) 0 (.int .i64 t0)).far (c := w.heap.size + 1 + 1 + 1 + 1) (by omega) 1 (.int .i64 t1)).stored u0 u1))
  have B6 := Lib.hid (bel_set (bel_set (bel_set (bel_set (bel_set (bel_set (bel_set (bel_set (bel_set (bel_set (bel_set (bel_set (bel_set (bel_set B5.out (b := w.heap.size + 1) (by omega) 0 (.int .i64 k0)) (b := w.heap.size + 1) (by omega) 1 (.int .i64 k1)) (b := w.heap.size + 1) (by omega) 2 (.int .i64 k2)) (b := w.heap.size + 1) (by omega) 3 (.int .i64 k3)) (b := w.heap.size + 1 + 1) (by omega) 0 (.int .i64 l0)) (b := w.heap.size + 1 + 1) (by omega) 1 (.int .i64 l1)) (b := w.heap.size + 1 + 1) (by omega) 2 (.int .i64 l2)) (b := w.heap.size + 1 + 1) (by omega) 3 (.int .i64 l3)) (b := w.heap.size + 1 + 1 + 1) (by omega) 0 (.int .i64 s0)) (b := w.heap.size + 1 + 1 + 1) (by omega) 1 (.int .i64 s1)) (b := w.heap.size + 1 + 1 + 1 + 1) (by omega) 0 (.int .i64 t0)) (b := w.heap.size + 1 + 1 + 1 + 1) (by omega) 1 (.int .i64 t1)) (b := w.heap.size + 1 + 1 + 1 + 1 + 1) (by omega) 0 (.int .i64 u0)) (b := w.heap.size + 1 + 1 + 1 + 1 + 1) (by omega) 1 (.int .i64 u1))
  have Q6 := Lib.hid ((((((((((((((Q5.out.far (b := w.heap.size + 1) (by omega) (by omega) 0 (.int .i64 k0)).far (b := w.heap.size + 1) (by omega) (by omega) 1 (.int .i64 k1)).far (b := w.heap.size + 1) (by omega) (by omega) 2 (.int .i64 k2)).far (b := w.heap.size + 1) (by omega) (by omega) 3 (.int .i64 k3)).far (b := w.heap.size + 1 + 1) (by omega) (by omega) 0 (.int .i64 l0)).far (b := w.heap.size + 1 + 1) (by omega) (by omega) 1 (.int .i64 l1)).far (b := w.heap.size + 1 + 1) (by omega) (by omega) 2 (.int .i64 l2)).far (b := w.heap.size + 1 + 1) (by omega) (by omega) 3 (.int .i64 l3)).far (b := w.heap.size + 1 + 1 + 1) (by omega) (by omega) 0 (.int .i64 s0)).far (b := w.heap.size + 1 + 1 + 1) (by omega) (by omega) 1 (.int .i64 s1)).far (b := w.heap.size + 1 + 1 + 1 + 1) (by omega) (by omega) 0 (.int .i64 t0)).far (b := w.heap.size + 1 + 1 + 1 + 1) (by omega) (by omega) 1 (.int .i64 t1)).far (b := w.heap.size + 1 + 1 + 1 + 1 + 1) (by omega) (by omega) 0 (.int .i64 u0)).far (b := w.heap.size + 1 + 1 + 1 + 1 + 1) (by omega) (by omega) 1 (.int .i64 u1))
  clear F5 B5 Q5
  generalize ((((((((((((((U3.setCell ⟨w.heap.size + 1, 0, none⟩ (.int .i64 k0)).setCell ⟨w.heap.size + 1, 1, none⟩ (.int .i64 k1)).setCell ⟨w.heap.size + 1, 2, none⟩ (.int .i64 k2)).setCell ⟨w.heap.size + 1, 3, none⟩ (.int .i64 k3)).setCell ⟨w.heap.size + 1 + 1, 0, none⟩ (.int .i64 l0)).setCell ⟨w.heap.size + 1 + 1, 1, none⟩ (.int .i64 l1)).setCell ⟨w.heap.size + 1 + 1, 2, none⟩ (.int .i64 l2)).setCell ⟨w.heap.size + 1 + 1, 3, none⟩ (.int .i64 l3)).setCell ⟨w.heap.size + 1 + 1 + 1, 0, none⟩ (.int .i64 s0)).setCell ⟨w.heap.size + 1 + 1 + 1, 1, none⟩ (.int .i64 s1)).setCell ⟨w.heap.size + 1 + 1 + 1 + 1, 0, none⟩ (.int .i64 t0)).setCell ⟨w.heap.size + 1 + 1 + 1 + 1, 1, none⟩ (.int .i64 t1)).setCell ⟨w.heap.size + 1 + 1 + 1 + 1 + 1, 0, none⟩ (.int .i64 u0)).setCell ⟨w.heap.size + 1 + 1 + 1 + 1 + 1, 1, none⟩ (.int .i64 u1)) = U4 at *
  go_cut [] (fun wc => Fin w w1.heap.size w2.heap.size L wc)
  case first =>
    cases small with
    | false =>
      go_wp2
      go_meet
      exact ⟨k0, k1, k2, k3, l0, l1, l2, l3, s0, s1, t0, t1, u0, u1, HBD.out, F6.out, Q6.out, B6.out⟩
    | true =>
      obtain ⟨s2, s4, s5, es0⟩ := tmod_at s0 9 (by omega)
      obtain ⟨s3, s6, s7, es1⟩ := tmod_at s1 9 (by omega)
      obtain ⟨t2, t4, t5, et0⟩ := tmod_at t0 9 (by omega)
      obtain ⟨t3, t6, t7, et1⟩ := tmod_at t1 9 (by omega)
      obtain ⟨u2, u4, u5, eu0⟩ := tmod_at u0 9 (by omega)
      obtain ⟨u3, u6, u7, eu1⟩ := tmod_at u1 9 (by omega)
      obtain ⟨k4, k8, k9, ek0⟩ := tmod_at k0 5 (by omega)
      obtain ⟨k5, l8, l9, ek1⟩ := tmod_at k1 5 (by omega)
      obtain ⟨m0, m1, m2, ek2⟩ := mask_7 k2
      obtain ⟨m3, m4, m5, ek3⟩ := mask_7 k3
      obtain ⟨k6, ek4⟩ : ∃ z, k4 + m0 = z := ⟨_, rfl⟩
      obtain ⟨k7, ek5⟩ : ∃ z, k5 + m3 = z := ⟨_, rfl⟩
      have hk6 : k4 ≤ k6 ∧ k6 ≤ 11 := by omega
      have hk7 : k5 ≤ k7 ∧ k7 ≤ 11 := by omega
      have Y3 := Lib.hid (fun w => close_below es0 es1 w)
      have Y4 := Lib.hid (fun w => close_below et0 et1 w)
      have Y5 := Lib.hid (fun w => close_below eu0 eu1 w)
      have EK0 := Lib.hid ek0
      have EK1 := Lib.hid ek1
      have EK2 := Lib.hid ek2
      have EK3 := Lib.hid ek3
      have EK4 := Lib.hid ek4
      have EK5 := Lib.hid ek5
      have HK6 := Lib.hid hk6
      have HK7 := Lib.hid hk7
      clear es0 es1 et0 et1 eu0 eu1 ek0 ek1 ek2 ek3 ek4 ek5 hk6 hk7
      go_wp2_with fail
      obtain ⟨⟨⟨va0, va1, va2, va3, val⟩, vaf⟩, ⟨⟨vc0, vc1, vc2, vc3, vcl⟩, vcf⟩, ⟨⟨vd0, vd1, vdl⟩, vdf⟩, ⟨⟨ve0, ve1, vel⟩, vef⟩, ⟨⟨vf0, vf1, vfl⟩, vff⟩⟩ := F6.out
      have va0 := cell_regrown va0
      have va1 := cell_regrown va1
      have va2 := cell_regrown va2
      have va3 := cell_regrown va3
      have vc0 := cell_regrown vc0
      have vc1 := cell_regrown vc1
      have vc2 := cell_regrown vc2
      have vc3 := cell_regrown vc3
      have vd0 := cell_regrown vd0
      have vd1 := cell_regrown vd1
      have ve0 := cell_regrown ve0
      have ve1 := cell_regrown ve1
      have vf0 := cell_regrown vf0
      have vf1 := cell_regrown vf1
      have D3 := Lib.hid (fun p : Regrown => Calls.regrown_of (Y3.out (grow (redrawn U4 p.d) p.os)))
      have D4 := Lib.hid (fun p : Regrown => Calls.regrown_of (Y4.out (grow (redrawn U4 p.d) p.os)))
      have D5 := Lib.hid (fun p : Regrown => Calls.regrown_of (Y5.out (grow (redrawn U4 p.d) p.os)))
      clear Y3 Y4 Y5
      refine region_below_tail 6 (by kernel_rfl) (by kernel_rfl) ?_
      simp only [List.take_succ_cons, List.take_zero]
      repeat (go_big_quiet_step (first | with_reducible exact D3.out _ | with_reducible exact D4.out _ | with_reducible exact D5.out _))
      refine wpQuiet_nil ?_
      intro _ hw'
      obtain ⟨⟨ds, oss⟩, hw''⟩ := hw'
      subst hw''
      clear va0 va1 va2 va3 vc0 vc1 vc2 vc3 vd0 vd1 ve0 ve1 vf0 vf1 D3 D4 D5
      have zz := below_regrown U4 ds oss
      have F7 := Lib.hid (F6.out.later zz)
      have B7 := Lib.hid (bel_trans B6.out zz)
      have Q7 := Lib.hid (Q6.out.later zz)
      clear F6 B6 Q6 zz
      generalize grow (redrawn U4 ds) oss = U5 at *
      simp only [List.drop_succ_cons, List.drop_zero]
      obtain ⟨⟨⟨ua0, ua1, ua2, ua3, ual⟩, uaf⟩, ⟨⟨uc0, uc1, uc2, uc3, ucl⟩, ucf⟩, ⟨⟨ud0, ud1, udl⟩, udf⟩, ⟨⟨ue0, ue1, uel⟩, uef⟩, ⟨⟨uf0, uf1, ufl⟩, uff⟩⟩ := F7.out
      go_upto_region 8 with (fail)
      clear ua0 ua1 ua2 ua3 ual uaf uc0 uc1 uc2 uc3 ucl ucf ud0 ud1 udl udf ue0 ue1 uel uef uf0 uf1 ufl uff
      have F8 := Lib.hid (FiveIn.mk (n := w.heap.size) ((((((F7.out.b.far (c := w.heap.size + 1 + 1 + 1) (by omega) 0 (.int .i64 s2)).far (c := w.heap.size + 1 + 1 + 1) (by omega) 1 (.int .i64 s3)).far (c := w.heap.size + 1 + 1 + 1 + 1) (by omega) 0 (.int .i64 t2)).far (c := w.heap.size + 1 + 1 + 1 + 1) (by omega) 1 (.int .i64 t3)).far (c := w.heap.size + 1 + 1 + 1 + 1 + 1) (by omega) 0 (.int .i64 u2)).far (c := w.heap.size + 1 + 1 + 1 + 1 + 1) (by omega) 1 (.int .i64 u3)) ((((((F7.out.c.far (c := w.heap.size + 1 + 1 + 1) (by omega) 0 (.int .i64 s2)).far (c := w.heap.size + 1 + 1 + 1) (by omega) 1 (.int .i64 s3)).far (c := w.heap.size + 1 + 1 + 1 + 1) (by omega) 0 (.int .i64 t2)).far (c := w.heap.size + 1 + 1 + 1 + 1) (by omega) 1 (.int .i64 t3)).far (c := w.heap.size + 1 + 1 + 1 + 1 + 1) (by omega) 0 (.int .i64 u2)).far (c := w.heap.size + 1 + 1 + 1 + 1 + 1) (by omega) 1 (.int .i64 u3)) (((((F7.out.p.stored s2 s3).far (c := w.heap.size + 1 + 1 + 1 + 1) (by omega) 0 (.int .i64 t2)).far (c := w.heap.size + 1 + 1 + 1 + 1) (by omega) 1 (.int .i64 t3)).far (c := w.heap.size + 1 + 1 + 1 + 1 + 1) (by omega) 0 (.int .i64 u2)).far (c := w.heap.size + 1 + 1 + 1 + 1 + 1) (by omega) 1 (.int .i64 u3)) (((((F7.out.q.far (c := w.heap.size + 1 + 1 + 1) (by omega) 0 (.int .i64 s2)).far (c := w.heap.size + 1 + 1 + 1) (by omega) 1 (.int .i64 s3)).stored t2 t3).far (c := w.heap.size + 1 + 1 + 1 + 1 + 1) (by omega) 0 (.int .i64 u2)).far (c := w.heap.size + 1 + 1 + 1 + 1 + 1) (by omega) 1 (.int .i64 u3)) (((((F7.out.o.far (c := w.heap.size + 1 + 1 + 1) (by omega) 0 (.int .i64 s2)).far (c := w.heap.size + 1 + 1 + 1) (by omega) 1 (.int .i64 s3)).far (c := w.heap.size + 1 + 1 + 1 + 1) (by omega) 0 (.int .i64 t2)).far (c := w.heap.size + 1 + 1 + 1 + 1) (by omega) 1 (.int .i64 t3)).stored u2 u3))
      have B8 := Lib.hid (bel_set (bel_set (bel_set (bel_set (bel_set (bel_set B7.out (b := w.heap.size + 1 + 1 + 1) (by omega) 0 (.int .i64 s2)) (b := w.heap.size + 1 + 1 + 1) (by omega) 1 (.int .i64 s3)) (b := w.heap.size + 1 + 1 + 1 + 1) (by omega) 0 (.int .i64 t2)) (b := w.heap.size + 1 + 1 + 1 + 1) (by omega) 1 (.int .i64 t3)) (b := w.heap.size + 1 + 1 + 1 + 1 + 1) (by omega) 0 (.int .i64 u2)) (b := w.heap.size + 1 + 1 + 1 + 1 + 1) (by omega) 1 (.int .i64 u3))
      have Q8 := Lib.hid ((((((Q7.out.far (b := w.heap.size + 1 + 1 + 1) (by omega) (by omega) 0 (.int .i64 s2)).far (b := w.heap.size + 1 + 1 + 1) (by omega) (by omega) 1 (.int .i64 s3)).far (b := w.heap.size + 1 + 1 + 1 + 1) (by omega) (by omega) 0 (.int .i64 t2)).far (b := w.heap.size + 1 + 1 + 1 + 1) (by omega) (by omega) 1 (.int .i64 t3)).far (b := w.heap.size + 1 + 1 + 1 + 1 + 1) (by omega) (by omega) 0 (.int .i64 u2)).far (b := w.heap.size + 1 + 1 + 1 + 1 + 1) (by omega) (by omega) 1 (.int .i64 u3))
      clear F7 B7 Q7
      generalize ((((((U5.setCell ⟨w.heap.size + 1 + 1 + 1, 0, none⟩ (.int .i64 s2)).setCell ⟨w.heap.size + 1 + 1 + 1, 1, none⟩ (.int .i64 s3)).setCell ⟨w.heap.size + 1 + 1 + 1 + 1, 0, none⟩ (.int .i64 t2)).setCell ⟨w.heap.size + 1 + 1 + 1 + 1, 1, none⟩ (.int .i64 t3)).setCell ⟨w.heap.size + 1 + 1 + 1 + 1 + 1, 0, none⟩ (.int .i64 u2)).setCell ⟨w.heap.size + 1 + 1 + 1 + 1 + 1, 1, none⟩ (.int .i64 u3)) = U6 at *
      have F9 := Lib.hid (FiveIn.mk (n := w.heap.size) (F8.out.b.stored k4 k5 k6 k7) ((((F8.out.c.far (c := w.heap.size + 1) (by omega) 0 (.int .i64 k4)).far (c := w.heap.size + 1) (by omega) 1 (.int .i64 k5)).far (c := w.heap.size + 1) (by omega) 2 (.int .i64 k6)).far (c := w.heap.size + 1) (by omega) 3 (.int .i64 k7)) ((((F8.out.p.far (c := w.heap.size + 1) (by omega) 0 (.int .i64 k4)).far (c := w.heap.size + 1) (by omega) 1 (.int .i64 k5)).far (c := w.heap.size + 1) (by omega) 2 (.int .i64 k6)).far (c := w.heap.size + 1) (by omega) 3 (.int .i64 k7)) ((((F8.out.q.far (c := w.heap.size + 1) (by omega) 0 (.int .i64 k4)).far (c := w.heap.size + 1) (by omega) 1 (.int .i64 k5)).far (c := w.heap.size + 1) (by omega) 2 (.int .i64 k6)).far (c := w.heap.size + 1) (by omega) 3 (.int .i64 k7)) ((((F8.out.o.far (c := w.heap.size + 1) (by omega) 0 (.int .i64 k4)).far (c := w.heap.size + 1) (by omega) 1 (.int .i64 k5)).far (c := w.heap.size + 1) (by omega) 2 (.int .i64 k6)).far (c := w.heap.size + 1) (by omega) 3 (.int .i64 k7)))
      have B9 := Lib.hid (bel_set (bel_set (bel_set (bel_set B8.out (b := w.heap.size + 1) (by omega) 0 (.int .i64 k4)) (b := w.heap.size + 1) (by omega) 1 (.int .i64 k5)) (b := w.heap.size + 1) (by omega) 2 (.int .i64 k6)) (b := w.heap.size + 1) (by omega) 3 (.int .i64 k7))
      have Q9 := Lib.hid ((((Q8.out.far (b := w.heap.size + 1) (by omega) (by omega) 0 (.int .i64 k4)).far (b := w.heap.size + 1) (by omega) (by omega) 1 (.int .i64 k5)).far (b := w.heap.size + 1) (by omega) (by omega) 2 (.int .i64 k6)).far (b := w.heap.size + 1) (by omega) (by omega) 3 (.int .i64 k7))
      obtain ⟨⟨va0, va1, va2, va3, val⟩, vaf⟩ := F8.out.b
      obtain ⟨⟨hb1, hb2, hb3⟩, hb4, hb5, hb6⟩ := HBD.out.1
      have ek0 := EK0.out
      have ek1 := EK1.out
      have ek2 := EK2.out
      have ek3 := EK3.out
      have ek4 := EK4.out
      have ek5 := EK5.out
      go_wp2
      go_meet
      have hbd := HBD.out
      have hk6 := HK6.out
      have hk7 := HK7.out
      exact ⟨k4, k5, k6, k7, l0, l1, l2, l3, s2, s3, t2, t3, u2, u3, ⟨by omega, hbd.2.1, by omega, by omega, by omega⟩, F9.out, Q9.out, B9.out⟩
  case rest =>
    obtain ⟨x0, x1, x2, x3, y0, y1, y2, y3, m0, m1, n0, n1, j0, j1, hbd, hF, hQ, hB⟩ := hcut
    clear F6 B6 Q6 HBD
    have F := Lib.hid hF
    have Q := Lib.hid hQ
    have B := Lib.hid hB
    clear hF hQ hB
    obtain ⟨⟨⟨xa, xb, xc⟩, xd, xe, xf⟩, ⟨ya, yb⟩, ⟨ma, mb, mc, md⟩, ⟨na, nb, nc, nd⟩, ja, jb, jc, jd⟩ := hbd
    obtain ⟨L2, ok2, e2, hL2, hA2, hE2⟩ := splV_shape x0 x1 x2 x3
    have HL2 := Lib.hid hL2
    have HA2 := Lib.hid hA2
    have HE2 := Lib.hid hE2
    have S2 := Lib.hid (fun w => e2 ▸ split_any x0 x1 x2 x3 w)
    have T2 := Lib.hid (fun w => e2 ▸ refSplit_any x0 x1 x2 x3 w)
    obtain ⟨h, h1, h2⟩ : ∃ h, (∀ w, Calls Try.prog 8 #[boxV x0 x1 x2 x3, ptV m0 m1] w fun e w' => e = .returned (.bool h) ∧ Below w.heap.size w w') ∧ (∀ w, Calls Try.prog 24 #[boxV x0 x1 x2 x3, ptV m0 m1] w fun e w' => e = .returned (.bool h) ∧ Below w.heap.size w w') := ⟨_, fun w => has_any x0 x1 x2 x3 m0 m1 w, fun w => refHas_any x0 x1 x2 x3 m0 m1 w⟩
    obtain ⟨d, h3, h4⟩ : ∃ d : Int, (∀ w, Calls Try.prog 14 #[boxV x0 x1 x2 x3, ptV m0 m1] w fun e w' => e = .returned (.int .i64 d) ∧ Below w.heap.size w w') ∧ (∀ w, Calls Try.prog 25 #[boxV x0 x1 x2 x3, ptV m0 m1] w fun e w' => e = .returned (.int .i64 d) ∧ Below w.heap.size w w') := ⟨_, fun w => near_any x0 x1 x2 x3 m0 m1 xa xb xc xd xe xf ma mb mc md w, fun w => refNear_any x0 x1 x2 x3 m0 m1 xa xb xc xd xe xf ma mb mc md w⟩
    obtain ⟨d', h5, h6⟩ : ∃ d : Int, (∀ w, Calls Try.prog 15 #[boxV x0 x1 x2 x3, ptV m0 m1] w fun e w' => e = .returned (.int .i64 d) ∧ Below w.heap.size w w') ∧ (∀ w, Calls Try.prog 26 #[boxV x0 x1 x2 x3, ptV m0 m1] w fun e w' => e = .returned (.int .i64 d) ∧ Below w.heap.size w w') := ⟨_, fun w => most_any x0 x1 x2 x3 m0 m1 xa xb xc xd xe xf ma mb mc md w, fun w => refMost_any x0 x1 x2 x3 m0 m1 xa xb xc xd xe xf ma mb mc md w⟩
    obtain ⟨k, h7, h8⟩ : ∃ d : Int, (∀ w, Calls Try.prog 17 #[ptV j0 j1, ptV m0 m1, ptV n0 n1] w fun e w' => e = .returned (.int .i64 d) ∧ Below w.heap.size w w') ∧ (∀ w, Calls Try.prog 27 #[ptV j0 j1, ptV m0 m1, ptV n0 n1] w fun e w' => e = .returned (.int .i64 d) ∧ Below w.heap.size w w') := ⟨_, fun w => cross_any j0 j1 m0 m1 n0 n1 ja jb jc jd ma mb mc md na nb nc nd w, fun w => refCross_any j0 j1 m0 m1 n0 n1 ja jb jc jd ma mb mc md na nb nc nd w⟩
    obtain ⟨t, h9, h10⟩ : ∃ h, (∀ w, Calls Try.prog 16 #[boxV x0 x1 x2 x3, ptV m0 m1, ptV n0 n1] w fun e w' => e = .returned (.bool h) ∧ Below w.heap.size w w') ∧ (∀ w, Calls Try.prog 28 #[boxV x0 x1 x2 x3, ptV m0 m1, ptV n0 n1] w fun e w' => e = .returned (.bool h) ∧ Below w.heap.size w w') := ⟨_, fun w => meets_any x0 x1 x2 x3 m0 m1 n0 n1 xa xb xc xd xe xf ma mb mc md na nb nc nd w, fun w => refMeets_any x0 x1 x2 x3 m0 m1 n0 n1 xa xb xc xd xe xf ma mb mc md na nb nc nd w⟩
    obtain ⟨v, h11, h12⟩ : ∃ h, (∀ w, Calls Try.prog 9 #[boxV x0 x1 x2 x3, boxV y0 y1 y2 y3] w fun e w' => e = .returned (.bool h) ∧ Below w.heap.size w w') ∧ (∀ w, Calls Try.prog 29 #[boxV x0 x1 x2 x3, boxV y0 y1 y2 y3] w fun e w' => e = .returned (.bool h) ∧ Below w.heap.size w w') := ⟨_, fun w => apart_any x0 x1 x2 x3 y0 y1 y2 y3 w, fun w => refApart_any x0 x1 x2 x3 y0 y1 y2 y3 xb xe ya yb w⟩
    have h13 := fun w => corners_any x0 x1 x2 x3 w
    have h14 := fun w => refCorners_any x0 x1 x2 x3 w
    have H1 := Lib.hid h1
    have H2 := Lib.hid h2
    have H3 := Lib.hid h3
    have H4 := Lib.hid h4
    have H5 := Lib.hid h5
    have H6 := Lib.hid h6
    have H7 := Lib.hid h7
    have H8 := Lib.hid h8
    have H9 := Lib.hid h9
    have H10 := Lib.hid h10
    have H11 := Lib.hid h11
    have H12 := Lib.hid h12
    have H13 := Lib.hid h13
    have H14 := Lib.hid h14
    clear h1 h2 h3 h4 h5 h6 h7 h8 h9 h10 h11 h12 h13 h14
    clear e2 hL2 hA2 hE2
    obtain ⟨⟨va0, va1, va2, va3, val⟩, vaf⟩ := F.out.b
    go_wp2_with fail
    refine (S2.out _).mono ?_; rintro e w7 ⟨rfl, zz⟩
    have F7 := Lib.hid ((F.out.later zz).setRow (by omega) L2 (Q.out.later zz).a)
    have B7 := Lib.hid (below_row (bel_trans B.out zz) (show w.heap.size ≤ w1.heap.size by omega) L2)
    have qa := Lib.hid (Q.out.later zz).a
    have qa7 := Lib.hid (setRow_heap w7 w1.heap.size _ L2 _ _ qa.out)
    have qb7 := Lib.hid ((setRow_other w7 w1.heap.size w2.heap.size L2 (by omega)).trans (Q.out.later zz).b)
    have F7a := Lib.hid (F.out.later zz)
    clear zz va0 va1 va2 va3 val vaf F B Q S2
    obtain ⟨⟨va0, va1, va2, va3, val⟩, vaf⟩ := F7.out.b
    go_wp2_with ((with_reducible (refine wpList_store_row ?xa1 30 (.tmp 15) (.tmp 85) ?xa2 w1.heap.size L2 ?xh1 ?xh2 _ _ qa.out ?xh3 ?xh4 ?xh5 ?xh6)); (case xa1 => rfl); (case xa2 => rfl); (case xh1 => rfl); (case xh2 => rfl); (case xh3 => (rw [HL2.out]; kernel_rfl)); (case xh4 => (rw [HL.out, HL2.out])); (case xh5 => exact HA2.out))
    refine (T2.out _).mono ?_; rintro e w8 ⟨rfl, zz⟩
    have qb := Lib.hid (row_later qb7.out zz)
    have F8 := Lib.hid ((F7.out.later zz).setRow (by omega) L2 qb.out)
    have B8 := Lib.hid (below_row (bel_trans B7.out zz) (show w.heap.size ≤ w2.heap.size by omega) L2)
    have Q8 := Lib.hid (RowsAt.mk ((setRow_other w8 w2.heap.size w1.heap.size L2 (by omega)).trans (row_later qa7.out zz)) (setRow_heap w8 w2.heap.size _ L2 _ _ qb.out))
    clear zz va0 va1 va2 va3 val vaf F7 B7 qa7 qb7 qa F7a T2
    go_wp2_with ((with_reducible (refine wpList_store_row ?va1 30 (.tmp 17) (.tmp 90) ?va2 w2.heap.size L2 ?vh1 ?vh2 _ _ qb.out ?vh3 ?vh4 ?vh5 ?vh6)); (case va1 => rfl); (case va2 => rfl); (case vh1 => rfl); (case vh2 => rfl); (case vh3 => (rw [HL2.out]; kernel_rfl)); (case vh4 => (rw [HL.out, HL2.out])); (case vh5 => exact HA2.out))
    clear qb
    generalize w8.setRow w2.heap.size L2 = U7 at *
    obtain ⟨⟨⟨va0, va1, va2, va3, val⟩, vaf⟩, ⟨⟨vc0, vc1, vc2, vc3, vcl⟩, vcf⟩, ⟨⟨vd0, vd1, vdl⟩, vdf⟩, ⟨⟨ve0, ve1, vel⟩, vef⟩, ⟨⟨vf0, vf1, vfl⟩, vff⟩⟩ := F8.out
    have va0 := cell_regrown va0
    have va1 := cell_regrown va1
    have va2 := cell_regrown va2
    have va3 := cell_regrown va3
    have vc0 := cell_regrown vc0
    have vc1 := cell_regrown vc1
    have vc2 := cell_regrown vc2
    have vc3 := cell_regrown vc3
    have vd0 := cell_regrown vd0
    have vd1 := cell_regrown vd1
    have ve0 := cell_regrown ve0
    have ve1 := cell_regrown ve1
    have vf0 := cell_regrown vf0
    have vf1 := cell_regrown vf1
    clear val vaf vcl vcf vdl vdf vel vef vfl vff
    have D1 := Lib.hid (fun p : Regrown => Calls.regrown_of (H1.out (grow (redrawn U7 p.d) p.os)))
    have D2 := Lib.hid (fun p : Regrown => Calls.regrown_of (H2.out (grow (redrawn U7 p.d) p.os)))
    have D3 := Lib.hid (fun p : Regrown => Calls.regrown_of (H3.out (grow (redrawn U7 p.d) p.os)))
    have D4 := Lib.hid (fun p : Regrown => Calls.regrown_of (H4.out (grow (redrawn U7 p.d) p.os)))
    have D5 := Lib.hid (fun p : Regrown => Calls.regrown_of (H5.out (grow (redrawn U7 p.d) p.os)))
    have D6 := Lib.hid (fun p : Regrown => Calls.regrown_of (H6.out (grow (redrawn U7 p.d) p.os)))
    have D7 := Lib.hid (fun p : Regrown => Calls.regrown_of (H7.out (grow (redrawn U7 p.d) p.os)))
    have D8 := Lib.hid (fun p : Regrown => Calls.regrown_of (H8.out (grow (redrawn U7 p.d) p.os)))
    have D9 := Lib.hid (fun p : Regrown => Calls.regrown_of (H9.out (grow (redrawn U7 p.d) p.os)))
    have D10 := Lib.hid (fun p : Regrown => Calls.regrown_of (H10.out (grow (redrawn U7 p.d) p.os)))
    have D11 := Lib.hid (fun p : Regrown => Calls.regrown_of (H11.out (grow (redrawn U7 p.d) p.os)))
    have D12 := Lib.hid (fun p : Regrown => Calls.regrown_of (H12.out (grow (redrawn U7 p.d) p.os)))
    have D13 := Lib.hid (fun p : Regrown => Calls.regrown_of (H13.out (grow (redrawn U7 p.d) p.os)))
    have D14 := Lib.hid (fun p : Regrown => Calls.regrown_of (H14.out (grow (redrawn U7 p.d) p.os)))
    have DA := Lib.hid (fun p : Regrown => Calls.regrown_of (awake_any (grow (redrawn U7 p.d) p.os)))
    clear H1 H2 H3 H4 H5 H6 H7 H8 H9 H10 H11 H12 H13 H14
    simp only [List.append]
    refine wp_region_quiet_below (by kernel_rfl) (by kernel_rfl) ?_
    refine quiet_load_row rfl 30 (.tmp 15) rfl w1.heap.size rfl _ L2 (0, 0) _ (fun w' hw' => by obtain ⟨p, rfl⟩ := hw'; exact row_later Q8.out.a (below_regrown U7 p.d p.os)) Try.underlying30 rfl (by rw [HL2.out]; kernel_rfl) ?_
    refine quiet_load_row rfl 30 (.tmp 17) rfl w2.heap.size rfl _ L2 (0, 0) _ (fun w' hw' => by obtain ⟨p, rfl⟩ := hw'; exact row_later Q8.out.b (below_regrown U7 p.d p.os)) Try.underlying30 rfl (by rw [HL2.out]; kernel_rfl) ?_
    simp only [Act.put, List.setIfInBounds_toArray, List.set_cons_zero, List.set_cons_succ]
    have hE2 := HE2.out
    have hC := fun w => eq_corners x0 x1 x2 x1 x0 x3 x2 x3 w
    repeat (go_big_quiet_step (first | with_reducible exact D1.out _ | with_reducible exact D2.out _ | with_reducible exact D3.out _ | with_reducible exact D4.out _ | with_reducible exact D5.out _ | with_reducible exact D6.out _ | with_reducible exact D7.out _ | with_reducible exact D8.out _ | with_reducible exact D9.out _ | with_reducible exact D10.out _ | with_reducible exact D11.out _ | with_reducible exact D12.out _ | with_reducible exact D13.out _ | with_reducible exact D14.out _ | with_reducible exact DA.out _))
    refine wpQuiet_nil ?_
    intro _ hw'
    obtain ⟨⟨dt, ost⟩, hw''⟩ := hw'
    subst hw''
    go_wp2
    go_ret
    exact ⟨rfl, bel_trans B8.out (below_regrown U7 dt ost)⟩
theorem walk (r0 r1 r2 r3 b0 b1 b2 b3 c0 c1 c2 c3 p0 p1 q0 q1 o0 o1 : Int) (small : Bool) (_ : -9223372036854775808 ≤ r0) (_ : r0 ≤ 9223372036854775807) (_ : -9223372036854775808 ≤ r1) (_ : r1 ≤ 9223372036854775807) (_ : -9223372036854775808 ≤ r2) (_ : r2 ≤ 9223372036854775807) (_ : -9223372036854775808 ≤ r3) (_ : r3 ≤ 9223372036854775807) (_ : -9223372036854775808 ≤ b0) (_ : b0 ≤ 9223372036854775807) (_ : -9223372036854775808 ≤ b1) (_ : b1 ≤ 9223372036854775807) (_ : -9223372036854775808 ≤ b2) (_ : b2 ≤ 9223372036854775807) (_ : -9223372036854775808 ≤ b3) (_ : b3 ≤ 9223372036854775807) (_ : -9223372036854775808 ≤ c0) (_ : c0 ≤ 9223372036854775807) (_ : -9223372036854775808 ≤ c1) (_ : c1 ≤ 9223372036854775807) (_ : -9223372036854775808 ≤ c2) (_ : c2 ≤ 9223372036854775807) (_ : -9223372036854775808 ≤ c3) (_ : c3 ≤ 9223372036854775807) (_ : -9223372036854775808 ≤ p0) (_ : p0 ≤ 9223372036854775807) (_ : -9223372036854775808 ≤ p1) (_ : p1 ≤ 9223372036854775807) (_ : -9223372036854775808 ≤ q0) (_ : q0 ≤ 9223372036854775807) (_ : -9223372036854775808 ≤ q1) (_ : q1 ≤ 9223372036854775807) (_ : -9223372036854775808 ≤ o0) (_ : o0 ≤ 9223372036854775807) (_ : -9223372036854775808 ≤ o1) (_ : o1 ≤ 9223372036854775807) (w : World) :
    Calls Try.prog 5 #[boxV r0 r1 r2 r3, boxV b0 b1 b2 b3, boxV c0 c1 c2 c3, ptV p0 p1, ptV q0 q1, ptV o0 o1, .bool small] w fun e w' => e = .returned (.bool true) ∧ Below w.heap.size w w' := by
  obtain ⟨L, ok, e, hL, hA, hE⟩ := splV_shape r0 r1 r2 r3
  obtain ⟨k0, k1, k2, k3, a1, a2, a3, a4, a5, a6, X1⟩ := boxT_form b0 b1 b2 b3
  obtain ⟨l0, l1, l2, l3, e1, e2, e3, e4, e5, e6, X2⟩ := boxT_form c0 c1 c2 c3
  obtain ⟨s0, s1, f1, f2, f3, f4, X3⟩ := pt_form p0 p1
  obtain ⟨t0, t1, g1, g2, g3, g4, X4⟩ := pt_form q0 q1
  obtain ⟨u0, u1, i1, i2, i3, i4, X5⟩ := pt_form o0 o1
  exact core r0 r1 r2 r3 b0 b1 b2 b3 c0 c1 c2 c3 p0 p1 q0 q1 o0 o1 small _ L ok k0 k1 k2 k3 l0 l1 l2 l3 s0 s1 t0 t1 u0 u1 (fun w => e ▸ split_any r0 r1 r2 r3 w) (fun w => e ▸ refSplit_any r0 r1 r2 r3 w) hL hA hE rfl
    ⟨⟨⟨a1, a2, a3⟩, a4, a5, a6⟩, ⟨e2, e5⟩, ⟨f1, f2, f3, f4⟩, ⟨g1, g2, g3, g4⟩, i1, i2, i3, i4⟩ X1 X2 (fun w => pt_below X3 w) (fun w => pt_below X4 w) (fun w => pt_below X5 w) w
theorem own : ownKnob Try.prog.godebug = none := by kernel_rfl
set_option maxRecDepth 100000 in
set_option maxHeartbeats 4000000 in
theorem lifted (os : Os) (started : os.Started) (H : Type) (enc : TypeId × Value → H) :
    ReturnsInHanded {} Try.checked os 5 .any (Rows.boxTellsSpec.pre6 enc Try.prog Try.f5 Rows.boxTellsRow.domain false) (Rows.boxTellsSpec.post enc Try.prog Try.f5 false true false false) := by
  refine returnsInHanded_of_change (C := Try.checked) own started (by kernel_rfl) Try.func5
    (ChangeSpec.witness6 (enc := enc) (C := Try.checked) false ⟨#[], #[.agg #[.int .i64 0, .int .i64 0, .int .i64 0, .int .i64 0], .agg #[.int .i64 0, .int .i64 0, .int .i64 0, .int .i64 0], .agg #[.int .i64 0, .int .i64 0, .int .i64 0, .int .i64 0], .agg #[.int .i64 0, .int .i64 0], .agg #[.int .i64 0, .int .i64 0], .agg #[.int .i64 0, .int .i64 0], .bool false], []⟩ 8 (by kernel_rfl) (by kernel_rfl) (by kernel_rfl) (by kernel_rfl)) ?_
  intro W base args ds gs before hval0 hW _ _
  have hval : ∀ (j : Nat) t v, Try.f5.params[j]? = some t → args[j]? = some v → Value.okWide Try.prog W .any base t v := hval0
  have hW' := hW
  obtain ⟨p, q, hA0, hV, rfl, hfz, hnd⟩ := hW
  have hA : DataW.TrodAll enc Try.prog W 0 (fun _ => true) true Try.f5.params.toList args.toList ds p := hA0
  rw [Try.params5] at hA hval
  obtain ⟨v0, vs0, d0, ds0, p0, q0, hargs, rfl, rfl, h0, r0⟩ := trodAll_cons hA
  obtain ⟨v1, vs1, d1, ds1, p1, q1, rfl, rfl, rfl, h1, r1⟩ := trodAll_cons r0
  obtain ⟨v2, vs2, d2, ds2, p2, q2, rfl, rfl, rfl, h2, r2⟩ := trodAll_cons r1
  obtain ⟨v3, vs3, d3, ds3, p3, q3, rfl, rfl, rfl, h3, r3⟩ := trodAll_cons r2
  obtain ⟨v4, vs4, d4, ds4, p4, q4, rfl, rfl, rfl, h4, r4⟩ := trodAll_cons r3
  obtain ⟨v5, vs5, d5, ds5, p5, q5, rfl, rfl, rfl, h5, r5⟩ := trodAll_cons r4
  obtain ⟨v6, vs6, d6, ds6, p6, q6, rfl, rfl, rfl, h6, r6⟩ := trodAll_cons r5
  obtain ⟨rfl, rfl, rfl⟩ := trodAll_nil r6
  obtain rfl : args = #[v0, v1, v2, v3, v4, v5, v6] := by cases args; simp_all
  obtain ⟨rfl, rfl⟩ := trodVars_none hV
  obtain ⟨c0_0, c0_1, c0_2, c0_3, y0_0, y0_1, y0_2, y0_3, m0, rfl, rfl, rfl, k0_0, k0_1, k0_2, k0_3⟩ := open_agg4 Try.underlying23 (by kernel_rfl) (by kernel_rfl) (hval 0 23 v0 rfl rfl) h0
  obtain ⟨a0_0, ea0_0, rfl, wa0_0⟩ := DataW.trod_int Try.underlying2 k0_0
  simp at ea0_0; subst ea0_0
  obtain ⟨a0_1, ea0_1, rfl, wa0_1⟩ := DataW.trod_int Try.underlying2 k0_1
  simp at ea0_1; subst ea0_1
  obtain ⟨a0_2, ea0_2, rfl, wa0_2⟩ := DataW.trod_int Try.underlying2 k0_2
  simp at ea0_2; subst ea0_2
  obtain ⟨a0_3, ea0_3, rfl, wa0_3⟩ := DataW.trod_int Try.underlying2 k0_3
  simp at ea0_3; subst ea0_3
  obtain ⟨c1_0, c1_1, c1_2, c1_3, y1_0, y1_1, y1_2, y1_3, m1, rfl, rfl, rfl, k1_0, k1_1, k1_2, k1_3⟩ := open_agg4 Try.underlying23 (by kernel_rfl) (by kernel_rfl) (hval 1 23 v1 rfl rfl) h1
  obtain ⟨a1_0, ea1_0, rfl, wa1_0⟩ := DataW.trod_int Try.underlying2 k1_0
  simp at ea1_0; subst ea1_0
  obtain ⟨a1_1, ea1_1, rfl, wa1_1⟩ := DataW.trod_int Try.underlying2 k1_1
  simp at ea1_1; subst ea1_1
  obtain ⟨a1_2, ea1_2, rfl, wa1_2⟩ := DataW.trod_int Try.underlying2 k1_2
  simp at ea1_2; subst ea1_2
  obtain ⟨a1_3, ea1_3, rfl, wa1_3⟩ := DataW.trod_int Try.underlying2 k1_3
  simp at ea1_3; subst ea1_3
  obtain ⟨c2_0, c2_1, c2_2, c2_3, y2_0, y2_1, y2_2, y2_3, m2, rfl, rfl, rfl, k2_0, k2_1, k2_2, k2_3⟩ := open_agg4 Try.underlying23 (by kernel_rfl) (by kernel_rfl) (hval 2 23 v2 rfl rfl) h2
  obtain ⟨a2_0, ea2_0, rfl, wa2_0⟩ := DataW.trod_int Try.underlying2 k2_0
  simp at ea2_0; subst ea2_0
  obtain ⟨a2_1, ea2_1, rfl, wa2_1⟩ := DataW.trod_int Try.underlying2 k2_1
  simp at ea2_1; subst ea2_1
  obtain ⟨a2_2, ea2_2, rfl, wa2_2⟩ := DataW.trod_int Try.underlying2 k2_2
  simp at ea2_2; subst ea2_2
  obtain ⟨a2_3, ea2_3, rfl, wa2_3⟩ := DataW.trod_int Try.underlying2 k2_3
  simp at ea2_3; subst ea2_3
  obtain ⟨c3_0, c3_1, y3_0, y3_1, m3, rfl, rfl, rfl, k3_0, k3_1⟩ := open_agg2 Try.underlying26 (by kernel_rfl) (by kernel_rfl) (hval 3 26 v3 rfl rfl) h3
  obtain ⟨a3_0, ea3_0, rfl, wa3_0⟩ := DataW.trod_int Try.underlying2 k3_0
  simp at ea3_0; subst ea3_0
  obtain ⟨a3_1, ea3_1, rfl, wa3_1⟩ := DataW.trod_int Try.underlying2 k3_1
  simp at ea3_1; subst ea3_1
  obtain ⟨c4_0, c4_1, y4_0, y4_1, m4, rfl, rfl, rfl, k4_0, k4_1⟩ := open_agg2 Try.underlying26 (by kernel_rfl) (by kernel_rfl) (hval 4 26 v4 rfl rfl) h4
  obtain ⟨a4_0, ea4_0, rfl, wa4_0⟩ := DataW.trod_int Try.underlying2 k4_0
  simp at ea4_0; subst ea4_0
  obtain ⟨a4_1, ea4_1, rfl, wa4_1⟩ := DataW.trod_int Try.underlying2 k4_1
  simp at ea4_1; subst ea4_1
  obtain ⟨c5_0, c5_1, y5_0, y5_1, m5, rfl, rfl, rfl, k5_0, k5_1⟩ := open_agg2 Try.underlying26 (by kernel_rfl) (by kernel_rfl) (hval 5 26 v5 rfl rfl) h5
  obtain ⟨a5_0, ea5_0, rfl, wa5_0⟩ := DataW.trod_int Try.underlying2 k5_0
  simp at ea5_0; subst ea5_0
  obtain ⟨a5_1, ea5_1, rfl, wa5_1⟩ := DataW.trod_int Try.underlying2 k5_1
  simp at ea5_1; subst ea5_1
  obtain ⟨a6, rfl, rfl, rfl⟩ := open_bool Try.underlying4 (hval 6 4 v6 rfl rfl) h6
  have s0 : ∀ (W' : World) (sp : Nat → Bool), DataW.Trod enc Try.prog W' 0 sp true 23 (.agg #[.int .i64 a0_0, .int .i64 a0_1, .int .i64 a0_2, .int .i64 a0_3]) (.agg [.lit (.int .i64 a0_0), .lit (.int .i64 a0_1), .lit (.int .i64 a0_2), .lit (.int .i64 a0_3)]) [] := fun W' sp =>
    shut_agg4 (y0 := (.lit (.int .i64 a0_0), [])) (y1 := (.lit (.int .i64 a0_1), [])) (y2 := (.lit (.int .i64 a0_2), [])) (y3 := (.lit (.int .i64 a0_3), [])) Try.underlying23 (by kernel_rfl) (by kernel_rfl) ⟨1, by simp [DataW.trod, Try.underlying2, wa0_0]⟩ ⟨1, by simp [DataW.trod, Try.underlying2, wa0_1]⟩ ⟨1, by simp [DataW.trod, Try.underlying2, wa0_2]⟩ ⟨1, by simp [DataW.trod, Try.underlying2, wa0_3]⟩
  have s1 : ∀ (W' : World) (sp : Nat → Bool), DataW.Trod enc Try.prog W' 0 sp true 23 (.agg #[.int .i64 a1_0, .int .i64 a1_1, .int .i64 a1_2, .int .i64 a1_3]) (.agg [.lit (.int .i64 a1_0), .lit (.int .i64 a1_1), .lit (.int .i64 a1_2), .lit (.int .i64 a1_3)]) [] := fun W' sp =>
    shut_agg4 (y0 := (.lit (.int .i64 a1_0), [])) (y1 := (.lit (.int .i64 a1_1), [])) (y2 := (.lit (.int .i64 a1_2), [])) (y3 := (.lit (.int .i64 a1_3), [])) Try.underlying23 (by kernel_rfl) (by kernel_rfl) ⟨1, by simp [DataW.trod, Try.underlying2, wa1_0]⟩ ⟨1, by simp [DataW.trod, Try.underlying2, wa1_1]⟩ ⟨1, by simp [DataW.trod, Try.underlying2, wa1_2]⟩ ⟨1, by simp [DataW.trod, Try.underlying2, wa1_3]⟩
  have s2 : ∀ (W' : World) (sp : Nat → Bool), DataW.Trod enc Try.prog W' 0 sp true 23 (.agg #[.int .i64 a2_0, .int .i64 a2_1, .int .i64 a2_2, .int .i64 a2_3]) (.agg [.lit (.int .i64 a2_0), .lit (.int .i64 a2_1), .lit (.int .i64 a2_2), .lit (.int .i64 a2_3)]) [] := fun W' sp =>
    shut_agg4 (y0 := (.lit (.int .i64 a2_0), [])) (y1 := (.lit (.int .i64 a2_1), [])) (y2 := (.lit (.int .i64 a2_2), [])) (y3 := (.lit (.int .i64 a2_3), [])) Try.underlying23 (by kernel_rfl) (by kernel_rfl) ⟨1, by simp [DataW.trod, Try.underlying2, wa2_0]⟩ ⟨1, by simp [DataW.trod, Try.underlying2, wa2_1]⟩ ⟨1, by simp [DataW.trod, Try.underlying2, wa2_2]⟩ ⟨1, by simp [DataW.trod, Try.underlying2, wa2_3]⟩
  have s3 : ∀ (W' : World) (sp : Nat → Bool), DataW.Trod enc Try.prog W' 0 sp true 26 (.agg #[.int .i64 a3_0, .int .i64 a3_1]) (.agg [.lit (.int .i64 a3_0), .lit (.int .i64 a3_1)]) [] := fun W' sp =>
    shut_agg2 (y0 := (.lit (.int .i64 a3_0), [])) (y1 := (.lit (.int .i64 a3_1), [])) Try.underlying26 (by kernel_rfl) (by kernel_rfl) ⟨1, by simp [DataW.trod, Try.underlying2, wa3_0]⟩ ⟨1, by simp [DataW.trod, Try.underlying2, wa3_1]⟩
  have s4 : ∀ (W' : World) (sp : Nat → Bool), DataW.Trod enc Try.prog W' 0 sp true 26 (.agg #[.int .i64 a4_0, .int .i64 a4_1]) (.agg [.lit (.int .i64 a4_0), .lit (.int .i64 a4_1)]) [] := fun W' sp =>
    shut_agg2 (y0 := (.lit (.int .i64 a4_0), [])) (y1 := (.lit (.int .i64 a4_1), [])) Try.underlying26 (by kernel_rfl) (by kernel_rfl) ⟨1, by simp [DataW.trod, Try.underlying2, wa4_0]⟩ ⟨1, by simp [DataW.trod, Try.underlying2, wa4_1]⟩
  have s5 : ∀ (W' : World) (sp : Nat → Bool), DataW.Trod enc Try.prog W' 0 sp true 26 (.agg #[.int .i64 a5_0, .int .i64 a5_1]) (.agg [.lit (.int .i64 a5_0), .lit (.int .i64 a5_1)]) [] := fun W' sp =>
    shut_agg2 (y0 := (.lit (.int .i64 a5_0), [])) (y1 := (.lit (.int .i64 a5_1), [])) Try.underlying26 (by kernel_rfl) (by kernel_rfl) ⟨1, by simp [DataW.trod, Try.underlying2, wa5_0]⟩ ⟨1, by simp [DataW.trod, Try.underlying2, wa5_1]⟩
  clear hA0 hval0
  simp only [List.append_nil] at hW'
  refine (walk a0_0 a0_1 a0_2 a0_3 a1_0 a1_1 a1_2 a1_3 a2_0 a2_1 a2_2 a2_3 a3_0 a3_1 a4_0 a4_1 a5_0 a5_1 a6 (bounds_i64 wa0_0).1 (bounds_i64 wa0_0).2 (bounds_i64 wa0_1).1 (bounds_i64 wa0_1).2 (bounds_i64 wa0_2).1 (bounds_i64 wa0_2).2 (bounds_i64 wa0_3).1 (bounds_i64 wa0_3).2 (bounds_i64 wa1_0).1 (bounds_i64 wa1_0).2 (bounds_i64 wa1_1).1 (bounds_i64 wa1_1).2 (bounds_i64 wa1_2).1 (bounds_i64 wa1_2).2 (bounds_i64 wa1_3).1 (bounds_i64 wa1_3).2 (bounds_i64 wa2_0).1 (bounds_i64 wa2_0).2 (bounds_i64 wa2_1).1 (bounds_i64 wa2_1).2 (bounds_i64 wa2_2).1 (bounds_i64 wa2_2).2 (bounds_i64 wa2_3).1 (bounds_i64 wa2_3).2 (bounds_i64 wa3_0).1 (bounds_i64 wa3_0).2 (bounds_i64 wa3_1).1 (bounds_i64 wa3_1).2 (bounds_i64 wa4_0).1 (bounds_i64 wa4_0).2 (bounds_i64 wa4_1).1 (bounds_i64 wa4_1).2 (bounds_i64 wa5_0).1 (bounds_i64 wa5_0).2 (bounds_i64 wa5_1).1 (bounds_i64 wa5_1).2 W).mono fun e W' ⟨he, bel⟩ => ?_
  subst he
  exact ⟨_, rfl, _, _, _, [], _, [], hW', trodAll_mk1 (shut_bool Try.underlying4 _), (trodAll_cons_mk (s0 _ _) (trodAll_cons_mk (s1 _ _) (trodAll_cons_mk (s2 _ _) (trodAll_cons_mk (s3 _ _) (trodAll_cons_mk (s4 _ _) (trodAll_cons_mk (s5 _ _) (trodAll_cons_mk (shut_bool Try.underlying4 a6) trodAll_mk0))))))), rfl, bel.frame _, fun h => by cases h⟩
theorem over : Rows.boxTellsRow.holds Try.pinned (OpenSpec.ofChange Rows.boxTellsSpec) :=
  OpenClaim.holds_of_wide 5 Try.f5 rfl rfl rfl rfl rfl rfl rfl ⟨rfl, rfl, rfl, rfl, rfl⟩ rfl rfl rfl rfl rfl (by kernel_rfl) Try.func5 (by kernel_rfl)
    (of_decide_eq_true (by kernel_rfl)) (by unfold Func.isWrapper; first | (rw [if_pos (by decide +kernel)]; kernel_rfl) | (rw [if_neg (by decide +kernel)]; exact ⟨rfl, rfl⟩))
    (fun os started H enc _ => lifted os started H enc)
theorem proved : Rows.BoxTellsSaid := over
#print axioms proved
end Go.Proofs.Ytimoekgnockhdaa.boxTells
