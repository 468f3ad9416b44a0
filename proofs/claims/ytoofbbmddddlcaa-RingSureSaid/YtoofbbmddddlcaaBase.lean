/- What every later text uses: how the world stands behind calls and allocations, strings as lists of bytes, results. No program in it. -/
import Derived.Below
import Derived.WalkKit
import Derived.WalkSpells
import Derived.WalkLawsBesides
import Derived.Lib.Hide
namespace Go.Proofs.Ytoofbbmddddlcaa
open Go.RowKit

theorem bel_trans {a b c : World} (h : Below a.heap.size a b) (k : Below b.heap.size b c) : Below a.heap.size a c := h.trans (k.mono h.size)
theorem bel_alloc {a b : World} (h : Below a.heap.size a b) (o : Obj) : Below a.heap.size a (b.alloc o) := h.alloc h.size o
theorem bel_refl (a : World) : Below a.heap.size a a := Below.refl _ _
theorem bel_drewN (a : World) (n : Nat) : Below a.heap.size a (a.drewN n) := by
  have h := Below.refl a.heap.size a
  exact ⟨h.os, h.tape, h.output, h.size, h.block⟩
theorem byteAt (l : List UInt8) (k : Nat) (h : k < l.length) : (({ data := l.toArray } : ByteArray)[k]'(by show k < l.toArray.size; simpa using h)) = l[k] := rfl
theorem cut_front (l : List UInt8) (k : Nat) (_h : k ≤ l.length) : ({ data := l.toArray } : ByteArray).extract 0 k = ⟨(l.take k).toArray⟩ := by
  apply ByteArray.ext; simp
theorem cut_back (l : List UInt8) (k : Nat) (_h : k ≤ l.length) : ({ data := l.toArray } : ByteArray).extract k l.length = ⟨(l.drop k).toArray⟩ := by
  apply ByteArray.ext; simp; exact List.take_of_length_le (by simp)
theorem ret_tup2 {a b c d : Value} (h : a = c) (k : b = d) : Ending.returned (.tuple #[a, b]) = .returned (.tuple #[c, d]) := by rw [h, k]
theorem ret_int {k : IntKind} {a b : Int} (h : a = b) : Ending.returned (.int k a) = .returned (.int k b) := by rw [h]
theorem bcell {W w1 : World} (hb : Below W.heap.size W w1) : (∀ b o, b < W.heap.size → w1.cell? ⟨b, o, none⟩ = W.cell? ⟨b, o, none⟩) ∧ (∀ b o, b < W.heap.size → w1.frozen? ⟨b, o, none⟩ = W.frozen? ⟨b, o, none⟩) :=
  ⟨fun b o h => hb.cell (p := ⟨b, o, none⟩) h, fun b o h => hb.frozen (p := ⟨b, o, none⟩) h⟩
theorem bel_size {a b : World} (h : Below a.heap.size a b) : a.heap.size ≤ b.heap.size := h.size
/-- What a call that follows an allocation leaves of sizes. -/
theorem bel_more {a b : World} {o : Obj} (h : Below (a.alloc o).heap.size (a.alloc o) b) : a.heap.size < b.heap.size := by have := h.size; simp at this; omega
theorem retTwo {a b c d : Int} {k : IntKind} (h1 : a = c) (h2 : b = d) : Ending.returned (.tuple #[.int k a, .int k b]) = .returned (.tuple #[.int k c, .int k d]) := by rw [h1, h2]
theorem retOne {a c : Int} {k : IntKind} (h1 : a = c) : Ending.returned (.int k a) = .returned (.int k c) := by rw [h1]
theorem str_size (l : List UInt8) : ({ data := l.toArray } : ByteArray).size = l.length := by show l.toArray.size = _; simp
theorem str_app (a b : List UInt8) : (({ data := a.toArray } : ByteArray) ++ ({ data := b.toArray } : ByteArray)) = ⟨(a ++ b).toArray⟩ := by
  apply ByteArray.ext; simp
theorem str_app3 (a b c : List UInt8) : (({ data := a.toArray } : ByteArray) ++ ({ data := b.toArray } : ByteArray)) ++ ({ data := c.toArray } : ByteArray) = ⟨(a ++ b ++ c).toArray⟩ := by
  rw [str_app, str_app]
theorem str_app4 (a b c d : List UInt8) : (({ data := a.toArray } : ByteArray) ++ ({ data := b.toArray } : ByteArray)) ++ ({ data := c.toArray } : ByteArray) ++ ({ data := d.toArray } : ByteArray) = ⟨(a ++ b ++ c ++ d).toArray⟩ := by
  rw [str_app, str_app, str_app]
theorem cut_mid (l : List UInt8) (k a : Nat) : ({ data := l.toArray } : ByteArray).extract k (k + a) = ⟨((l.drop k).take a).toArray⟩ := by
  apply ByteArray.ext; simp [List.extract_eq_take_drop]
theorem nil_or_snoc (c : List UInt8) : c = [] ∨ ∃ i x, c = i ++ [x] := by
  rcases List.eq_nil_or_concat c with h | ⟨i, x, h⟩
  · exact .inl h
  · exact .inr ⟨i, x, by simpa using h⟩
/-- The case of a string's first byte. -/
theorem first_byte (l : List UInt8) : l = [] ∨ ∃ c r, l = c :: r := by
  cases l with
  | nil => exact .inl rfl
  | cons c r => exact .inr ⟨c, r, rfl⟩
end Go.Proofs.Ytoofbbmddddlcaa
