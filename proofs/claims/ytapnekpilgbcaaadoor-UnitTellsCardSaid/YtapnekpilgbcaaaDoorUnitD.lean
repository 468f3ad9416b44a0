/- Contract of package unit's write. -/
import Derived.Test.YtapnekpilgbcaaaDoorUnitW
import Derived.Deep.OwnRows
namespace Go.Proofs.YtapnekpilgbcaaaDoor
open Go.RowKit

theorem made_bytes (c : Nat) : madeCells #[.int .u8 0] c = cellsB (List.replicate c 0) := by
  unfold madeCells cellsB
  apply Array.ext_getElem?
  intro j
  by_cases h : j < c
  · simp [h, Nat.mod_one]
  · simp [h]
/-- The state of digits that are written from their end: k bytes are free. -/
def Written (n c k m : Nat) (L : List UInt8) : Prop := k ≤ c ∧ m = n / 10 ^ (c - k) ∧ L = List.replicate k 0 ++ pad (c - k) n
theorem written0 (n c : Nat) : Written n c c n (List.replicate c 0) := ⟨Nat.le_refl _, by simp, by simp [pad]⟩
theorem written_step {n c i m : Nat} {L : List UInt8} (h : Written n c (i + 1) m L) : Written n c i (m / 10) (L.set i (d8 m)) := by
  obtain ⟨h6, h2, h3⟩ := h
  have e : c - i = c - (i + 1) + 1 := by omega
  refine ⟨by omega, ?_, ?_⟩
  · rw [h2, e, div_pow_succ]
  · rw [h3, e, pad, ← h2, List.replicate_succ', List.append_assoc, List.set_append_right _ _ (by simp)]
    simp
theorem written_end {n c m : Nat} {L : List UInt8} (h : Written n c 0 m L) : L = pad c n ∧ (m = 0 ↔ n < 10 ^ c) := by
  obtain ⟨_, h2, h3⟩ := h
  refine ⟨by rw [h3]; simp, ?_⟩
  rw [h2, Nat.sub_zero]
  have p : 0 < 10 ^ c := Nat.pow_pos (by omega)
  constructor
  · intro z
    rcases Nat.div_eq_zero_iff.1 z with e | e <;> omega
  · intro z; exact Nat.div_eq_of_lt z
theorem all_at {L : List UInt8} (i : Nat) (h : i < L.length) : (cellsB L)[i]? = some (.int .u8 ((L.getD i 0).toNat : Int)) := by
  rw [cellsB_at h]
  simp [List.getD, List.getElem?_eq_getElem h]

set_option maxHeartbeats 400000 in
theorem write_any (n c : Nat) (hn : n ≤ 9223372036854775807) (hc : c ≤ 12) (w : World) :
    Calls Tryd.prog 20 #[.int .i64 n, .int .i64 c] w fun e w' => e = .returned (.tuple #[.string ⟨(pad c n).toArray⟩, .bool (decide (n < 10 ^ c))]) ∧ Below w.heap.size w w' := by
  have hmk := run_make_row' (P := Tryd.prog) 48 5 (.int .u8 0) 1 Tryd.underlying48 (by kernel_rfl) rfl .i64 .i64 c (by omega) (by omega)
  rw [made_bytes] at hmk
  generalize hL0 : List.replicate c (0 : UInt8) = L0 at hmk
  have lL0 : L0.length ≤ c ∧ c ≤ L0.length := by rw [← hL0]; simp
  have h0 : Written n c c n L0 := by rw [← hL0]; exact written0 n c
  have HW := Lib.hid h0
  clear hL0 h0
  go_enter Tryd.func20, Tryd.ntmps20
  go_wp2
  clear hmk
  go_loopw [0, 7] (fun x s wr => ∃ (k m : Nat) (i : Int) (L : List UInt8), k ≤ 12 ∧ m ≤ 9223372036854775807 ∧ (i + 1 ≤ k ∧ k ≤ i + 1) ∧ c ≤ L.length ∧ L.length ≤ c ∧ x = .int .i64 m ∧ s = .int .i64 i ∧ wr = w.alloc (.cells (cellsB L) 5) ∧ Hid (Written n c k m L)) (fun _ s _ => (intOf s + 1).toNat)
  case atStart => exact ⟨c, n, (c : Int) - 1, L0, by omega, hn, by omega, lL0.2, lL0.1, rfl, rfl, rfl, HW⟩
  case round =>
    obtain ⟨k, m, i, L, hk, hm, hi, hL1, hL2, rfl, rfl, rfl, hW⟩ := hrel
    by_cases hg : 0 ≤ i
    · obtain ⟨j, rfl⟩ := Int.eq_ofNat_of_zero_le hg
      obtain rfl : k = j + 1 := by omega
      have hjc : j < c := by have := hW.out.1; omega
      have hcell := cellsB_at (l := L) (i := j) (by omega)
      have hfin := Lib.hid (written_step hW.out)
      have hcd := Lib.hid (digit_cell m)
      have hset := Lib.hid (cellsB_set L j (d8 m))
      clear hW
      go_wp2
      refine ⟨⟨j, m / 10, (j : Int) - 1, L.set j (d8 m), by omega, by omega, by omega, by simpa using hL1, by simpa using hL2, by go_num, by go_num, by rw [hcd.out, hset.out], hfin⟩, by simp [intOf]⟩
    · obtain rfl : k = 0 := by omega
      obtain rfl : i = -1 := by omega
      have hcv := to_string w.heap.size 0 c c L (by omega) (w.alloc (.cells (cellsB L) 5)) (fun i hi => by
        rw [World.cell?_alloc_at _ _ _ _ rfl, Nat.zero_add]; exact all_at i (by omega))
      have hend := written_end hW.out
      have hfin := Lib.hid hend.1
      by_cases hz : m = 0
      · have hd := Lib.hid (show decide (n < 10 ^ c) = true from decide_eq_true (hend.2.1 hz))
        have hzb : ((m : Int) == 0) = true := by simp [hz]
        clear hW hg hend hz
        go_wp2
        go_ret2
        exact ⟨by rw [hd.out, ← hfin.out]; rfl, bel_alloc (bel_refl w) _⟩
      · have hd := Lib.hid (show decide (n < 10 ^ c) = false from decide_eq_false (fun h => hz (hend.2.2 h)))
        have hzb : ((m : Int) == 0) = false := by simp [hz]
        clear hW hg hend hz
        go_wp2
        go_ret2
        exact ⟨by rw [hd.out, ← hfin.out]; rfl, bel_alloc (bel_refl w) _⟩
end Go.Proofs.YtapnekpilgbcaaaDoor
