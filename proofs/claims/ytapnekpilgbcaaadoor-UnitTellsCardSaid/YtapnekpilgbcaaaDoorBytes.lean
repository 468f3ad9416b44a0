/- Bytes in an array of the call's own, and the string that they become. -/
import Derived.Test.YtapnekpilgbcaaaDoorProg
import Derived.Test.YtapnekpilgbcaaaDoorDeciText
import Derived.Test.YtapnekpilgbcaaaDoorBase
import Derived.Laws.BytesArg
import Derived.KernelRfl
namespace Go.Proofs.YtapnekpilgbcaaaDoor
open Go.RowKit

/-- The cells that hold bytes. -/
def cellsB (l : List UInt8) : Array Value := (l.map fun c => Value.int .u8 (c.toNat : Int)).toArray
theorem cellsB_set (l : List UInt8) (i : Nat) (c : UInt8) : (cellsB l).setIfInBounds i (.int .u8 (c.toNat : Int)) = cellsB (l.set i c) := by
  unfold cellsB
  apply Array.ext_getElem?
  intro j
  simp only [List.setIfInBounds_toArray, List.getElem?_toArray, List.getElem?_set, List.getElem?_map, List.length_map]
  split
  · split <;> rfl
  · rfl
theorem cellsB_at {l : List UInt8} {i : Nat} (h : i < l.length) : (cellsB l)[i]? = some (.int .u8 (l[i].toNat : Int)) := by
  unfold cellsB; simp [h]

theorem to_string (b off len cap : Nat) (xs : List UInt8) (hlen : xs.length = len) (W : World)
    (hcell : ∀ i, i < len → W.cell? ⟨b, off + i, none⟩ = some (.int .u8 ((xs.getD i 0).toNat : Int))) :
    (convert 48 9 (.slice (some ⟨b, off, none⟩) len cap)).run Tryd.prog W = .ok (.string ⟨xs.toArray⟩) W := by
  have h := run_convert_bytes_arg (P := Tryd.prog) W 48 5 (by kernel_rfl) (by kernel_rfl) b off len cap (xs.map fun c => (c.toNat : Int)) (by simpa using hlen) (fun i hi => by
    rw [hcell i hi]
    simp [List.getD, List.getElem?_map, show i < xs.length by omega]) 9 (by kernel_rfl)
  rw [h]
  congr 2
  unfold strOfNums
  congr 1
  congr 1
  rw [List.map_map]
  conv => rhs; rw [← List.map_id xs]
  apply List.map_congr_left
  intro c _
  simp
theorem digit_cell (m : Nat) : Value.int .u8 (48 + (m : Int) % 10) = Value.int .u8 ((d8 m).toNat : Int) := by rw [d8_nat]; congr 1
theorem drop_at {L : List UInt8} {k : Nat} (i : Nat) (h : k + i < L.length) : (cellsB L)[k + i]? = some (.int .u8 (((L.drop k).getD i 0).toNat : Int)) := by
  rw [cellsB_at h]
  simp [List.getD, List.getElem?_drop, List.getElem?_eq_getElem h]
theorem take_at {L : List UInt8} {k : Nat} (i : Nat) (hi : i < k) (h : i < L.length) : (cellsB L)[i]? = some (.int .u8 (((L.take k).getD i 0).toNat : Int)) := by
  rw [cellsB_at h]
  simp [List.getD, List.getElem?_take, hi, List.getElem?_eq_getElem h]
end Go.Proofs.YtapnekpilgbcaaaDoor
