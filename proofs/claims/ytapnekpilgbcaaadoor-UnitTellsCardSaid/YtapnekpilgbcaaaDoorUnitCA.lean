/- Contract of package unit's Coord, for every string and format. -/
import Derived.Test.YtapnekpilgbcaaaDoorUnitC
namespace Go.Proofs.YtapnekpilgbcaaaDoor
open Go.RowKit

theorem coord_any (l : List UInt8) (u a d : Int) (t : Bool) (hl : l.length ≤ 1000) (w : World) :
    Calls Tryd.prog 10 #[.string ⟨l.toArray⟩, fmtV u a d t] w fun e w' => e = .returned (.tuple #[.int .i64 ((coordO l u a d t).getD 0), .bool (coordO l u a d t).isSome]) ∧ Below w.heap.size w w' := by
  cases hf : fmtB u a d with
  | false =>
    rw [coord_none (fun h => by rw [hf] at h; simp at h)]
    exact coord_bad l u a d t hl hf w
  | true =>
    obtain ⟨hu, A, D, rfl, rfl, ha, hd, h0⟩ := fmt_form hf
    have hn : ((A : Int) + (D : Int)).toNat = A + D := by omega
    cases hr : unsign l with
    | nil =>
      rw [coord_none (fun h => by rw [hr] at h; exact h.2.1 rfl)]
      exact coord_empty l u A D t hl hf hr w
    | cons c q =>
      by_cases hlen : q.length + 1 ≤ A + D
      · have hlen' : (unsign l).length ≤ A + D := by rw [hr]; simpa using hlen
        have hp := parse_word t (show unsign l ≠ [] by rw [hr]; simp) hlen' ha hd
        have hX := fill_len hlen' t
        rw [hr] at hp hX
        refine coord_core l _ q _ _ _ _ _ _ c u A D t _ _ hl hf ha hd hlen rfl hr rfl hX rfl rfl rfl rfl rfl hp ?_ w
        by_cases hg : (c :: q).all dig = true
        · rw [if_pos hg, coord_some ⟨hf, by rw [hr]; simp, by rw [hn]; exact hlen', by rw [hr]; exact hg⟩, hr]
          rfl
        · rw [if_neg hg, coord_none (fun h => by rw [hr] at h; exact hg h.2.2.2)]
          rfl
      · rw [coord_none (fun h => by rw [hr, hn] at h; have := h.2.2.1; simp at this; omega)]
        exact coord_long l q c u A D t hl hf ha hd hr (by omega) w
end Go.Proofs.YtapnekpilgbcaaaDoor
