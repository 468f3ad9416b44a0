/- A slice of slices of points that came in: opened to a list of lists of pairs of numbers; how it stands behind calls. No program in it. -/
import Derived.Test.YtcpnfafhekgabaaContour
import Derived.Deep.Slices
import Derived.Deep.Fields
import Derived.ChangeSame
import Derived.OpenShut
import Derived.ChangeOld
namespace Go.Proofs.Ytcpnfafhekgabaa
open Go.RowKit Go.ChangeShapes Go.WideShapes Go.Deep

/-- A slice value that reads as a list of points, in blocks below B. -/
def PtsAt (w : World) (B : Nat) (v : Value) (c : List P2) : Prop :=
  ∃ (A : Option Addr) (cap : Nat), v = .slice A c.length cap ∧ (0 < c.length → ∃ a, A = some a ∧ a.block < B ∧ ∀ k p, c[k]? = some p → w.cell? (a.add (k * 2)) = some (.int .i64 p.1) ∧ w.cell? (a.add (k * 2 + 1)) = some (.int .i64 p.2))
/-- A slice value that reads as a list of lists of points. -/
def RowsAt (w : World) (B : Nat) (v : Value) (L : List (List P2)) : Prop :=
  ∃ (A : Option Addr) (cap : Nat), v = .slice A L.length cap ∧ (0 < L.length → ∃ a, A = some a ∧ a.block < B ∧ ∀ r c, L[r]? = some c → ∃ u, w.cell? (a.add r) = some u ∧ PtsAt w B u c)
theorem block_of_add (a : Addr) (n : Nat) : (a.add n).block = a.block := by unfold Addr.add; split <;> rfl
theorem PtsAt.later {w w1 : World} {B : Nat} {v : Value} {c : List P2} (h : PtsAt w B v c) (k : Below B w w1) : PtsAt w1 B v c := by
  obtain ⟨A, cap, e, f⟩ := h
  refine ⟨A, cap, e, fun hl => ?_⟩
  obtain ⟨a, e1, hb, hc⟩ := f hl
  refine ⟨a, e1, hb, fun i p hp => ?_⟩
  have := hc i p hp
  exact ⟨(k.cell (by rw [block_of_add]; exact hb)).trans this.1, (k.cell (by rw [block_of_add]; exact hb)).trans this.2⟩
theorem RowsAt.later {w w1 : World} {B : Nat} {v : Value} {L : List (List P2)} (h : RowsAt w B v L) (k : Below B w w1) : RowsAt w1 B v L := by
  obtain ⟨A, cap, e, f⟩ := h
  refine ⟨A, cap, e, fun hl => ?_⟩
  obtain ⟨a, e1, hb, hc⟩ := f hl
  refine ⟨a, e1, hb, fun i p hp => ?_⟩
  obtain ⟨u, h1, h2⟩ := hc i p hp
  exact ⟨u, (k.cell (by rw [block_of_add]; exact hb)).trans h1, h2.later k⟩
theorem PtsAt.more {w : World} {B B' : Nat} {v : Value} {c : List P2} (h : PtsAt w B v c) (k : B ≤ B') : PtsAt w B' v c := by
  obtain ⟨A, cap, e, f⟩ := h
  refine ⟨A, cap, e, fun hl => ?_⟩
  obtain ⟨a, e1, hb, hc⟩ := f hl
  exact ⟨a, e1, by omega, hc⟩
theorem RowsAt.more {w : World} {B B' : Nat} {v : Value} {L : List (List P2)} (h : RowsAt w B v L) (k : B ≤ B') : RowsAt w B' v L := by
  obtain ⟨A, cap, e, f⟩ := h
  refine ⟨A, cap, e, fun hl => ?_⟩
  obtain ⟨a, e1, hb, hc⟩ := f hl
  exact ⟨a, e1, by omega, fun i p hp => let ⟨u, h1, h2⟩ := hc i p hp; ⟨u, h1, h2.more k⟩⟩

section
variable {H : Type} {enc : TypeId × Value → H} {P : Program} {w : World} {base : Nat} {held : Bool}
theorem open_pts {t e : TypeId} {f0 f1 : Field} {fuel : Nat} {v : Value} {x : DataW H × List MemPlace} (ht : P.underlying t = some (.slice e)) (he : P.underlying e = some (.struct #[f0, f1]))
    (hone : oneCellFields P #[f0, f1] = true) (hC : P.cellsOf e = 2) (g0 : P.underlying f0.type = some (.int .i64)) (g1 : P.underlying f1.type = some (.int .i64))
    (hlt : ∀ p ∈ x.2, p.block < w.heap.size) (h : DataW.trod enc P w base (fun _ => true) held fuel t [v] = some x) :
    ∃ c : List P2, PtsAt w w.heap.size v c ∧ ∀ p ∈ c, (-9223372036854775808 ≤ p.1 ∧ p.1 ≤ 9223372036854775807) ∧ (-9223372036854775808 ≤ p.2 ∧ p.2 ≤ 9223372036854775807) := by
  rcases open_slice ht h with ⟨h0, rfl⟩ | ⟨a, len, cap, m, n, D, Pl, hcs, hb, hl, hm, hmm, hx, hi⟩
  · obtain rfl : v = .slice none 0 0 := by simpa using h0
    exact ⟨[], ⟨none, 0, rfl, fun hl => absurd hl (by simp)⟩, by simp⟩
  obtain rfl : v = .slice (some a) len cap := by simpa using hcs
  simp only [if_true] at hmm
  rw [hC] at hi
  have each : ∀ i, i < len → ∃ p : P2, (w.cell? (a.add (i * 2)) = some (.int .i64 p.1) ∧ w.cell? (a.add (i * 2 + 1)) = some (.int .i64 p.2)) ∧ (-9223372036854775808 ≤ p.1 ∧ p.1 ≤ 9223372036854775807) ∧ (-9223372036854775808 ≤ p.2 ∧ p.2 ≤ 9223372036854775807) := by
    intro i hil
    obtain ⟨cs', hc, ht'⟩ := hi i (by omega)
    obtain ⟨ys, n', hn', hy, hlen, hyl, hf⟩ := DataW.trod_struct he ht'
    obtain ⟨_, hcl, hat⟩ := World.cells?_some hc
    match cs', hcl with
    | [c0, c1], _ =>
      match ys, hyl with
      | [y0, y1], _ =>
        obtain ⟨o0, k0⟩ := hone_of hone 0 f0 rfl
        obtain ⟨o1, k1⟩ := hone_of hone 1 f1 rfl
        have z0 := hf 0 f0 rfl
        have z1 := hf 1 f1 rfl
        rw [o0, k0] at z0
        rw [o1, k1] at z1
        simp only [List.drop_zero, List.drop_succ_cons, List.take_succ_cons, List.take_zero, List.getElem?_cons_zero, List.getElem?_cons_succ] at z0 z1
        obtain ⟨n0, e0, _, w0⟩ := DataW.trod_int g0 z0
        obtain ⟨n1, e1, _, w1⟩ := DataW.trod_int g1 z1
        simp only [List.cons.injEq, and_true] at e0 e1
        subst e0
        subst e1
        have a0 := hat 0 (by omega)
        have a1 := hat 1 (by omega)
        rw [Go.Deep.add_add] at a0 a1
        exact ⟨(n0, n1), ⟨by simpa using a0, by simpa using a1⟩, bounds_i64 w0, bounds_i64 w1⟩
  obtain ⟨f, hf⟩ := choose_lt each
  refine ⟨(List.range len).map f, ⟨some a, cap, by simp, fun hl0 => ?_⟩, fun p hp => ?_⟩
  · rw [List.length_map, List.length_range] at hl0
    refine ⟨a, rfl, ?_, fun k p hk => ?_⟩
    · have := (hf 0 hl0).1.1
      have := block_lt_of_cell this
      rwa [block_of_add] at this
    · rw [List.getElem?_map] at hk
      obtain ⟨i, hi1, hi2⟩ := Option.map_eq_some_iff.1 hk
      have hkl : k < len := by
        rcases Nat.lt_or_ge k len with h | h
        · exact h
        · rw [List.getElem?_eq_none (by simpa using h)] at hi1; cases hi1
      rw [List.getElem?_range hkl] at hi1
      obtain rfl : k = i := by simpa using hi1
      subst hi2
      exact (hf k hkl).1
  · obtain ⟨i, hi1, rfl⟩ := List.mem_map.1 hp
    exact (hf i (by simpa using hi1)).2
theorem open_rows {t e q : TypeId} {f0 f1 : Field} {fuel : Nat} {v : Value} {x : DataW H × List MemPlace} (ht : P.underlying t = some (.slice e)) (he : P.underlying e = some (.slice q)) (hq : P.underlying q = some (.struct #[f0, f1]))
    (hone : oneCellFields P #[f0, f1] = true) (hC : P.cellsOf q = 2) (hE : P.cellsOf e = 1) (g0 : P.underlying f0.type = some (.int .i64)) (g1 : P.underlying f1.type = some (.int .i64))
    (h : DataW.trod enc P w base (fun _ => true) held fuel t [v] = some x) :
    ∃ L : List (List P2), RowsAt w w.heap.size v L ∧ ∀ c ∈ L, ∀ p ∈ c, (-9223372036854775808 ≤ p.1 ∧ p.1 ≤ 9223372036854775807) ∧ (-9223372036854775808 ≤ p.2 ∧ p.2 ≤ 9223372036854775807) := by
  rcases open_slice1 ht hE h with ⟨h0, rfl⟩ | ⟨a, len, cap, m, n, V, D, Pl, hcs, hb, hl, hm, hmm, hx, hi⟩
  · obtain rfl : v = .slice none 0 0 := by simpa using h0
    exact ⟨[], ⟨none, 0, rfl, fun hl => absurd hl (by simp)⟩, by simp⟩
  obtain rfl : v = .slice (some a) len cap := by simpa using hcs
  simp only [if_true] at hmm
  have each : ∀ i, i < len → ∃ c : List P2, (w.cell? (a.add i) = some (V i) ∧ PtsAt w w.heap.size (V i) c) ∧ ∀ p ∈ c, (-9223372036854775808 ≤ p.1 ∧ p.1 ≤ 9223372036854775807) ∧ (-9223372036854775808 ≤ p.2 ∧ p.2 ≤ 9223372036854775807) := by
    intro i hil
    obtain ⟨k1, k2⟩ := hi i (by omega)
    obtain ⟨c, h1, h2⟩ := open_pts he hq hone hC g0 g1 (fun p hp => DataW.trod_lt _ _ _ _ k2 p hp) k2
    exact ⟨c, ⟨k1, h1⟩, h2⟩
  obtain ⟨f, hf⟩ := choose_lt each
  refine ⟨(List.range len).map f, ⟨some a, cap, by simp, fun hl0 => ?_⟩, fun c hc => ?_⟩
  · rw [List.length_map, List.length_range] at hl0
    refine ⟨a, rfl, ?_, fun k c hk => ?_⟩
    · have := (hf 0 hl0).1.1
      have := block_lt_of_cell this
      rwa [block_of_add] at this
    · rw [List.getElem?_map] at hk
      obtain ⟨i, hi1, hi2⟩ := Option.map_eq_some_iff.1 hk
      have hkl : k < len := by
        rcases Nat.lt_or_ge k len with h | h
        · exact h
        · rw [List.getElem?_eq_none (by simpa using h)] at hi1; cases hi1
      rw [List.getElem?_range hkl] at hi1
      obtain rfl : k = i := by simpa using hi1
      subst hi2
      exact ⟨V k, (hf k hkl).1⟩
  · obtain ⟨i, hi1, rfl⟩ := List.mem_map.1 hc
    exact (hf i (by simpa using hi1)).2
end
end Go.Proofs.Ytcpnfafhekgabaa
