/- The law package's own examples of layer 6 hold. -/
import Derived.Test.YtcpnfafhekgabaaPolyC
import Derived.Test.YtcpnfafhekgabaaOwnRows
namespace Go.Proofs.Ytcpnfafhekgabaa
open Go.RowKit

theorem polyHas_is {L : List (List P2)} (hF : Fine L) {x y : Int} {r : Bool} (h : hasE (edgesL L) (x, y) = r) (x0 : -536870912 ≤ x) (x1 : x ≤ 536870912) (y0 : -536870912 ≤ y) (y1 : y ≤ 536870912) {w : World} {v : Value} (hR : RowsAt w w.heap.size v L) :
    Calls Try.prog 12 #[ptV x y, v] w fun e w' => e = .returned (.bool r) ∧ Below w.heap.size w w' := h ▸ polyHas_at hF x0 x1 y0 y1 hR
def awakeL : List (List P2) := [[(0, 0), (8, 0), (8, 8), (0, 8)], [(2, 2), (4, 2), (4, 4), (2, 4)]]
theorem awakeF : Fine awakeL := fine_of (by decide) (by decide) (by decide)
theorem aw61 : clsE (edgesL awakeL) 5 5 6 6 = 2 := by decide
theorem aw62 : clsE (edgesL awakeL) 3 3 3 3 = 0 := by decide
theorem aw63 : clsE (edgesL awakeL) 0 0 9 9 = 1 := by decide
theorem aw64 : hasE (edgesL awakeL) (8, 3) = true := by decide
theorem aw65 : hasE (edgesL awakeL) (3, 3) = false := by decide
theorem aw66 : clsE (edgesL []) 0 0 0 0 = 0 := by decide

set_option maxRecDepth 100000 in
set_option maxHeartbeats 4000000 in
theorem awake_any (w : World) :
    Calls Try.prog 11 #[] w fun e w' => e = .returned (.bool true) ∧ Below w.heap.size w w' := by
  obtain ⟨W1, h1⟩ : ∃ W, w.alloc (.cells #[.int .i64 0, .int .i64 0, .int .i64 8, .int .i64 0, .int .i64 8, .int .i64 8, .int .i64 0, .int .i64 8] 23) = W := ⟨_, rfl⟩
  obtain ⟨W2, h2⟩ : ∃ W, W1.alloc (.cells #[.int .i64 2, .int .i64 2, .int .i64 4, .int .i64 2, .int .i64 4, .int .i64 4, .int .i64 2, .int .i64 4] 23) = W := ⟨_, rfl⟩
  obtain ⟨W3, h3⟩ : ∃ W, W2.alloc (.cells #[.slice (some ⟨w.heap.size, 0, none⟩) 4 4, .slice (some ⟨w.heap.size + 1, 0, none⟩) 4 4] 29) = W := ⟨_, rfl⟩
  have s1 : W1.heap.size = w.heap.size + 1 := by rw [← h1]; simp
  have s2 : W2.heap.size = w.heap.size + 1 + 1 := by rw [← h2]; simp [s1]
  have s3 : W3.heap.size = w.heap.size + 1 + 1 + 1 := by rw [← h3]; simp [s2]
  have g1 : W3.heap[w.heap.size]? = some (.cells #[.int .i64 0, .int .i64 0, .int .i64 8, .int .i64 0, .int .i64 8, .int .i64 8, .int .i64 0, .int .i64 8] 23 (0, 0)) := by
    rw [← h3, Below.heap_alloc _ _ _ (by omega), ← h2, Below.heap_alloc _ _ _ (by omega), ← h1]; exact heap_alloc_new w _
  have g2 : W3.heap[w.heap.size + 1]? = some (.cells #[.int .i64 2, .int .i64 2, .int .i64 4, .int .i64 2, .int .i64 4, .int .i64 4, .int .i64 2, .int .i64 4] 23 (0, 0)) := by
    rw [← h3, Below.heap_alloc _ _ _ (by omega), ← h2, ← s1]; exact heap_alloc_new W1 _
  have g3 : W3.heap[w.heap.size + 1 + 1]? = some (.cells #[.slice (some ⟨w.heap.size, 0, none⟩) 4 4, .slice (some ⟨w.heap.size + 1, 0, none⟩) 4 4] 29 (0, 0)) := by
    rw [← h3, ← s2]; exact heap_alloc_new W2 _
  have q1 : w.heap.size < W3.heap.size := by omega
  have q2 : w.heap.size + 1 < W3.heap.size := by omega
  have p1 : PtsAt W3 W3.heap.size (.slice (some ⟨w.heap.size, 0, none⟩) 4 4) [(0, 0), (8, 0), (8, 8), (0, 8)] := pts_block (c := [(0, 0), (8, 0), (8, 8), (0, 8)]) g1 rfl q1
  have p2 : PtsAt W3 W3.heap.size (.slice (some ⟨w.heap.size + 1, 0, none⟩) 4 4) [(2, 2), (4, 2), (4, 4), (2, 4)] := pts_block (c := [(2, 2), (4, 2), (4, 4), (2, 4)]) g2 rfl q2
  have R0 : RowsAt W3 W3.heap.size (.slice (some ⟨w.heap.size + 1 + 1, 0, none⟩) 2 2) awakeL := by
    refine rows_block (L := awakeL) g3 (fun r c hr => ?_) (by omega)
    match r, hr with
    | 0, hr =>
      obtain rfl : [(0, 0), (8, 0), (8, 8), (0, 8)] = c := by simpa [awakeL] using hr
      exact ⟨_, rfl, p1⟩
    | 1, hr =>
      obtain rfl : [(2, 2), (4, 2), (4, 4), (2, 4)] = c := by simpa [awakeL] using hr
      exact ⟨_, rfl, p2⟩
    | r + 2, hr => simp [awakeL] at hr
  have B0 : Below w.heap.size w W3 := by
    rw [← h3, ← h2, ← h1]; exact bel_alloc (bel_alloc (bel_alloc (bel_refl w) _) _) _
  have K1 := Lib.hid (class_is awakeF aw61 (by omega) (by omega) (by omega) (by omega) (by omega) (by omega) R0)
  have R0 := Lib.hid R0
  have B0 := Lib.hid B0
  clear g1 g2 g3 s1 s2 s3 q1 q2 p1 p2
  subst h1
  subst h2
  subst h3
  go_enter Try.func11, Try.ntmps11
  go_wp2_with fail
  refine K1.out.mono ?_; rintro e w1 ⟨rfl, z1⟩
  have R1 := Lib.hid ((R0.out.later z1).more z1.size)
  have B1 := Lib.hid (bel_trans B0.out z1)
  have K2 := Lib.hid (class_is awakeF aw62 (by omega) (by omega) (by omega) (by omega) (by omega) (by omega) R1.out)
  clear z1 R0 B0 K1
  go_wp2_with fail
  refine K2.out.mono ?_; rintro e w2 ⟨rfl, z2⟩
  have R2 := Lib.hid ((R1.out.later z2).more z2.size)
  have B2 := Lib.hid (bel_trans B1.out z2)
  have K3 := Lib.hid (class_is awakeF aw63 (by omega) (by omega) (by omega) (by omega) (by omega) (by omega) R2.out)
  clear z2 R1 B1 K2
  go_wp2_with fail
  refine K3.out.mono ?_; rintro e w3 ⟨rfl, z3⟩
  have R3 := Lib.hid ((R2.out.later z3).more z3.size)
  have B3 := Lib.hid (bel_trans B2.out z3)
  have K4 := Lib.hid (polyHas_is awakeF aw64 (by omega) (by omega) (by omega) (by omega) R3.out)
  clear z3 R2 B2 K3
  go_wp2_with fail
  refine K4.out.mono ?_; rintro e w4 ⟨rfl, z4⟩
  have R4 := Lib.hid ((R3.out.later z4).more z4.size)
  have B4 := Lib.hid (bel_trans B3.out z4)
  have K5 := Lib.hid (polyHas_is awakeF aw65 (by omega) (by omega) (by omega) (by omega) R4.out)
  clear z4 R3 B3 K4
  go_wp2_with fail
  refine K5.out.mono ?_; rintro e w5 ⟨rfl, z5⟩
  have B5 := Lib.hid (bel_trans B4.out z5)
  have K6 := Lib.hid (class_is (fine_of (L := []) (by decide) (by decide) (by decide)) aw66 (by omega) (by omega) (by omega) (by omega) (by omega) (by omega) (RowsAt.nil w5 w5.heap.size 0 none))
  clear z5 R4 B4 K5
  go_wp2_with fail
  refine K6.out.mono ?_; rintro e w6 ⟨rfl, z6⟩
  go_wp2
  go_ret
  exact ⟨rfl, bel_trans B5.out z6⟩
end Go.Proofs.Ytcpnfafhekgabaa
