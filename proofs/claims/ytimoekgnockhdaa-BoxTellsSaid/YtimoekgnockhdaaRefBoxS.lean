/- Contract of the document's Split of layer 4. -/
import Derived.Test.YtimoekgnockhdaaRefBox
import Derived.Laws.Rows
namespace Go.Proofs.Ytimoekgnockhdaa
open Go.RowKit
open Go.Sort (grow)

theorem refOk_is {a b c d : Int} {r : Bool} (h : okX a b c d = r) (w : World) :
    Calls Try.prog 19 #[boxV a b c d] w fun e w' => e = .returned (.bool r) ∧ Below w.heap.size w w' := h ▸ refOk_any a b c d w
set_option maxRecDepth 100000 in
set_option maxHeartbeats 4000000 in
theorem refSplit_bad (a b c d : Int) (h : okX a b c d = false) (w : World) :
    Calls Try.prog 18 #[boxV a b c d] w fun e w' => e = .returned (.tuple #[zerosV, .bool false]) ∧ Below w.heap.size w w' := by
  have HK := Lib.hid (fun w => refOk_is h w)
  clear h
  go_enter Try.func18, Try.ntmps18
  go_wp2_with fail
  refine (HK.out _).mono ?_; rintro e w1 ⟨rfl, b1⟩
  have bx := ((boxAt_new w a b c d 23).alloc _).later b1
  have hq := row_later (row_new (w.alloc (.cells #[.int .i64 a, .int .i64 b, .int .i64 c, .int .i64 d] 23)) #[.int .i64 0, .int .i64 0, .int .i64 0, .int .i64 0, .int .i64 0, .int .i64 0, .int .i64 0, .int .i64 0, .int .i64 0, .int .i64 0, .int .i64 0, .int .i64 0, .int .i64 0, .int .i64 0, .int .i64 0, .int .i64 0] 30) b1
  rw [show (w.alloc (.cells #[.int .i64 a, .int .i64 b, .int .i64 c, .int .i64 d] 23)).heap.size = w.heap.size + 1 by simp] at hq
  have bA := bel_trans (bel_alloc (bel_alloc (bel_refl w) _) _) b1
  have hq := Lib.hid hq
  clear b1
  obtain ⟨k0, k1, k2, k3, kl⟩ := bx
  go_wp2_with ((with_reducible (refine wpList_store_row ?a1 30 (.tmp 2) (.tmp 41) ?a2 (w.heap.size + 1) #[.int .i64 0, .int .i64 0, .int .i64 0, .int .i64 0, .int .i64 0, .int .i64 0, .int .i64 0, .int .i64 0, .int .i64 0, .int .i64 0, .int .i64 0, .int .i64 0, .int .i64 0, .int .i64 0, .int .i64 0, .int .i64 0] ?h1 ?h2 _ _ hq.out ?h3 ?h4 ?h5 ?h6)); (case a1 => rfl); (case a2 => rfl); (case h1 => rfl); (case h2 => rfl); (case h3 => kernel_rfl); (case h4 => rfl); (case h5 => kernel_rfl))
  have hr := setRow_heap w1 (w.heap.size + 1) _ #[.int .i64 0, .int .i64 0, .int .i64 0, .int .i64 0, .int .i64 0, .int .i64 0, .int .i64 0, .int .i64 0, .int .i64 0, .int .i64 0, .int .i64 0, .int .i64 0, .int .i64 0, .int .i64 0, .int .i64 0, .int .i64 0] _ _ hq.out
  exact bodyPost_ret (v := .tuple #[.agg #[.int .i64 0, .int .i64 0, .int .i64 0, .int .i64 0, .int .i64 0, .int .i64 0, .int .i64 0, .int .i64 0, .int .i64 0, .int .i64 0, .int .i64 0, .int .i64 0, .int .i64 0, .int .i64 0, .int .i64 0, .int .i64 0], .bool false]) (by simp [results, Try.results18, asAddr, run_loadVar_row _ _ _ _ _ _ _ hr Try.underlying30 rfl (by kernel_rfl)]) rfl ⟨rfl, below_row bA (by omega) _⟩
set_option maxRecDepth 100000 in
set_option maxHeartbeats 4000000 in
theorem refSplit_odd1 (a b c d : Int) (h : okX a b c d = true) (hx : (c - a) % 2 = 1) (w : World) :
    Calls Try.prog 18 #[boxV a b c d] w fun e w' => e = .returned (.tuple #[zerosV, .bool false]) ∧ Below w.heap.size w w' := by
  obtain ⟨⟨a0, ac, c1'⟩, b0, bd, d1'⟩ := of_decide_eq_true h
  have HK := Lib.hid (fun w => refOk_is h w)
  clear h
  go_enter Try.func18, Try.ntmps18
  go_wp2_with fail
  refine (HK.out _).mono ?_; rintro e w1 ⟨rfl, b1⟩
  have bx := ((boxAt_new w a b c d 23).alloc _).later b1
  have hq := row_later (row_new (w.alloc (.cells #[.int .i64 a, .int .i64 b, .int .i64 c, .int .i64 d] 23)) #[.int .i64 0, .int .i64 0, .int .i64 0, .int .i64 0, .int .i64 0, .int .i64 0, .int .i64 0, .int .i64 0, .int .i64 0, .int .i64 0, .int .i64 0, .int .i64 0, .int .i64 0, .int .i64 0, .int .i64 0, .int .i64 0] 30) b1
  rw [show (w.alloc (.cells #[.int .i64 a, .int .i64 b, .int .i64 c, .int .i64 d] 23)).heap.size = w.heap.size + 1 by simp] at hq
  have bA := bel_trans (bel_alloc (bel_alloc (bel_refl w) _) _) b1
  have hq := Lib.hid hq
  clear b1
  obtain ⟨k0, k1, k2, k3, kl⟩ := bx
  go_wp2_with ((with_reducible (refine wpList_store_row ?a1 30 (.tmp 2) (.tmp 41) ?a2 (w.heap.size + 1) #[.int .i64 0, .int .i64 0, .int .i64 0, .int .i64 0, .int .i64 0, .int .i64 0, .int .i64 0, .int .i64 0, .int .i64 0, .int .i64 0, .int .i64 0, .int .i64 0, .int .i64 0, .int .i64 0, .int .i64 0, .int .i64 0] ?h1 ?h2 _ _ hq.out ?h3 ?h4 ?h5 ?h6)); (case a1 => rfl); (case a2 => rfl); (case h1 => rfl); (case h2 => rfl); (case h3 => kernel_rfl); (case h4 => rfl); (case h5 => kernel_rfl))
  have hr := setRow_heap w1 (w.heap.size + 1) _ #[.int .i64 0, .int .i64 0, .int .i64 0, .int .i64 0, .int .i64 0, .int .i64 0, .int .i64 0, .int .i64 0, .int .i64 0, .int .i64 0, .int .i64 0, .int .i64 0, .int .i64 0, .int .i64 0, .int .i64 0, .int .i64 0] _ _ hq.out
  exact bodyPost_ret (v := .tuple #[.agg #[.int .i64 0, .int .i64 0, .int .i64 0, .int .i64 0, .int .i64 0, .int .i64 0, .int .i64 0, .int .i64 0, .int .i64 0, .int .i64 0, .int .i64 0, .int .i64 0, .int .i64 0, .int .i64 0, .int .i64 0, .int .i64 0], .bool false]) (by simp [results, Try.results18, asAddr, run_loadVar_row _ _ _ _ _ _ _ hr Try.underlying30 rfl (by kernel_rfl)]) rfl ⟨rfl, below_row bA (by omega) _⟩
set_option maxRecDepth 100000 in
set_option maxHeartbeats 4000000 in
theorem refSplit_odd2 (a b c d : Int) (h : okX a b c d = true) (hx : (c - a) % 2 = 0) (hy : (d - b) % 2 = 1) (w : World) :
    Calls Try.prog 18 #[boxV a b c d] w fun e w' => e = .returned (.tuple #[zerosV, .bool false]) ∧ Below w.heap.size w w' := by
  obtain ⟨⟨a0, ac, c1'⟩, b0, bd, d1'⟩ := of_decide_eq_true h
  have HK := Lib.hid (fun w => refOk_is h w)
  clear h
  go_enter Try.func18, Try.ntmps18
  go_wp2_with fail
  refine (HK.out _).mono ?_; rintro e w1 ⟨rfl, b1⟩
  have bx := ((boxAt_new w a b c d 23).alloc _).later b1
  have hq := row_later (row_new (w.alloc (.cells #[.int .i64 a, .int .i64 b, .int .i64 c, .int .i64 d] 23)) #[.int .i64 0, .int .i64 0, .int .i64 0, .int .i64 0, .int .i64 0, .int .i64 0, .int .i64 0, .int .i64 0, .int .i64 0, .int .i64 0, .int .i64 0, .int .i64 0, .int .i64 0, .int .i64 0, .int .i64 0, .int .i64 0] 30) b1
  rw [show (w.alloc (.cells #[.int .i64 a, .int .i64 b, .int .i64 c, .int .i64 d] 23)).heap.size = w.heap.size + 1 by simp] at hq
  have bA := bel_trans (bel_alloc (bel_alloc (bel_refl w) _) _) b1
  have hq := Lib.hid hq
  clear b1
  obtain ⟨k0, k1, k2, k3, kl⟩ := bx
  go_wp2_with ((with_reducible (refine wpList_store_row ?a1 30 (.tmp 2) (.tmp 41) ?a2 (w.heap.size + 1) #[.int .i64 0, .int .i64 0, .int .i64 0, .int .i64 0, .int .i64 0, .int .i64 0, .int .i64 0, .int .i64 0, .int .i64 0, .int .i64 0, .int .i64 0, .int .i64 0, .int .i64 0, .int .i64 0, .int .i64 0, .int .i64 0] ?h1 ?h2 _ _ hq.out ?h3 ?h4 ?h5 ?h6)); (case a1 => rfl); (case a2 => rfl); (case h1 => rfl); (case h2 => rfl); (case h3 => kernel_rfl); (case h4 => rfl); (case h5 => kernel_rfl))
  have hr := setRow_heap w1 (w.heap.size + 1) _ #[.int .i64 0, .int .i64 0, .int .i64 0, .int .i64 0, .int .i64 0, .int .i64 0, .int .i64 0, .int .i64 0, .int .i64 0, .int .i64 0, .int .i64 0, .int .i64 0, .int .i64 0, .int .i64 0, .int .i64 0, .int .i64 0] _ _ hq.out
  exact bodyPost_ret (v := .tuple #[.agg #[.int .i64 0, .int .i64 0, .int .i64 0, .int .i64 0, .int .i64 0, .int .i64 0, .int .i64 0, .int .i64 0, .int .i64 0, .int .i64 0, .int .i64 0, .int .i64 0, .int .i64 0, .int .i64 0, .int .i64 0, .int .i64 0], .bool false]) (by simp [results, Try.results18, asAddr, run_loadVar_row _ _ _ _ _ _ _ hr Try.underlying30 rfl (by kernel_rfl)]) rfl ⟨rfl, below_row bA (by omega) _⟩
set_option maxRecDepth 100000 in
set_option maxHeartbeats 4000000 in
theorem refSplit_flat1 (a b c d : Int) (h : okX a b c d = true) (hx : (c - a) % 2 = 0) (hy : (d - b) % 2 = 0) (e1 : (a == c) = true) (w : World) :
    Calls Try.prog 18 #[boxV a b c d] w fun e w' => e = .returned (.tuple #[zerosV, .bool false]) ∧ Below w.heap.size w w' := by
  obtain ⟨⟨a0, ac, c1'⟩, b0, bd, d1'⟩ := of_decide_eq_true h
  have HK := Lib.hid (fun w => refOk_is h w)
  clear h
  go_enter Try.func18, Try.ntmps18
  go_wp2_with fail
  refine (HK.out _).mono ?_; rintro e w1 ⟨rfl, b1⟩
  have bx := ((boxAt_new w a b c d 23).alloc _).later b1
  have hq := row_later (row_new (w.alloc (.cells #[.int .i64 a, .int .i64 b, .int .i64 c, .int .i64 d] 23)) #[.int .i64 0, .int .i64 0, .int .i64 0, .int .i64 0, .int .i64 0, .int .i64 0, .int .i64 0, .int .i64 0, .int .i64 0, .int .i64 0, .int .i64 0, .int .i64 0, .int .i64 0, .int .i64 0, .int .i64 0, .int .i64 0] 30) b1
  rw [show (w.alloc (.cells #[.int .i64 a, .int .i64 b, .int .i64 c, .int .i64 d] 23)).heap.size = w.heap.size + 1 by simp] at hq
  have bA := bel_trans (bel_alloc (bel_alloc (bel_refl w) _) _) b1
  have hq := Lib.hid hq
  clear b1
  obtain ⟨k0, k1, k2, k3, kl⟩ := bx
  go_wp2_with ((with_reducible (refine wpList_store_row ?a1 30 (.tmp 2) (.tmp 41) ?a2 (w.heap.size + 1) #[.int .i64 0, .int .i64 0, .int .i64 0, .int .i64 0, .int .i64 0, .int .i64 0, .int .i64 0, .int .i64 0, .int .i64 0, .int .i64 0, .int .i64 0, .int .i64 0, .int .i64 0, .int .i64 0, .int .i64 0, .int .i64 0] ?h1 ?h2 _ _ hq.out ?h3 ?h4 ?h5 ?h6)); (case a1 => rfl); (case a2 => rfl); (case h1 => rfl); (case h2 => rfl); (case h3 => kernel_rfl); (case h4 => rfl); (case h5 => kernel_rfl))
  have hr := setRow_heap w1 (w.heap.size + 1) _ #[.int .i64 0, .int .i64 0, .int .i64 0, .int .i64 0, .int .i64 0, .int .i64 0, .int .i64 0, .int .i64 0, .int .i64 0, .int .i64 0, .int .i64 0, .int .i64 0, .int .i64 0, .int .i64 0, .int .i64 0, .int .i64 0] _ _ hq.out
  exact bodyPost_ret (v := .tuple #[.agg #[.int .i64 0, .int .i64 0, .int .i64 0, .int .i64 0, .int .i64 0, .int .i64 0, .int .i64 0, .int .i64 0, .int .i64 0, .int .i64 0, .int .i64 0, .int .i64 0, .int .i64 0, .int .i64 0, .int .i64 0, .int .i64 0], .bool false]) (by simp [results, Try.results18, asAddr, run_loadVar_row _ _ _ _ _ _ _ hr Try.underlying30 rfl (by kernel_rfl)]) rfl ⟨rfl, below_row bA (by omega) _⟩
set_option maxRecDepth 100000 in
set_option maxHeartbeats 4000000 in
theorem refSplit_flat2 (a b c d : Int) (h : okX a b c d = true) (hx : (c - a) % 2 = 0) (hy : (d - b) % 2 = 0) (e1 : (a == c) = false) (e2 : (b == d) = true) (w : World) :
    Calls Try.prog 18 #[boxV a b c d] w fun e w' => e = .returned (.tuple #[zerosV, .bool false]) ∧ Below w.heap.size w w' := by
  obtain ⟨⟨a0, ac, c1'⟩, b0, bd, d1'⟩ := of_decide_eq_true h
  have HK := Lib.hid (fun w => refOk_is h w)
  clear h
  go_enter Try.func18, Try.ntmps18
  go_wp2_with fail
  refine (HK.out _).mono ?_; rintro e w1 ⟨rfl, b1⟩
  have bx := ((boxAt_new w a b c d 23).alloc _).later b1
  have hq := row_later (row_new (w.alloc (.cells #[.int .i64 a, .int .i64 b, .int .i64 c, .int .i64 d] 23)) #[.int .i64 0, .int .i64 0, .int .i64 0, .int .i64 0, .int .i64 0, .int .i64 0, .int .i64 0, .int .i64 0, .int .i64 0, .int .i64 0, .int .i64 0, .int .i64 0, .int .i64 0, .int .i64 0, .int .i64 0, .int .i64 0] 30) b1
  rw [show (w.alloc (.cells #[.int .i64 a, .int .i64 b, .int .i64 c, .int .i64 d] 23)).heap.size = w.heap.size + 1 by simp] at hq
  have bA := bel_trans (bel_alloc (bel_alloc (bel_refl w) _) _) b1
  have hq := Lib.hid hq
  clear b1
  obtain ⟨k0, k1, k2, k3, kl⟩ := bx
  go_wp2_with ((with_reducible (refine wpList_store_row ?a1 30 (.tmp 2) (.tmp 41) ?a2 (w.heap.size + 1) #[.int .i64 0, .int .i64 0, .int .i64 0, .int .i64 0, .int .i64 0, .int .i64 0, .int .i64 0, .int .i64 0, .int .i64 0, .int .i64 0, .int .i64 0, .int .i64 0, .int .i64 0, .int .i64 0, .int .i64 0, .int .i64 0] ?h1 ?h2 _ _ hq.out ?h3 ?h4 ?h5 ?h6)); (case a1 => rfl); (case a2 => rfl); (case h1 => rfl); (case h2 => rfl); (case h3 => kernel_rfl); (case h4 => rfl); (case h5 => kernel_rfl))
  have hr := setRow_heap w1 (w.heap.size + 1) _ #[.int .i64 0, .int .i64 0, .int .i64 0, .int .i64 0, .int .i64 0, .int .i64 0, .int .i64 0, .int .i64 0, .int .i64 0, .int .i64 0, .int .i64 0, .int .i64 0, .int .i64 0, .int .i64 0, .int .i64 0, .int .i64 0] _ _ hq.out
  exact bodyPost_ret (v := .tuple #[.agg #[.int .i64 0, .int .i64 0, .int .i64 0, .int .i64 0, .int .i64 0, .int .i64 0, .int .i64 0, .int .i64 0, .int .i64 0, .int .i64 0, .int .i64 0, .int .i64 0, .int .i64 0, .int .i64 0, .int .i64 0, .int .i64 0], .bool false]) (by simp [results, Try.results18, asAddr, run_loadVar_row _ _ _ _ _ _ _ hr Try.underlying30 rfl (by kernel_rfl)]) rfl ⟨rfl, below_row bA (by omega) _⟩
set_option maxRecDepth 100000 in
set_option maxHeartbeats 4000000 in
theorem refSplit_yes (a b c d : Int) (h : okX a b c d = true) (hx : (c - a) % 2 = 0) (hy : (d - b) % 2 = 0) (e1 : (a == c) = false) (e2 : (b == d) = false) (w : World) :
    Calls Try.prog 18 #[boxV a b c d] w fun e w' => e = .returned (.tuple #[fourV a b c d (a + (c - a) / 2) (b + (d - b) / 2), .bool true]) ∧ Below w.heap.size w w' := by
  obtain ⟨⟨a0, ac, c1'⟩, b0, bd, d1'⟩ := of_decide_eq_true h
  have HK := Lib.hid (fun w => refOk_is h w)
  clear h
  go_enter Try.func18, Try.ntmps18
  go_wp2_with fail
  refine (HK.out _).mono ?_; rintro e w1 ⟨rfl, b1⟩
  have bx := ((boxAt_new w a b c d 23).alloc _).later b1
  have hq := row_later (row_new (w.alloc (.cells #[.int .i64 a, .int .i64 b, .int .i64 c, .int .i64 d] 23)) #[.int .i64 0, .int .i64 0, .int .i64 0, .int .i64 0, .int .i64 0, .int .i64 0, .int .i64 0, .int .i64 0, .int .i64 0, .int .i64 0, .int .i64 0, .int .i64 0, .int .i64 0, .int .i64 0, .int .i64 0, .int .i64 0] 30) b1
  rw [show (w.alloc (.cells #[.int .i64 a, .int .i64 b, .int .i64 c, .int .i64 d] 23)).heap.size = w.heap.size + 1 by simp] at hq
  have bA := bel_trans (bel_alloc (bel_alloc (bel_refl w) _) _) b1
  have hq := Lib.hid hq
  clear b1
  obtain ⟨k0, k1, k2, k3, kl⟩ := bx
  go_wp2_with fail
  clear hx hy e1 e2
  go_region
  have hq2 : w1.drew.heap[w.heap.size + 1]? = _ := hq.out
  have hq2 := Lib.hid hq2
  go_wp2_with ((with_reducible (refine wpList_store_row ?a1 30 (.tmp 2) (.tmp 88) ?a2 (w.heap.size + 1) #[.int .i64 a, .int .i64 b, .int .i64 (a + (c - a) / 2), .int .i64 (b + (d - b) / 2), .int .i64 (a + (c - a) / 2), .int .i64 b, .int .i64 c, .int .i64 (b + (d - b) / 2), .int .i64 a, .int .i64 (b + (d - b) / 2), .int .i64 (a + (c - a) / 2), .int .i64 d, .int .i64 (a + (c - a) / 2), .int .i64 (b + (d - b) / 2), .int .i64 c, .int .i64 d] ?h1 ?h2 _ _ hq2.out ?h3 ?h4 ?h5 ?h6)); (case a1 => rfl); (case a2 => rfl); (case h1 => rfl); (case h2 => rfl); (case h3 => kernel_rfl); (case h4 => rfl); (case h5 => kernel_rfl))
  have hr := setRow_heap w1.drew (w.heap.size + 1) _ #[.int .i64 a, .int .i64 b, .int .i64 (a + (c - a) / 2), .int .i64 (b + (d - b) / 2), .int .i64 (a + (c - a) / 2), .int .i64 b, .int .i64 c, .int .i64 (b + (d - b) / 2), .int .i64 a, .int .i64 (b + (d - b) / 2), .int .i64 (a + (c - a) / 2), .int .i64 d, .int .i64 (a + (c - a) / 2), .int .i64 (b + (d - b) / 2), .int .i64 c, .int .i64 d] _ _ hq2.out
  exact bodyPost_ret (v := .tuple #[.agg #[.int .i64 a, .int .i64 b, .int .i64 (a + (c - a) / 2), .int .i64 (b + (d - b) / 2), .int .i64 (a + (c - a) / 2), .int .i64 b, .int .i64 c, .int .i64 (b + (d - b) / 2), .int .i64 a, .int .i64 (b + (d - b) / 2), .int .i64 (a + (c - a) / 2), .int .i64 d, .int .i64 (a + (c - a) / 2), .int .i64 (b + (d - b) / 2), .int .i64 c, .int .i64 d], .bool true]) (by simp [results, Try.results18, asAddr, run_loadVar_row _ _ _ _ _ _ _ hr Try.underlying30 rfl (by kernel_rfl)]) rfl ⟨rfl, below_row (bel_drew bA) (by omega) _⟩
theorem splB_at (a b c d : Int) : splB a b c d = decide ((okX a b c d = true) ∧ (0 < c - a ∧ (c - a) % 2 = 0) ∧ (0 < d - b ∧ (d - b) % 2 = 0)) := by
  unfold splB hvB
  rw [Bool.eq_iff_iff, Bool.and_eq_true, Bool.and_eq_true, decide_eq_true_eq, decide_eq_true_eq, decide_eq_true_eq]
  exact and_assoc
theorem refSplit_any (a b c d : Int) (w : World) :
    Calls Try.prog 18 #[boxV a b c d] w fun e w' => e = .returned (splV a b c d) ∧ Below w.heap.size w w' := by
  cases h : okX a b c d with
  | false => rw [splV_no (by rw [splB_at]; exact decide_eq_false (fun k => by rw [h] at k; simp at k))]; exact refSplit_bad a b c d h w
  | true =>
    obtain ⟨⟨a0, ac, c1⟩, b0, bd, d1⟩ := of_decide_eq_true h
    by_cases hx : (c - a) % 2 = 0
    · by_cases hy : (d - b) % 2 = 0
      · by_cases e1 : a = c
        · rw [splV_no (by rw [splB_at]; exact decide_eq_false (fun k => by omega))]; exact refSplit_flat1 a b c d h hx hy (beq_iff_eq.2 e1) w
        · by_cases e2 : b = d
          · rw [splV_no (by rw [splB_at]; exact decide_eq_false (fun k => by omega))]; exact refSplit_flat2 a b c d h hx hy (beq_eq_false_iff_ne.2 e1) (beq_iff_eq.2 e2) w
          · rw [splV_yes (by rw [splB_at]; exact decide_eq_true ⟨h, by omega, by omega⟩)]; exact refSplit_yes a b c d h hx hy (beq_eq_false_iff_ne.2 e1) (beq_eq_false_iff_ne.2 e2) w
      · rw [splV_no (by rw [splB_at]; exact decide_eq_false (fun k => by omega))]; exact refSplit_odd2 a b c d h hx (by omega) w
    · rw [splV_no (by rw [splB_at]; exact decide_eq_false (fun k => by omega))]; exact refSplit_odd1 a b c d h (by omega) w
end Go.Proofs.Ytimoekgnockhdaa
