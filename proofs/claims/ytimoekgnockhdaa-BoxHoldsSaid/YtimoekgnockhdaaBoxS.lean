/- Contracts of package box: the farthest point, quarters. -/
import Derived.Test.YtimoekgnockhdaaBoxD
import Derived.Laws.Rows
namespace Go.Proofs.Ytimoekgnockhdaa
open Go.RowKit
open Go.Sort (grow)

set_option maxHeartbeats 1000000 in
theorem most_any (a b c d x y : Int) (a0 : -536870912 ≤ a) (ac : a ≤ c) (c1 : c ≤ 536870912) (b0 : -536870912 ≤ b) (bd : b ≤ d) (d1 : d ≤ 536870912) (x0 : -536870912 ≤ x) (x1 : x ≤ 536870912) (y0 : -536870912 ≤ y) (y1 : y ≤ 536870912) (w : World) :
    Calls Try.prog 15 #[boxV a b c d, ptV x y] w fun e w' => e = .returned (.int .i64 (mostS a b c d x y)) ∧ Below w.heap.size w w' := by
  obtain ⟨m, hm⟩ : ∃ m, farI x a c = m := ⟨_, rfl⟩
  obtain ⟨n, hn⟩ : ∃ n, farI y b d = n := ⟨_, rfl⟩
  have im := farI_in x ac
  have inn := farI_in y bd
  rw [hm] at im
  rw [hn] at inn
  have H := Lib.hid (show mostS a b c d x y = sqI x y m n by unfold mostS; rw [hm, hn])
  have C1 := Lib.hid (fun w => hm ▸ farthest_any x a c x0 x1 (by omega) (by omega) (by omega) (by omega) w)
  have C2 := Lib.hid (fun w => hn ▸ farthest_any y b d y0 y1 (by omega) (by omega) (by omega) (by omega) w)
  have C3 := Lib.hid (fun w => square_any x y m n x0 x1 y0 y1 (by omega) (by omega) (by omega) (by omega) w)
  clear hm hn
  go_enter Try.func15, Try.ntmps15
  go_wp2_with fail
  have bA := bel_alloc (bel_alloc (bel_refl w) (.cells #[.int .i64 a, .int .i64 b, .int .i64 c, .int .i64 d] 23)) (.cells #[.int .i64 x, .int .i64 y] 26)
  have bx := (boxAt_new w a b c d 23).alloc (.cells #[.int .i64 x, .int .i64 y] 26)
  have pt := ptAt_new (w.alloc (.cells #[.int .i64 a, .int .i64 b, .int .i64 c, .int .i64 d] 23)) x y 26
  rw [show (w.alloc (.cells #[.int .i64 a, .int .i64 b, .int .i64 c, .int .i64 d] 23)).heap.size = w.heap.size + 1 by simp] at pt
  generalize (w.alloc (.cells #[.int .i64 a, .int .i64 b, .int .i64 c, .int .i64 d] 23)).alloc (.cells #[.int .i64 x, .int .i64 y] 26) = W at *
  obtain ⟨q0, q1, q2, q3, ql⟩ := bx
  obtain ⟨p0, p1, pl⟩ := pt
  have q0 := cell_regrown q0
  have q1 := cell_regrown q1
  have q2 := cell_regrown q2
  have q3 := cell_regrown q3
  have p0 := cell_regrown p0
  have p1 := cell_regrown p1
  have D1 := Lib.hid (fun p : Regrown => Calls.regrown_of (as_below (C1.out (grow (redrawn W p.d) p.os))))
  have D2 := Lib.hid (fun p : Regrown => Calls.regrown_of (as_below (C2.out (grow (redrawn W p.d) p.os))))
  have D3 := Lib.hid (fun p : Regrown => Calls.regrown_of (C3.out (grow (redrawn W p.d) p.os)))
  refine wp_region_quiet_below (by kernel_rfl) (by kernel_rfl) ?_
  repeat (go_big_quiet_step (first | with_reducible exact D1.out _ | with_reducible exact D2.out _ | with_reducible exact D3.out _))
  refine wpQuiet_nil ?_
  intro _ hw'
  obtain ⟨⟨dq, osq⟩, hw''⟩ := hw'
  subst hw''
  go_wp2
  go_ret
  exact ⟨by rw [H.out]; rfl, bel_trans bA (below_regrown W dq osq)⟩

/-- The value of four boxes. -/
abbrev fourV (a b c d x y : Int) : Value := .agg #[.int .i64 a, .int .i64 b, .int .i64 x, .int .i64 y, .int .i64 x, .int .i64 b, .int .i64 c, .int .i64 y, .int .i64 a, .int .i64 y, .int .i64 x, .int .i64 d, .int .i64 x, .int .i64 y, .int .i64 c, .int .i64 d]
abbrev zerosV : Value := .agg #[.int .i64 0, .int .i64 0, .int .i64 0, .int .i64 0, .int .i64 0, .int .i64 0, .int .i64 0, .int .i64 0, .int .i64 0, .int .i64 0, .int .i64 0, .int .i64 0, .int .i64 0, .int .i64 0, .int .i64 0, .int .i64 0]
theorem ok_is {a b c d : Int} {r : Bool} (h : okX a b c d = r) (w : World) :
    Calls Try.prog 13 #[boxV a b c d] w fun e w' => e = .returned (.bool r) ∧ Below w.heap.size w w' := h ▸ ok_any a b c d w
theorem halves_is {n : Int} {r : Bool} (h : hvB n = r) (h0 : -9223372036854775808 ≤ n) (h1 : n ≤ 9223372036854775807) (w : World) :
    Calls Try.prog 31 #[.int .i64 n] w fun e w' => e = .returned (.bool r) ∧ w = w' := h ▸ halves_any n h0 h1 w

set_option maxRecDepth 100000 in
set_option maxHeartbeats 4000000 in
theorem split_bad (a b c d : Int) (h : okX a b c d = false) (w : World) :
    Calls Try.prog 12 #[boxV a b c d] w fun e w' => e = .returned (.tuple #[zerosV, .bool false]) ∧ Below w.heap.size w w' := by
  have HK := Lib.hid (fun w => ok_is h w)
  clear h
  go_enter Try.func12, Try.ntmps12
  go_wp2_with fail
  refine (HK.out _).mono ?_; rintro e w1 ⟨rfl, b1⟩
  have bx := ((boxAt_new w a b c d 23).alloc _).later b1
  have hq := row_later (row_new (w.alloc (.cells #[.int .i64 a, .int .i64 b, .int .i64 c, .int .i64 d] 23)) #[.int .i64 0, .int .i64 0, .int .i64 0, .int .i64 0, .int .i64 0, .int .i64 0, .int .i64 0, .int .i64 0, .int .i64 0, .int .i64 0, .int .i64 0, .int .i64 0, .int .i64 0, .int .i64 0, .int .i64 0, .int .i64 0] 30) b1
  rw [show (w.alloc (.cells #[.int .i64 a, .int .i64 b, .int .i64 c, .int .i64 d] 23)).heap.size = w.heap.size + 1 by simp] at hq
  have bA := bel_trans (bel_alloc (bel_alloc (bel_refl w) _) _) b1
  have hq := Lib.hid hq
  clear b1
  obtain ⟨k0, k1, k2, k3, kl⟩ := bx
  go_wp2_with ((with_reducible (refine wpList_store_row ?a1 30 (.tmp 2) (.tmp 27) ?a2 (w.heap.size + 1) #[.int .i64 0, .int .i64 0, .int .i64 0, .int .i64 0, .int .i64 0, .int .i64 0, .int .i64 0, .int .i64 0, .int .i64 0, .int .i64 0, .int .i64 0, .int .i64 0, .int .i64 0, .int .i64 0, .int .i64 0, .int .i64 0] ?h1 ?h2 _ _ hq.out ?h3 ?h4 ?h5 ?h6)); (case a1 => rfl); (case a2 => rfl); (case h1 => rfl); (case h2 => rfl); (case h3 => kernel_rfl); (case h4 => rfl); (case h5 => kernel_rfl))
  have hr := setRow_heap w1 (w.heap.size + 1) _ #[.int .i64 0, .int .i64 0, .int .i64 0, .int .i64 0, .int .i64 0, .int .i64 0, .int .i64 0, .int .i64 0, .int .i64 0, .int .i64 0, .int .i64 0, .int .i64 0, .int .i64 0, .int .i64 0, .int .i64 0, .int .i64 0] _ _ hq.out
  exact bodyPost_ret (v := .tuple #[.agg #[.int .i64 0, .int .i64 0, .int .i64 0, .int .i64 0, .int .i64 0, .int .i64 0, .int .i64 0, .int .i64 0, .int .i64 0, .int .i64 0, .int .i64 0, .int .i64 0, .int .i64 0, .int .i64 0, .int .i64 0, .int .i64 0], .bool false]) (by simp [results, Try.results12, asAddr, run_loadVar_row _ _ _ _ _ _ _ hr Try.underlying30 rfl (by kernel_rfl)]) rfl ⟨rfl, below_row bA (by omega) _⟩
set_option maxRecDepth 100000 in
set_option maxHeartbeats 4000000 in
theorem split_odd1 (a b c d : Int) (h : okX a b c d = true) (hx : hvB (c - a) = false) (w : World) :
    Calls Try.prog 12 #[boxV a b c d] w fun e w' => e = .returned (.tuple #[zerosV, .bool false]) ∧ Below w.heap.size w w' := by
  obtain ⟨⟨a0, ac, c1'⟩, b0, bd, d1'⟩ := of_decide_eq_true h
  have HK := Lib.hid (fun w => ok_is h w)
  have H1 := Lib.hid (fun w => halves_is hx (by omega) (by omega) w)
  clear h hx
  go_enter Try.func12, Try.ntmps12
  go_wp2_with fail
  refine (HK.out _).mono ?_; rintro e w1 ⟨rfl, b1⟩
  have bx := ((boxAt_new w a b c d 23).alloc _).later b1
  have hq := row_later (row_new (w.alloc (.cells #[.int .i64 a, .int .i64 b, .int .i64 c, .int .i64 d] 23)) #[.int .i64 0, .int .i64 0, .int .i64 0, .int .i64 0, .int .i64 0, .int .i64 0, .int .i64 0, .int .i64 0, .int .i64 0, .int .i64 0, .int .i64 0, .int .i64 0, .int .i64 0, .int .i64 0, .int .i64 0, .int .i64 0] 30) b1
  rw [show (w.alloc (.cells #[.int .i64 a, .int .i64 b, .int .i64 c, .int .i64 d] 23)).heap.size = w.heap.size + 1 by simp] at hq
  have bA := bel_trans (bel_alloc (bel_alloc (bel_refl w) _) _) b1
  have hq := Lib.hid hq
  clear b1
  obtain ⟨k0, k1, k2, k3, kl⟩ := bx
  go_wp2_with (first
    | (go_at_call 31; ((with_reducible refine (H1.out _).mono ?_); rintro e w' ⟨rfl, rfl⟩))
    | ((with_reducible (refine wpList_store_row ?a1 30 (.tmp 2) (.tmp 27) ?a2 (w.heap.size + 1) #[.int .i64 0, .int .i64 0, .int .i64 0, .int .i64 0, .int .i64 0, .int .i64 0, .int .i64 0, .int .i64 0, .int .i64 0, .int .i64 0, .int .i64 0, .int .i64 0, .int .i64 0, .int .i64 0, .int .i64 0, .int .i64 0] ?h1 ?h2 _ _ hq.out ?h3 ?h4 ?h5 ?h6)); (case a1 => rfl); (case a2 => rfl); (case h1 => rfl); (case h2 => rfl); (case h3 => kernel_rfl); (case h4 => rfl); (case h5 => kernel_rfl)))
  have hr := setRow_heap w1 (w.heap.size + 1) _ #[.int .i64 0, .int .i64 0, .int .i64 0, .int .i64 0, .int .i64 0, .int .i64 0, .int .i64 0, .int .i64 0, .int .i64 0, .int .i64 0, .int .i64 0, .int .i64 0, .int .i64 0, .int .i64 0, .int .i64 0, .int .i64 0] _ _ hq.out
  exact bodyPost_ret (v := .tuple #[.agg #[.int .i64 0, .int .i64 0, .int .i64 0, .int .i64 0, .int .i64 0, .int .i64 0, .int .i64 0, .int .i64 0, .int .i64 0, .int .i64 0, .int .i64 0, .int .i64 0, .int .i64 0, .int .i64 0, .int .i64 0, .int .i64 0], .bool false]) (by simp [results, Try.results12, asAddr, run_loadVar_row _ _ _ _ _ _ _ hr Try.underlying30 rfl (by kernel_rfl)]) rfl ⟨rfl, below_row bA (by omega) _⟩
set_option maxRecDepth 100000 in
set_option maxHeartbeats 4000000 in
theorem split_odd2 (a b c d : Int) (h : okX a b c d = true) (hx : hvB (c - a) = true) (hy : hvB (d - b) = false) (w : World) :
    Calls Try.prog 12 #[boxV a b c d] w fun e w' => e = .returned (.tuple #[zerosV, .bool false]) ∧ Below w.heap.size w w' := by
  obtain ⟨⟨a0, ac, c1'⟩, b0, bd, d1'⟩ := of_decide_eq_true h
  have HK := Lib.hid (fun w => ok_is h w)
  have H1 := Lib.hid (fun w => halves_is hx (by omega) (by omega) w)
  have H2 := Lib.hid (fun w => halves_is hy (by omega) (by omega) w)
  clear h hx hy
  go_enter Try.func12, Try.ntmps12
  go_wp2_with fail
  refine (HK.out _).mono ?_; rintro e w1 ⟨rfl, b1⟩
  have bx := ((boxAt_new w a b c d 23).alloc _).later b1
  have hq := row_later (row_new (w.alloc (.cells #[.int .i64 a, .int .i64 b, .int .i64 c, .int .i64 d] 23)) #[.int .i64 0, .int .i64 0, .int .i64 0, .int .i64 0, .int .i64 0, .int .i64 0, .int .i64 0, .int .i64 0, .int .i64 0, .int .i64 0, .int .i64 0, .int .i64 0, .int .i64 0, .int .i64 0, .int .i64 0, .int .i64 0] 30) b1
  rw [show (w.alloc (.cells #[.int .i64 a, .int .i64 b, .int .i64 c, .int .i64 d] 23)).heap.size = w.heap.size + 1 by simp] at hq
  have bA := bel_trans (bel_alloc (bel_alloc (bel_refl w) _) _) b1
  have hq := Lib.hid hq
  clear b1
  obtain ⟨k0, k1, k2, k3, kl⟩ := bx
  go_wp2_with (first
    | (go_at_call 31; ((with_reducible refine (H1.out _).mono ?_); rintro e w' ⟨rfl, rfl⟩))
    | (go_at_call 31; ((with_reducible refine (H2.out _).mono ?_); rintro e w' ⟨rfl, rfl⟩))
    | ((with_reducible (refine wpList_store_row ?a1 30 (.tmp 2) (.tmp 27) ?a2 (w.heap.size + 1) #[.int .i64 0, .int .i64 0, .int .i64 0, .int .i64 0, .int .i64 0, .int .i64 0, .int .i64 0, .int .i64 0, .int .i64 0, .int .i64 0, .int .i64 0, .int .i64 0, .int .i64 0, .int .i64 0, .int .i64 0, .int .i64 0] ?h1 ?h2 _ _ hq.out ?h3 ?h4 ?h5 ?h6)); (case a1 => rfl); (case a2 => rfl); (case h1 => rfl); (case h2 => rfl); (case h3 => kernel_rfl); (case h4 => rfl); (case h5 => kernel_rfl)))
  have hr := setRow_heap w1 (w.heap.size + 1) _ #[.int .i64 0, .int .i64 0, .int .i64 0, .int .i64 0, .int .i64 0, .int .i64 0, .int .i64 0, .int .i64 0, .int .i64 0, .int .i64 0, .int .i64 0, .int .i64 0, .int .i64 0, .int .i64 0, .int .i64 0, .int .i64 0] _ _ hq.out
  exact bodyPost_ret (v := .tuple #[.agg #[.int .i64 0, .int .i64 0, .int .i64 0, .int .i64 0, .int .i64 0, .int .i64 0, .int .i64 0, .int .i64 0, .int .i64 0, .int .i64 0, .int .i64 0, .int .i64 0, .int .i64 0, .int .i64 0, .int .i64 0, .int .i64 0], .bool false]) (by simp [results, Try.results12, asAddr, run_loadVar_row _ _ _ _ _ _ _ hr Try.underlying30 rfl (by kernel_rfl)]) rfl ⟨rfl, below_row bA (by omega) _⟩
set_option maxRecDepth 100000 in
set_option maxHeartbeats 4000000 in
theorem split_yes (a b c d : Int) (h : okX a b c d = true) (hx : hvB (c - a) = true) (hy : hvB (d - b) = true) (w : World) :
    Calls Try.prog 12 #[boxV a b c d] w fun e w' => e = .returned (.tuple #[fourV a b c d (a + (c - a) / 2) (b + (d - b) / 2), .bool true]) ∧ Below w.heap.size w w' := by
  obtain ⟨⟨a0, ac, c1'⟩, b0, bd, d1'⟩ := of_decide_eq_true h
  have HK := Lib.hid (fun w => ok_is h w)
  have H1 := Lib.hid (fun w => halves_is hx (by omega) (by omega) w)
  have H2 := Lib.hid (fun w => halves_is hy (by omega) (by omega) w)
  clear h hx hy
  go_enter Try.func12, Try.ntmps12
  go_wp2_with fail
  refine (HK.out _).mono ?_; rintro e w1 ⟨rfl, b1⟩
  have bx := ((boxAt_new w a b c d 23).alloc _).later b1
  have hq := row_later (row_new (w.alloc (.cells #[.int .i64 a, .int .i64 b, .int .i64 c, .int .i64 d] 23)) #[.int .i64 0, .int .i64 0, .int .i64 0, .int .i64 0, .int .i64 0, .int .i64 0, .int .i64 0, .int .i64 0, .int .i64 0, .int .i64 0, .int .i64 0, .int .i64 0, .int .i64 0, .int .i64 0, .int .i64 0, .int .i64 0] 30) b1
  rw [show (w.alloc (.cells #[.int .i64 a, .int .i64 b, .int .i64 c, .int .i64 d] 23)).heap.size = w.heap.size + 1 by simp] at hq
  have bA := bel_trans (bel_alloc (bel_alloc (bel_refl w) _) _) b1
  have hq := Lib.hid hq
  clear b1
  obtain ⟨k0, k1, k2, k3, kl⟩ := bx
  go_wp2_with (first
    | (go_at_call 31; ((with_reducible refine (H1.out _).mono ?_); rintro e w' ⟨rfl, rfl⟩))
    | (go_at_call 31; ((with_reducible refine (H2.out _).mono ?_); rintro e w' ⟨rfl, rfl⟩)))
  go_region
  have hq2 : w1.drew.heap[w.heap.size + 1]? = _ := hq.out
  have hq2 := Lib.hid hq2
  go_wp2_with ((with_reducible (refine wpList_store_row ?a1 30 (.tmp 2) (.tmp 74) ?a2 (w.heap.size + 1) #[.int .i64 a, .int .i64 b, .int .i64 (a + (c - a) / 2), .int .i64 (b + (d - b) / 2), .int .i64 (a + (c - a) / 2), .int .i64 b, .int .i64 c, .int .i64 (b + (d - b) / 2), .int .i64 a, .int .i64 (b + (d - b) / 2), .int .i64 (a + (c - a) / 2), .int .i64 d, .int .i64 (a + (c - a) / 2), .int .i64 (b + (d - b) / 2), .int .i64 c, .int .i64 d] ?h1 ?h2 _ _ hq2.out ?h3 ?h4 ?h5 ?h6)); (case a1 => rfl); (case a2 => rfl); (case h1 => rfl); (case h2 => rfl); (case h3 => kernel_rfl); (case h4 => rfl); (case h5 => kernel_rfl))
  have hr := setRow_heap w1.drew (w.heap.size + 1) _ #[.int .i64 a, .int .i64 b, .int .i64 (a + (c - a) / 2), .int .i64 (b + (d - b) / 2), .int .i64 (a + (c - a) / 2), .int .i64 b, .int .i64 c, .int .i64 (b + (d - b) / 2), .int .i64 a, .int .i64 (b + (d - b) / 2), .int .i64 (a + (c - a) / 2), .int .i64 d, .int .i64 (a + (c - a) / 2), .int .i64 (b + (d - b) / 2), .int .i64 c, .int .i64 d] _ _ hq2.out
  exact bodyPost_ret (v := .tuple #[.agg #[.int .i64 a, .int .i64 b, .int .i64 (a + (c - a) / 2), .int .i64 (b + (d - b) / 2), .int .i64 (a + (c - a) / 2), .int .i64 b, .int .i64 c, .int .i64 (b + (d - b) / 2), .int .i64 a, .int .i64 (b + (d - b) / 2), .int .i64 (a + (c - a) / 2), .int .i64 d, .int .i64 (a + (c - a) / 2), .int .i64 (b + (d - b) / 2), .int .i64 c, .int .i64 d], .bool true]) (by simp [results, Try.results12, asAddr, run_loadVar_row _ _ _ _ _ _ _ hr Try.underlying30 rfl (by kernel_rfl)]) rfl ⟨rfl, below_row (bel_drew bA) (by omega) _⟩
/-- The value of what Split returns. -/
def splV (a b c d : Int) : Value := .tuple #[if splB a b c d then fourV a b c d (a + (c - a) / 2) (b + (d - b) / 2) else zerosV, .bool (splB a b c d)]
theorem splV_no {a b c d : Int} (h : splB a b c d = false) : splV a b c d = .tuple #[zerosV, .bool false] := by unfold splV; rw [h]; rfl
theorem splV_yes {a b c d : Int} (h : splB a b c d = true) : splV a b c d = .tuple #[fourV a b c d (a + (c - a) / 2) (b + (d - b) / 2), .bool true] := by unfold splV; rw [h]; rfl
theorem split_any (a b c d : Int) (w : World) :
    Calls Try.prog 12 #[boxV a b c d] w fun e w' => e = .returned (splV a b c d) ∧ Below w.heap.size w w' := by
  cases h : okX a b c d with
  | false => rw [splV_no (by unfold splB; rw [h]; rfl)]; exact split_bad a b c d h w
  | true =>
    cases hx : hvB (c - a) with
    | false => rw [splV_no (by unfold splB; rw [h, hx]; rfl)]; exact split_odd1 a b c d h hx w
    | true =>
      cases hy : hvB (d - b) with
      | false => rw [splV_no (by unfold splB; rw [h, hx, hy]; rfl)]; exact split_odd2 a b c d h hx hy w
      | true => rw [splV_yes (by unfold splB; rw [h, hx, hy]; rfl)]; exact split_yes a b c d h hx hy w
end Go.Proofs.Ytimoekgnockhdaa
