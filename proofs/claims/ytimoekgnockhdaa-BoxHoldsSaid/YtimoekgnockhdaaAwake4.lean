/- The law package's own examples of layer 4 hold. -/
import Derived.Test.YtimoekgnockhdaaBoxN
import Derived.Test.YtimoekgnockhdaaBoxS
namespace Go.Proofs.Ytimoekgnockhdaa
open Go.RowKit

theorem awS1 : splV 0 0 4 2 = .tuple #[.agg #[.int .i64 0, .int .i64 0, .int .i64 2, .int .i64 1, .int .i64 2, .int .i64 0, .int .i64 4, .int .i64 1, .int .i64 0, .int .i64 1, .int .i64 2, .int .i64 2, .int .i64 2, .int .i64 1, .int .i64 4, .int .i64 2], .bool true] := by rw [splV_yes (by decide)]; rfl
theorem awS2 : splV 0 0 3 2 = .tuple #[zerosV, .bool false] := splV_no (by decide)
theorem awN : nearS 0 0 4 2 7 6 = 25 := by decide
theorem awM : mostS 0 0 4 2 0 0 = 20 := by decide
theorem awC : crI 0 0 1 0 0 1 = 1 := by decide
theorem awY : meetB 0 0 4 2 (-1) 1 9 1 = true := by decide
theorem awX : meetB 0 0 4 2 (-1) 2 1 4 = false := by decide
theorem awH : hasB 0 0 4 2 4 2 = true := by decide
theorem awO : okX 0 0 4 2 = true := by decide
theorem awA : apB 0 0 4 2 0 0 4 2 = false := by decide

set_option maxRecDepth 100000 in
set_option maxHeartbeats 4000000 in
theorem awake_any (w : World) :
    Calls Try.prog 10 #[] w fun e w' => e = .returned (.bool true) ∧ Below w.heap.size w w' := by
  have C1 := Lib.hid (fun w => awS1 ▸ split_any 0 0 4 2 w)
  have C2 := Lib.hid (fun w => awS2 ▸ split_any 0 0 3 2 w)
  have C3 := Lib.hid (fun w => awN ▸ near_any 0 0 4 2 7 6 (by omega) (by omega) (by omega) (by omega) (by omega) (by omega) (by omega) (by omega) (by omega) (by omega) w)
  have C4 := Lib.hid (fun w => awM ▸ most_any 0 0 4 2 0 0 (by omega) (by omega) (by omega) (by omega) (by omega) (by omega) (by omega) (by omega) (by omega) (by omega) w)
  have C5 := Lib.hid (fun w => awC ▸ cross_any 0 0 1 0 0 1 (by omega) (by omega) (by omega) (by omega) (by omega) (by omega) (by omega) (by omega) (by omega) (by omega) (by omega) (by omega) w)
  have C6 := Lib.hid (fun w => awY ▸ meets_any 0 0 4 2 (-1) 1 9 1 (by omega) (by omega) (by omega) (by omega) (by omega) (by omega) (by omega) (by omega) (by omega) (by omega) (by omega) (by omega) (by omega) (by omega) w)
  have C7 := Lib.hid (fun w => awX ▸ meets_any 0 0 4 2 (-1) 2 1 4 (by omega) (by omega) (by omega) (by omega) (by omega) (by omega) (by omega) (by omega) (by omega) (by omega) (by omega) (by omega) (by omega) (by omega) w)
  have C8 := Lib.hid (fun w => awH ▸ has_any 0 0 4 2 4 2 w)
  have C9 := Lib.hid (fun w => awO ▸ ok_any 0 0 4 2 w)
  have CA := Lib.hid (fun w => awA ▸ apart_any 0 0 4 2 0 0 4 2 w)
  have CB := Lib.hid (fun w => corners_any 0 0 4 2 w)
  go_enter Try.func10, Try.ntmps10
  go_wp2_with fail
  refine (C1.out _).mono ?_; rintro e w1 ⟨rfl, b1⟩
  have X := (boxAt_new w 0 0 4 2 23).later b1
  have B := bel_trans (bel_alloc (bel_refl w) (.cells #[.int .i64 0, .int .i64 0, .int .i64 4, .int .i64 2] 23)) b1
  have X := Lib.hid (X.alloc (.cells #[.int .i64 0, .int .i64 0, .int .i64 2, .int .i64 1, .int .i64 2, .int .i64 0, .int .i64 4, .int .i64 1, .int .i64 0, .int .i64 1, .int .i64 2, .int .i64 2, .int .i64 2, .int .i64 1, .int .i64 4, .int .i64 2] 30))
  have B := Lib.hid (bel_alloc B (.cells #[.int .i64 0, .int .i64 0, .int .i64 2, .int .i64 1, .int .i64 2, .int .i64 0, .int .i64 4, .int .i64 1, .int .i64 0, .int .i64 1, .int .i64 2, .int .i64 2, .int .i64 2, .int .i64 1, .int .i64 4, .int .i64 2] 30))
  clear b1
  go_wp2_with ((with_reducible (refine wpList_store_row ?a1 30 (.tmp 2) (.tmp 10) ?a2 w1.heap.size #[.int .i64 0, .int .i64 0, .int .i64 2, .int .i64 1, .int .i64 2, .int .i64 0, .int .i64 4, .int .i64 1, .int .i64 0, .int .i64 1, .int .i64 2, .int .i64 2, .int .i64 2, .int .i64 1, .int .i64 4, .int .i64 2] ?h1 ?h2 _ _ (row_new _ _ _) ?h3 ?h4 ?h5 ?h6)); (case a1 => rfl); (case a2 => rfl); (case h1 => rfl); (case h2 => rfl); (case h3 => kernel_rfl); (case h4 => rfl); (case h5 => kernel_rfl); rw [setRow_new])
  refine (C2.out _).mono ?_; rintro e w2 ⟨rfl, b2⟩
  have hq := Lib.hid (row_later (row_new w1 #[.int .i64 0, .int .i64 0, .int .i64 2, .int .i64 1, .int .i64 2, .int .i64 0, .int .i64 4, .int .i64 1, .int .i64 0, .int .i64 1, .int .i64 2, .int .i64 2, .int .i64 2, .int .i64 1, .int .i64 4, .int .i64 2] 30) b2)
  have X2 := Lib.hid (X.out.later b2)
  have B2 := Lib.hid (bel_trans B.out b2)
  clear b2 X B
  have X := Lib.hid (X2.out.alloc (.cells #[.int .i64 0, .int .i64 0, .int .i64 0, .int .i64 0, .int .i64 0, .int .i64 0, .int .i64 0, .int .i64 0, .int .i64 0, .int .i64 0, .int .i64 0, .int .i64 0, .int .i64 0, .int .i64 0, .int .i64 0, .int .i64 0] 30))
  have B := Lib.hid (bel_alloc B2.out (.cells #[.int .i64 0, .int .i64 0, .int .i64 0, .int .i64 0, .int .i64 0, .int .i64 0, .int .i64 0, .int .i64 0, .int .i64 0, .int .i64 0, .int .i64 0, .int .i64 0, .int .i64 0, .int .i64 0, .int .i64 0, .int .i64 0] 30))
  have hq := Lib.hid (row_later hq.out (bel_alloc (bel_refl w2) (.cells #[.int .i64 0, .int .i64 0, .int .i64 0, .int .i64 0, .int .i64 0, .int .i64 0, .int .i64 0, .int .i64 0, .int .i64 0, .int .i64 0, .int .i64 0, .int .i64 0, .int .i64 0, .int .i64 0, .int .i64 0, .int .i64 0] 30)))
  have g0 := Lib.hid (cell_of_row _ w1.heap.size 12 _ _ _ hq.out)
  have g1 := Lib.hid (cell_of_row _ w1.heap.size 13 _ _ _ hq.out)
  have g2 := Lib.hid (cell_of_row _ w1.heap.size 14 _ _ _ hq.out)
  have g3 := Lib.hid (cell_of_row _ w1.heap.size 15 _ _ _ hq.out)
  obtain ⟨x0, x1, x2, x3, xl⟩ := X.out
  have y0 := g0.out
  have y1 := g1.out
  have y2 := g2.out
  have y3 := g3.out
  go_wp2_with ((with_reducible (refine wpList_store_row ?a1 30 (.tmp 4) (.tmp 15) ?a2 w2.heap.size #[.int .i64 0, .int .i64 0, .int .i64 0, .int .i64 0, .int .i64 0, .int .i64 0, .int .i64 0, .int .i64 0, .int .i64 0, .int .i64 0, .int .i64 0, .int .i64 0, .int .i64 0, .int .i64 0, .int .i64 0, .int .i64 0] ?h1 ?h2 _ _ (row_new _ _ _) ?h3 ?h4 ?h5 ?h6)); (case a1 => rfl); (case a2 => rfl); (case h1 => rfl); (case h2 => rfl); (case h3 => kernel_rfl); (case h4 => rfl); (case h5 => kernel_rfl); rw [setRow_new])
  refine (C3.out _).mono ?_; rintro e w3 ⟨rfl, bw3⟩
  clear x0 x1 x2 x3 xl
  clear y0 y1 y2 y3 g0 g1 g2 g3 hq
  have X' := Lib.hid (X.out.later bw3)
  have B' := Lib.hid (bel_trans B.out bw3)
  clear bw3 X B
  have X := Lib.hid X'.out
  have B := Lib.hid B'.out
  clear X' B'
  obtain ⟨x0, x1, x2, x3, xl⟩ := X.out
  go_wp2_with fail
  refine (C4.out _).mono ?_; rintro e w4 ⟨rfl, bw4⟩
  clear x0 x1 x2 x3 xl
  have X' := Lib.hid (X.out.later bw4)
  have B' := Lib.hid (bel_trans B.out bw4)
  clear bw4 X B
  have X := Lib.hid X'.out
  have B := Lib.hid B'.out
  clear X' B'
  obtain ⟨x0, x1, x2, x3, xl⟩ := X.out
  go_wp2_with fail
  refine (C5.out _).mono ?_; rintro e w5 ⟨rfl, bw5⟩
  clear x0 x1 x2 x3 xl
  have X' := Lib.hid (X.out.later bw5)
  have B' := Lib.hid (bel_trans B.out bw5)
  clear bw5 X B
  have X := Lib.hid X'.out
  have B := Lib.hid B'.out
  clear X' B'
  obtain ⟨x0, x1, x2, x3, xl⟩ := X.out
  go_wp2_with fail
  refine (C6.out _).mono ?_; rintro e w6 ⟨rfl, bw6⟩
  clear x0 x1 x2 x3 xl
  have X' := Lib.hid (X.out.later bw6)
  have B' := Lib.hid (bel_trans B.out bw6)
  clear bw6 X B
  have X := Lib.hid X'.out
  have B := Lib.hid B'.out
  clear X' B'
  obtain ⟨x0, x1, x2, x3, xl⟩ := X.out
  go_wp2_with fail
  refine (C7.out _).mono ?_; rintro e w7 ⟨rfl, bw7⟩
  clear x0 x1 x2 x3 xl
  have X' := Lib.hid (X.out.later bw7)
  have B' := Lib.hid (bel_trans B.out bw7)
  clear bw7 X B
  have X := Lib.hid X'.out
  have B := Lib.hid B'.out
  clear X' B'
  obtain ⟨x0, x1, x2, x3, xl⟩ := X.out
  go_wp2_with fail
  refine (C8.out _).mono ?_; rintro e w8 ⟨rfl, bw8⟩
  clear x0 x1 x2 x3 xl
  have X' := Lib.hid (X.out.later bw8)
  have B' := Lib.hid (bel_trans B.out bw8)
  clear bw8 X B
  have X := Lib.hid X'.out
  have B := Lib.hid B'.out
  clear X' B'
  obtain ⟨x0, x1, x2, x3, xl⟩ := X.out
  go_wp2_with fail
  refine (C9.out _).mono ?_; rintro e w9 ⟨rfl, bw9⟩
  clear x0 x1 x2 x3 xl
  have X' := Lib.hid (X.out.later bw9)
  have B' := Lib.hid (bel_trans B.out bw9)
  clear bw9 X B
  have X := Lib.hid X'.out
  have B := Lib.hid B'.out
  clear X' B'
  obtain ⟨x0, x1, x2, x3, xl⟩ := X.out
  go_wp2_with fail
  refine (CA.out _).mono ?_; rintro e w10 ⟨rfl, bw10⟩
  clear x0 x1 x2 x3 xl
  have X' := Lib.hid (X.out.later bw10)
  have B' := Lib.hid (bel_trans B.out bw10)
  clear bw10 X B
  have X := Lib.hid X'.out
  have B := Lib.hid B'.out
  clear X' B'
  obtain ⟨x0, x1, x2, x3, xl⟩ := X.out
  go_wp2_with fail
  refine (CB.out _).mono ?_; rintro e w11 ⟨rfl, bw11⟩
  clear x0 x1 x2 x3 xl
  have X' := Lib.hid (X.out.later bw11)
  have B' := Lib.hid (bel_trans B.out bw11)
  clear bw11 X B
  have X := Lib.hid X'.out
  have B := Lib.hid B'.out
  clear X' B'
  obtain ⟨x0, x1, x2, x3, xl⟩ := X.out
  have J := fun w => corner1 0 0 4 2 w
  go_wp2
  go_ret
  exact ⟨rfl, B.out⟩
end Go.Proofs.Ytimoekgnockhdaa
