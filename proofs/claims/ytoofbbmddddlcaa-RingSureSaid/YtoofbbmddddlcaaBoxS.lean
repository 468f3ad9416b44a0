/- Contracts of package box: the farthest point, quarters. -/
import Derived.Test.YtoofbbmddddlcaaBoxD
import Derived.Laws.Rows
namespace Go.Proofs.Ytoofbbmddddlcaa
open Go.RowKit
open Go.Sort (grow)

set_option maxHeartbeats 1000000 in
theorem most_any (a b c d x y : Int) (a0 : -536870912 ≤ a) (ac : a ≤ c) (c1 : c ≤ 536870912) (b0 : -536870912 ≤ b) (bd : b ≤ d) (d1 : d ≤ 536870912) (x0 : -536870912 ≤ x) (x1 : x ≤ 536870912) (y0 : -536870912 ≤ y) (y1 : y ≤ 536870912) (w : World) :
    Calls Try.prog 36 #[boxV a b c d, ptV x y] w fun e w' => e = .returned (.int .i64 (mostS a b c d x y)) ∧ Below w.heap.size w w' := by
  obtain ⟨m, hm⟩ : ∃ m, farI x a c = m := ⟨_, rfl⟩
  obtain ⟨n, hn⟩ : ∃ n, farI y b d = n := ⟨_, rfl⟩
  have im := farI_in x ac
  have inn := farI_in y bd
  rw [hm] at im
  rw [hn] at inn
  have H := Lib.hid (show mostS a b c d x y = sqI x y m n by unfold mostS; rw [hm, hn])
  have C1 := Lib.hid (fun w => hm ▸ farthest_any x a c x0 x1 (by omega) (by omega) (by omega) (by omega) w)
  have C2 := Lib.hid (fun w => hn ▸ farthest_any y b d y0 y1 (by omega) (by omega) (by omega) (by omega) w)
  have C3 := Lib.hid (fun w => square_any x y m n x0 x1 y0 y1 (by omega) (by omega) (by omega) (by omega) w)
  clear hm hn
  go_enter Try.func36, Try.ntmps36
  go_wp2_with fail
  have bA := bel_alloc (bel_alloc (bel_refl w) (.cells #[.int .i64 a, .int .i64 b, .int .i64 c, .int .i64 d] 23)) (.cells #[.int .i64 x, .int .i64 y] 25)
  have bx := (boxAt_new w a b c d 23).alloc (.cells #[.int .i64 x, .int .i64 y] 25)
  have pt := ptAt_new (w.alloc (.cells #[.int .i64 a, .int .i64 b, .int .i64 c, .int .i64 d] 23)) x y 25
  rw [show (w.alloc (.cells #[.int .i64 a, .int .i64 b, .int .i64 c, .int .i64 d] 23)).heap.size = w.heap.size + 1 by simp] at pt
  generalize (w.alloc (.cells #[.int .i64 a, .int .i64 b, .int .i64 c, .int .i64 d] 23)).alloc (.cells #[.int .i64 x, .int .i64 y] 25) = W at *
  obtain ⟨q0, q1, q2, q3, ql⟩ := bx
  obtain ⟨p0, p1, pl⟩ := pt
  have q0 := cell_regrown q0
  have q1 := cell_regrown q1
  have q2 := cell_regrown q2
  have q3 := cell_regrown q3
  have p0 := cell_regrown p0
  have p1 := cell_regrown p1
  have D1 := Lib.hid (fun p : Regrown => Calls.regrown_of (as_below (C1.out (grow (redrawn W p.d) p.os))))
  have D2 := Lib.hid (fun p : Regrown => Calls.regrown_of (as_below (C2.out (grow (redrawn W p.d) p.os))))
  have D3 := Lib.hid (fun p : Regrown => Calls.regrown_of (C3.out (grow (redrawn W p.d) p.os)))
  refine wp_region_quiet_below (by kernel_rfl) (by kernel_rfl) ?_
  repeat (go_big_quiet_step (first | with_reducible exact D1.out _ | with_reducible exact D2.out _ | with_reducible exact D3.out _))
  refine wpQuiet_nil ?_
  intro _ hw'
  obtain ⟨⟨dq, osq⟩, hw''⟩ := hw'
  subst hw''
  go_wp2
  go_ret
  exact ⟨by rw [H.out]; rfl, bel_trans bA (below_regrown W dq osq)⟩

/-- The value of four boxes. -/
abbrev fourV (a b c d x y : Int) : Value := .agg #[.int .i64 a, .int .i64 b, .int .i64 x, .int .i64 y, .int .i64 x, .int .i64 b, .int .i64 c, .int .i64 y, .int .i64 a, .int .i64 y, .int .i64 x, .int .i64 d, .int .i64 x, .int .i64 y, .int .i64 c, .int .i64 d]
abbrev zerosV : Value := .agg #[.int .i64 0, .int .i64 0, .int .i64 0, .int .i64 0, .int .i64 0, .int .i64 0, .int .i64 0, .int .i64 0, .int .i64 0, .int .i64 0, .int .i64 0, .int .i64 0, .int .i64 0, .int .i64 0, .int .i64 0, .int .i64 0]

/-- The value of what Split returns. -/
def splV (a b c d : Int) : Value := .tuple #[if splB a b c d then fourV a b c d (a + (c - a) / 2) (b + (d - b) / 2) else zerosV, .bool (splB a b c d)]
theorem splV_no {a b c d : Int} (h : splB a b c d = false) : splV a b c d = .tuple #[zerosV, .bool false] := by unfold splV; rw [h]; rfl
theorem splV_yes {a b c d : Int} (h : splB a b c d = true) : splV a b c d = .tuple #[fourV a b c d (a + (c - a) / 2) (b + (d - b) / 2), .bool true] := by unfold splV; rw [h]; rfl
end Go.Proofs.Ytoofbbmddddlcaa
