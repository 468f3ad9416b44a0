/- Equality of arrays of boxes and of points, and a load of an array inside a region that draws its order. -/
import Derived.Test.YtimoekgnockhdaaBoxS
import Derived.Test.YtimoekgnockhdaaQuietTail
import Derived.ChangeKeysEq
import Derived.Laws.StructEq
namespace Go.Proofs.Ytimoekgnockhdaa
open Go.RowKit
open Go.Sort (grow)

/-- A load of an array that lies in a block of its own, in every world of the class. -/
theorem quiet_load_row {P : Program} {ops : Array Oper} {C : World → Prop} {Q : Act → Prop} {a : Act} {o : Oper} {rest : List Oper} (hgd : o.guard = none) (ty : TypeId) (x : Operand) (ho : o.op = .load ty x)
    (g : Nat) (hx : a.eval x = .pointer (some ⟨g, 0, none⟩)) (t : TypeId) (cs : Array Value) (fr : Nat × Nat) (d : TypeDesc) (hC : ∀ w, C w → w.heap[g]? = some (.cells cs t fr))
    (hu : P.underlying ty = some d) (hd : (match d with | .struct _ | .array _ _ => true | _ => false) = true) (hi : (P.info? ty).map (·.size) = some cs.size)
    (h : wpQuiet P ops C Q rest (a.put o.dst (.agg cs))) : wpQuiet P ops C Q (o :: rest) a := by
  refine wpQuiet_step (fun K hK => ?_)
  have hw : Region.wanted o (yielded ops a.tmps) = true := by unfold Region.wanted; rw [hgd]
  rw [if_pos hw]
  refine ⟨.agg cs, fun w hCw => ?_, hK _ h⟩
  unfold Oper.quietAt execOp
  simp only [ho, hx, Instr.loadAt, Instr.sureAddr, Sem.run_bind, Sem.run_pure, Result.andThen_ok, run_loadVar_row w g t ty cs fr d (hC w hCw) hu hd hi]
  exact ⟨rfl, rfl⟩

theorem eq_box (a b c d : Int) (n : Nat) (w : World) : (Op.equalIn (n + 1 + 1) 23 (.agg #[.int .i64 a, .int .i64 b, .int .i64 c, .int .i64 d]) (.agg #[.int .i64 a, .int .i64 b, .int .i64 c, .int .i64 d])).run Try.prog w = .ok true w := by
  simp [go_sem, Op.eqFields]
theorem eq_pt (a b : Int) (n : Nat) (w : World) : (Op.equalIn (n + 1 + 1) 26 (.agg #[.int .i64 a, .int .i64 b]) (.agg #[.int .i64 a, .int .i64 b])).run Try.prog w = .ok true w := by
  simp [go_sem, Op.eqFields]
theorem eq_four (x0 x1 x2 x3 x4 x5 x6 x7 x8 x9 y0 y1 y2 y3 y4 y5 : Int) (w : World) :
    (Op.equalIn 10000 30 (.agg #[.int .i64 x0, .int .i64 x1, .int .i64 x2, .int .i64 x3, .int .i64 x4, .int .i64 x5, .int .i64 x6, .int .i64 x7, .int .i64 x8, .int .i64 x9, .int .i64 y0, .int .i64 y1, .int .i64 y2, .int .i64 y3, .int .i64 y4, .int .i64 y5])
      (.agg #[.int .i64 x0, .int .i64 x1, .int .i64 x2, .int .i64 x3, .int .i64 x4, .int .i64 x5, .int .i64 x6, .int .i64 x7, .int .i64 x8, .int .i64 x9, .int .i64 y0, .int .i64 y1, .int .i64 y2, .int .i64 y3, .int .i64 y4, .int .i64 y5])).run Try.prog w = .ok true w := by
  obtain ⟨i, hq⟩ := Option.isSome_iff_exists.1 (show (Try.prog.info? 23).isSome = true by kernel_rfl)
  have hc : Try.prog.cellsOf 23 = 4 := by kernel_rfl
  have e := fun a b c d => eq_box a b c d 9997 w
  rw [show (10000 : Nat) = 9999 + 1 from rfl, run_equalIn_array w 9999 _ _ Try.underlying30 hq, hc]
  simp [Op.eqItems, List.range, List.range.loop, e, go_sem]
theorem eq_corners (x0 x1 x2 x3 x4 x5 x6 x7 : Int) (w : World) :
    (Op.equalIn 10000 40 (.agg #[.int .i64 x0, .int .i64 x1, .int .i64 x2, .int .i64 x3, .int .i64 x4, .int .i64 x5, .int .i64 x6, .int .i64 x7])
      (.agg #[.int .i64 x0, .int .i64 x1, .int .i64 x2, .int .i64 x3, .int .i64 x4, .int .i64 x5, .int .i64 x6, .int .i64 x7])).run Try.prog w = .ok true w := by
  obtain ⟨i, hq⟩ := Option.isSome_iff_exists.1 (show (Try.prog.info? 26).isSome = true by kernel_rfl)
  have hc : Try.prog.cellsOf 26 = 2 := by kernel_rfl
  have e := fun a b => eq_pt a b 9997 w
  rw [show (10000 : Nat) = 9999 + 1 from rfl, run_equalIn_array w 9999 _ _ Try.underlying40 hq, hc]
  simp [Op.eqItems, List.range, List.range.loop, e, go_sem]
/-- What Split returns, as an array of sixteen numbers that is equal to itself. -/
theorem splV_shape (a b c d : Int) : ∃ (L : Array Value) (ok : Bool), splV a b c d = .tuple #[.agg L, .bool ok] ∧ L.size = 16 ∧ L.all (·.oneCell') = true ∧ ∀ w, (Op.equalIn 10000 30 (.agg L) (.agg L)).run Try.prog w = .ok true w := by
  cases h : splB a b c d with
  | true => exact ⟨_, _, splV_yes h, rfl, by kernel_rfl, fun w => eq_four _ _ _ _ _ _ _ _ _ _ _ _ _ _ _ _ w⟩
  | false => exact ⟨_, _, splV_no h, rfl, by kernel_rfl, fun w => eq_four _ _ _ _ _ _ _ _ _ _ _ _ _ _ _ _ w⟩
end Go.Proofs.Ytimoekgnockhdaa
