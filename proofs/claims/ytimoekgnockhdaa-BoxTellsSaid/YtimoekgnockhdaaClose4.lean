/- Contracts of the laws' helper Close of layer 4. -/
import Derived.Test.YtimoekgnockhdaaTame4
namespace Go.Proofs.Ytimoekgnockhdaa
open Go.RowKit

theorem close9 {a b x y : Int} (h : a.tmod 10 = x) (k : b.tmod 10 = y) (w : World) :
    Calls Try.prog 21 #[ptV a b, .int .i64 9] w fun e w' => e = .returned (ptV x y) ∧ ((w.alloc (.cells #[.int .i64 a, .int .i64 b] 26)).alloc (.cells #[.int .i64 x, .int .i64 y] 26)).drew = w' := by
  go_enter Try.func21, Try.ntmps21
  go_wp2
  go_region
  go_wp2
  exact bodyPost_ret (v := ptV x y) (by simp [results, Try.results21, go_sem]) rfl ⟨rfl, rfl⟩
theorem close8 {a b x y : Int} (h : a.tmod 9 = x) (k : b.tmod 9 = y) (w : World) :
    Calls Try.prog 21 #[ptV a b, .int .i64 8] w fun e w' => e = .returned (ptV x y) ∧ ((w.alloc (.cells #[.int .i64 a, .int .i64 b] 26)).alloc (.cells #[.int .i64 x, .int .i64 y] 26)).drew = w' := by
  go_enter Try.func21, Try.ntmps21
  go_wp2
  go_region
  go_wp2
  exact bodyPost_ret (v := ptV x y) (by simp [results, Try.results21, go_sem]) rfl ⟨rfl, rfl⟩
end Go.Proofs.Ytimoekgnockhdaa
