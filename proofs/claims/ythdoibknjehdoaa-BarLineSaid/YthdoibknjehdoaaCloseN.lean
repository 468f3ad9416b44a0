/- Contract of the laws' helper Close of layer 4, whatever the distance. -/
import Derived.Test.YthdoibknjehdoaaTame4
namespace Go.Proofs.Ythdoibknjehdoaa
open Go.RowKit

theorem closeN {a b x y n k : Int} (h0 : 0 ≤ n) (h1 : n ≤ 1000000000) (hk : n + 1 = k) (h : a.tmod k = x) (g : b.tmod k = y) (w : World) :
    Calls Try.prog 9 #[ptV a b, .int .i64 n] w fun e w' => e = .returned (ptV x y) ∧ ((w.alloc (.cells #[.int .i64 a, .int .i64 b] 25)).alloc (.cells #[.int .i64 x, .int .i64 y] 25)).drew = w' := by
  have k0 : 1 ≤ k := by omega
  have kz : ¬ k = 0 := by omega
  go_enter Try.func9, Try.ntmps9
  go_wp2
  go_region
  go_wp2
  exact bodyPost_ret (v := ptV x y) (by simp [results, Try.results9, go_sem]) rfl ⟨rfl, rfl⟩
end Go.Proofs.Ythdoibknjehdoaa
