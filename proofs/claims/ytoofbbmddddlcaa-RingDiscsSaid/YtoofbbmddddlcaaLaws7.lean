/- Contract of the laws' helper Close of layer 4, whatever the distance. Contracts of the laws' helpers as layer 7's laws call them. -/
import Derived.Test.YtoofbbmddddlcaaTame4
import Derived.Test.YtoofbbmddddlcaaTame5
import Derived.Test.YtoofbbmddddlcaaBoxD
namespace Go.Proofs.Ytoofbbmddddlcaa
open Go.RowKit

theorem closeN {a b x y n k : Int} (h0 : 0 ≤ n) (h1 : n ≤ 1000000000) (hk : n + 1 = k) (h : a.tmod k = x) (g : b.tmod k = y) (w : World) :
    Calls Try.prog 10 #[ptV a b, .int .i64 n] w fun e w' => e = .returned (ptV x y) ∧ ((w.alloc (.cells #[.int .i64 a, .int .i64 b] 25)).alloc (.cells #[.int .i64 x, .int .i64 y] 25)).drew = w' := by
  have k0 : 1 ≤ k := by omega
  have kz : ¬ k = 0 := by omega
  go_enter Try.func10, Try.ntmps10
  go_wp2
  go_region
  go_wp2
  exact bodyPost_ret (v := ptV x y) (by simp [results, Try.results10, go_sem]) rfl ⟨rfl, rfl⟩
end Go.Proofs.Ytoofbbmddddlcaa
namespace Go.Proofs.Ytoofbbmddddlcaa
open Go.RowKit

theorem pt_low {a b x y : Int} (h : ∀ w, Calls Try.prog 19 #[ptV a b] w fun e w' => e = .returned (ptV x y) ∧ (w.alloc (.cells #[.int .i64 a, .int .i64 b] 25)).alloc (.cells #[.int .i64 x, .int .i64 y] 25) = w') (w : World) :
    Calls Try.prog 19 #[ptV a b] w fun e w' => e = .returned (ptV x y) ∧ Below w.heap.size w w' := (h w).mono fun _ _ k => ⟨k.1, k.2 ▸ bel_alloc (bel_alloc (bel_refl w) _) _⟩
theorem close_low {a b x y n k : Int} (h0 : 0 ≤ n) (h1 : n ≤ 1000000000) (hk : n + 1 = k) (h : a.tmod k = x) (g : b.tmod k = y) (w : World) :
    Calls Try.prog 10 #[ptV a b, .int .i64 n] w fun e w' => e = .returned (ptV x y) ∧ Below w.heap.size w w' := (closeN h0 h1 hk h g w).mono fun _ _ k => ⟨k.1, k.2 ▸ bel_drew (bel_alloc (bel_alloc (bel_refl w) _) _)⟩
theorem r_low {a r : Int} (h : ∀ w, Calls Try.prog 11 #[.int .i64 a] w fun e w' => e = .returned (.int .i64 r) ∧ w = w') (w : World) :
    Calls Try.prog 11 #[.int .i64 a] w fun e w' => e = .returned (.int .i64 r) ∧ Below w.heap.size w w' := as_below (h w)
/-- What is left of a radius that may be. -/
theorem r_left {r n : Int} (h : 1 ≤ r) (hn : 1 ≤ n) : ∃ m, 0 ≤ m ∧ m ≤ n - 1 ∧ r.tmod n = m :=
  ⟨_, by rw [Int.tmod_eq_emod_of_nonneg (by omega)]; exact Int.emod_nonneg _ (by omega), by rw [Int.tmod_eq_emod_of_nonneg (by omega)]; have := Int.emod_lt_of_pos r (show 0 < n by omega); omega, rfl⟩
/-- A point within a distance, in one word. -/
theorem close_form (a b n k : Int) (h0 : 0 ≤ n) (h1 : n ≤ 1000000000) (hk : n + 1 = k) : ∃ x y : Int, (-n ≤ x ∧ x ≤ n ∧ -n ≤ y ∧ y ≤ n) ∧ ∀ w, Calls Try.prog 10 #[ptV a b, .int .i64 n] w fun e w' => e = .returned (ptV x y) ∧ Below w.heap.size w w' := by
  obtain ⟨x, x0, x1, hx⟩ := tmod_at a k (by omega)
  obtain ⟨y, y0, y1, hy⟩ := tmod_at b k (by omega)
  exact ⟨x, y, by omega, fun w => close_low h0 h1 hk hx hy w⟩
end Go.Proofs.Ytoofbbmddddlcaa
