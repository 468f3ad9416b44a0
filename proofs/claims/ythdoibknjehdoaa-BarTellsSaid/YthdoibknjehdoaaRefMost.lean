/- Contract of the document's Most of layer 4: the greatest of the distances to the corners. -/
import Derived.Test.YthdoibknjehdoaaRefBoxM
namespace Go.Proofs.Ythdoibknjehdoaa
open Go.RowKit
open Go.Sort (grow)

theorem sq_diff (a c x : Int) : (c - x) * (c - x) - (a - x) * (a - x) = (c - a) * ((c - x) + (a - x)) := by
  have e : c - a = (c - x) - (a - x) := by omega
  rw [e]
  generalize c - x = C
  generalize a - x = A
  rw [Int.sub_mul, Int.mul_add, Int.mul_add, Int.mul_comm A C]
  omega
theorem far_sq {x a c : Int} (h : a ≤ c) : (a - x) * (a - x) ≤ (farI x a c - x) * (farI x a c - x) ∧ (c - x) * (c - x) ≤ (farI x a c - x) * (farI x a c - x) ∧
    ((farI x a c - x) * (farI x a c - x) = (a - x) * (a - x) ∨ (farI x a c - x) * (farI x a c - x) = (c - x) * (c - x)) := by
  have e := sq_diff a c x
  unfold farI
  split
  · have p := mul_pp (show 0 ≤ c - a by omega) (show 0 ≤ (c - x) + (a - x) by omega)
    omega
  · have p := mul_pn (show 0 ≤ c - a by omega) (show (c - x) + (a - x) ≤ 0 by omega)
    omega
theorem most_max {a b c d x y : Int} (h : a ≤ c) (k : b ≤ d) : mxI (mxI (mxI (sqI x y a b) (sqI x y c b)) (sqI x y a d)) (sqI x y c d) = mostS a b c d x y := by
  obtain ⟨f1, f2, f3⟩ := far_sq (x := x) h
  obtain ⟨g1, g2, g3⟩ := far_sq (x := y) k
  unfold mostS sqI at *
  generalize (farI x a c - x) * (farI x a c - x) = F at *
  generalize (farI y b d - y) * (farI y b d - y) = G at *
  generalize (a - x) * (a - x) = A at *
  generalize (c - x) * (c - x) = C at *
  generalize (b - y) * (b - y) = B at *
  generalize (d - y) * (d - y) = D at *
  unfold mxI
  split <;> split <;> split <;> omega
theorem dist_is {x y u v k : Int} (h : sqI x y u v = k) (x0 : -536870912 ≤ x) (x1 : x ≤ 536870912) (y0 : -536870912 ≤ y) (y1 : y ≤ 536870912) (u0 : -536870912 ≤ u) (u1 : u ≤ 536870912) (v0 : -536870912 ≤ v) (v1 : v ≤ 536870912) (w : World) :
    Calls Try.prog 26 #[ptV x y, ptV u v] w fun e w' => e = .returned (.int .i64 k) ∧ Below w.heap.size w w' := h ▸ dist_any x y u v x0 x1 y0 y1 u0 u1 v0 v1 w

theorem run_max_int4 (ts : Array TypeId) (t : TypeId) (k l m n p q r : Int) (hp : (if k < l then l else k) = p) (hq : (if p < m then m else p) = q) (hr : (if q < n then n else q) = r) (w : World) :
    (Builtin.max_ ts t #[.int .i64 k, .int .i64 l, .int .i64 m, .int .i64 n]).run Try.prog w = .ok (.int .i64 r) w := by
  simp [Builtin.max_, Builtin.max2, hp, hq, hr]
end Go.Proofs.Ythdoibknjehdoaa
