/- How a ring's class is told by counting corners. No program in it. -/
import Derived.Test.YtoofbbmddddlcaaBarTally
import Derived.Test.YtoofbbmddddlcaaRingMove
namespace Go.Proofs.Ytoofbbmddddlcaa
open Go.RowKit

/-- A box and three points in blocks side by side. -/
structure BxP3 (n : Nat) (a b c d x y u v e f : Int) (w : World) : Prop where
  b : BoxAt w n a b c d
  c : PtAt w (n + 1) x y
  p : PtAt w (n + 1 + 1) u v
  q : PtAt w (n + 1 + 1 + 1) e f
theorem BxP3.later {n : Nat} {w w1 : World} {a b c d x y u v e f : Int} (h : BxP3 n a b c d x y u v e f w) (k : Below w.heap.size w w1) : BxP3 n a b c d x y u v e f w1 := ⟨h.b.later k, h.c.later k, h.p.later k, h.q.later k⟩
theorem BxP3.alloc {n : Nat} {w : World} {a b c d x y u v e f : Int} (h : BxP3 n a b c d x y u v e f w) (o : Obj) : BxP3 n a b c d x y u v e f (w.alloc o) := h.later (bel_alloc (bel_refl w) o)
theorem bxp3_new (w : World) (a b c d x y u v e f : Int) (tb tp : TypeId) : BxP3 w.heap.size a b c d x y u v e f ((((w.alloc (.cells #[.int .i64 a, .int .i64 b, .int .i64 c, .int .i64 d] tb)).alloc (.cells #[.int .i64 x, .int .i64 y] tp)).alloc (.cells #[.int .i64 u, .int .i64 v] tp)).alloc (.cells #[.int .i64 e, .int .i64 f] tp)) := by
  have h := (bxpp_new w a b c d x y u v tb tp).alloc (.cells #[.int .i64 e, .int .i64 f] tp)
  refine ⟨h.b, h.c, h.p, ?_⟩
  have k := ptAt_new (((w.alloc (.cells #[.int .i64 a, .int .i64 b, .int .i64 c, .int .i64 d] tb)).alloc (.cells #[.int .i64 x, .int .i64 y] tp)).alloc (.cells #[.int .i64 u, .int .i64 v] tp)) e f tp
  rw [show (((w.alloc (.cells #[.int .i64 a, .int .i64 b, .int .i64 c, .int .i64 d] tb)).alloc (.cells #[.int .i64 x, .int .i64 y] tp)).alloc (.cells #[.int .i64 u, .int .i64 v] tp)).heap.size = w.heap.size + 1 + 1 + 1 by simp] at k
  exact k
/-- The three counts at the head of a round. -/
structure Cnt3 (U V B : Q4) (j : Nat) (n m k : Int) : Prop where
  u : n = fnd U j
  v : m = fnd V j
  b : k = fnd B j
def Cnt3At (N g : Nat) (w : World) (a b c d x y u v e f : Int) (U V B : Q4) (sn sm sk si : Value) (wr : World) : Prop :=
  EightAt wr g a b c d ∧ BxP3 N a b c d x y u v e f wr ∧ Below w.heap.size w wr ∧ ∃ n m k : Int, sn = .int .i64 n ∧ sm = .int .i64 m ∧ sk = .int .i64 k ∧
    ((si = .int .i64 0 ∧ Cnt3 U V B 0 n m k) ∨ (si = .int .i64 1 ∧ Cnt3 U V B 1 n m k) ∨ (si = .int .i64 2 ∧ Cnt3 U V B 2 n m k) ∨ (si = .int .i64 3 ∧ Cnt3 U V B 3 n m k) ∨ (si = .int .i64 4 ∧ Cnt3 U V B 4 n m k))
theorem fnd_all (p q r s : Bool) : decide (fnd (p, q, r, s) 4 = 4) = (p && q && r && s) := by cases p <;> cases q <;> cases r <;> cases s <;> rfl
theorem fnd_none (p q r s : Bool) : decide (fnd (p, q, r, s) 4 = 0) = (!p && !q && !r && !s) := by cases p <;> cases q <;> cases r <;> cases s <;> rfl
theorem neg_not (z : Int) : decide (z < 0) = !decide (0 ≤ z) := by
  by_cases h : 0 ≤ z
  · rw [decide_eq_true h, decide_eq_false (show ¬ z < 0 by omega)]; rfl
  · rw [decide_eq_false h, decide_eq_true (show z < 0 by omega)]; rfl
theorem and_eight (p q r s t u v w : Bool) : (p && q && r && s && (t && u && v && w)) = ((p && t) && (q && u) && (r && v) && (s && w)) := by cases p <;> cases q <;> cases r <;> cases s <;> simp
theorem inn_neg {k : Int} (h : k < 0) (p q : Bool) : innB false k p q = (p || q) := by unfold innB; rw [if_pos h, Bool.false_or]
theorem inn_pos {k : Int} (h : ¬ k < 0) (p q : Bool) : innB false k p q = (p && q) := by unfold innB; rw [if_neg h, Bool.false_or]
theorem inn_same (k : Int) (p q : Bool) : innB true k p q = true := rfl
theorem off_neg {k : Int} (h : k < 0) (p q r : Bool) : offB false k p q r = r := by unfold offB; rw [if_pos h]; rfl
theorem off_pos {k : Int} (h : ¬ k < 0) (p q r : Bool) : offB false k p q r = (p || q) := by unfold offB; rw [if_neg h]; rfl
theorem off_same (k : Int) (p q r : Bool) : offB true k p q r = false := rfl
theorem same_ways (u e v f : Int) : (¬ u = e) ∨ (u = e ∧ ¬ v = f) ∨ (u = e ∧ v = f) := by omega
theorem near_rng {a b c d x y : Int} (a0 : -536870912 ≤ a) (ac : a ≤ c) (c1 : c ≤ 536870912) (b0 : -536870912 ≤ b) (bd : b ≤ d) (d1 : d ≤ 536870912) (x0 : -536870912 ≤ x) (x1 : x ≤ 536870912) (y0 : -536870912 ≤ y) (y1 : y ≤ 536870912) : 0 ≤ nearS a b c d x y ∧ nearS a b c d x y ≤ 2305843009213693952 := by
  obtain ⟨h0, h1⟩ := nearI_in x ac
  obtain ⟨k0, k1⟩ := nearI_in y bd
  exact sqI_bd x0 x1 y0 y1 (by omega) (by omega) (by omega) (by omega)
theorem most_rng {a b c d x y : Int} (a0 : -536870912 ≤ a) (ac : a ≤ c) (c1 : c ≤ 536870912) (b0 : -536870912 ≤ b) (bd : b ≤ d) (d1 : d ≤ 536870912) (x0 : -536870912 ≤ x) (x1 : x ≤ 536870912) (y0 : -536870912 ≤ y) (y1 : y ≤ 536870912) : 0 ≤ mostS a b c d x y ∧ mostS a b c d x y ≤ 2305843009213693952 := by
  have h : a ≤ farI x a c ∧ farI x a c ≤ c := by unfold farI; split <;> omega
  have k : b ≤ farI y b d ∧ farI y b d ≤ d := by unfold farI; split <;> omega
  exact sqI_bd x0 x1 y0 y1 (by omega) (by omega) (by omega) (by omega)
/-- The class, by three counts and two tests. -/
theorem ringC_of {a b c d x y u v e f r n m k K B nr ms one two : Int} {x0 x1 x2 x3 y0 y1 y2 y3 I O p1 p2 q1 q2 C D : Bool} (ho : okR x y u v e f = true) (hr : 1 ≤ r) (hK : crI x y u v e f = K) (hB : sqI u v x y = B)
    (h1 : discK r (nearS a b c d u v) (mostS a b c d u v) = one) (h2 : discK r (nearS a b c d e f) (mostS a b c d e f) = two) (hn : nearS a b c d x y = nr) (hm : mostS a b c d x y = ms)
    (e0 : decide (0 ≤ crI x y u v a b) = x0) (e1 : decide (0 ≤ crI x y u v c b) = x1) (e2 : decide (0 ≤ crI x y u v a d) = x2) (e3 : decide (0 ≤ crI x y u v c d) = x3)
    (f0 : decide (0 ≤ crI x y a b e f) = y0) (f1 : decide (0 ≤ crI x y c b e f) = y1) (f2 : decide (0 ≤ crI x y a d e f) = y2) (f3 : decide (0 ≤ crI x y c d e f) = y3)
    (T : Cnt3 (x0, x1, x2, x3) (y0, y1, y2, y3) (!x0 && !y0, !x1 && !y1, !x2 && !y2, !x3 && !y3) 4 n m k)
    (hI : innB (decide (u = e ∧ v = f)) K (decide (n = 4)) (decide (m = 4)) = I) (hO : offB (decide (u = e ∧ v = f)) K (decide (n = 0)) (decide (m = 0)) (decide (k = 4)) = O)
    (k1 : dnW nr B (r * r) = p1) (k2 : upW ms B (r * r) = p2) (k3 : upW nr B (r * r) = q1) (k4 : dnW ms B (r * r) = q2)
    (hC : decide (one = 2 ∨ two = 2 ∨ (I = true ∧ p1 = true ∧ p2 = true)) = C) (hD : decide (one = 0 ∧ two = 0 ∧ (O = true ∨ q1 = false ∨ q2 = false)) = D) :
    ringC a b c d x y u v e f r = if C = true then 2 else if D = true then 0 else 1 := by
  have a1 : u4B x y u v a b c d = decide (n = 4) := by unfold u4B; rw [e0, e1, e2, e3, T.u, fnd_all]
  have a2 : v4B x y e f a b c d = decide (m = 4) := by unfold v4B; rw [f0, f1, f2, f3, T.v, fnd_all]
  have a3 : u0B x y u v a b c d = decide (n = 0) := by unfold u0B; rw [neg_not, neg_not, neg_not, neg_not, e0, e1, e2, e3, T.u, fnd_none]
  have a4 : v0B x y e f a b c d = decide (m = 0) := by unfold v0B; rw [neg_not, neg_not, neg_not, neg_not, f0, f1, f2, f3, T.v, fnd_none]
  have a5 : (u0B x y u v a b c d && v0B x y e f a b c d) = decide (k = 4) := by rw [a3, a4, T.u, T.v, T.b, fnd_none, fnd_none, fnd_all, and_eight]
  unfold ringC
  rw [if_pos ⟨ho, hr⟩, a5, a1, a2, a3, a4, hK, hB, h1, h2, hn, hm, hI, hO]
  unfold ringK
  rw [k1, k2, k3, k4]
  simp only [← hC, ← hD, decide_eq_true_eq]
end Go.Proofs.Ytoofbbmddddlcaa
