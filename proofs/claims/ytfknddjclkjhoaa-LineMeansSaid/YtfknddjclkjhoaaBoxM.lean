/- Contracts of package box: which side of a line a box lies on, and whether a segment meets it. -/
import Derived.Test.YtfknddjclkjhoaaBoxD
import Derived.Test.YtfknddjclkjhoaaBoxI
namespace Go.Proofs.Ytfknddjclkjhoaa
open Go.RowKit
open Go.Sort (grow)

def kOf (k l m n : Int) : Nat → Int
  | 0 => k
  | 1 => l
  | 2 => m
  | _ => n
/-- How many of the first numbers are above 0, and below. -/
def pos (f : Nat → Int) : Nat → Int
  | 0 => 0
  | j + 1 => pos f j + if 0 < f j then 1 else 0
def neg (f : Nat → Int) : Nat → Int
  | 0 => 0
  | j + 1 => neg f j + if f j < 0 then 1 else 0
structure Cnt (f : Nat → Int) (j : Nat) (l r : Int) : Prop where
  a : l = pos f j
  b : r = neg f j
theorem pos_bd (f : Nat → Int) (j : Nat) : 0 ≤ pos f j ∧ pos f j ≤ j := by
  induction j with
  | zero => simp [pos]
  | succ j ih => unfold pos; split <;> omega
theorem neg_bd (f : Nat → Int) (j : Nat) : 0 ≤ neg f j ∧ neg f j ≤ j := by
  induction j with
  | zero => simp [neg]
  | succ j ih => unfold neg; split <;> omega
theorem Cnt.bd {f : Nat → Int} {j : Nat} {l r : Int} (h : Cnt f j l r) (hj : j ≤ 4) : (0 ≤ l ∧ l ≤ 4) ∧ 0 ≤ r ∧ r ≤ 4 := by
  obtain ⟨rfl, rfl⟩ := h
  have := pos_bd f j; have := neg_bd f j
  omega
theorem Cnt.up {f : Nat → Int} {j : Nat} {l r : Int} (h : Cnt f j l r) (hf : 0 < f j) : Cnt f (j + 1) (l + 1) r := by
  obtain ⟨rfl, rfl⟩ := h
  exact ⟨by rw [pos, if_pos hf], by rw [neg, if_neg (by omega)]; omega⟩
theorem Cnt.down {f : Nat → Int} {j : Nat} {l r : Int} (h : Cnt f j l r) (hf : f j < 0) : Cnt f (j + 1) l (r + 1) := by
  obtain ⟨rfl, rfl⟩ := h
  exact ⟨by rw [pos, if_neg (by omega)]; omega, by rw [neg, if_pos hf]⟩
theorem Cnt.stay {f : Nat → Int} {j : Nat} {l r : Int} (h : Cnt f j l r) (hf : f j = 0) : Cnt f (j + 1) l r := by
  obtain ⟨rfl, rfl⟩ := h
  exact ⟨by rw [pos, if_neg (by omega)]; omega, by rw [neg, if_neg (by omega)]; omega⟩
theorem Cnt.done {k l m n p q : Int} (h : Cnt (kOf k l m n) 4 p q) : besB k l m n = (p == 4 || q == 4) := by
  obtain ⟨rfl, rfl⟩ := h
  have e : pos (kOf k l m n) 4 = (if 0 < k then 1 else 0) + (if 0 < l then 1 else 0) + (if 0 < m then 1 else 0) + (if 0 < n then 1 else 0) := by simp [pos, kOf]
  have e' : neg (kOf k l m n) 4 = (if k < 0 then 1 else 0) + (if l < 0 then 1 else 0) + (if m < 0 then 1 else 0) + (if n < 0 then 1 else 0) := by simp [neg, kOf]
  rw [e, e', Bool.eq_iff_iff]
  unfold besB
  simp only [decide_eq_true_eq, Bool.or_eq_true, beq_iff_eq]
  by_cases h1 : 0 < k <;> by_cases h2 : 0 < l <;> by_cases h3 : 0 < m <;> by_cases h4 : 0 < n <;> by_cases g1 : k < 0 <;> by_cases g2 : l < 0 <;> by_cases g3 : m < 0 <;> by_cases g4 : n < 0 <;> simp [h1, h2, h3, h4, g1, g2, g3, g4] <;> omega
/-- The head of a round: what has been counted, and where the points lie. -/
def SideAt (w : World) (bp bq : Nat) (f : Nat → Int) (x y u v : Int) (sl sr si : Value) (wr : World) : Prop :=
  ∃ l r : Int, sl = .int .i64 l ∧ sr = .int .i64 r ∧ ((si = .int .i64 0 ∧ Cnt f 0 l r) ∨ (si = .int .i64 1 ∧ Cnt f 1 l r) ∨ (si = .int .i64 2 ∧ Cnt f 2 l r) ∨ (si = .int .i64 3 ∧ Cnt f 3 l r) ∨ (si = .int .i64 4 ∧ Cnt f 4 l r)) ∧ PtAt wr bp x y ∧ PtAt wr bq u v ∧ Below w.heap.size w wr
theorem cross_is {x y u v s t k : Int} (h : crI x y u v s t = k) (x0 : -536870912 ≤ x) (x1 : x ≤ 536870912) (y0 : -536870912 ≤ y) (y1 : y ≤ 536870912) (u0 : -536870912 ≤ u) (u1 : u ≤ 536870912) (v0 : -536870912 ≤ v) (v1 : v ≤ 536870912) (s0 : -536870912 ≤ s) (s1 : s ≤ 536870912) (t0 : -536870912 ≤ t) (t1 : t ≤ 536870912) (w : World) :
    Calls Try.prog 43 #[ptV x y, ptV u v, ptV s t] w fun e w' => e = .returned (.int .i64 k) ∧ Below w.heap.size w w' := h ▸ cross_any x y u v s t x0 x1 y0 y1 u0 u1 v0 v1 s0 s1 t0 t1 w

set_option maxRecDepth 100000 in
set_option maxHeartbeats 4000000 in
theorem beside_any (a b c d x y u v : Int) (a0 : -536870912 ≤ a) (ac : a ≤ c) (c1 : c ≤ 536870912) (b0 : -536870912 ≤ b) (bd : b ≤ d) (d1 : d ≤ 536870912) (x0 : -536870912 ≤ x) (x1 : x ≤ 536870912) (y0 : -536870912 ≤ y) (y1 : y ≤ 536870912) (u0 : -536870912 ≤ u) (u1 : u ≤ 536870912) (v0 : -536870912 ≤ v) (v1 : v ≤ 536870912) (w : World) :
    Calls Try.prog 39 #[boxV a b c d, ptV x y, ptV u v] w fun e w' => e = .returned (.bool (sideB a b c d x y u v)) ∧ Below w.heap.size w w' := by
  obtain ⟨k, h0⟩ : ∃ k, crI x y u v a b = k := ⟨_, rfl⟩
  obtain ⟨l, h1⟩ : ∃ k, crI x y u v c b = k := ⟨_, rfl⟩
  obtain ⟨m, h2⟩ : ∃ k, crI x y u v a d = k := ⟨_, rfl⟩
  obtain ⟨n, h3⟩ : ∃ k, crI x y u v c d = k := ⟨_, rfl⟩
  have HB := Lib.hid (show sideB a b c d x y u v = besB k l m n by unfold sideB; rw [h0, h1, h2, h3])
  have K0 := Lib.hid (fun w => cross_is h0 x0 x1 y0 y1 u0 u1 v0 v1 (by omega) (by omega) (by omega) (by omega) w)
  have K1 := Lib.hid (fun w => cross_is h1 x0 x1 y0 y1 u0 u1 v0 v1 (by omega) (by omega) (by omega) (by omega) w)
  have K2 := Lib.hid (fun w => cross_is h2 x0 x1 y0 y1 u0 u1 v0 v1 (by omega) (by omega) (by omega) (by omega) w)
  have K3 := Lib.hid (fun w => cross_is h3 x0 x1 y0 y1 u0 u1 v0 v1 (by omega) (by omega) (by omega) (by omega) w)
  clear h0 h1 h2 h3
  have C := Lib.hid (fun w => corners_any a b c d w)
  have P0 := Lib.hid (((ptAt_new (w.alloc (.cells #[.int .i64 a, .int .i64 b, .int .i64 c, .int .i64 d] 23)) x y 25).alloc (.cells #[.int .i64 u, .int .i64 v] 25)))
  have Q0 := Lib.hid (ptAt_new ((w.alloc (.cells #[.int .i64 a, .int .i64 b, .int .i64 c, .int .i64 d] 23)).alloc (.cells #[.int .i64 x, .int .i64 y] 25)) u v 25)
  have B0 := Lib.hid (bel_alloc (bel_alloc (bel_alloc (bel_refl w) (.cells #[.int .i64 a, .int .i64 b, .int .i64 c, .int .i64 d] 23)) (.cells #[.int .i64 x, .int .i64 y] 25)) (.cells #[.int .i64 u, .int .i64 v] 25))
  go_enter Try.func39, Try.ntmps39
  go_wp2_with fail
  refine (C.out _).mono ?_; rintro e w1 ⟨rfl, b1⟩
  have P1 := P0.out.later b1
  have Q1 := Q0.out.later b1
  rw [show (w.alloc (.cells #[.int .i64 a, .int .i64 b, .int .i64 c, .int .i64 d] 23)).heap.size = w.heap.size + 1 by simp] at P1
  rw [show ((w.alloc (.cells #[.int .i64 a, .int .i64 b, .int .i64 c, .int .i64 d] 23)).alloc (.cells #[.int .i64 x, .int .i64 y] 25)).heap.size = w.heap.size + 1 + 1 by simp] at Q1
  have P1 := Lib.hid P1
  have Q1 := Lib.hid Q1
  have B1 := Lib.hid (bel_trans B0.out b1)
  clear b1 P0 Q0 B0
  go_wp2_with fail
  go_loopw [7, 8, 14] (fun sl sr si wr => SideAt w (w.heap.size + 1) (w.heap.size + 1 + 1) (kOf k l m n) x y u v sl sr si wr) (fun _ _ si _ => (4 - intOf si).toNat)
  case atStart => exact ⟨0, 0, rfl, rfl, .inl ⟨rfl, rfl, rfl⟩, P1.out, Q1.out, B1.out⟩
  case round =>
    obtain ⟨cl, cr, rfl, rfl, hc, P, Q, B⟩ := hrel
    clear P1 Q1 B1
    rcases hc with ⟨rfl, C⟩ | ⟨rfl, C⟩ | ⟨rfl, C⟩ | ⟨rfl, C⟩ | ⟨rfl, C⟩
    · obtain ⟨⟨l0, l1⟩, r0, r1⟩ := C.bd (by omega)
      rcases Int.lt_trichotomy k 0 with hk | hk | hk
      · have hn : k < 0 := hk
        have hk := Lib.hid hk
        have C := Lib.hid C
        have P := Lib.hid P
        have Q := Lib.hid Q
        have B := Lib.hid B
        obtain ⟨p0, p1, pl⟩ := P.out
        obtain ⟨q0, q1, ql⟩ := Q.out
        have J := fun w => corner0 a b c d w
        go_wp2_with fail
        clear J
        refine (K0.out _).mono ?_; rintro e w2 ⟨rfl, b2⟩
        have P2 := Lib.hid ((P.out.alloc _).later b2)
        have Q2 := Lib.hid ((Q.out.alloc _).later b2)
        have B2 := Lib.hid (bel_trans (bel_alloc B.out _) b2)
        clear b2 p0 p1 pl q0 q1 ql
        go_wp2
        go_roundw
        case rel => exact ⟨cl, (cr + 1), rfl, rfl, .inr (.inl ⟨rfl, C.out.down hk.out⟩), P2.out, Q2.out, B2.out⟩
        case measure => simp [intOf]
      · have hn : k ≤ 0 := by omega
        have hn' : 0 ≤ k := by omega
        have hk := Lib.hid hk
        have C := Lib.hid C
        have P := Lib.hid P
        have Q := Lib.hid Q
        have B := Lib.hid B
        obtain ⟨p0, p1, pl⟩ := P.out
        obtain ⟨q0, q1, ql⟩ := Q.out
        have J := fun w => corner0 a b c d w
        go_wp2_with fail
        clear J
        refine (K0.out _).mono ?_; rintro e w2 ⟨rfl, b2⟩
        have P2 := Lib.hid ((P.out.alloc _).later b2)
        have Q2 := Lib.hid ((Q.out.alloc _).later b2)
        have B2 := Lib.hid (bel_trans (bel_alloc B.out _) b2)
        clear b2 p0 p1 pl q0 q1 ql
        go_wp2
        go_roundw
        case rel => exact ⟨cl, cr, rfl, rfl, .inr (.inl ⟨rfl, C.out.stay hk.out⟩), P2.out, Q2.out, B2.out⟩
        case measure => simp [intOf]
      · have hn : 0 < k := hk
        have hk := Lib.hid hk
        have C := Lib.hid C
        have P := Lib.hid P
        have Q := Lib.hid Q
        have B := Lib.hid B
        obtain ⟨p0, p1, pl⟩ := P.out
        obtain ⟨q0, q1, ql⟩ := Q.out
        have J := fun w => corner0 a b c d w
        go_wp2_with fail
        clear J
        refine (K0.out _).mono ?_; rintro e w2 ⟨rfl, b2⟩
        have P2 := Lib.hid ((P.out.alloc _).later b2)
        have Q2 := Lib.hid ((Q.out.alloc _).later b2)
        have B2 := Lib.hid (bel_trans (bel_alloc B.out _) b2)
        clear b2 p0 p1 pl q0 q1 ql
        go_wp2
        go_roundw
        case rel => exact ⟨(cl + 1), cr, rfl, rfl, .inr (.inl ⟨rfl, C.out.up hk.out⟩), P2.out, Q2.out, B2.out⟩
        case measure => simp [intOf]
    · obtain ⟨⟨l0, l1⟩, r0, r1⟩ := C.bd (by omega)
      rcases Int.lt_trichotomy l 0 with hk | hk | hk
      · have hn : l < 0 := hk
        have hk := Lib.hid hk
        have C := Lib.hid C
        have P := Lib.hid P
        have Q := Lib.hid Q
        have B := Lib.hid B
        obtain ⟨p0, p1, pl⟩ := P.out
        obtain ⟨q0, q1, ql⟩ := Q.out
        have J := fun w => corner1 a b c d w
        go_wp2_with fail
        clear J
        refine (K1.out _).mono ?_; rintro e w2 ⟨rfl, b2⟩
        have P2 := Lib.hid ((P.out.alloc _).later b2)
        have Q2 := Lib.hid ((Q.out.alloc _).later b2)
        have B2 := Lib.hid (bel_trans (bel_alloc B.out _) b2)
        clear b2 p0 p1 pl q0 q1 ql
        go_wp2
        go_roundw
        case rel => exact ⟨cl, (cr + 1), rfl, rfl, .inr (.inr (.inl ⟨rfl, C.out.down hk.out⟩)), P2.out, Q2.out, B2.out⟩
        case measure => simp [intOf]
      · have hn : l ≤ 0 := by omega
        have hn' : 0 ≤ l := by omega
        have hk := Lib.hid hk
        have C := Lib.hid C
        have P := Lib.hid P
        have Q := Lib.hid Q
        have B := Lib.hid B
        obtain ⟨p0, p1, pl⟩ := P.out
        obtain ⟨q0, q1, ql⟩ := Q.out
        have J := fun w => corner1 a b c d w
        go_wp2_with fail
        clear J
        refine (K1.out _).mono ?_; rintro e w2 ⟨rfl, b2⟩
        have P2 := Lib.hid ((P.out.alloc _).later b2)
        have Q2 := Lib.hid ((Q.out.alloc _).later b2)
        have B2 := Lib.hid (bel_trans (bel_alloc B.out _) b2)
        clear b2 p0 p1 pl q0 q1 ql
        go_wp2
        go_roundw
        case rel => exact ⟨cl, cr, rfl, rfl, .inr (.inr (.inl ⟨rfl, C.out.stay hk.out⟩)), P2.out, Q2.out, B2.out⟩
        case measure => simp [intOf]
      · have hn : 0 < l := hk
        have hk := Lib.hid hk
        have C := Lib.hid C
        have P := Lib.hid P
        have Q := Lib.hid Q
        have B := Lib.hid B
        obtain ⟨p0, p1, pl⟩ := P.out
        obtain ⟨q0, q1, ql⟩ := Q.out
        have J := fun w => corner1 a b c d w
        go_wp2_with fail
        clear J
        refine (K1.out _).mono ?_; rintro e w2 ⟨rfl, b2⟩
        have P2 := Lib.hid ((P.out.alloc _).later b2)
        have Q2 := Lib.hid ((Q.out.alloc _).later b2)
        have B2 := Lib.hid (bel_trans (bel_alloc B.out _) b2)
        clear b2 p0 p1 pl q0 q1 ql
        go_wp2
        go_roundw
        case rel => exact ⟨(cl + 1), cr, rfl, rfl, .inr (.inr (.inl ⟨rfl, C.out.up hk.out⟩)), P2.out, Q2.out, B2.out⟩
        case measure => simp [intOf]
    · obtain ⟨⟨l0, l1⟩, r0, r1⟩ := C.bd (by omega)
      rcases Int.lt_trichotomy m 0 with hk | hk | hk
      · have hn : m < 0 := hk
        have hk := Lib.hid hk
        have C := Lib.hid C
        have P := Lib.hid P
        have Q := Lib.hid Q
        have B := Lib.hid B
        obtain ⟨p0, p1, pl⟩ := P.out
        obtain ⟨q0, q1, ql⟩ := Q.out
        have J := fun w => corner2 a b c d w
        go_wp2_with fail
        clear J
        refine (K2.out _).mono ?_; rintro e w2 ⟨rfl, b2⟩
        have P2 := Lib.hid ((P.out.alloc _).later b2)
        have Q2 := Lib.hid ((Q.out.alloc _).later b2)
        have B2 := Lib.hid (bel_trans (bel_alloc B.out _) b2)
        clear b2 p0 p1 pl q0 q1 ql
        go_wp2
        go_roundw
        case rel => exact ⟨cl, (cr + 1), rfl, rfl, .inr (.inr (.inr (.inl ⟨rfl, C.out.down hk.out⟩))), P2.out, Q2.out, B2.out⟩
        case measure => simp [intOf]
      · have hn : m ≤ 0 := by omega
        have hn' : 0 ≤ m := by omega
        have hk := Lib.hid hk
        have C := Lib.hid C
        have P := Lib.hid P
        have Q := Lib.hid Q
        have B := Lib.hid B
        obtain ⟨p0, p1, pl⟩ := P.out
        obtain ⟨q0, q1, ql⟩ := Q.out
        have J := fun w => corner2 a b c d w
        go_wp2_with fail
        clear J
        refine (K2.out _).mono ?_; rintro e w2 ⟨rfl, b2⟩
        have P2 := Lib.hid ((P.out.alloc _).later b2)
        have Q2 := Lib.hid ((Q.out.alloc _).later b2)
        have B2 := Lib.hid (bel_trans (bel_alloc B.out _) b2)
        clear b2 p0 p1 pl q0 q1 ql
        go_wp2
        go_roundw
        case rel => exact ⟨cl, cr, rfl, rfl, .inr (.inr (.inr (.inl ⟨rfl, C.out.stay hk.out⟩))), P2.out, Q2.out, B2.out⟩
        case measure => simp [intOf]
      · have hn : 0 < m := hk
        have hk := Lib.hid hk
        have C := Lib.hid C
        have P := Lib.hid P
        have Q := Lib.hid Q
        have B := Lib.hid B
        obtain ⟨p0, p1, pl⟩ := P.out
        obtain ⟨q0, q1, ql⟩ := Q.out
        have J := fun w => corner2 a b c d w
        go_wp2_with fail
        clear J
        refine (K2.out _).mono ?_; rintro e w2 ⟨rfl, b2⟩
        have P2 := Lib.hid ((P.out.alloc _).later b2)
        have Q2 := Lib.hid ((Q.out.alloc _).later b2)
        have B2 := Lib.hid (bel_trans (bel_alloc B.out _) b2)
        clear b2 p0 p1 pl q0 q1 ql
        go_wp2
        go_roundw
        case rel => exact ⟨(cl + 1), cr, rfl, rfl, .inr (.inr (.inr (.inl ⟨rfl, C.out.up hk.out⟩))), P2.out, Q2.out, B2.out⟩
        case measure => simp [intOf]
    · obtain ⟨⟨l0, l1⟩, r0, r1⟩ := C.bd (by omega)
      rcases Int.lt_trichotomy n 0 with hk | hk | hk
      · have hn : n < 0 := hk
        have hk := Lib.hid hk
        have C := Lib.hid C
        have P := Lib.hid P
        have Q := Lib.hid Q
        have B := Lib.hid B
        obtain ⟨p0, p1, pl⟩ := P.out
        obtain ⟨q0, q1, ql⟩ := Q.out
        have J := fun w => corner3 a b c d w
        go_wp2_with fail
        clear J
        refine (K3.out _).mono ?_; rintro e w2 ⟨rfl, b2⟩
        have P2 := Lib.hid ((P.out.alloc _).later b2)
        have Q2 := Lib.hid ((Q.out.alloc _).later b2)
        have B2 := Lib.hid (bel_trans (bel_alloc B.out _) b2)
        clear b2 p0 p1 pl q0 q1 ql
        go_wp2
        go_roundw
        case rel => exact ⟨cl, (cr + 1), rfl, rfl, .inr (.inr (.inr (.inr (⟨rfl, C.out.down hk.out⟩)))), P2.out, Q2.out, B2.out⟩
        case measure => simp [intOf]
      · have hn : n ≤ 0 := by omega
        have hn' : 0 ≤ n := by omega
        have hk := Lib.hid hk
        have C := Lib.hid C
        have P := Lib.hid P
        have Q := Lib.hid Q
        have B := Lib.hid B
        obtain ⟨p0, p1, pl⟩ := P.out
        obtain ⟨q0, q1, ql⟩ := Q.out
        have J := fun w => corner3 a b c d w
        go_wp2_with fail
        clear J
        refine (K3.out _).mono ?_; rintro e w2 ⟨rfl, b2⟩
        have P2 := Lib.hid ((P.out.alloc _).later b2)
        have Q2 := Lib.hid ((Q.out.alloc _).later b2)
        have B2 := Lib.hid (bel_trans (bel_alloc B.out _) b2)
        clear b2 p0 p1 pl q0 q1 ql
        go_wp2
        go_roundw
        case rel => exact ⟨cl, cr, rfl, rfl, .inr (.inr (.inr (.inr (⟨rfl, C.out.stay hk.out⟩)))), P2.out, Q2.out, B2.out⟩
        case measure => simp [intOf]
      · have hn : 0 < n := hk
        have hk := Lib.hid hk
        have C := Lib.hid C
        have P := Lib.hid P
        have Q := Lib.hid Q
        have B := Lib.hid B
        obtain ⟨p0, p1, pl⟩ := P.out
        obtain ⟨q0, q1, ql⟩ := Q.out
        have J := fun w => corner3 a b c d w
        go_wp2_with fail
        clear J
        refine (K3.out _).mono ?_; rintro e w2 ⟨rfl, b2⟩
        have P2 := Lib.hid ((P.out.alloc _).later b2)
        have Q2 := Lib.hid ((Q.out.alloc _).later b2)
        have B2 := Lib.hid (bel_trans (bel_alloc B.out _) b2)
        clear b2 p0 p1 pl q0 q1 ql
        go_wp2
        go_roundw
        case rel => exact ⟨(cl + 1), cr, rfl, rfl, .inr (.inr (.inr (.inr (⟨rfl, C.out.up hk.out⟩)))), P2.out, Q2.out, B2.out⟩
        case measure => simp [intOf]
    · have H := HB.out.trans C.done
      obtain ⟨⟨l0, l1⟩, r0, r1⟩ := C.bd (by omega)
      by_cases e1 : cl = 4
      · subst e1
        have H := Lib.hid H
        go_wp2
        go_ret
        exact ⟨by rw [H.out]; rfl, B⟩
      · have e2 : (cl == 4) = false := beq_eq_false_iff_ne.2 e1
        have H := Lib.hid H
        clear e1
        go_wp2
        go_ret
        exact ⟨by rw [H.out, e2]; rfl, B⟩
end Go.Proofs.Ytfknddjclkjhoaa
