/- Contracts of package bar: what Has and Class return for every point up to Far, every box that may be, all ends up to Far and every width up to 2 to the 30. -/
import Derived.Test.YthdoibknjehdoaaLine
import Derived.Test.YthdoibknjehdoaaBarTally
namespace Go.Proofs.Ythdoibknjehdoaa
open Go.RowKit

/-- The sides that a point lies beyond, as bits. -/
def nib (a b l r : Bool) : Int := (if a then 1 else 0) + (if b then 2 else 0) + (if l then 4 else 0) + (if r then 8 else 0)
theorem or_nib (a b l r a' b' l' r' : Bool) : bits .or .i64 (nib a b l r) (nib a' b' l' r') = nib (a || a') (b || b') (l || l') (r || r') := by
  cases a <;> cases b <;> cases l <;> cases r <;> cases a' <;> cases b' <;> cases l' <;> cases r' <;> rfl
theorem and_nib (a b l r a' b' l' r' : Bool) : bits .and .i64 (nib a b l r) (nib a' b' l' r') = nib (a && a') (b && b') (l && l') (r && r') := by
  cases a <;> cases b <;> cases l <;> cases r <;> cases a' <;> cases b' <;> cases l' <;> cases r' <;> rfl
theorem nib_bd (a b l r : Bool) : 0 ≤ nib a b l r ∧ nib a b l r ≤ 15 := by
  cases a <;> cases b <;> cases l <;> cases r <;> decide
theorem nib_zero {a b l r : Bool} : nib a b l r = 0 ↔ (a || b || l || r) = false := by
  cases a <;> cases b <;> cases l <;> cases r <;> decide
def sideN (x y u v r s t : Int) : Int := nib (aheadB x y u v s t) (behindB x y u v s t) (leftB x y u v r s t) (rightB x y u v r s t)
theorem sideN_bd (x y u v r s t : Int) : 0 ≤ sideN x y u v r s t ∧ sideN x y u v r s t ≤ 15 := nib_bd _ _ _ _
/-- A point of the bar lies beyond none of its sides. -/
theorem barB_none_of {x y u v r s t : Int} (hr : 1 ≤ r) (hL : 0 < sqI x y u v) : barB x y u v r s t = !(aheadB x y u v s t || behindB x y u v s t || leftB x y u v r s t || rightB x y u v r s t) := by
  obtain ⟨p, ep⟩ : ∃ p, barB x y u v r s t = p := ⟨_, rfl⟩
  obtain ⟨l, el⟩ : ∃ p, leftB x y u v r s t = p := ⟨_, rfl⟩
  obtain ⟨q, er⟩ : ∃ p, rightB x y u v r s t = p := ⟨_, rfl⟩
  obtain ⟨a, ea⟩ : ∃ p, aheadB x y u v s t = p := ⟨_, rfl⟩
  obtain ⟨b, eb⟩ : ∃ p, behindB x y u v s t = p := ⟨_, rfl⟩
  have h := bar_corner hr hL rfl rfl rfl rfl ep el er ea eb
  rw [ep, el, er, ea, eb]
  rcases h with ⟨⟨f, rfl, rfl⟩ | ⟨f, rfl, rfl, _⟩ | ⟨f, rfl, rfl, _⟩, ⟨rfl, rfl, rfl, _⟩ | ⟨rfl, rfl, rfl, _⟩ | ⟨rfl, rfl, g, _⟩⟩
  all_goals first | rfl | (rw [g, f]; rfl)
theorem barB_side {x y u v r s t : Int} (hr : 1 ≤ r) (hL : 0 < sqI x y u v) : barB x y u v r s t = (sideN x y u v r s t == 0) := by
  rw [barB_none_of hr hL]
  unfold sideN
  generalize aheadB x y u v s t = a
  generalize behindB x y u v s t = b
  generalize leftB x y u v r s t = l
  generalize rightB x y u v r s t = q
  cases a <;> cases b <;> cases l <;> cases q <;> rfl
/-- The class, as the bits of the four corners tell it. -/
theorem barK_sides {a b c d x y u v r S1 S2 S3 S4 E1 E2 E3 E4 s0 s1 s2 s3 : Int} (hr : 1 ≤ r) (hL : 0 < sqI x y u v) (e0 : sideN x y u v r a b = s0) (e1 : sideN x y u v r c b = s1) (e2 : sideN x y u v r a d = s2) (e3 : sideN x y u v r c d = s3)
    (o1 : bits .or .i64 0 s0 = S1) (o2 : bits .or .i64 S1 s1 = S2) (o3 : bits .or .i64 S2 s2 = S3) (o4 : bits .or .i64 S3 s3 = S4) (n1 : bits .and .i64 15 s0 = E1) (n2 : bits .and .i64 E1 s1 = E2) (n3 : bits .and .i64 E2 s2 = E3) (n4 : bits .and .i64 E3 s3 = E4) :
    barK a b c d x y u v r = if (E4 == 0) = false then 0 else if (S4 == 0) = true then 2 else 1 := by
  have hh : ¬ (r < 1 ∨ sqI x y u v = 0) := by omega
  unfold sideN at e0 e1 e2 e3
  have z : (0 : Int) = nib false false false false := rfl
  have z' : (15 : Int) = nib true true true true := rfl
  rw [← e0, z, or_nib] at o1
  rw [← o1, ← e1, or_nib] at o2
  rw [← o2, ← e2, or_nib] at o3
  rw [← o3, ← e3, or_nib] at o4
  rw [← e0, z', and_nib] at n1
  rw [← n1, ← e1, and_nib] at n2
  rw [← n2, ← e2, and_nib] at n3
  rw [← n3, ← e3, and_nib] at n4
  unfold barK all4 allB
  rw [if_neg hh, ← o4, ← n4, barB_none_of hr hL, barB_none_of hr hL, barB_none_of hr hL, barB_none_of hr hL]
  clear o1 o2 o3 o4 n1 n2 n3 n4 e0 e1 e2 e3 z z' hh hr hL
  simp only [beq_eq_false_iff_ne, beq_iff_eq, ne_eq, nib_zero]
  generalize aheadB x y u v a b = a0
  generalize aheadB x y u v c b = a1
  generalize aheadB x y u v a d = a2
  generalize aheadB x y u v c d = a3
  generalize behindB x y u v a b = b0
  generalize behindB x y u v c b = b1
  generalize behindB x y u v a d = b2
  generalize behindB x y u v c d = b3
  generalize leftB x y u v r a b = l0
  generalize leftB x y u v r c b = l1
  generalize leftB x y u v r a d = l2
  generalize leftB x y u v r c d = l3
  generalize rightB x y u v r a b = r0
  generalize rightB x y u v r c b = r1
  generalize rightB x y u v r a d = r2
  generalize rightB x y u v r c d = r3
  obtain ⟨A, hA⟩ : ∃ A, (a0 && a1 && a2 && a3) = A := ⟨_, rfl⟩
  obtain ⟨B, hB⟩ : ∃ A, (b0 && b1 && b2 && b3) = A := ⟨_, rfl⟩
  obtain ⟨C, hC⟩ : ∃ A, (l0 && l1 && l2 && l3) = A := ⟨_, rfl⟩
  obtain ⟨D, hD⟩ : ∃ A, (r0 && r1 && r2 && r3) = A := ⟨_, rfl⟩
  have t : ∀ p : Bool, (true && p) = p := fun p => Bool.true_and p
  have f : ∀ p : Bool, (false || p) = p := fun p => Bool.false_or p
  rw [t, t, t, t, f, f, f, f, hA, hB, hC, hD]
  by_cases h : (!(a0 || b0 || l0 || r0) && !(a1 || b1 || l1 || r1) && !(a2 || b2 || l2 || r2) && !(a3 || b3 || l3 || r3)) = true
  · rw [if_pos h]
    simp only [Bool.and_eq_true, Bool.not_eq_true', Bool.or_eq_false_iff] at h
    obtain ⟨⟨⟨⟨⟨⟨ha, hb⟩, hl⟩, hq⟩, ⟨⟨ha1, hb1⟩, hl1⟩, hq1⟩, ⟨⟨ha2, hb2⟩, hl2⟩, hq2⟩, ⟨⟨ha3, hb3⟩, hl3⟩, hq3⟩ := h
    subst ha hb hl hq ha1 hb1 hl1 hq1 ha2 hb2 hl2 hq2 ha3 hb3 hl3 hq3 hA hB hC hD
    rfl
  · rw [if_neg h]
    have g : ¬ ((a0 || a1 || a2 || a3) || (b0 || b1 || b2 || b3) || (l0 || l1 || l2 || l3) || (r0 || r1 || r2 || r3)) = false := by
      intro g
      simp only [Bool.or_eq_false_iff] at g
      exact h (by simp [g])
    rw [if_neg (c := ((a0 || a1 || a2 || a3) || (b0 || b1 || b2 || b3) || (l0 || l1 || l2 || l3) || (r0 || r1 || r2 || r3)) = false) g]
    clear h g hA hB hC hD
    cases A <;> cases B <;> cases C <;> cases D <;> rfl

set_option maxHeartbeats 1000000 in
theorem cross_turned (x y p q s t : Int) (x0 : -536870912 ≤ x) (x1 : x ≤ 536870912) (y0 : -536870912 ≤ y) (y1 : y ≤ 536870912) (p0 : -1073741824 ≤ p - x) (p1 : p - x ≤ 1073741824) (q0 : -1073741824 ≤ q - y) (q1 : q - y ≤ 1073741824) (s0 : -536870912 ≤ s) (s1 : s ≤ 536870912) (t0 : -536870912 ≤ t) (t1 : t ≤ 536870912) (w : World) :
    Calls Try.prog 32 #[ptV x y, ptV p q, ptV s t] w fun e w' => e = .returned (.int .i64 (crI x y p q s t)) ∧ Below w.heap.size w w' := by
  have m1 := mul_bd (X := p - x) (Y := t - y) (by omega) (by omega) (by omega) (by omega)
  have m2 := mul_bd (X := q - y) (Y := s - x) (by omega) (by omega) (by omega) (by omega)
  have H := Lib.hid (show crI x y p q s t = (p - x) * (t - y) - (q - y) * (s - x) from rfl)
  go_enter Try.func32, Try.ntmps32
  go_wp2
  go_ret
  exact ⟨by rw [H.out]; rfl, bel_alloc (bel_alloc (bel_alloc (bel_refl w) _) _) _⟩
theorem cross_turned_is {x y p q s t k : Int} (h : crI x y p q s t = k) (x0 : -536870912 ≤ x) (x1 : x ≤ 536870912) (y0 : -536870912 ≤ y) (y1 : y ≤ 536870912) (p0 : -1073741824 ≤ p - x) (p1 : p - x ≤ 1073741824) (q0 : -1073741824 ≤ q - y) (q1 : q - y ≤ 1073741824) (s0 : -536870912 ≤ s) (s1 : s ≤ 536870912) (t0 : -536870912 ≤ t) (t1 : t ≤ 536870912) (w : World) :
    Calls Try.prog 32 #[ptV x y, ptV p q, ptV s t] w fun e w' => e = .returned (.int .i64 k) ∧ Below w.heap.size w w' := h ▸ cross_turned x y p q s t x0 x1 y0 y1 p0 p1 q0 q1 s0 s1 t0 t1 w
theorem turned_dot {x y u v p q : Int} (hp : p = x + v - y) (hq : q = y - (u - x)) (s t : Int) : crI x y p q s t = dotI x y u v s t := by
  subst hp hq; unfold crI dotI; grind

/-- Whether a bar has no point. -/
def emptyB (x y u v r : Int) : Bool := decide (r < 1 ∨ sqI x y u v = 0)
theorem sqI_zero {x y u v : Int} : sqI x y u v = 0 ↔ x = u ∧ y = v := by
  unfold sqI
  constructor
  · intro h
    have h1 := sq_nonneg (u - x)
    have h2 := sq_nonneg (v - y)
    have g1 : (u - x) * (u - x) = 0 := by omega
    have g2 : (v - y) * (v - y) = 0 := by omega
    rcases Int.mul_eq_zero.1 g1 with g | g <;> rcases Int.mul_eq_zero.1 g2 with g' | g' <;> omega
  · rintro ⟨rfl, rfl⟩
    rw [Int.sub_self, Int.sub_self]; rfl
set_option maxHeartbeats 1000000 in
theorem barEmpty_any (x y u v r : Int) (w : World) :
    Calls Try.prog 22 #[ptV x y, ptV u v, .int .i64 r] w fun e w' => e = .returned (.bool (emptyB x y u v r)) ∧ Below w.heap.size w w' := by
  have B0 := Lib.hid (bel_alloc (bel_alloc (bel_refl w) (.cells #[.int .i64 x, .int .i64 y] 25)) (.cells #[.int .i64 u, .int .i64 v] 25))
  have H := Lib.hid (show emptyB x y u v r = decide (r < 1 ∨ sqI x y u v = 0) from rfl)
  by_cases hx : x = u
  · by_cases hy : y = v
    · have K := Lib.hid (H.out.trans (decide_eq_true (Or.inr (sqI_zero.2 ⟨hx, hy⟩))))
      have e1 : (x == u) = true := beq_iff_eq.2 hx
      have e2 : (y == v) = true := beq_iff_eq.2 hy
      clear hx hy H
      go_enter Try.func22, Try.ntmps22
      go_wp2
      go_ret
      exact ⟨by rw [K.out]; rfl, B0.out⟩
    · have K := Lib.hid (show emptyB x y u v r = decide (r < 1) by rw [H.out, decide_eq_decide, sqI_zero]; exact ⟨fun h => h.elim id (fun h => absurd h.2 hy), Or.inl⟩)
      have e1 : (x == u) = true := beq_iff_eq.2 hx
      have e2 : (y == v) = false := beq_eq_false_iff_ne.2 hy
      clear hx hy H
      go_enter Try.func22, Try.ntmps22
      go_wp2
      go_ret
      exact ⟨by rw [K.out]; rfl, B0.out⟩
  · have K := Lib.hid (show emptyB x y u v r = decide (r < 1) by rw [H.out, decide_eq_decide, sqI_zero]; exact ⟨fun h => h.elim id (fun h => absurd h.1 hx), Or.inl⟩)
    have e1 : (x == u) = false := beq_eq_false_iff_ne.2 hx
    clear hx H
    go_enter Try.func22, Try.ntmps22
    go_wp2
    go_ret
    exact ⟨by rw [K.out]; rfl, B0.out⟩
theorem barEmpty_is {x y u v r : Int} {g : Bool} (h : emptyB x y u v r = g) (w : World) :
    Calls Try.prog 22 #[ptV x y, ptV u v, .int .i64 r] w fun e w' => e = .returned (.bool g) ∧ Below w.heap.size w w' := h ▸ barEmpty_any x y u v r w
set_option maxHeartbeats 2000000 in
theorem barFarther_any (k L r : Int) (k0 : -9223372036854775808 ≤ k) (k1 : k ≤ 9223372036854775807) (L0 : 0 ≤ L) (L1 : L ≤ 9223372036854775807) (ra : 1 ≤ r) (rb : r ≤ 1073741824) (w : World) :
    Calls Try.prog 33 #[.int .i64 k, .int .i64 L, .int .i64 r] w fun e w' => e = .returned (.bool (decide (r * r * L < k * k))) ∧ Below w.heap.size w w' := by
  obtain ⟨q, hq⟩ : ∃ q, r * r = q := ⟨_, rfl⟩
  have m1 := mul_bd (X := r) (Y := r) (by omega) rb (by omega) rb
  have m2 := sq_nonneg r
  rw [hq] at m1 m2
  obtain ⟨h, hh⟩ : ∃ h, mulHi (absI k) (absI k) = h := ⟨_, rfl⟩
  obtain ⟨l, hl⟩ : ∃ l, mulLo (absI k) (absI k) = l := ⟨_, rfl⟩
  obtain ⟨h', hh'⟩ : ∃ h, mulHi L q = h := ⟨_, rfl⟩
  obtain ⟨l', hl'⟩ : ∃ l, mulLo L q = l := ⟨_, rfl⟩
  obtain ⟨z, hz⟩ : ∃ z, cmpWide h l h' l' = z := ⟨_, rfl⟩
  have lb := mulLo_bd (absI k) (absI k)
  rw [hl] at lb
  have lb' := mulLo_bd L q
  rw [hl'] at lb'
  have hc : decide (z ≤ 0) = decide (k * k ≤ r * r * L) := by rw [← hz, ← hh, ← hl, ← hh', ← hl', hq]; exact cmp_sqs k L q
  have HC := Lib.hid (show decide (r * r * L < k * k) = decide (0 < z) by rw [decide_eq_decide] at hc ⊢; omega)
  have C4 := Lib.hid (fun w => sq_is hh hl (by omega) (by omega) w)
  have C5 := Lib.hid (fun w => mul_is hh' hl' (by omega) (by omega) (by omega) (by omega) w)
  have C6 := Lib.hid (fun w => cmp_is hz lb.1 lb.2 lb'.1 lb'.2 w)
  have e1 : (if 2147483648 < r then 2147483648 else r) = r := if_neg (by omega)
  have e2 : IntKind.u64.wrap L = L := by rw [IntKind.wrap_u64]; omega
  have e3 : IntKind.u64.wrap q = q := by rw [IntKind.wrap_u64]; omega
  have e4 : IntKind.i64.wrap (r * r) = q := by rw [hq]; exact IntWalk.i64_in _ (by omega)
  clear hh hl hh' hl' hz lb lb' hc hq m1 m2
  go_enter Try.func33, Try.ntmps33
  go_wp2_with fail
  refine (C4.out _).mono ?_; rintro e w2 ⟨rfl, z2⟩
  go_wp2_with fail
  refine (C5.out _).mono ?_; rintro e w3 ⟨rfl, z3⟩
  have B4 := Lib.hid (bel_trans z2 z3)
  clear z3 z2
  go_wp2_with fail
  refine (C6.out _).mono ?_; rintro e w4 ⟨rfl, z4⟩
  go_wp2
  go_ret
  exact ⟨by rw [HC.out]; rfl, bel_trans B4.out z4⟩
theorem barFarther_is {k L r : Int} {g : Bool} (h : decide (r * r * L < k * k) = g) (k0 : -9223372036854775808 ≤ k) (k1 : k ≤ 9223372036854775807) (L0 : 0 ≤ L) (L1 : L ≤ 9223372036854775807) (ra : 1 ≤ r) (rb : r ≤ 1073741824) (w : World) :
    Calls Try.prog 33 #[.int .i64 k, .int .i64 L, .int .i64 r] w fun e w' => e = .returned (.bool g) ∧ Below w.heap.size w w' := h ▸ barFarther_any k L r k0 k1 L0 L1 ra rb w
/-- The bits of a point, case by case. -/
theorem sideN_at {x y u v r s t o L k : Int} {f : Bool} (ho : dotI x y u v s t = o) (hL : sqI x y u v = L) (hk : crI x y u v s t = k) (hf : decide (r * r * L < k * k) = f) :
    sideN x y u v r s t = nib (decide (o < 0)) (decide (L < o)) (f && decide (0 < k)) (f && !decide (0 < k)) := by
  unfold sideN aheadB behindB leftB rightB
  rw [ho, hL, hk]
  have hp : 0 ≤ r * r * L := by
    rw [← hL]; exact bar_bound
  cases f with
  | false =>
    have g := of_decide_eq_false hf
    rw [decide_eq_false (show ¬ (r * r * L < k * k ∧ 0 < k) from fun h => g h.1), decide_eq_false (show ¬ (r * r * L < k * k ∧ k < 0) from fun h => g h.1)]
    rfl
  | true =>
    have g := of_decide_eq_true hf
    have kz : k ≠ 0 := by rintro rfl; rw [Int.mul_zero] at g; omega
    by_cases h : 0 < k
    · rw [decide_eq_true (show r * r * L < k * k ∧ 0 < k from ⟨g, h⟩), decide_eq_false (show ¬ (r * r * L < k * k ∧ k < 0) by omega), decide_eq_true h]
      rfl
    · rw [decide_eq_false (show ¬ (r * r * L < k * k ∧ 0 < k) from fun q => h q.2), decide_eq_true (show r * r * L < k * k ∧ k < 0 from ⟨g, by omega⟩), decide_eq_false h]
      rfl

set_option maxHeartbeats 8000000 in
theorem barBeyond_any (s t x y u v r : Int) (s0 : -536870912 ≤ s) (s1 : s ≤ 536870912) (t0 : -536870912 ≤ t) (t1 : t ≤ 536870912) (x0 : -536870912 ≤ x) (x1 : x ≤ 536870912) (y0 : -536870912 ≤ y) (y1 : y ≤ 536870912) (u0 : -536870912 ≤ u) (u1 : u ≤ 536870912) (v0 : -536870912 ≤ v) (v1 : v ≤ 536870912) (ra : 1 ≤ r) (rb : r ≤ 1073741824) (w : World) :
    Calls Try.prog 23 #[ptV s t, ptV x y, ptV u v, .int .i64 r] w fun e w' => e = .returned (.int .i64 (sideN x y u v r s t)) ∧ Below w.heap.size w w' := by
  obtain ⟨k, hk⟩ : ∃ k, crI x y u v s t = k := ⟨_, rfl⟩
  obtain ⟨o, ho⟩ : ∃ o, dotI x y u v s t = o := ⟨_, rfl⟩
  obtain ⟨L, hL⟩ : ∃ L, sqI x y u v = L := ⟨_, rfl⟩
  obtain ⟨f, hf⟩ : ∃ f, decide (r * r * L < k * k) = f := ⟨_, rfl⟩
  obtain ⟨p, hp⟩ : ∃ p, p = x + v - y := ⟨_, rfl⟩
  obtain ⟨q, hq⟩ : ∃ q, q = y - (u - x) := ⟨_, rfl⟩
  have kb := crI_bd x0 x1 y0 y1 u0 u1 v0 v1 s0 s1 t0 t1
  have Lb := sqI_bd x0 x1 y0 y1 u0 u1 v0 v1
  rw [hk] at kb
  rw [hL] at Lb
  have HS := Lib.hid (sideN_at ho hL hk hf)
  have C1 := Lib.hid (fun w => cross_turned_is ((turned_dot hp hq s t).trans ho) x0 x1 y0 y1 (by omega) (by omega) (by omega) (by omega) s0 s1 t0 t1 w)
  have C2 := Lib.hid (fun w => cross_turned_is ((turned_dot hp hq u v).trans ((dot_sq x y u v).trans hL)) x0 x1 y0 y1 (by omega) (by omega) (by omega) (by omega) u0 u1 v0 v1 w)
  have C3 := Lib.hid (fun w => cross_is hk x0 x1 y0 y1 u0 u1 v0 v1 s0 s1 t0 t1 w)
  have C4 := Lib.hid (fun w => barFarther_is hf (by omega) (by omega) Lb.1 (by omega) ra rb w)
  have j1 : IntKind.i64.wrap (x + v) = x + v := IntWalk.i64_in _ (by omega)
  have j2 : IntKind.i64.wrap (x + v - y) = p := by rw [hp]; exact IntWalk.i64_in _ (by omega)
  have j3 : IntKind.i64.wrap (u - x) = u - x := IntWalk.i64_in _ (by omega)
  have j4 : IntKind.i64.wrap (y - (u - x)) = q := by rw [hq]; exact IntWalk.i64_in _ (by omega)
  have S0 := p3_new w s t x y u v 25
  have Q0 := ptAt_new (((w.alloc (.cells #[.int .i64 s, .int .i64 t] 25)).alloc (.cells #[.int .i64 x, .int .i64 y] 25)).alloc (.cells #[.int .i64 u, .int .i64 v] 25)) p q 25
  have T0 := Lib.hid (S0.later (bel_alloc (bel_refl _) (.cells #[.int .i64 p, .int .i64 q] 25)))
  have B0 := Lib.hid (bel_alloc (bel_p3 w s t x y u v 25) (.cells #[.int .i64 p, .int .i64 q] 25))
  rw [show (((w.alloc (.cells #[.int .i64 s, .int .i64 t] 25)).alloc (.cells #[.int .i64 x, .int .i64 y] 25)).alloc (.cells #[.int .i64 u, .int .i64 v] 25)).heap.size = w.heap.size + 1 + 1 + 1 by simp] at Q0
  have Q0 := Lib.hid Q0
  clear S0 hk ho hL hf hp hq x0 x1 y0 y1 u0 u1 v0 v1 s0 s1 t0 t1 rb kb
  go_enter Try.func23, Try.ntmps23
  go_upto_region 2 with (fail)
  clear j1 j2 j3 j4
  generalize ((((w.alloc (.cells #[.int .i64 s, .int .i64 t] 25)).alloc (.cells #[.int .i64 x, .int .i64 y] 25)).alloc (.cells #[.int .i64 u, .int .i64 v] 25)).alloc (.cells #[.int .i64 p, .int .i64 q] 25)) = W at *
  obtain ⟨⟨i0, i1, il⟩, ⟨j0, j1, jl⟩, ⟨l0, l1, ll⟩⟩ := T0.out
  obtain ⟨q0, q1, ql⟩ := Q0.out
  have i0 := cell_regrown i0
  have i1 := cell_regrown i1
  have j0 := cell_regrown j0
  have j1 := cell_regrown j1
  have l0 := cell_regrown l0
  have l1 := cell_regrown l1
  have q0 := cell_regrown q0
  have q1 := cell_regrown q1
  have D1 := Lib.hid (fun p : Regrown => Calls.regrown_of (C1.out (Go.Sort.grow (redrawn W p.d) p.os)))
  have D2 := Lib.hid (fun p : Regrown => Calls.regrown_of (C2.out (Go.Sort.grow (redrawn W p.d) p.os)))
  have D3 := Lib.hid (fun p : Regrown => Calls.regrown_of (C3.out (Go.Sort.grow (redrawn W p.d) p.os)))
  refine wp_region_quiet_below (by kernel_rfl) (by kernel_rfl) ?_
  repeat (go_big_quiet_step (first | with_reducible exact D1.out _ | with_reducible exact D2.out _ | with_reducible exact D3.out _))
  refine wpQuiet_nil ?_
  intro _ hw'
  obtain ⟨⟨dq, osq⟩, hw''⟩ := hw'
  subst hw''
  have bz := below_regrown W dq osq
  have B1 := Lib.hid (bel_trans B0.out bz)
  clear bz i0 i1 il j0 j1 jl l0 l1 ll q0 q1 ql T0 Q0 B0 D1 D2 D3 C1 C2 C3
  generalize Go.Sort.grow (redrawn W dq) osq = V at *
  have v1 : bits .or .i64 0 1 = 1 := rfl
  have v2 : bits .or .i64 0 2 = 2 := rfl
  have v4 : bits .or .i64 0 4 = 4 := rfl
  have v5 : bits .or .i64 1 4 = 5 := rfl
  have v6 : bits .or .i64 2 4 = 6 := rfl
  have v8 : bits .or .i64 0 8 = 8 := rfl
  have v9 : bits .or .i64 1 8 = 9 := rfl
  have va : bits .or .i64 2 8 = 10 := rfl
  have way : (decide (o < 0) = true ∧ decide (L < o) = false ∧ o < 0 ∧ ¬ L < o) ∨ (decide (o < 0) = false ∧ decide (L < o) = true ∧ ¬ o < 0 ∧ L < o) ∨ (decide (o < 0) = false ∧ decide (L < o) = false ∧ ¬ o < 0 ∧ ¬ L < o) := by
    by_cases h1 : o < 0
    · exact .inl ⟨decide_eq_true h1, decide_eq_false (by omega), h1, by omega⟩
    · by_cases h2 : L < o
      · exact .inr (.inl ⟨decide_eq_false h1, decide_eq_true h2, h1, h2⟩)
      · exact .inr (.inr ⟨decide_eq_false h1, decide_eq_false h2, h1, h2⟩)
  clear ra Lb
  rcases way with ⟨d1, d2, h1, h2⟩ | ⟨d1, d2, h1, h2⟩ | ⟨d1, d2, h1, h2⟩
  all_goals
    have HS := Lib.hid (by have h := HS.out; rw [d1, d2] at h; exact h)
    clear d1 d2
    go_wp2_with fail
    refine (C4.out _).mono ?_; rintro e w4 ⟨rfl, z4⟩
    have B2 := Lib.hid (bel_trans B1.out z4)
    clear z4 B1
    cases f with
    | false =>
      go_wp2
      go_ret
      exact ⟨by rw [HS.out]; rfl, B2.out⟩
    | true =>
      by_cases h3 : 0 < k
      · have HT := Lib.hid (by have h := HS.out; rw [decide_eq_true h3] at h; exact h)
        have d3 : decide (0 < k) = true := decide_eq_true h3
        go_wp2
        go_ret
        exact ⟨by rw [HT.out]; rfl, B2.out⟩
      · have HT := Lib.hid (by have h := HS.out; rw [decide_eq_false h3] at h; exact h)
        have d3 : decide (0 < k) = false := decide_eq_false h3
        go_wp2
        go_ret
        exact ⟨by rw [HT.out]; rfl, B2.out⟩
theorem barBeyond_is {s t x y u v r n : Int} (hn : sideN x y u v r s t = n) (s0 : -536870912 ≤ s) (s1 : s ≤ 536870912) (t0 : -536870912 ≤ t) (t1 : t ≤ 536870912) (x0 : -536870912 ≤ x) (x1 : x ≤ 536870912) (y0 : -536870912 ≤ y) (y1 : y ≤ 536870912) (u0 : -536870912 ≤ u) (u1 : u ≤ 536870912) (v0 : -536870912 ≤ v) (v1 : v ≤ 536870912) (ra : 1 ≤ r) (rb : r ≤ 1073741824) (w : World) :
    Calls Try.prog 23 #[ptV s t, ptV x y, ptV u v, .int .i64 r] w fun e w' => e = .returned (.int .i64 n) ∧ Below w.heap.size w w' := hn ▸ barBeyond_any s t x y u v r s0 s1 t0 t1 x0 x1 y0 y1 u0 u1 v0 v1 ra rb w

theorem bar_nothing {x y u v r : Int} (h : emptyB x y u v r = true) : r < 1 ∨ sqI x y u v = 0 := of_decide_eq_true h
theorem bar_some {x y u v r : Int} (h : emptyB x y u v r = false) : 1 ≤ r ∧ 0 < sqI x y u v := by
  have g := of_decide_eq_false h
  have h0 : 0 ≤ sqI x y u v := by unfold sqI; exact Int.add_nonneg (sq_nonneg _) (sq_nonneg _)
  omega
set_option maxHeartbeats 4000000 in
theorem barHas_any (s t x y u v r : Int) (s0 : -536870912 ≤ s) (s1 : s ≤ 536870912) (t0 : -536870912 ≤ t) (t1 : t ≤ 536870912) (x0 : -536870912 ≤ x) (x1 : x ≤ 536870912) (y0 : -536870912 ≤ y) (y1 : y ≤ 536870912) (u0 : -536870912 ≤ u) (u1 : u ≤ 536870912) (v0 : -536870912 ≤ v) (v1 : v ≤ 536870912) (rb : r ≤ 1073741824) (w : World) :
    Calls Try.prog 11 #[ptV s t, ptV x y, ptV u v, .int .i64 r] w fun e w' => e = .returned (.bool (barB x y u v r s t)) ∧ Below w.heap.size w w' := by
  have S0 := Lib.hid (p3_new w s t x y u v 25)
  have B0 := Lib.hid (bel_p3 w s t x y u v 25)
  cases hE : emptyB x y u v r with
  | true =>
    have H := Lib.hid (barB_none (s := s) (t := t) (bar_nothing hE))
    have C := Lib.hid (fun w => barEmpty_is hE w)
    clear hE
    go_enter Try.func11, Try.ntmps11
    go_wp2_with fail
    generalize ((w.alloc (.cells #[.int .i64 s, .int .i64 t] 25)).alloc (.cells #[.int .i64 x, .int .i64 y] 25)).alloc (.cells #[.int .i64 u, .int .i64 v] 25) = W at *
    obtain ⟨⟨i0, i1, il⟩, ⟨j0, j1, jl⟩, ⟨l0, l1, ll⟩⟩ := S0.out
    go_wp2_with fail
    refine (C.out _).mono ?_; rintro e w2 ⟨rfl, z2⟩
    go_wp2
    go_ret
    exact ⟨by rw [H.out]; rfl, bel_trans B0.out z2⟩
  | false =>
    obtain ⟨ra, hL⟩ := bar_some hE
    obtain ⟨n, hn⟩ : ∃ n, sideN x y u v r s t = n := ⟨_, rfl⟩
    have H := Lib.hid (show barB x y u v r s t = (n == 0) by rw [barB_side ra hL, hn])
    have nb := sideN_bd x y u v r s t
    rw [hn] at nb
    have C := Lib.hid (fun w => barEmpty_is hE w)
    have C2 := Lib.hid (fun w => barBeyond_is hn s0 s1 t0 t1 x0 x1 y0 y1 u0 u1 v0 v1 ra rb w)
    clear hE hn hL ra rb x0 x1 y0 y1 u0 u1 v0 v1 s0 s1 t0 t1
    go_enter Try.func11, Try.ntmps11
    go_wp2_with fail
    generalize ((w.alloc (.cells #[.int .i64 s, .int .i64 t] 25)).alloc (.cells #[.int .i64 x, .int .i64 y] 25)).alloc (.cells #[.int .i64 u, .int .i64 v] 25) = W at *
    obtain ⟨⟨i0, i1, il⟩, ⟨j0, j1, jl⟩, ⟨l0, l1, ll⟩⟩ := S0.out
    go_wp2_with fail
    refine (C.out _).mono ?_; rintro e w2 ⟨rfl, z2⟩
    have S1 := Lib.hid (S0.out.later z2)
    have B1 := Lib.hid (bel_trans B0.out z2)
    clear S0 B0 z2 i0 i1 il j0 j1 jl l0 l1 ll C
    obtain ⟨⟨i0, i1, il⟩, ⟨j0, j1, jl⟩, ⟨l0, l1, ll⟩⟩ := S1.out
    go_wp2_with fail
    refine (C2.out _).mono ?_; rintro e w3 ⟨rfl, z3⟩
    go_wp2
    go_ret
    exact ⟨by rw [H.out]; rfl, bel_trans B1.out z3⟩
theorem barHas_is {s t x y u v r : Int} {h : Bool} (hh : barB x y u v r s t = h) (s0 : -536870912 ≤ s) (s1 : s ≤ 536870912) (t0 : -536870912 ≤ t) (t1 : t ≤ 536870912) (x0 : -536870912 ≤ x) (x1 : x ≤ 536870912) (y0 : -536870912 ≤ y) (y1 : y ≤ 536870912) (u0 : -536870912 ≤ u) (u1 : u ≤ 536870912) (v0 : -536870912 ≤ v) (v1 : v ≤ 536870912) (rb : r ≤ 1073741824) (w : World) :
    Calls Try.prog 11 #[ptV s t, ptV x y, ptV u v, .int .i64 r] w fun e w' => e = .returned (.bool h) ∧ Below w.heap.size w w' := hh ▸ barHas_any s t x y u v r s0 s1 t0 t1 x0 x1 y0 y1 u0 u1 v0 v1 rb w

theorem boxHad_is {a b c d x y : Int} {r : Bool} (h : hasB a b c d x y = r) (w : World) :
    Calls Try.prog 25 #[boxV a b c d, ptV x y] w fun e w' => e = .returned (.bool r) ∧ Below w.heap.size w w' := h ▸ has_any a b c d x y w
/-- The head of a round: the bits that some corner and that every corner has. -/
def BitsAt (N : Nat) (w : World) (a b c d x y u v S1 S2 S3 S4 E1 E2 E3 E4 : Int) (ss se si : Value) (wr : World) : Prop :=
  ((ss = .int .i64 0 ∧ se = .int .i64 15 ∧ si = .int .i64 0) ∨ (ss = .int .i64 S1 ∧ se = .int .i64 E1 ∧ si = .int .i64 1) ∨ (ss = .int .i64 S2 ∧ se = .int .i64 E2 ∧ si = .int .i64 2) ∨ (ss = .int .i64 S3 ∧ se = .int .i64 E3 ∧ si = .int .i64 3) ∨ (ss = .int .i64 S4 ∧ se = .int .i64 E4 ∧ si = .int .i64 4)) ∧
    BxPP N a b c d x y u v wr ∧ Below w.heap.size w wr
set_option maxRecDepth 100000 in
set_option maxHeartbeats 16000000 in
theorem barClass_any (a b c d x y u v r : Int) (a0 : -536870912 ≤ a) (ac : a ≤ c) (c1 : c ≤ 536870912) (b0 : -536870912 ≤ b) (bd : b ≤ d) (d1 : d ≤ 536870912) (x0 : -536870912 ≤ x) (x1 : x ≤ 536870912) (y0 : -536870912 ≤ y) (y1 : y ≤ 536870912) (u0 : -536870912 ≤ u) (u1 : u ≤ 536870912) (v0 : -536870912 ≤ v) (v1 : v ≤ 536870912) (rb : r ≤ 1073741824) (w : World) :
    Calls Try.prog 12 #[boxV a b c d, ptV x y, ptV u v, .int .i64 r] w fun e w' => e = .returned (.int .i64 (barK a b c d x y u v r)) ∧ Below w.heap.size w w' := by
  have X0 := Lib.hid (bxpp_new w a b c d x y u v 23 25)
  have B0 := Lib.hid (bel_alloc (bel_alloc (bel_alloc (bel_refl w) (.cells #[.int .i64 a, .int .i64 b, .int .i64 c, .int .i64 d] 23)) (.cells #[.int .i64 x, .int .i64 y] 25)) (.cells #[.int .i64 u, .int .i64 v] 25))
  have CC := Lib.hid (fun w => corners_any a b c d w)
  cases hE : emptyB x y u v r with
  | true =>
    have H := Lib.hid (show barK a b c d x y u v r = 0 by unfold barK; exact if_pos (bar_nothing hE))
    have C := Lib.hid (fun w => barEmpty_is hE w)
    clear hE a0 ac c1 b0 bd d1 x0 x1 y0 y1 u0 u1 v0 v1 rb
    go_enter Try.func12, Try.ntmps12
    go_wp2_with fail
    generalize (((w.alloc (.cells #[.int .i64 a, .int .i64 b, .int .i64 c, .int .i64 d] 23)).alloc (.cells #[.int .i64 x, .int .i64 y] 25)).alloc (.cells #[.int .i64 u, .int .i64 v] 25)) = W at *
    obtain ⟨⟨i0, i1, i2, i3, il⟩, ⟨j0, j1, jl⟩, ⟨l0, l1, ll⟩⟩ := X0.out
    go_wp2_with fail
    refine (CC.out _).mono ?_; rintro e w1 ⟨rfl, z1⟩
    have X1 := Lib.hid ((X0.out.later z1).alloc (.cells #[.int .i64 a, .int .i64 b, .int .i64 c, .int .i64 b, .int .i64 a, .int .i64 d, .int .i64 c, .int .i64 d] 36))
    have B1 := Lib.hid (bel_alloc (bel_trans B0.out z1) (.cells #[.int .i64 a, .int .i64 b, .int .i64 c, .int .i64 b, .int .i64 a, .int .i64 d, .int .i64 c, .int .i64 d] 36))
    clear z1 X0 B0 i0 i1 i2 i3 il j0 j1 jl l0 l1 ll CC
    go_upto_region 2 with (fail)
    generalize w1.alloc (.cells #[.int .i64 a, .int .i64 b, .int .i64 c, .int .i64 b, .int .i64 a, .int .i64 d, .int .i64 c, .int .i64 d] 36) = W1 at *
    obtain ⟨_, ⟨j0, j1, jl⟩, ⟨l0, l1, ll⟩⟩ := X1.out
    go_wp2_with fail
    refine (C.out _).mono ?_; rintro e w2 ⟨rfl, z2⟩
    go_wp2
    go_ret
    exact ⟨by rw [H.out]; rfl, bel_trans B1.out z2⟩
  | false =>
  obtain ⟨ra, hL⟩ := bar_some hE
  have C := Lib.hid (fun w => barEmpty_is hE w)
  clear hE
  obtain ⟨s0, e0⟩ : ∃ n, sideN x y u v r a b = n := ⟨_, rfl⟩
  obtain ⟨s1, e1⟩ : ∃ n, sideN x y u v r c b = n := ⟨_, rfl⟩
  obtain ⟨s2, e2⟩ : ∃ n, sideN x y u v r a d = n := ⟨_, rfl⟩
  obtain ⟨s3, e3⟩ : ∃ n, sideN x y u v r c d = n := ⟨_, rfl⟩
  obtain ⟨S1, o1⟩ : ∃ n, bits .or .i64 0 s0 = n := ⟨_, rfl⟩
  obtain ⟨S2, o2⟩ : ∃ n, bits .or .i64 S1 s1 = n := ⟨_, rfl⟩
  obtain ⟨S3, o3⟩ : ∃ n, bits .or .i64 S2 s2 = n := ⟨_, rfl⟩
  obtain ⟨S4, o4⟩ : ∃ n, bits .or .i64 S3 s3 = n := ⟨_, rfl⟩
  obtain ⟨E1, n1⟩ : ∃ n, bits .and .i64 15 s0 = n := ⟨_, rfl⟩
  obtain ⟨E2, n2⟩ : ∃ n, bits .and .i64 E1 s1 = n := ⟨_, rfl⟩
  obtain ⟨E3, n3⟩ : ∃ n, bits .and .i64 E2 s2 = n := ⟨_, rfl⟩
  obtain ⟨E4, n4⟩ : ∃ n, bits .and .i64 E3 s3 = n := ⟨_, rfl⟩
  have HK := Lib.hid (barK_sides ra hL e0 e1 e2 e3 o1 o2 o3 o4 n1 n2 n3 n4)
  have CHas := Lib.hid (fun w => boxHad_is (hasB_yes (Int.le_refl a) ac (Int.le_refl b) bd) w)
  have CB0 := Lib.hid (fun w => barBeyond_is e0 (by omega) (by omega) (by omega) (by omega) x0 x1 y0 y1 u0 u1 v0 v1 ra rb w)
  have CB1 := Lib.hid (fun w => barBeyond_is e1 (by omega) (by omega) (by omega) (by omega) x0 x1 y0 y1 u0 u1 v0 v1 ra rb w)
  have CB2 := Lib.hid (fun w => barBeyond_is e2 (by omega) (by omega) (by omega) (by omega) x0 x1 y0 y1 u0 u1 v0 v1 ra rb w)
  have CB3 := Lib.hid (fun w => barBeyond_is e3 (by omega) (by omega) (by omega) (by omega) x0 x1 y0 y1 u0 u1 v0 v1 ra rb w)
  clear e0 e1 e2 e3 a0 ac c1 b0 bd d1 x0 x1 y0 y1 u0 u1 v0 v1 rb ra hL
  go_enter Try.func12, Try.ntmps12
  go_wp2_with fail
  generalize (((w.alloc (.cells #[.int .i64 a, .int .i64 b, .int .i64 c, .int .i64 d] 23)).alloc (.cells #[.int .i64 x, .int .i64 y] 25)).alloc (.cells #[.int .i64 u, .int .i64 v] 25)) = W at *
  obtain ⟨⟨i0, i1, i2, i3, il⟩, ⟨j0, j1, jl⟩, ⟨l0, l1, ll⟩⟩ := X0.out
  go_wp2_with fail
  refine (CC.out _).mono ?_; rintro e w1 ⟨rfl, z1⟩
  have X1 := Lib.hid ((X0.out.later z1).alloc (.cells #[.int .i64 a, .int .i64 b, .int .i64 c, .int .i64 b, .int .i64 a, .int .i64 d, .int .i64 c, .int .i64 d] 36))
  have B1 := Lib.hid (bel_alloc (bel_trans B0.out z1) (.cells #[.int .i64 a, .int .i64 b, .int .i64 c, .int .i64 b, .int .i64 a, .int .i64 d, .int .i64 c, .int .i64 d] 36))
  have E1' := eightAt_new w1 a b c d 36
  clear z1 X0 B0 i0 i1 i2 i3 il j0 j1 jl l0 l1 ll CC
  obtain ⟨m, hm'⟩ : ∃ m, w1.heap.size = m := ⟨_, rfl⟩
  go_upto_region 2 with (fail)
  rw [hm'] at E1'
  generalize w1.alloc (.cells #[.int .i64 a, .int .i64 b, .int .i64 c, .int .i64 b, .int .i64 a, .int .i64 d, .int .i64 c, .int .i64 d] 36) = W1 at *
  try rw [hm']
  clear hm'
  have E1' := Lib.hid E1'
  obtain ⟨_, ⟨j0, j1, jl⟩, ⟨l0, l1, ll⟩⟩ := X1.out
  go_wp2_with fail
  refine (C.out _).mono ?_; rintro e w2 ⟨rfl, z2⟩
  have X2 := Lib.hid (X1.out.later z2)
  have B2 := Lib.hid (bel_trans B1.out z2)
  have E2' := Lib.hid (E1'.out.later z2)
  clear z2 X1 B1 E1' j0 j1 jl l0 l1 ll C
  obtain ⟨⟨i0, i1, i2, i3, il⟩, _, _⟩ := X2.out
  obtain ⟨f0, f1, f2, f3, f4, f5, f6, f7, fl⟩ := E2'.out
  go_wp2_with fail
  refine (CHas.out _).mono ?_; rintro e w3 ⟨rfl, z3⟩
  have X3 := Lib.hid (X2.out.later z3)
  have B3 := Lib.hid (bel_trans B2.out z3)
  have E3' := Lib.hid (E2'.out.later z3)
  clear z3 X2 B2 E2' i0 i1 i2 i3 il f0 f1 f2 f3 f4 f5 f6 f7 fl CHas
  obtain ⟨f0, f1, f2, f3, f4, f5, f6, f7, fl⟩ := E3'.out
  go_wp2_with fail
  go_loopw [10, 11, 29] (fun ss se si wr => BitsAt w.heap.size w a b c d x y u v S1 S2 S3 S4 E1 E2 E3 E4 ss se si wr) (fun _ _ si _ => (4 - intOf si).toNat)
  case atStart => exact ⟨.inl ⟨rfl, rfl, rfl⟩, X3.out, B3.out⟩
  case round =>
    obtain ⟨hc, hS, hB⟩ := hrel
    clear X3 B3 E3' f0 f1 f2 f3 f4 f5 f6 f7 fl
    have S := Lib.hid hS
    have B := Lib.hid hB
    clear hS hB
    rcases hc with ⟨rfl, rfl, rfl⟩ | ⟨rfl, rfl, rfl⟩ | ⟨rfl, rfl, rfl⟩ | ⟨rfl, rfl, rfl⟩ | ⟨rfl, rfl, rfl⟩
    · obtain ⟨_, ⟨j0, j1, jl⟩, ⟨l0, l1, ll⟩⟩ := S.out
      have J := fun w => corner0 a b c d w
      clear HK o2 n2 o3 n3 o4 n4
      go_wp2_with fail
      clear J
      refine (CB0.out _).mono ?_; rintro e w3 ⟨rfl, z3⟩
      have zz := bel_trans (bel_alloc (bel_refl wr) (.cells #[.int .i64 a, .int .i64 b] 25)) z3
      have S2' := Lib.hid (S.out.later zz)
      have B3' := Lib.hid (bel_trans B.out zz)
      clear z3 zz j0 j1 jl l0 l1 ll S B CB0 CB1 CB2 CB3
      go_wp2_with fail
      go_roundw
      case rel => exact ⟨.inr (.inl ⟨rfl, rfl, rfl⟩), S2'.out, B3'.out⟩
      case measure => simp [intOf]
    · obtain ⟨_, ⟨j0, j1, jl⟩, ⟨l0, l1, ll⟩⟩ := S.out
      have J := fun w => corner1 a b c d w
      clear HK o1 n1 o3 n3 o4 n4
      go_wp2_with fail
      clear J
      refine (CB1.out _).mono ?_; rintro e w3 ⟨rfl, z3⟩
      have zz := bel_trans (bel_alloc (bel_refl wr) (.cells #[.int .i64 c, .int .i64 b] 25)) z3
      have S2' := Lib.hid (S.out.later zz)
      have B3' := Lib.hid (bel_trans B.out zz)
      clear z3 zz j0 j1 jl l0 l1 ll S B CB0 CB1 CB2 CB3
      go_wp2_with fail
      go_roundw
      case rel => exact ⟨.inr (.inr (.inl ⟨rfl, rfl, rfl⟩)), S2'.out, B3'.out⟩
      case measure => simp [intOf]
    · obtain ⟨_, ⟨j0, j1, jl⟩, ⟨l0, l1, ll⟩⟩ := S.out
      have J := fun w => corner2 a b c d w
      clear HK o1 n1 o2 n2 o4 n4
      go_wp2_with fail
      clear J
      refine (CB2.out _).mono ?_; rintro e w3 ⟨rfl, z3⟩
      have zz := bel_trans (bel_alloc (bel_refl wr) (.cells #[.int .i64 a, .int .i64 d] 25)) z3
      have S2' := Lib.hid (S.out.later zz)
      have B3' := Lib.hid (bel_trans B.out zz)
      clear z3 zz j0 j1 jl l0 l1 ll S B CB0 CB1 CB2 CB3
      go_wp2_with fail
      go_roundw
      case rel => exact ⟨.inr (.inr (.inr (.inl ⟨rfl, rfl, rfl⟩))), S2'.out, B3'.out⟩
      case measure => simp [intOf]
    · obtain ⟨_, ⟨j0, j1, jl⟩, ⟨l0, l1, ll⟩⟩ := S.out
      have J := fun w => corner3 a b c d w
      clear HK o1 n1 o2 n2 o3 n3
      go_wp2_with fail
      clear J
      refine (CB3.out _).mono ?_; rintro e w3 ⟨rfl, z3⟩
      have zz := bel_trans (bel_alloc (bel_refl wr) (.cells #[.int .i64 c, .int .i64 d] 25)) z3
      have S2' := Lib.hid (S.out.later zz)
      have B3' := Lib.hid (bel_trans B.out zz)
      clear z3 zz j0 j1 jl l0 l1 ll S B CB0 CB1 CB2 CB3
      go_wp2_with fail
      go_roundw
      case rel => exact ⟨.inr (.inr (.inr (.inr (⟨rfl, rfl, rfl⟩)))), S2'.out, B3'.out⟩
      case measure => simp [intOf]
    · clear CB0 CB1 CB2 CB3 o1 o2 o3 o4 n1 n2 n3 n4
      cases hE4 : (E4 == 0) with
      | false =>
        have H := Lib.hid (by have h := HK.out; rw [if_pos hE4] at h; exact h)
        clear HK
        go_wp2
        go_ret
        exact ⟨by rw [H.out]; rfl, B.out⟩
      | true =>
        cases hS4 : (S4 == 0) with
        | true =>
          have H := Lib.hid (by have h := HK.out; rw [if_neg (by rw [hE4]; decide), if_pos hS4] at h; exact h)
          clear HK
          go_wp2
          go_ret
          exact ⟨by rw [H.out]; rfl, B.out⟩
        | false =>
          have H := Lib.hid (by have h := HK.out; rw [if_neg (by rw [hE4]; decide), if_neg (by rw [hS4]; decide)] at h; exact h)
          clear HK
          go_wp2
          go_ret
          exact ⟨by rw [H.out]; rfl, B.out⟩
theorem barClass_is {a b c d x y u v r k : Int} (hk : barK a b c d x y u v r = k) (a0 : -536870912 ≤ a) (ac : a ≤ c) (c1 : c ≤ 536870912) (b0 : -536870912 ≤ b) (bd : b ≤ d) (d1 : d ≤ 536870912) (x0 : -536870912 ≤ x) (x1 : x ≤ 536870912) (y0 : -536870912 ≤ y) (y1 : y ≤ 536870912) (u0 : -536870912 ≤ u) (u1 : u ≤ 536870912) (v0 : -536870912 ≤ v) (v1 : v ≤ 536870912) (rb : r ≤ 1073741824) (w : World) :
    Calls Try.prog 12 #[boxV a b c d, ptV x y, ptV u v, .int .i64 r] w fun e w' => e = .returned (.int .i64 k) ∧ Below w.heap.size w w' := hk ▸ barClass_any a b c d x y u v r a0 ac c1 b0 bd d1 x0 x1 y0 y1 u0 u1 v0 v1 rb w
end Go.Proofs.Ythdoibknjehdoaa
