/- Plain mathematics of rings: moved, turned and mirrored together, points and boxes are told alike. No program in it. -/
import Derived.Test.YtoofbbmddddlcaaRingBox
import Derived.Test.YtoofbbmddddlcaaMoveMath
import Derived.Test.YtoofbbmddddlcaaDiscMath
namespace Go.Proofs.Ytoofbbmddddlcaa
open Go.RowKit

def okR (cx cy ax ay ex ey : Int) : Bool := decide (sqI cx cy ax ay = sqI cx cy ex ey ∧ 0 < sqI cx cy ax ay)
def secP (cx cy ax ay ex ey px py : Int) : Bool := secB (decide (ax = ex ∧ ay = ey)) (crI cx cy ax ay ex ey) (crI cx cy ax ay px py) (crI cx cy px py ex ey)
/-- Whether a point is in a ring. -/
def ringP (px py cx cy ax ay ex ey r : Int) : Bool :=
  okR cx cy ax ay ex ey && (decide (1 ≤ r) && ringB (discB r (sqI px py ax ay)) (discB r (sqI px py ex ey)) (secP cx cy ax ay ex ey px py) (sqI px py cx cy) (sqI ax ay cx cy) (r * r))
def u4B (cx cy ax ay a b c d : Int) : Bool := decide (0 ≤ crI cx cy ax ay a b) && decide (0 ≤ crI cx cy ax ay c b) && decide (0 ≤ crI cx cy ax ay a d) && decide (0 ≤ crI cx cy ax ay c d)
def u0B (cx cy ax ay a b c d : Int) : Bool := decide (crI cx cy ax ay a b < 0) && decide (crI cx cy ax ay c b < 0) && decide (crI cx cy ax ay a d < 0) && decide (crI cx cy ax ay c d < 0)
def v4B (cx cy ex ey a b c d : Int) : Bool := decide (0 ≤ crI cx cy a b ex ey) && decide (0 ≤ crI cx cy c b ex ey) && decide (0 ≤ crI cx cy a d ex ey) && decide (0 ≤ crI cx cy c d ex ey)
def v0B (cx cy ex ey a b c d : Int) : Bool := decide (crI cx cy a b ex ey < 0) && decide (crI cx cy c b ex ey < 0) && decide (crI cx cy a d ex ey < 0) && decide (crI cx cy c d ex ey < 0)
/-- The class of a box. -/
def ringC (a b c d cx cy ax ay ex ey r : Int) : Int :=
  if okR cx cy ax ay ex ey = true ∧ 1 ≤ r then
    ringK (discK r (nearS a b c d ax ay) (mostS a b c d ax ay)) (discK r (nearS a b c d ex ey) (mostS a b c d ex ey))
      (innB (decide (ax = ex ∧ ay = ey)) (crI cx cy ax ay ex ey) (u4B cx cy ax ay a b c d) (v4B cx cy ex ey a b c d))
      (offB (decide (ax = ex ∧ ay = ey)) (crI cx cy ax ay ex ey) (u0B cx cy ax ay a b c d) (v0B cx cy ex ey a b c d) (u0B cx cy ax ay a b c d && v0B cx cy ex ey a b c d))
      (nearS a b c d cx cy) (mostS a b c d cx cy) (sqI ax ay cx cy) (r * r)
  else 0
theorem sq_mv (x y u v e f : Int) : sqI (x + e) (y + f) (u + e) (v + f) = sqI x y u v := by
  unfold sqI; rw [show u + e - (x + e) = u - x by omega, show v + f - (y + f) = v - y by omega]
theorem sq_tu (x y u v : Int) : sqI (-y) x (-v) u = sqI x y u v := by unfold sqI; grind
theorem sq_mi (x y u v : Int) : sqI (-x) y (-u) v = sqI x y u v := by unfold sqI; grind
theorem same_mv (a b c d e f : Int) : decide (a + e = c + e ∧ b + f = d + f) = decide (a = c ∧ b = d) := by rw [decide_eq_decide]; omega
theorem same_tu (a b c d : Int) : decide (-b = -d ∧ a = c) = decide (a = c ∧ b = d) := by rw [decide_eq_decide]; omega
theorem same_mi (a b c d : Int) : decide (-c = -a ∧ d = b) = decide (a = c ∧ b = d) := by rw [decide_eq_decide]; omega
theorem ringP_mv (px py cx cy ax ay ex ey r e f : Int) : ringP (px + e) (py + f) (cx + e) (cy + f) (ax + e) (ay + f) (ex + e) (ey + f) r = ringP px py cx cy ax ay ex ey r := by
  unfold ringP okR secP
  simp only [sq_mv, cr_move, same_mv]
theorem ringP_tu (px py cx cy ax ay ex ey r : Int) : ringP (-py) px (-cy) cx (-ay) ax (-ey) ex r = ringP px py cx cy ax ay ex ey r := by
  unfold ringP okR secP
  simp only [sq_tu, cr_turn, same_tu]
theorem ringC_mv (a b c d cx cy ax ay ex ey r e f : Int) : ringC (a + e) (b + f) (c + e) (d + f) (cx + e) (cy + f) (ax + e) (ay + f) (ex + e) (ey + f) r = ringC a b c d cx cy ax ay ex ey r := by
  unfold ringC okR u4B u0B v4B v0B
  simp only [sq_mv, cr_move, same_mv, near_move, most_move]
theorem and4_tu (p q r s : Bool) : (r && p && s && q) = (p && q && r && s) := by cases p <;> cases q <;> cases r <;> cases s <;> rfl
theorem and4_mi (p q r s : Bool) : (q && p && s && r) = (p && q && r && s) := by cases p <;> cases q <;> cases r <;> cases s <;> rfl
theorem ringC_tu {a b c d : Int} (bd : b ≤ d) (cx cy ax ay ex ey r : Int) : ringC (-d) a (-b) c (-cy) cx (-ay) ax (-ey) ex r = ringC a b c d cx cy ax ay ex ey r := by
  unfold ringC okR u4B u0B v4B v0B
  simp only [sq_tu, cr_turn, same_tu, near_turn bd, most_turn]
  simp only [and4_tu]
theorem sqI_sym (x y u v : Int) : sqI x y u v = sqI u v x y := sqI_comm x y u v
theorem ringB_sym (p q s : Bool) (d B S : Int) : ringB q p s d B S = ringB p q s d B S := by unfold ringB; rw [Bool.or_comm q p]
theorem ringK_sym (one two : Int) (i o : Bool) (n m B S : Int) : ringK two one i o n m B S = ringK one two i o n m B S := by
  unfold ringK
  simp only [show (two = 2 ∨ one = 2 ∨ (i = true ∧ dnW n B S = true ∧ upW m B S = true)) = (one = 2 ∨ two = 2 ∨ (i = true ∧ dnW n B S = true ∧ upW m B S = true)) from propext or_left_comm,
    show (two = 0 ∧ one = 0 ∧ (o = true ∨ upW n B S = false ∨ dnW m B S = false)) = (one = 0 ∧ two = 0 ∧ (o = true ∨ upW n B S = false ∨ dnW m B S = false)) from propext and_left_comm]
theorem innB_sym (s : Bool) (k : Int) (u v : Bool) : innB s k v u = innB s k u v := by unfold innB; rw [Bool.or_comm v u, Bool.and_comm v u]
theorem offB_sym (s : Bool) (k : Int) (u v : Bool) : offB s k v u (v && u) = offB s k u v (u && v) := by unfold offB; rw [Bool.or_comm v u, Bool.and_comm v u]
/-- Mirrored, both ends change places. -/
theorem cr_mi (x y u v s t : Int) : crI (-x) y (-s) t (-u) v = crI x y u v s t := by unfold crI; grind
theorem u4_mi (cx cy ax ay a b c d : Int) : u4B (-cx) cy (-ax) ay (-c) b (-a) d = v4B cx cy ax ay a b c d := by unfold u4B v4B; simp only [cr_mi]; rw [and4_mi]
theorem v4_mi (cx cy ax ay a b c d : Int) : v4B (-cx) cy (-ax) ay (-c) b (-a) d = u4B cx cy ax ay a b c d := by unfold u4B v4B; simp only [cr_mi]; rw [and4_mi]
theorem u0_mi (cx cy ax ay a b c d : Int) : u0B (-cx) cy (-ax) ay (-c) b (-a) d = v0B cx cy ax ay a b c d := by unfold u0B v0B; simp only [cr_mi]; rw [and4_mi]
theorem v0_mi (cx cy ax ay a b c d : Int) : v0B (-cx) cy (-ax) ay (-c) b (-a) d = u0B cx cy ax ay a b c d := by unfold u0B v0B; simp only [cr_mi]; rw [and4_mi]
theorem okR_mi (cx cy ax ay ex ey : Int) : okR (-cx) cy (-ex) ey (-ax) ay = okR cx cy ax ay ex ey := by
  unfold okR; rw [sq_mi, sq_mi, decide_eq_decide]; omega
theorem ringP_mi (px py cx cy ax ay ex ey r : Int) : ringP (-px) py (-cx) cy (-ex) ey (-ax) ay r = ringP px py cx cy ax ay ex ey r := by
  unfold ringP
  rw [okR_mi]
  cases h : okR cx cy ax ay ex ey with
  | false => rfl
  | true =>
    have hB : sqI ex ey cx cy = sqI ax ay cx cy := by
      have := (of_decide_eq_true h).1
      rw [sqI_sym ex ey, sqI_sym ax ay]; exact this.symm
    unfold secP
    simp only [sq_mi, cr_mi, same_mi, hB]
    rw [sec_swap, ringB_sym]
theorem ringC_mi {a b c d : Int} (ac : a ≤ c) (cx cy ax ay ex ey r : Int) : ringC (-c) b (-a) d (-cx) cy (-ex) ey (-ax) ay r = ringC a b c d cx cy ax ay ex ey r := by
  unfold ringC
  rw [okR_mi]
  by_cases h : okR cx cy ax ay ex ey = true ∧ 1 ≤ r
  · rw [if_pos h, if_pos h]
    have hB : sqI ex ey cx cy = sqI ax ay cx cy := by
      have := (of_decide_eq_true h.1).1
      rw [sqI_sym ex ey, sqI_sym ax ay]; exact this.symm
    rw [u4_mi, v4_mi, u0_mi, v0_mi]
    simp only [sq_mi, cr_mi, same_mi, hB, near_mirror ac, most_mirror]
    rw [ringK_sym, innB_sym, offB_sym]
  · rw [if_neg h, if_neg h]
end Go.Proofs.Ytoofbbmddddlcaa
