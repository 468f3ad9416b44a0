/- Plain mathematics of rings: what the laws of layer 9 say. No program in it. -/
import Derived.Test.YtoofbbmddddlcaaRingMove
namespace Go.Proofs.Ytoofbbmddddlcaa
open Go.RowKit

theorem cr_xV (x y u v s t : Int) : crI x y u v s t = xV (u - x) (v - y) (s - x) (t - y) := rfl
theorem cr_zero (x y u v : Int) : crI x y u v u v = 0 := by unfold crI; grind
theorem cr_home (x y u v : Int) : crI x y u v x y = 0 := by unfold crI; grind
theorem cr_home' (x y u v : Int) : crI x y x y u v = 0 := by unfold crI; grind
theorem sec_zero_l {same : Bool} {k : Int} : secB same k 0 k = true := by
  unfold secB; cases same
  · by_cases h : k < 0
    · simp [h]
    · simp [h]; omega
  · rfl
theorem sec_zero_r {same : Bool} {k : Int} : secB same k k 0 = true := by rw [sec_swap]; exact sec_zero_l
theorem sec_zero {same : Bool} {k : Int} : secB same k 0 0 = true := by
  unfold secB; cases same
  · by_cases h : k < 0 <;> simp [h]
  · rfl
/-- Both ends and the centre are in the sector. -/
theorem sec_first (cx cy ax ay ex ey : Int) : secP cx cy ax ay ex ey ax ay = true := by unfold secP; rw [cr_zero]; exact sec_zero_l
theorem sec_last (cx cy ax ay ex ey : Int) : secP cx cy ax ay ex ey ex ey = true := by unfold secP; rw [cr_zero]; exact sec_zero_r
theorem sec_home (cx cy ax ay ex ey : Int) : secP cx cy ax ay ex ey cx cy = true := by unfold secP; rw [cr_home, cr_home']; exact sec_zero
theorem sec_same (cx cy ax ay px py : Int) : secP cx cy ax ay ax ay px py = true := by unfold secP secB; simp
theorem okR_sq {cx cy ax ay ex ey : Int} (h : okR cx cy ax ay ex ey = true) : sqI cx cy ax ay = sqI cx cy ex ey ∧ 0 < sqI cx cy ax ay := of_decide_eq_true h
theorem okR_back {cx cy ax ay ex ey : Int} (h : okR cx cy ax ay ex ey = true) : okR cx cy ex ey ax ay = true := by
  have := okR_sq h; exact decide_eq_true (by omega)
theorem okR_same {cx cy ax ay ex ey : Int} (h : okR cx cy ax ay ex ey = true) : okR cx cy ax ay ax ay = true := by
  have := okR_sq h; exact decide_eq_true (by omega)
theorem sq_from (cx cy ax ay : Int) : sqI cx cy ax ay = (ax - cx) * (ax - cx) + (ay - cy) * (ay - cy) := rfl
/-- A point is in one of both sectors. -/
theorem sec_either {cx cy ax ay ex ey : Int} (h : okR cx cy ax ay ex ey = true) (px py : Int) : secP cx cy ax ay ex ey px py = true ∨ secP cx cy ex ey ax ay px py = true := by
  have hk := okR_sq h
  by_cases g : ax = ex ∧ ay = ey
  · obtain ⟨rfl, rfl⟩ := g
    exact .inl (sec_same _ _ _ _ _ _)
  · have e1 : decide (ax = ex ∧ ay = ey) = false := decide_eq_false g
    have e2 : decide (ex = ax ∧ ey = ay) = false := decide_eq_false (by omega)
    unfold secP
    rw [e1, e2, cr_flip cx cy ax ay ex ey, cr_flip cx cy px py ex ey, cr_flip cx cy ax ay px py]
    refine sec_both fun k0 => ?_
    rw [cr_xV, cr_xV]
    rw [cr_xV] at k0
    refine half_turn ?_ (by omega) k0
    have := hk.1
    rw [sq_from, sq_from] at this
    omega
theorem disc_near {cx cy ax ay px py r : Int} (h : discB r (sqI px py ax ay) = true) : upW (sqI px py cx cy) (sqI ax ay cx cy) (r * r) = true ∧ dnW (sqI px py cx cy) (sqI ax ay cx cy) (r * r) = true := by
  have h1 : sqI px py ax ay ≤ r * r := by
    unfold discB at h
    have := of_decide_eq_true h
    omega
  have g := disc_ring (z := ax - cx) (w := ay - cy) (x := px - ax) (y := py - ay) (S := r * r) (by unfold sqI at h1; grind)
  have e1 : (ax - cx + (px - ax)) * (ax - cx + (px - ax)) + (ay - cy + (py - ay)) * (ay - cy + (py - ay)) = sqI px py cx cy := by unfold sqI; grind
  have e2 : (ax - cx) * (ax - cx) + (ay - cy) * (ay - cy) = sqI ax ay cx cy := by unfold sqI; grind
  rw [e1, e2] at g
  exact g
theorem ringP_at {cx cy ax ay ex ey r : Int} (ho : okR cx cy ax ay ex ey = true) (hr : 1 ≤ r) (px py : Int) : ringP px py cx cy ax ay ex ey r = ringB (discB r (sqI px py ax ay)) (discB r (sqI px py ex ey)) (secP cx cy ax ay ex ey px py) (sqI px py cx cy) (sqI ax ay cx cy) (r * r) := by
  unfold ringP; rw [ho, decide_eq_true hr]; rfl
theorem okR_far {cx cy ax ay ex ey : Int} (h : okR cx cy ax ay ex ey = true) : sqI ex ey cx cy = sqI ax ay cx cy := by
  rw [sqI_comm ex ey, sqI_comm ax ay]; exact (okR_sq h).1.symm
/-- What one ring or the one back has, the whole one has. -/
theorem ring_two {cx cy ax ay ex ey r : Int} (ho : okR cx cy ax ay ex ey = true) (hr : 1 ≤ r) (px py : Int) : (ringP px py cx cy ax ay ex ey r || ringP px py cx cy ex ey ax ay r) = ringP px py cx cy ax ay ax ay r := by
  rw [ringP_at ho hr, ringP_at (okR_back ho) hr, ringP_at (okR_same ho) hr, okR_far ho, sec_same]
  refine ring_closes (sec_either ho px py) fun h => ?_
  rw [← okR_far ho]
  exact disc_near h
theorem discB_of {r q : Int} (hr : 1 ≤ r) (h : q ≤ r * r) : discB r q = true := decide_eq_true (by omega)
theorem discB_le {r q : Int} (h : discB r q = true) : q ≤ r * r := by
  unfold discB at h
  have := of_decide_eq_true h
  omega
theorem sq_tri (px py ax ay cx cy : Int) : sqI px py ax ay = (px - cx - (ax - cx)) * (px - cx - (ax - cx)) + (py - cy - (ay - cy)) * (py - cy - (ay - cy)) := by unfold sqI; grind
/-- The disc around a whole point of an arc is in the ring. -/
theorem ring_has_disc {cx cy ax ay ex ey mx my r px py : Int} (ho : okR cx cy ax ay ex ey = true) (hr : 1 ≤ r) (hm : sqI cx cy mx my = sqI cx cy ax ay) (hs : secP cx cy ax ay ex ey mx my = true) (hd : discB r (sqI px py mx my) = true) : ringP px py cx cy ax ay ex ey r = true := by
  have g := okR_sq ho
  have hd := discB_le hd
  rw [sq_tri px py mx my cx cy] at hd
  rw [ringP_at ho hr]
  have e1 : sqI px py cx cy = (px - cx) * (px - cx) + (py - cy) * (py - cy) := by unfold sqI; grind
  have e2 : sqI ax ay cx cy = (mx - cx) * (mx - cx) + (my - cy) * (my - cy) := by rw [sqI_comm, ← hm]; rfl
  have e3 : decide (ax = ex ∧ ay = ey) = decide (ax - cx = ex - cx ∧ ay - cy = ey - cy) := by rw [decide_eq_decide]; omega
  have hm' : secB (decide (ax - cx = ex - cx ∧ ay - cy = ey - cy)) (xV (ax - cx) (ay - cy) (ex - cx) (ey - cy)) (xV (ax - cx) (ay - cy) (mx - cx) (my - cy)) (xV (mx - cx) (my - cy) (ex - cx) (ey - cy)) = true := by rw [← e3]; exact hs
  have hS : secP cx cy ax ay ex ey px py = secB (decide (ax - cx = ex - cx ∧ ay - cy = ey - cy)) (xV (ax - cx) (ay - cy) (ex - cx) (ey - cy)) (xV (ax - cx) (ay - cy) (px - cx) (py - cy)) (xV (px - cx) (py - cy) (ex - cx) (ey - cy)) := by rw [← e3]; rfl
  rw [e1, e2, hS]
  refine disc_of_arc ?_ ?_ (fun h => ?_) (fun h => ?_) hm' hd
  · have := hm; rw [sq_from, sq_from] at this; omega
  · have := hm; rw [g.1, sq_from, sq_from] at this; omega
  · rw [sq_tri px py ax ay cx cy]; exact discB_of hr h
  · rw [sq_tri px py ex ey cx cy]; exact discB_of hr h
theorem ring_between_root {cx cy ax ay ex ey r px py R : Int} (ho : okR cx cy ax ay ex ey = true) (hr : 1 ≤ r) (hR : 0 ≤ R) (hq : sqI ax ay cx cy = R * R) (h : ringP px py cx cy ax ay ex ey r = true) : sqI px py cx cy ≤ (R + r) * (R + r) ∧ (R ≤ r ∨ (R - r) * (R - r) ≤ sqI px py cx cy) := by
  rw [ringP_at ho hr] at h
  have k := ring_between (fun h => disc_near h) (fun h => by rw [← okR_far ho]; exact disc_near h) h rfl
  rw [hq, up_root hR (by omega), dn_root hR (by omega)] at k
  exact ⟨of_decide_eq_true k.1, of_decide_eq_true k.2⟩
/-- The whole circle's ring lies between two circles, and is all that does. -/
theorem ring_whole {cx cy ax ay r px py R : Int} (ho : okR cx cy ax ay ax ay = true) (hr : 1 ≤ r) (hR : 0 ≤ R) (hq : sqI ax ay cx cy = R * R) : ringP px py cx cy ax ay ax ay r = (decide (sqI px py cx cy ≤ (R + r) * (R + r)) && (decide (R ≤ r) || decide ((R - r) * (R - r) ≤ sqI px py cx cy))) := by
  rw [Bool.eq_iff_iff, Bool.and_eq_true, Bool.or_eq_true, decide_eq_true_eq, decide_eq_true_eq, decide_eq_true_eq]
  constructor
  · exact ring_between_root ho hr hR hq
  · rintro ⟨k1, k2⟩
    rw [ringP_at ho hr, sec_same, hq]
    unfold ringB
    rw [up_root hR (by omega), dn_root hR (by omega), decide_eq_true k1, decide_eq_true k2]
    simp
end Go.Proofs.Ytoofbbmddddlcaa
