/- Contract of the document's Meets of layer 4. -/
import Derived.Test.YtfknddjclkjhoaaRefBox
import Derived.Lib.QuietBelow
import Derived.BigQuiet
namespace Go.Proofs.Ytfknddjclkjhoaa
open Go.RowKit
open Go.Sort (grow)

theorem refCross_is {x y u v s t k : Int} (h : crI x y u v s t = k) (x0 : -536870912 ≤ x) (x1 : x ≤ 536870912) (y0 : -536870912 ≤ y) (y1 : y ≤ 536870912) (u0 : -536870912 ≤ u) (u1 : u ≤ 536870912) (v0 : -536870912 ≤ v) (v1 : v ≤ 536870912) (s0 : -536870912 ≤ s) (s1 : s ≤ 536870912) (t0 : -536870912 ≤ t) (t1 : t ≤ 536870912) (w : World) :
    Calls Try.prog 32 #[ptV x y, ptV u v, ptV s t] w fun e w' => e = .returned (.int .i64 k) ∧ Below w.heap.size w w' := h ▸ refCross_any x y u v s t x0 x1 y0 y1 u0 u1 v0 v1 s0 s1 t0 t1 w
theorem refApart_is {a b c d e f g h : Int} {r : Bool} (hr : apB a b c d e f g h = r) (hac : a ≤ c) (hbd : b ≤ d) (heg : e ≤ g) (hfh : f ≤ h) (w : World) :
    Calls Try.prog 33 #[boxV a b c d, boxV e f g h] w fun e w' => e = .returned (.bool r) ∧ Below w.heap.size w w' := hr ▸ refApart_any a b c d e f g h hac hbd heg hfh w
/-- The corners, in a block of the caller's own. -/
structure EightAt (w : World) (g : Nat) (a b c d : Int) : Prop where
  c0 : w.cell? ⟨g, 0, none⟩ = some (.int .i64 a)
  c1 : w.cell? ⟨g, 1, none⟩ = some (.int .i64 b)
  c2 : w.cell? ⟨g, 2, none⟩ = some (.int .i64 c)
  c3 : w.cell? ⟨g, 3, none⟩ = some (.int .i64 b)
  c4 : w.cell? ⟨g, 4, none⟩ = some (.int .i64 a)
  c5 : w.cell? ⟨g, 5, none⟩ = some (.int .i64 d)
  c6 : w.cell? ⟨g, 6, none⟩ = some (.int .i64 c)
  c7 : w.cell? ⟨g, 7, none⟩ = some (.int .i64 d)
  lt : g < w.heap.size
theorem eightAt_new (w : World) (a b c d : Int) (n : TypeId) : EightAt (w.alloc (.cells #[.int .i64 a, .int .i64 b, .int .i64 c, .int .i64 b, .int .i64 a, .int .i64 d, .int .i64 c, .int .i64 d] n)) w.heap.size a b c d :=
  ⟨by simp, by simp, by simp, by simp, by simp, by simp, by simp, by simp, by simp⟩
theorem EightAt.later {w w1 : World} {g : Nat} {a b c d : Int} (h : EightAt w g a b c d) (k : Below w.heap.size w w1) : EightAt w1 g a b c d :=
  ⟨(k.cell (p := ⟨g, 0, none⟩) h.lt).trans h.c0, (k.cell (p := ⟨g, 1, none⟩) h.lt).trans h.c1, (k.cell (p := ⟨g, 2, none⟩) h.lt).trans h.c2, (k.cell (p := ⟨g, 3, none⟩) h.lt).trans h.c3, (k.cell (p := ⟨g, 4, none⟩) h.lt).trans h.c4, (k.cell (p := ⟨g, 5, none⟩) h.lt).trans h.c5, (k.cell (p := ⟨g, 6, none⟩) h.lt).trans h.c6, (k.cell (p := ⟨g, 7, none⟩) h.lt).trans h.c7, Nat.lt_of_lt_of_le h.lt k.size⟩
/-- The head of a round. -/
def RefAt (w : World) (g : Nat) (a b c d : Int) (f : Nat → Int) (x y u v : Int) (sl sr si : Value) (wr : World) : Prop := EightAt wr g a b c d ∧ SideAt w (w.heap.size + 1) (w.heap.size + 1 + 1) f x y u v sl sr si wr

set_option maxRecDepth 100000 in
set_option maxHeartbeats 8000000 in
theorem refMeets_any (a b c d x y u v : Int) (a0 : -536870912 ≤ a) (ac : a ≤ c) (c1 : c ≤ 536870912) (b0 : -536870912 ≤ b) (bd : b ≤ d) (d1 : d ≤ 536870912) (x0 : -536870912 ≤ x) (x1 : x ≤ 536870912) (y0 : -536870912 ≤ y) (y1 : y ≤ 536870912) (u0 : -536870912 ≤ u) (u1 : u ≤ 536870912) (v0 : -536870912 ≤ v) (v1 : v ≤ 536870912) (w : World) :
    Calls Try.prog 20 #[boxV a b c d, ptV x y, ptV u v] w fun e w' => e = .returned (.bool (meetB a b c d x y u v)) ∧ Below w.heap.size w w' := by
  obtain ⟨ka, hka⟩ : ∃ k, (if u < x then u else x) = k := ⟨_, rfl⟩
  have eka : mnI x u = ka := hka
  obtain ⟨la, hla⟩ : ∃ k, (if v < y then v else y) = k := ⟨_, rfl⟩
  have ela : mnI y v = la := hla
  obtain ⟨ma, hma⟩ : ∃ k, (if x < u then u else x) = k := ⟨_, rfl⟩
  have ema : mxI x u = ma := hma
  obtain ⟨na, hna⟩ : ∃ k, (if y < v then v else y) = k := ⟨_, rfl⟩
  have ena : mxI y v = na := hna
  obtain ⟨r, hr⟩ : ∃ r, apB a b c d ka la ma na = r := ⟨_, rfl⟩
  have HM := Lib.hid (show meetB a b c d x y u v = (!r && !(sideB a b c d x y u v)) by unfold meetB; rw [eka, ela, ema, ena, hr])
  have o1 := mnI_le x u
  have o2 := mnI_le y v
  have o3 := mxI_le x u
  have o4 := mxI_le y v
  rw [eka] at o1
  rw [ela] at o2
  rw [ema] at o3
  rw [ena] at o4
  have HA := Lib.hid (fun w => refApart_is hr ac bd (show ka ≤ ma by omega) (show la ≤ na by omega) w)
  clear o1 o2 o3 o4 eka ela ema ena hr
  obtain ⟨k, h0⟩ : ∃ k, crI x y u v a b = k := ⟨_, rfl⟩
  obtain ⟨l, h1⟩ : ∃ k, crI x y u v c b = k := ⟨_, rfl⟩
  obtain ⟨m, h2⟩ : ∃ k, crI x y u v a d = k := ⟨_, rfl⟩
  obtain ⟨n, h3⟩ : ∃ k, crI x y u v c d = k := ⟨_, rfl⟩
  have hB0 : sideB a b c d x y u v = besB k l m n := by unfold sideB; rw [h0, h1, h2, h3]
  have K0 := Lib.hid (fun w => refCross_is h0 x0 x1 y0 y1 u0 u1 v0 v1 (by omega) (by omega) (by omega) (by omega) w)
  have K1 := Lib.hid (fun w => refCross_is h1 x0 x1 y0 y1 u0 u1 v0 v1 (by omega) (by omega) (by omega) (by omega) w)
  have K2 := Lib.hid (fun w => refCross_is h2 x0 x1 y0 y1 u0 u1 v0 v1 (by omega) (by omega) (by omega) (by omega) w)
  have K3 := Lib.hid (fun w => refCross_is h3 x0 x1 y0 y1 u0 u1 v0 v1 (by omega) (by omega) (by omega) (by omega) w)
  clear h0 h1 h2 h3
  have HB := Lib.hid hB0
  have C := Lib.hid (fun w => refCorners_any a b c d w)
  clear hB0
  have X0 := Lib.hid (((boxAt_new w a b c d 23).alloc (.cells #[.int .i64 x, .int .i64 y] 25)).alloc (.cells #[.int .i64 u, .int .i64 v] 25))
  have P0 := (ptAt_new (w.alloc (.cells #[.int .i64 a, .int .i64 b, .int .i64 c, .int .i64 d] 23)) x y 25).alloc (.cells #[.int .i64 u, .int .i64 v] 25)
  have Q0 := ptAt_new ((w.alloc (.cells #[.int .i64 a, .int .i64 b, .int .i64 c, .int .i64 d] 23)).alloc (.cells #[.int .i64 x, .int .i64 y] 25)) u v 25
  have B0 := Lib.hid (bel_alloc (bel_alloc (bel_alloc (bel_refl w) (.cells #[.int .i64 a, .int .i64 b, .int .i64 c, .int .i64 d] 23)) (.cells #[.int .i64 x, .int .i64 y] 25)) (.cells #[.int .i64 u, .int .i64 v] 25))
  rw [show (w.alloc (.cells #[.int .i64 a, .int .i64 b, .int .i64 c, .int .i64 d] 23)).heap.size = w.heap.size + 1 by simp] at P0
  rw [show ((w.alloc (.cells #[.int .i64 a, .int .i64 b, .int .i64 c, .int .i64 d] 23)).alloc (.cells #[.int .i64 x, .int .i64 y] 25)).heap.size = w.heap.size + 1 + 1 by simp] at Q0
  have P0 := Lib.hid P0
  have Q0 := Lib.hid Q0
  go_enter Try.func20, Try.ntmps20
  go_wp2_with fail
  refine (HA.out _).mono ?_; rintro e w1 ⟨rfl, b1⟩
  have X1 := X0.out.later b1
  have P1 := Lib.hid (P0.out.later b1)
  have Q1 := Lib.hid (Q0.out.later b1)
  have B1 := Lib.hid (bel_trans B0.out b1)
  clear b1 X0 P0 Q0 B0 hka hla hma hna HA
  obtain ⟨f0, f1, f2, f3, fl⟩ := X1
  cases r with
  | true =>
    go_wp2
    go_ret
    exact ⟨by rw [HM.out]; rfl, B1.out⟩
  | false =>
    go_wp2_with fail
    refine (C.out _).mono ?_; rintro e w2 ⟨rfl, b2⟩
    have P2 := Lib.hid ((P1.out.later b2).alloc (.cells #[.int .i64 a, .int .i64 b, .int .i64 c, .int .i64 b, .int .i64 a, .int .i64 d, .int .i64 c, .int .i64 d] 36))
    have Q2 := Lib.hid ((Q1.out.later b2).alloc (.cells #[.int .i64 a, .int .i64 b, .int .i64 c, .int .i64 b, .int .i64 a, .int .i64 d, .int .i64 c, .int .i64 d] 36))
    have B2 := Lib.hid (bel_alloc (bel_trans B1.out b2) (.cells #[.int .i64 a, .int .i64 b, .int .i64 c, .int .i64 b, .int .i64 a, .int .i64 d, .int .i64 c, .int .i64 d] 36))
    have E2 := Lib.hid (eightAt_new w2 a b c d 36)
    clear b2 P1 Q1 B1 f0 f1 f2 f3 fl C
    go_wp2_with fail
    go_loopw [8, 9, 10] (fun sl sr si wr => RefAt w w2.heap.size a b c d (kOf k l m n) x y u v sl sr si wr) (fun _ _ si _ => (4 - intOf si).toNat)
    case atStart => exact ⟨E2.out, 0, 0, rfl, rfl, .inl ⟨rfl, rfl, rfl⟩, P2.out, Q2.out, B2.out⟩
    case round =>
      obtain ⟨E, cl, cr, rfl, rfl, hc, P, Q, B⟩ := hrel
      clear P2 Q2 B2 E2
      have E := Lib.hid E
      have P := Lib.hid P
      have Q := Lib.hid Q
      have B := Lib.hid B
      rcases hc with ⟨rfl, Cn⟩ | ⟨rfl, Cn⟩ | ⟨rfl, Cn⟩ | ⟨rfl, Cn⟩ | ⟨rfl, Cn⟩
      · obtain ⟨⟨l0, l1⟩, r0, r1⟩ := Cn.bd (by omega)
        have Cn := Lib.hid Cn
        obtain ⟨p0, p1, pl⟩ := P.out
        obtain ⟨q0, q1, ql⟩ := Q.out
        obtain ⟨g0, g1, g2, g3, g4, g5, g6, g7, gl⟩ := E.out
        go_wp2_with fail
        have p0 := cell_regrown p0
        have p1 := cell_regrown p1
        have q0 := cell_regrown q0
        have q1 := cell_regrown q1
        have ga := cell_regrown g0
        have gb := cell_regrown g1
        clear pl ql gl g0 g1 g2 g3 g4 g5 g6 g7
        have D1 := Lib.hid (fun p : Regrown => Calls.regrown_of (K0.out (grow (redrawn wr p.d) p.os)))
        refine wp_region_quiet_below (by kernel_rfl) (by kernel_rfl) ?_
        repeat (go_big_quiet_step (with_reducible exact D1.out _))
        refine wpQuiet_nil ?_
        intro _ hw'
        obtain ⟨⟨dq, osq⟩, hw''⟩ := hw'
        subst hw''
        have bz := below_regrown wr dq osq
        have E2 := Lib.hid (E.out.later bz)
        have P2 := Lib.hid (P.out.later bz)
        have Q2 := Lib.hid (Q.out.later bz)
        have B2 := Lib.hid (bel_trans B.out bz)
        clear bz p0 p1 q0 q1 ga gb D1
        generalize grow (redrawn wr dq) osq = w3 at *
        rcases Int.lt_trichotomy k 0 with hk | hk | hk
        · have hn : k < 0 := hk
          have hk := Lib.hid hk
          go_wp2
          go_roundw
          case rel => exact ⟨E2.out, cl, (cr + 1), rfl, rfl, .inr (.inl ⟨rfl, Cn.out.down hk.out⟩), P2.out, Q2.out, B2.out⟩
          case measure => simp [intOf]
        · have hn : k ≤ 0 := by omega
          have hn' : 0 ≤ k := by omega
          have hk := Lib.hid hk
          go_wp2
          go_roundw
          case rel => exact ⟨E2.out, cl, cr, rfl, rfl, .inr (.inl ⟨rfl, Cn.out.stay hk.out⟩), P2.out, Q2.out, B2.out⟩
          case measure => simp [intOf]
        · have hn : 0 < k := hk
          have hk := Lib.hid hk
          go_wp2
          go_roundw
          case rel => exact ⟨E2.out, (cl + 1), cr, rfl, rfl, .inr (.inl ⟨rfl, Cn.out.up hk.out⟩), P2.out, Q2.out, B2.out⟩
          case measure => simp [intOf]
      · obtain ⟨⟨l0, l1⟩, r0, r1⟩ := Cn.bd (by omega)
        have Cn := Lib.hid Cn
        obtain ⟨p0, p1, pl⟩ := P.out
        obtain ⟨q0, q1, ql⟩ := Q.out
        obtain ⟨g0, g1, g2, g3, g4, g5, g6, g7, gl⟩ := E.out
        go_wp2_with fail
        have p0 := cell_regrown p0
        have p1 := cell_regrown p1
        have q0 := cell_regrown q0
        have q1 := cell_regrown q1
        have ga := cell_regrown g2
        have gb := cell_regrown g3
        clear pl ql gl g0 g1 g2 g3 g4 g5 g6 g7
        have D1 := Lib.hid (fun p : Regrown => Calls.regrown_of (K1.out (grow (redrawn wr p.d) p.os)))
        refine wp_region_quiet_below (by kernel_rfl) (by kernel_rfl) ?_
        repeat (go_big_quiet_step (with_reducible exact D1.out _))
        refine wpQuiet_nil ?_
        intro _ hw'
        obtain ⟨⟨dq, osq⟩, hw''⟩ := hw'
        subst hw''
        have bz := below_regrown wr dq osq
        have E2 := Lib.hid (E.out.later bz)
        have P2 := Lib.hid (P.out.later bz)
        have Q2 := Lib.hid (Q.out.later bz)
        have B2 := Lib.hid (bel_trans B.out bz)
        clear bz p0 p1 q0 q1 ga gb D1
        generalize grow (redrawn wr dq) osq = w3 at *
        rcases Int.lt_trichotomy l 0 with hk | hk | hk
        · have hn : l < 0 := hk
          have hk := Lib.hid hk
          go_wp2
          go_roundw
          case rel => exact ⟨E2.out, cl, (cr + 1), rfl, rfl, .inr (.inr (.inl ⟨rfl, Cn.out.down hk.out⟩)), P2.out, Q2.out, B2.out⟩
          case measure => simp [intOf]
        · have hn : l ≤ 0 := by omega
          have hn' : 0 ≤ l := by omega
          have hk := Lib.hid hk
          go_wp2
          go_roundw
          case rel => exact ⟨E2.out, cl, cr, rfl, rfl, .inr (.inr (.inl ⟨rfl, Cn.out.stay hk.out⟩)), P2.out, Q2.out, B2.out⟩
          case measure => simp [intOf]
        · have hn : 0 < l := hk
          have hk := Lib.hid hk
          go_wp2
          go_roundw
          case rel => exact ⟨E2.out, (cl + 1), cr, rfl, rfl, .inr (.inr (.inl ⟨rfl, Cn.out.up hk.out⟩)), P2.out, Q2.out, B2.out⟩
          case measure => simp [intOf]
      · obtain ⟨⟨l0, l1⟩, r0, r1⟩ := Cn.bd (by omega)
        have Cn := Lib.hid Cn
        obtain ⟨p0, p1, pl⟩ := P.out
        obtain ⟨q0, q1, ql⟩ := Q.out
        obtain ⟨g0, g1, g2, g3, g4, g5, g6, g7, gl⟩ := E.out
        go_wp2_with fail
        have p0 := cell_regrown p0
        have p1 := cell_regrown p1
        have q0 := cell_regrown q0
        have q1 := cell_regrown q1
        have ga := cell_regrown g4
        have gb := cell_regrown g5
        clear pl ql gl g0 g1 g2 g3 g4 g5 g6 g7
        have D1 := Lib.hid (fun p : Regrown => Calls.regrown_of (K2.out (grow (redrawn wr p.d) p.os)))
        refine wp_region_quiet_below (by kernel_rfl) (by kernel_rfl) ?_
        repeat (go_big_quiet_step (with_reducible exact D1.out _))
        refine wpQuiet_nil ?_
        intro _ hw'
        obtain ⟨⟨dq, osq⟩, hw''⟩ := hw'
        subst hw''
        have bz := below_regrown wr dq osq
        have E2 := Lib.hid (E.out.later bz)
        have P2 := Lib.hid (P.out.later bz)
        have Q2 := Lib.hid (Q.out.later bz)
        have B2 := Lib.hid (bel_trans B.out bz)
        clear bz p0 p1 q0 q1 ga gb D1
        generalize grow (redrawn wr dq) osq = w3 at *
        rcases Int.lt_trichotomy m 0 with hk | hk | hk
        · have hn : m < 0 := hk
          have hk := Lib.hid hk
          go_wp2
          go_roundw
          case rel => exact ⟨E2.out, cl, (cr + 1), rfl, rfl, .inr (.inr (.inr (.inl ⟨rfl, Cn.out.down hk.out⟩))), P2.out, Q2.out, B2.out⟩
          case measure => simp [intOf]
        · have hn : m ≤ 0 := by omega
          have hn' : 0 ≤ m := by omega
          have hk := Lib.hid hk
          go_wp2
          go_roundw
          case rel => exact ⟨E2.out, cl, cr, rfl, rfl, .inr (.inr (.inr (.inl ⟨rfl, Cn.out.stay hk.out⟩))), P2.out, Q2.out, B2.out⟩
          case measure => simp [intOf]
        · have hn : 0 < m := hk
          have hk := Lib.hid hk
          go_wp2
          go_roundw
          case rel => exact ⟨E2.out, (cl + 1), cr, rfl, rfl, .inr (.inr (.inr (.inl ⟨rfl, Cn.out.up hk.out⟩))), P2.out, Q2.out, B2.out⟩
          case measure => simp [intOf]
      · obtain ⟨⟨l0, l1⟩, r0, r1⟩ := Cn.bd (by omega)
        have Cn := Lib.hid Cn
        obtain ⟨p0, p1, pl⟩ := P.out
        obtain ⟨q0, q1, ql⟩ := Q.out
        obtain ⟨g0, g1, g2, g3, g4, g5, g6, g7, gl⟩ := E.out
        go_wp2_with fail
        have p0 := cell_regrown p0
        have p1 := cell_regrown p1
        have q0 := cell_regrown q0
        have q1 := cell_regrown q1
        have ga := cell_regrown g6
        have gb := cell_regrown g7
        clear pl ql gl g0 g1 g2 g3 g4 g5 g6 g7
        have D1 := Lib.hid (fun p : Regrown => Calls.regrown_of (K3.out (grow (redrawn wr p.d) p.os)))
        refine wp_region_quiet_below (by kernel_rfl) (by kernel_rfl) ?_
        repeat (go_big_quiet_step (with_reducible exact D1.out _))
        refine wpQuiet_nil ?_
        intro _ hw'
        obtain ⟨⟨dq, osq⟩, hw''⟩ := hw'
        subst hw''
        have bz := below_regrown wr dq osq
        have E2 := Lib.hid (E.out.later bz)
        have P2 := Lib.hid (P.out.later bz)
        have Q2 := Lib.hid (Q.out.later bz)
        have B2 := Lib.hid (bel_trans B.out bz)
        clear bz p0 p1 q0 q1 ga gb D1
        generalize grow (redrawn wr dq) osq = w3 at *
        rcases Int.lt_trichotomy n 0 with hk | hk | hk
        · have hn : n < 0 := hk
          have hk := Lib.hid hk
          go_wp2
          go_roundw
          case rel => exact ⟨E2.out, cl, (cr + 1), rfl, rfl, .inr (.inr (.inr (.inr (⟨rfl, Cn.out.down hk.out⟩)))), P2.out, Q2.out, B2.out⟩
          case measure => simp [intOf]
        · have hn : n ≤ 0 := by omega
          have hn' : 0 ≤ n := by omega
          have hk := Lib.hid hk
          go_wp2
          go_roundw
          case rel => exact ⟨E2.out, cl, cr, rfl, rfl, .inr (.inr (.inr (.inr (⟨rfl, Cn.out.stay hk.out⟩)))), P2.out, Q2.out, B2.out⟩
          case measure => simp [intOf]
        · have hn : 0 < n := hk
          have hk := Lib.hid hk
          go_wp2
          go_roundw
          case rel => exact ⟨E2.out, (cl + 1), cr, rfl, rfl, .inr (.inr (.inr (.inr (⟨rfl, Cn.out.up hk.out⟩)))), P2.out, Q2.out, B2.out⟩
          case measure => simp [intOf]
      · have H := HB.out.trans Cn.done
        obtain ⟨⟨l0, l1⟩, r0, r1⟩ := Cn.bd (by omega)
        clear Cn
        by_cases e1 : cl < 4
        · by_cases e2 : cr < 4
          · have H2 := Lib.hid (show meetB a b c d x y u v = true by rw [HM.out, H, beq_eq_false_iff_ne.2 (show cl ≠ 4 by omega), beq_eq_false_iff_ne.2 (show cr ≠ 4 by omega)]; rfl)
            clear H
            go_wp2
            go_ret
            exact ⟨by rw [H2.out]; rfl, B.out⟩
          · have H2 := Lib.hid (show meetB a b c d x y u v = false by rw [HM.out, H, beq_iff_eq.2 (show cr = 4 by omega)]; simp)
            clear H
            go_wp2
            go_ret
            exact ⟨by rw [H2.out]; rfl, B.out⟩
        · have H2 := Lib.hid (show meetB a b c d x y u v = false by rw [HM.out, H, beq_iff_eq.2 (show cl = 4 by omega)]; simp)
          clear H
          go_wp2
          go_ret
          exact ⟨by rw [H2.out]; rfl, B.out⟩
end Go.Proofs.Ytfknddjclkjhoaa
