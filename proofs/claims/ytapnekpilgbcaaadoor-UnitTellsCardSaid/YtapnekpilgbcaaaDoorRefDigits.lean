/- The document's Digits of layer 3 returns what package unit's Digits returns. -/
import Derived.Test.YtapnekpilgbcaaaDoorRefCoord
import Derived.Test.YtapnekpilgbcaaaDoorUnitBackL
import Derived.Test.YtapnekpilgbcaaaDoorUnitGB
import Derived.Lib.QuietBelow
import Derived.IntWalk
namespace Go.Proofs.YtapnekpilgbcaaaDoor
open Go.RowKit
open Go.Sort (grow)

theorem refNum_is {v n : Nat} {x : Int} {L : List UInt8} (hx : x = n) (h : numL v n = L) (hv : v ≤ 9223372036854775807) (hn : n ≤ 1000) (w : World) :
    Calls Tryd.prog 17 #[.int .i64 v, .int .i64 x] w fun e w' => e = .returned (.string ⟨L.toArray⟩) ∧ w = w' := by
  subst hx; subst h; exact num_any v hv n hn w
theorem refBare_is {l x : List UInt8} (h : bareL l = x) (hl : l.length ≤ 100000) (w : World) :
    Calls Tryd.prog 31 #[.string ⟨l.toArray⟩] w fun e w' => e = .returned (.string ⟨x.toArray⟩) ∧ w = w' := h ▸ bare_any l hl w
theorem to_below {f : FuncId} {args : Array Value} {v : Value} {w : World} (h : Calls Tryd.prog f args w fun e w' => e = .returned v ∧ w = w') : Calls Tryd.prog f args w fun e w' => e = .returned v ∧ Below w.heap.size w w' :=
  h.mono fun e w' hh => ⟨hh.1, hh.2 ▸ bel_refl _⟩

set_option maxHeartbeats 1000000 in
theorem refDigits_fmt (g u a d : Int) (t : Bool) (h : fmtB u a d = false) (w : World) :
    Calls Tryd.prog 14 #[.int .i64 g, fmtV u a d t] w fun e w' => e = .returned (strOk none) ∧ Below w.heap.size w w' := by
  have HK := Lib.hid (fun w => refFmt_is t h w)
  clear h
  go_enter Tryd.func14, Tryd.ntmps14
  go_wp2_with fail
  refine (HK.out _).mono ?_; rintro e w2 ⟨rfl, b2⟩
  go_wp2
  go_ret2
  exact ⟨rfl, bel_trans (bel_alloc (bel_refl w) _) b2⟩
set_option maxHeartbeats 1000000 in
theorem refDigits_far (g u a d : Int) (t : Bool) (h : fmtB u a d = true) (hg : nearB g = false) (w : World) :
    Calls Tryd.prog 14 #[.int .i64 g, fmtV u a d t] w fun e w' => e = .returned (strOk none) ∧ Below w.heap.size w w' := by
  have HK := Lib.hid (fun w => refFmt_is t h w)
  have hn : ¬ (-536870912 ≤ g ∧ g ≤ 536870912) := of_decide_eq_false hg
  clear h hg
  by_cases c1 : 536870912 < g
  · clear hn
    go_enter Tryd.func14, Tryd.ntmps14
    go_wp2_with fail
    refine (HK.out _).mono ?_; rintro e w2 ⟨rfl, b2⟩
    go_wp2
    go_ret2
    exact ⟨rfl, bel_trans (bel_alloc (bel_refl w) _) b2⟩
  · have c2 : g < -536870912 := by omega
    clear hn
    go_enter Tryd.func14, Tryd.ntmps14
    go_wp2_with fail
    refine (HK.out _).mono ?_; rintro e w2 ⟨rfl, b2⟩
    go_wp2
    go_ret2
    exact ⟨rfl, bel_trans (bel_alloc (bel_refl w) _) b2⟩
set_option maxRecDepth 100000 in
set_option maxHeartbeats 4000000 in
theorem refDigits_odd_pos (k n : Nat) (u : Int) (G : Int) (a d : Nat) (t : Bool) (st P2 P3 : Int) (h : fmtB u a d = true) (hu : (u = 1 ∧ G = 10) ∨ (u = 2 ∧ G = 254)) (ha : a ≤ 6) (hd : d ≤ 6) (hn : a + d = n) (kb : k ≤ 536870912)
    (hP2 : (10 : Int) ^ (6 - d) = P2) (P20 : 1 ≤ P2) (P2b : P2 ≤ 1000000) (hst : G * P2 = st) (s0 : 0 < st) (s1 : st ≤ 254000000) (hP3 : (10 : Int) ^ n = P3) (P30 : 1 ≤ P3) (P3b : P3 ≤ 1000000000000)
    (ρ : Int) (hr : (k : Int).tmod st = ρ) (ρ0 : (ρ != 0) = true) (ρ1 : (-ρ != 0) = true) (ρb : -254000000 ≤ ρ ∧ ρ ≤ 254000000) (hng : nearB ((k : Int)) = true) (w : World) :
    Calls Tryd.prog 14 #[.int .i64 ((k : Int)), fmtV u a d t] w fun e w' => e = .returned (strOk none) ∧ Below w.heap.size w w' := by
  have HK := Lib.hid (fun w => refFmt_is t h w)
  have HT2 := Lib.hid (fun w => tens_is (x := (6 : Int) - (d : Int)) (n := 6 - d) (by omega) (by omega) hP2 w)
  have HT3 := Lib.hid (fun w => tens_is (x := (n : Int)) (n := n) rfl (by omega) hP3 w)
  have HSt := Lib.hid hst
  have hs : IntKind.i64.wrap ((a : Int) + (d : Int)) = (n : Int) := by
    rw [IntWalk.i64_in ((a : Int) + (d : Int)) (by omega)]; omega
  have hnn : n ≤ 12 := by omega
  obtain ⟨g0, g1⟩ := near_yes hng
  clear hng
  have hw1 : IntKind.i64.wrap (-(k : Int)) = -(k : Int) := IntWalk.i64_in _ (by omega)
  have hw2 : IntKind.i64.wrap (k : Int) = (k : Int) := IntWalk.i64_in _ (by omega)
  clear h hP2 hst hP3 hn
  rcases hu with ⟨rfl, rfl⟩ | ⟨rfl, rfl⟩
  · go_enter Tryd.func14, Tryd.ntmps14
    go_wp2_with fail
    refine (HK.out _).mono ?_; rintro e w1 ⟨rfl, b1⟩
    have f1 := (fmtAt_new w 1 a d t 23).later b1
    have bA := bel_trans (bel_alloc (bel_refl w) (.cells #[.int .i64 1, .int .i64 (a : Int), .int .i64 (d : Int), .bool t] 23)) b1
    clear b1
    obtain ⟨x0, x1, x2, x3, xl⟩ := f1
    have es := HSt.out
    go_wp2_with fail
    refine (HT2.out _).mono ?_; rintro e w' ⟨rfl, rfl⟩
    go_wp2_with fail
    clear es
    have F1 := Lib.hid (FmtAt.mk x0 x1 x2 x3 xl)
    have y1 := cell_regrown x1
    have y2 := cell_regrown x2
    have D1 := Lib.hid (fun p : Regrown => Calls.regrown_of (to_below (HT3.out (grow (redrawn w1 p.d) p.os))))
    clear x0 x1 x2 x3 xl
    refine wp_region_quiet_below (by kernel_rfl) (by kernel_rfl) ?_
    repeat (go_big_quiet_step (with_reducible exact D1.out _))
    refine wpQuiet_nil ?_
    intro _ hw'
    obtain ⟨⟨dq, osq⟩, hw''⟩ := hw'
    subst hw''
    have f2 := F1.out.later (below_regrown w1 dq osq)
    have bB := bel_trans bA (below_regrown w1 dq osq)
    clear y1 y2 D1 F1 bA hs
    generalize grow (redrawn w1 dq) osq = w2 at *
    obtain ⟨x0, x1, x2, x3, xl⟩ := f2
    go_wp2
    go_ret2
    exact ⟨rfl, bB⟩
  · go_enter Tryd.func14, Tryd.ntmps14
    go_wp2_with fail
    refine (HK.out _).mono ?_; rintro e w1 ⟨rfl, b1⟩
    have f1 := (fmtAt_new w 2 a d t 23).later b1
    have bA := bel_trans (bel_alloc (bel_refl w) (.cells #[.int .i64 2, .int .i64 (a : Int), .int .i64 (d : Int), .bool t] 23)) b1
    clear b1
    obtain ⟨x0, x1, x2, x3, xl⟩ := f1
    have es := HSt.out
    go_wp2_with fail
    refine (HT2.out _).mono ?_; rintro e w' ⟨rfl, rfl⟩
    go_wp2_with fail
    clear es
    have F1 := Lib.hid (FmtAt.mk x0 x1 x2 x3 xl)
    have y1 := cell_regrown x1
    have y2 := cell_regrown x2
    have D1 := Lib.hid (fun p : Regrown => Calls.regrown_of (to_below (HT3.out (grow (redrawn w1 p.d) p.os))))
    clear x0 x1 x2 x3 xl
    refine wp_region_quiet_below (by kernel_rfl) (by kernel_rfl) ?_
    repeat (go_big_quiet_step (with_reducible exact D1.out _))
    refine wpQuiet_nil ?_
    intro _ hw'
    obtain ⟨⟨dq, osq⟩, hw''⟩ := hw'
    subst hw''
    have f2 := F1.out.later (below_regrown w1 dq osq)
    have bB := bel_trans bA (below_regrown w1 dq osq)
    clear y1 y2 D1 F1 bA hs
    generalize grow (redrawn w1 dq) osq = w2 at *
    obtain ⟨x0, x1, x2, x3, xl⟩ := f2
    go_wp2
    go_ret2
    exact ⟨rfl, bB⟩
set_option maxRecDepth 100000 in
set_option maxHeartbeats 4000000 in
theorem refDigits_big_pos (k n : Nat) (u : Int) (G : Int) (a d : Nat) (t : Bool) (st P2 P3 : Int) (h : fmtB u a d = true) (hu : (u = 1 ∧ G = 10) ∨ (u = 2 ∧ G = 254)) (ha : a ≤ 6) (hd : d ≤ 6) (hn : a + d = n) (kb : k ≤ 536870912)
    (hP2 : (10 : Int) ^ (6 - d) = P2) (P20 : 1 ≤ P2) (P2b : P2 ≤ 1000000) (hst : G * P2 = st) (s0 : 0 < st) (s1 : st ≤ 254000000) (hP3 : (10 : Int) ^ n = P3) (P30 : 1 ≤ P3) (P3b : P3 ≤ 1000000000000)
    (m : Nat) (hr : (k : Int).tmod st = 0) (hq : (k : Int).tdiv st = m) (hmk : m ≤ k) (hbig : P3 ≤ (m : Int)) (hng : nearB ((k : Int)) = true) (w : World) :
    Calls Tryd.prog 14 #[.int .i64 ((k : Int)), fmtV u a d t] w fun e w' => e = .returned (strOk none) ∧ Below w.heap.size w w' := by
  have HK := Lib.hid (fun w => refFmt_is t h w)
  have HT2 := Lib.hid (fun w => tens_is (x := (6 : Int) - (d : Int)) (n := 6 - d) (by omega) (by omega) hP2 w)
  have HT3 := Lib.hid (fun w => tens_is (x := (n : Int)) (n := n) rfl (by omega) hP3 w)
  have HSt := Lib.hid hst
  have hs : IntKind.i64.wrap ((a : Int) + (d : Int)) = (n : Int) := by
    rw [IntWalk.i64_in ((a : Int) + (d : Int)) (by omega)]; omega
  have hnn : n ≤ 12 := by omega
  obtain ⟨g0, g1⟩ := near_yes hng
  clear hng
  have hw1 : IntKind.i64.wrap (-(k : Int)) = -(k : Int) := IntWalk.i64_in _ (by omega)
  have hw2 : IntKind.i64.wrap (k : Int) = (k : Int) := IntWalk.i64_in _ (by omega)
  have c2 : decide (P3 ≤ (m : Int)) = true := decide_eq_true hbig
  have c3 : decide (P3 ≤ -(m : Int)) = false := decide_eq_false (by omega)
  clear h hP2 hst hP3 hn
  rcases hu with ⟨rfl, rfl⟩ | ⟨rfl, rfl⟩
  · go_enter Tryd.func14, Tryd.ntmps14
    go_wp2_with fail
    refine (HK.out _).mono ?_; rintro e w1 ⟨rfl, b1⟩
    have f1 := (fmtAt_new w 1 a d t 23).later b1
    have bA := bel_trans (bel_alloc (bel_refl w) (.cells #[.int .i64 1, .int .i64 (a : Int), .int .i64 (d : Int), .bool t] 23)) b1
    clear b1
    obtain ⟨x0, x1, x2, x3, xl⟩ := f1
    have es := HSt.out
    go_wp2_with fail
    refine (HT2.out _).mono ?_; rintro e w' ⟨rfl, rfl⟩
    go_wp2_with fail
    clear es
    have F1 := Lib.hid (FmtAt.mk x0 x1 x2 x3 xl)
    have y1 := cell_regrown x1
    have y2 := cell_regrown x2
    have D1 := Lib.hid (fun p : Regrown => Calls.regrown_of (to_below (HT3.out (grow (redrawn w1 p.d) p.os))))
    clear x0 x1 x2 x3 xl
    refine wp_region_quiet_below (by kernel_rfl) (by kernel_rfl) ?_
    repeat (go_big_quiet_step (with_reducible exact D1.out _))
    refine wpQuiet_nil ?_
    intro _ hw'
    obtain ⟨⟨dq, osq⟩, hw''⟩ := hw'
    subst hw''
    have f2 := F1.out.later (below_regrown w1 dq osq)
    have bB := bel_trans bA (below_regrown w1 dq osq)
    clear y1 y2 D1 F1 bA hs
    generalize grow (redrawn w1 dq) osq = w2 at *
    obtain ⟨x0, x1, x2, x3, xl⟩ := f2
    go_wp2
    go_ret2
    exact ⟨rfl, bB⟩
  · go_enter Tryd.func14, Tryd.ntmps14
    go_wp2_with fail
    refine (HK.out _).mono ?_; rintro e w1 ⟨rfl, b1⟩
    have f1 := (fmtAt_new w 2 a d t 23).later b1
    have bA := bel_trans (bel_alloc (bel_refl w) (.cells #[.int .i64 2, .int .i64 (a : Int), .int .i64 (d : Int), .bool t] 23)) b1
    clear b1
    obtain ⟨x0, x1, x2, x3, xl⟩ := f1
    have es := HSt.out
    go_wp2_with fail
    refine (HT2.out _).mono ?_; rintro e w' ⟨rfl, rfl⟩
    go_wp2_with fail
    clear es
    have F1 := Lib.hid (FmtAt.mk x0 x1 x2 x3 xl)
    have y1 := cell_regrown x1
    have y2 := cell_regrown x2
    have D1 := Lib.hid (fun p : Regrown => Calls.regrown_of (to_below (HT3.out (grow (redrawn w1 p.d) p.os))))
    clear x0 x1 x2 x3 xl
    refine wp_region_quiet_below (by kernel_rfl) (by kernel_rfl) ?_
    repeat (go_big_quiet_step (with_reducible exact D1.out _))
    refine wpQuiet_nil ?_
    intro _ hw'
    obtain ⟨⟨dq, osq⟩, hw''⟩ := hw'
    subst hw''
    have f2 := F1.out.later (below_regrown w1 dq osq)
    have bB := bel_trans bA (below_regrown w1 dq osq)
    clear y1 y2 D1 F1 bA hs
    generalize grow (redrawn w1 dq) osq = w2 at *
    obtain ⟨x0, x1, x2, x3, xl⟩ := f2
    go_wp2
    go_ret2
    exact ⟨rfl, bB⟩
set_option maxRecDepth 100000 in
set_option maxHeartbeats 8000000 in
theorem refDigits_pos_false (k n : Nat) (u : Int) (G : Int) (a d : Nat) (st P2 P3 : Int) (h : fmtB u a d = true) (hu : (u = 1 ∧ G = 10) ∨ (u = 2 ∧ G = 254)) (ha : a ≤ 6) (hd : d ≤ 6) (hn : a + d = n) (kb : k ≤ 536870912)
    (hP2 : (10 : Int) ^ (6 - d) = P2) (P20 : 1 ≤ P2) (P2b : P2 ≤ 1000000) (hst : G * P2 = st) (s0 : 0 < st) (s1 : st ≤ 254000000) (hP3 : (10 : Int) ^ n = P3) (P30 : 1 ≤ P3) (P3b : P3 ≤ 1000000000000)
    (m : Nat) (hr : (k : Int).tmod st = 0) (hq : (k : Int).tdiv st = m) (hmk : m ≤ k) (hbig : (m : Int) < P3) (Z : List UInt8) (hZ : numL m 1 = Z) (lZ : Z.length ≤ 12) (hng : nearB ((k : Int)) = true) (w : World) :
    Calls Tryd.prog 14 #[.int .i64 ((k : Int)), fmtV u a d false] w fun e w' => e = .returned (strOk (some (Z))) ∧ Below w.heap.size w w' := by
  have HK := Lib.hid (fun w => refFmt_is false h w)
  have HT2 := Lib.hid (fun w => tens_is (x := (6 : Int) - (d : Int)) (n := 6 - d) (by omega) (by omega) hP2 w)
  have HT3 := Lib.hid (fun w => tens_is (x := (n : Int)) (n := n) rfl (by omega) hP3 w)
  have HSt := Lib.hid hst
  have hs : IntKind.i64.wrap ((a : Int) + (d : Int)) = (n : Int) := by
    rw [IntWalk.i64_in ((a : Int) + (d : Int)) (by omega)]; omega
  have hnn : n ≤ 12 := by omega
  obtain ⟨g0, g1⟩ := near_yes hng
  clear hng
  have hw1 : IntKind.i64.wrap (-(k : Int)) = -(k : Int) := IntWalk.i64_in _ (by omega)
  have hw2 : IntKind.i64.wrap (k : Int) = (k : Int) := IntWalk.i64_in _ (by omega)
  have c2 : decide (P3 ≤ (m : Int)) = false := decide_eq_false (by omega)
  have c3 : decide (P3 ≤ -(m : Int)) = false := decide_eq_false (by omega)
  have HZ := Lib.hid (fun w => refNum_is (x := 1) (n := 1) rfl hZ (by omega) (by omega) w)
  have e1 : ({ data := #[] } : ByteArray) ++ ({ data := Z.toArray } : ByteArray) = ⟨(Z).toArray⟩ := str_app [] Z
  have HE := Lib.hid e1
  clear e1 hZ
  clear h hP2 hst hP3 hn
  rcases hu with ⟨rfl, rfl⟩ | ⟨rfl, rfl⟩
  · go_enter Tryd.func14, Tryd.ntmps14
    go_wp2_with fail
    refine (HK.out _).mono ?_; rintro e w1 ⟨rfl, b1⟩
    have f1 := (fmtAt_new w 1 a d false 23).later b1
    have bA := bel_trans (bel_alloc (bel_refl w) (.cells #[.int .i64 1, .int .i64 (a : Int), .int .i64 (d : Int), .bool false] 23)) b1
    clear b1
    obtain ⟨x0, x1, x2, x3, xl⟩ := f1
    have es := HSt.out
    go_wp2_with fail
    refine (HT2.out _).mono ?_; rintro e w' ⟨rfl, rfl⟩
    go_wp2_with fail
    clear es
    have F1 := Lib.hid (FmtAt.mk x0 x1 x2 x3 xl)
    have y1 := cell_regrown x1
    have y2 := cell_regrown x2
    have D1 := Lib.hid (fun p : Regrown => Calls.regrown_of (to_below (HT3.out (grow (redrawn w1 p.d) p.os))))
    clear x0 x1 x2 x3 xl
    refine wp_region_quiet_below (by kernel_rfl) (by kernel_rfl) ?_
    repeat (go_big_quiet_step (with_reducible exact D1.out _))
    refine wpQuiet_nil ?_
    intro _ hw'
    obtain ⟨⟨dq, osq⟩, hw''⟩ := hw'
    subst hw''
    have f2 := F1.out.later (below_regrown w1 dq osq)
    have bB := bel_trans bA (below_regrown w1 dq osq)
    clear y1 y2 D1 F1 bA hs
    generalize grow (redrawn w1 dq) osq = w2 at *
    obtain ⟨x0, x1, x2, x3, xl⟩ := f2
    have e1 := HE.out
    go_wp2_with fail
    refine (HZ.out _).mono ?_; rintro e w' ⟨rfl, rfl⟩
    go_wp2
    go_ret2
    exact ⟨rfl, bB⟩
  · go_enter Tryd.func14, Tryd.ntmps14
    go_wp2_with fail
    refine (HK.out _).mono ?_; rintro e w1 ⟨rfl, b1⟩
    have f1 := (fmtAt_new w 2 a d false 23).later b1
    have bA := bel_trans (bel_alloc (bel_refl w) (.cells #[.int .i64 2, .int .i64 (a : Int), .int .i64 (d : Int), .bool false] 23)) b1
    clear b1
    obtain ⟨x0, x1, x2, x3, xl⟩ := f1
    have es := HSt.out
    go_wp2_with fail
    refine (HT2.out _).mono ?_; rintro e w' ⟨rfl, rfl⟩
    go_wp2_with fail
    clear es
    have F1 := Lib.hid (FmtAt.mk x0 x1 x2 x3 xl)
    have y1 := cell_regrown x1
    have y2 := cell_regrown x2
    have D1 := Lib.hid (fun p : Regrown => Calls.regrown_of (to_below (HT3.out (grow (redrawn w1 p.d) p.os))))
    clear x0 x1 x2 x3 xl
    refine wp_region_quiet_below (by kernel_rfl) (by kernel_rfl) ?_
    repeat (go_big_quiet_step (with_reducible exact D1.out _))
    refine wpQuiet_nil ?_
    intro _ hw'
    obtain ⟨⟨dq, osq⟩, hw''⟩ := hw'
    subst hw''
    have f2 := F1.out.later (below_regrown w1 dq osq)
    have bB := bel_trans bA (below_regrown w1 dq osq)
    clear y1 y2 D1 F1 bA hs
    generalize grow (redrawn w1 dq) osq = w2 at *
    obtain ⟨x0, x1, x2, x3, xl⟩ := f2
    have e1 := HE.out
    go_wp2_with fail
    refine (HZ.out _).mono ?_; rintro e w' ⟨rfl, rfl⟩
    go_wp2
    go_ret2
    exact ⟨rfl, bB⟩
set_option maxRecDepth 100000 in
set_option maxHeartbeats 8000000 in
theorem refDigits_pos_true (k n : Nat) (u : Int) (G : Int) (a d : Nat) (st P2 P3 : Int) (h : fmtB u a d = true) (hu : (u = 1 ∧ G = 10) ∨ (u = 2 ∧ G = 254)) (ha : a ≤ 6) (hd : d ≤ 6) (hn : a + d = n) (kb : k ≤ 536870912)
    (hP2 : (10 : Int) ^ (6 - d) = P2) (P20 : 1 ≤ P2) (P2b : P2 ≤ 1000000) (hst : G * P2 = st) (s0 : 0 < st) (s1 : st ≤ 254000000) (hP3 : (10 : Int) ^ n = P3) (P30 : 1 ≤ P3) (P3b : P3 ≤ 1000000000000)
    (m : Nat) (hr : (k : Int).tmod st = 0) (hq : (k : Int).tdiv st = m) (hmk : m ≤ k) (hbig : (m : Int) < P3) (P B : List UInt8) (hP : numL m n = P) (hB : bareL P = B) (lP : P.length ≤ 12) (lB : B.length ≤ 12) (hng : nearB ((k : Int)) = true) (w : World) :
    Calls Tryd.prog 14 #[.int .i64 ((k : Int)), fmtV u a d true] w fun e w' => e = .returned (strOk (some ((orZero B)))) ∧ Below w.heap.size w w' := by
  have HK := Lib.hid (fun w => refFmt_is true h w)
  have HT2 := Lib.hid (fun w => tens_is (x := (6 : Int) - (d : Int)) (n := 6 - d) (by omega) (by omega) hP2 w)
  have HT3 := Lib.hid (fun w => tens_is (x := (n : Int)) (n := n) rfl (by omega) hP3 w)
  have HSt := Lib.hid hst
  have hs : IntKind.i64.wrap ((a : Int) + (d : Int)) = (n : Int) := by
    rw [IntWalk.i64_in ((a : Int) + (d : Int)) (by omega)]; omega
  have hnn : n ≤ 12 := by omega
  obtain ⟨g0, g1⟩ := near_yes hng
  clear hng
  have hw1 : IntKind.i64.wrap (-(k : Int)) = -(k : Int) := IntWalk.i64_in _ (by omega)
  have hw2 : IntKind.i64.wrap (k : Int) = (k : Int) := IntWalk.i64_in _ (by omega)
  have c2 : decide (P3 ≤ (m : Int)) = false := decide_eq_false (by omega)
  have c3 : decide (P3 ≤ -(m : Int)) = false := decide_eq_false (by omega)
  have HN := Lib.hid (fun w => refNum_is (x := (a : Int) + (d : Int)) (n := n) (by omega) hP (by omega) (by omega) w)
  have HB := Lib.hid (fun w => refBare_is hB (by omega) w)
  clear hP hB
  clear h hP2 hst hP3 hn
  rcases hu with ⟨rfl, rfl⟩ | ⟨rfl, rfl⟩
  · go_enter Tryd.func14, Tryd.ntmps14
    go_wp2_with fail
    refine (HK.out _).mono ?_; rintro e w1 ⟨rfl, b1⟩
    have f1 := (fmtAt_new w 1 a d true 23).later b1
    have bA := bel_trans (bel_alloc (bel_refl w) (.cells #[.int .i64 1, .int .i64 (a : Int), .int .i64 (d : Int), .bool true] 23)) b1
    clear b1
    obtain ⟨x0, x1, x2, x3, xl⟩ := f1
    have es := HSt.out
    go_wp2_with fail
    refine (HT2.out _).mono ?_; rintro e w' ⟨rfl, rfl⟩
    go_wp2_with fail
    clear es
    have F1 := Lib.hid (FmtAt.mk x0 x1 x2 x3 xl)
    have y1 := cell_regrown x1
    have y2 := cell_regrown x2
    have D1 := Lib.hid (fun p : Regrown => Calls.regrown_of (to_below (HT3.out (grow (redrawn w1 p.d) p.os))))
    clear x0 x1 x2 x3 xl
    refine wp_region_quiet_below (by kernel_rfl) (by kernel_rfl) ?_
    repeat (go_big_quiet_step (with_reducible exact D1.out _))
    refine wpQuiet_nil ?_
    intro _ hw'
    obtain ⟨⟨dq, osq⟩, hw''⟩ := hw'
    subst hw''
    have f2 := F1.out.later (below_regrown w1 dq osq)
    have bB := bel_trans bA (below_regrown w1 dq osq)
    clear y1 y2 D1 F1 bA hs
    generalize grow (redrawn w1 dq) osq = w2 at *
    obtain ⟨x0, x1, x2, x3, xl⟩ := f2
    go_wp2_with fail
    refine (HN.out _).mono ?_; rintro e w' ⟨rfl, rfl⟩
    go_wp2_with fail
    refine (HB.out _).mono ?_; rintro e w' ⟨rfl, rfl⟩
    rcases first_byte B with rfl | ⟨c, s, rfl⟩
    · have e1 : ({ data := #[] } : ByteArray) ++ ({ data := #[48] } : ByteArray) = ⟨([48]).toArray⟩ := str_app [] [48]
      go_wp2
      go_ret2
      exact ⟨rfl, bB⟩
    · have e1 : ({ data := #[] } : ByteArray) ++ ({ data := (c :: s).toArray } : ByteArray) = ⟨((c :: s)).toArray⟩ := str_app [] (c :: s)
      have HO := Lib.hid (show orZero (c :: s) = c :: s from if_neg (by simp))
      have lB2 : s.length ≤ 12 := by simp at lB; omega
      go_wp2
      go_ret2
      exact ⟨by rw [HO.out]; rfl, bB⟩
  · go_enter Tryd.func14, Tryd.ntmps14
    go_wp2_with fail
    refine (HK.out _).mono ?_; rintro e w1 ⟨rfl, b1⟩
    have f1 := (fmtAt_new w 2 a d true 23).later b1
    have bA := bel_trans (bel_alloc (bel_refl w) (.cells #[.int .i64 2, .int .i64 (a : Int), .int .i64 (d : Int), .bool true] 23)) b1
    clear b1
    obtain ⟨x0, x1, x2, x3, xl⟩ := f1
    have es := HSt.out
    go_wp2_with fail
    refine (HT2.out _).mono ?_; rintro e w' ⟨rfl, rfl⟩
    go_wp2_with fail
    clear es
    have F1 := Lib.hid (FmtAt.mk x0 x1 x2 x3 xl)
    have y1 := cell_regrown x1
    have y2 := cell_regrown x2
    have D1 := Lib.hid (fun p : Regrown => Calls.regrown_of (to_below (HT3.out (grow (redrawn w1 p.d) p.os))))
    clear x0 x1 x2 x3 xl
    refine wp_region_quiet_below (by kernel_rfl) (by kernel_rfl) ?_
    repeat (go_big_quiet_step (with_reducible exact D1.out _))
    refine wpQuiet_nil ?_
    intro _ hw'
    obtain ⟨⟨dq, osq⟩, hw''⟩ := hw'
    subst hw''
    have f2 := F1.out.later (below_regrown w1 dq osq)
    have bB := bel_trans bA (below_regrown w1 dq osq)
    clear y1 y2 D1 F1 bA hs
    generalize grow (redrawn w1 dq) osq = w2 at *
    obtain ⟨x0, x1, x2, x3, xl⟩ := f2
    go_wp2_with fail
    refine (HN.out _).mono ?_; rintro e w' ⟨rfl, rfl⟩
    go_wp2_with fail
    refine (HB.out _).mono ?_; rintro e w' ⟨rfl, rfl⟩
    rcases first_byte B with rfl | ⟨c, s, rfl⟩
    · have e1 : ({ data := #[] } : ByteArray) ++ ({ data := #[48] } : ByteArray) = ⟨([48]).toArray⟩ := str_app [] [48]
      go_wp2
      go_ret2
      exact ⟨rfl, bB⟩
    · have e1 : ({ data := #[] } : ByteArray) ++ ({ data := (c :: s).toArray } : ByteArray) = ⟨((c :: s)).toArray⟩ := str_app [] (c :: s)
      have HO := Lib.hid (show orZero (c :: s) = c :: s from if_neg (by simp))
      have lB2 : s.length ≤ 12 := by simp at lB; omega
      go_wp2
      go_ret2
      exact ⟨by rw [HO.out]; rfl, bB⟩
set_option maxRecDepth 100000 in
set_option maxHeartbeats 4000000 in
theorem refDigits_odd_neg (k n : Nat) (u : Int) (G : Int) (a d : Nat) (t : Bool) (st P2 P3 : Int) (h : fmtB u a d = true) (hu : (u = 1 ∧ G = 10) ∨ (u = 2 ∧ G = 254)) (ha : a ≤ 6) (hd : d ≤ 6) (hn : a + d = n) (kb : k ≤ 536870912)
    (hP2 : (10 : Int) ^ (6 - d) = P2) (P20 : 1 ≤ P2) (P2b : P2 ≤ 1000000) (hst : G * P2 = st) (s0 : 0 < st) (s1 : st ≤ 254000000) (hP3 : (10 : Int) ^ n = P3) (P30 : 1 ≤ P3) (P3b : P3 ≤ 1000000000000) (k0 : 0 < k)
    (ρ : Int) (hr : (k : Int).tmod st = ρ) (ρ0 : (ρ != 0) = true) (ρ1 : (-ρ != 0) = true) (ρb : -254000000 ≤ ρ ∧ ρ ≤ 254000000) (hng : nearB (-(k : Int)) = true) (w : World) :
    Calls Tryd.prog 14 #[.int .i64 (-(k : Int)), fmtV u a d t] w fun e w' => e = .returned (strOk none) ∧ Below w.heap.size w w' := by
  have HK := Lib.hid (fun w => refFmt_is t h w)
  have HT2 := Lib.hid (fun w => tens_is (x := (6 : Int) - (d : Int)) (n := 6 - d) (by omega) (by omega) hP2 w)
  have HT3 := Lib.hid (fun w => tens_is (x := (n : Int)) (n := n) rfl (by omega) hP3 w)
  have HSt := Lib.hid hst
  have hs : IntKind.i64.wrap ((a : Int) + (d : Int)) = (n : Int) := by
    rw [IntWalk.i64_in ((a : Int) + (d : Int)) (by omega)]; omega
  have hnn : n ≤ 12 := by omega
  obtain ⟨g0, g1⟩ := near_yes hng
  clear hng
  have hw1 : IntKind.i64.wrap (-(k : Int)) = -(k : Int) := IntWalk.i64_in _ (by omega)
  have hw2 : IntKind.i64.wrap (k : Int) = (k : Int) := IntWalk.i64_in _ (by omega)
  clear h hP2 hst hP3 hn
  rcases hu with ⟨rfl, rfl⟩ | ⟨rfl, rfl⟩
  · go_enter Tryd.func14, Tryd.ntmps14
    go_wp2_with fail
    refine (HK.out _).mono ?_; rintro e w1 ⟨rfl, b1⟩
    have f1 := (fmtAt_new w 1 a d t 23).later b1
    have bA := bel_trans (bel_alloc (bel_refl w) (.cells #[.int .i64 1, .int .i64 (a : Int), .int .i64 (d : Int), .bool t] 23)) b1
    clear b1
    obtain ⟨x0, x1, x2, x3, xl⟩ := f1
    have es := HSt.out
    go_wp2_with fail
    refine (HT2.out _).mono ?_; rintro e w' ⟨rfl, rfl⟩
    go_wp2_with fail
    clear es
    have F1 := Lib.hid (FmtAt.mk x0 x1 x2 x3 xl)
    have y1 := cell_regrown x1
    have y2 := cell_regrown x2
    have D1 := Lib.hid (fun p : Regrown => Calls.regrown_of (to_below (HT3.out (grow (redrawn w1 p.d) p.os))))
    clear x0 x1 x2 x3 xl
    refine wp_region_quiet_below (by kernel_rfl) (by kernel_rfl) ?_
    repeat (go_big_quiet_step (with_reducible exact D1.out _))
    refine wpQuiet_nil ?_
    intro _ hw'
    obtain ⟨⟨dq, osq⟩, hw''⟩ := hw'
    subst hw''
    have f2 := F1.out.later (below_regrown w1 dq osq)
    have bB := bel_trans bA (below_regrown w1 dq osq)
    clear y1 y2 D1 F1 bA hs
    generalize grow (redrawn w1 dq) osq = w2 at *
    obtain ⟨x0, x1, x2, x3, xl⟩ := f2
    go_wp2
    go_ret2
    exact ⟨rfl, bB⟩
  · go_enter Tryd.func14, Tryd.ntmps14
    go_wp2_with fail
    refine (HK.out _).mono ?_; rintro e w1 ⟨rfl, b1⟩
    have f1 := (fmtAt_new w 2 a d t 23).later b1
    have bA := bel_trans (bel_alloc (bel_refl w) (.cells #[.int .i64 2, .int .i64 (a : Int), .int .i64 (d : Int), .bool t] 23)) b1
    clear b1
    obtain ⟨x0, x1, x2, x3, xl⟩ := f1
    have es := HSt.out
    go_wp2_with fail
    refine (HT2.out _).mono ?_; rintro e w' ⟨rfl, rfl⟩
    go_wp2_with fail
    clear es
    have F1 := Lib.hid (FmtAt.mk x0 x1 x2 x3 xl)
    have y1 := cell_regrown x1
    have y2 := cell_regrown x2
    have D1 := Lib.hid (fun p : Regrown => Calls.regrown_of (to_below (HT3.out (grow (redrawn w1 p.d) p.os))))
    clear x0 x1 x2 x3 xl
    refine wp_region_quiet_below (by kernel_rfl) (by kernel_rfl) ?_
    repeat (go_big_quiet_step (with_reducible exact D1.out _))
    refine wpQuiet_nil ?_
    intro _ hw'
    obtain ⟨⟨dq, osq⟩, hw''⟩ := hw'
    subst hw''
    have f2 := F1.out.later (below_regrown w1 dq osq)
    have bB := bel_trans bA (below_regrown w1 dq osq)
    clear y1 y2 D1 F1 bA hs
    generalize grow (redrawn w1 dq) osq = w2 at *
    obtain ⟨x0, x1, x2, x3, xl⟩ := f2
    go_wp2
    go_ret2
    exact ⟨rfl, bB⟩
set_option maxRecDepth 100000 in
set_option maxHeartbeats 4000000 in
theorem refDigits_big_neg (k n : Nat) (u : Int) (G : Int) (a d : Nat) (t : Bool) (st P2 P3 : Int) (h : fmtB u a d = true) (hu : (u = 1 ∧ G = 10) ∨ (u = 2 ∧ G = 254)) (ha : a ≤ 6) (hd : d ≤ 6) (hn : a + d = n) (kb : k ≤ 536870912)
    (hP2 : (10 : Int) ^ (6 - d) = P2) (P20 : 1 ≤ P2) (P2b : P2 ≤ 1000000) (hst : G * P2 = st) (s0 : 0 < st) (s1 : st ≤ 254000000) (hP3 : (10 : Int) ^ n = P3) (P30 : 1 ≤ P3) (P3b : P3 ≤ 1000000000000) (k0 : 0 < k)
    (m : Nat) (hr : (k : Int).tmod st = 0) (hq : (k : Int).tdiv st = m) (hmk : m ≤ k) (hbig : P3 ≤ (m : Int)) (hng : nearB (-(k : Int)) = true) (w : World) :
    Calls Tryd.prog 14 #[.int .i64 (-(k : Int)), fmtV u a d t] w fun e w' => e = .returned (strOk none) ∧ Below w.heap.size w w' := by
  have HK := Lib.hid (fun w => refFmt_is t h w)
  have HT2 := Lib.hid (fun w => tens_is (x := (6 : Int) - (d : Int)) (n := 6 - d) (by omega) (by omega) hP2 w)
  have HT3 := Lib.hid (fun w => tens_is (x := (n : Int)) (n := n) rfl (by omega) hP3 w)
  have HSt := Lib.hid hst
  have hs : IntKind.i64.wrap ((a : Int) + (d : Int)) = (n : Int) := by
    rw [IntWalk.i64_in ((a : Int) + (d : Int)) (by omega)]; omega
  have hnn : n ≤ 12 := by omega
  obtain ⟨g0, g1⟩ := near_yes hng
  clear hng
  have hw1 : IntKind.i64.wrap (-(k : Int)) = -(k : Int) := IntWalk.i64_in _ (by omega)
  have hw2 : IntKind.i64.wrap (k : Int) = (k : Int) := IntWalk.i64_in _ (by omega)
  have c2 : decide (P3 ≤ (m : Int)) = true := decide_eq_true hbig
  have c3 : decide (P3 ≤ -(m : Int)) = false := decide_eq_false (by omega)
  clear h hP2 hst hP3 hn
  rcases hu with ⟨rfl, rfl⟩ | ⟨rfl, rfl⟩
  · go_enter Tryd.func14, Tryd.ntmps14
    go_wp2_with fail
    refine (HK.out _).mono ?_; rintro e w1 ⟨rfl, b1⟩
    have f1 := (fmtAt_new w 1 a d t 23).later b1
    have bA := bel_trans (bel_alloc (bel_refl w) (.cells #[.int .i64 1, .int .i64 (a : Int), .int .i64 (d : Int), .bool t] 23)) b1
    clear b1
    obtain ⟨x0, x1, x2, x3, xl⟩ := f1
    have es := HSt.out
    go_wp2_with fail
    refine (HT2.out _).mono ?_; rintro e w' ⟨rfl, rfl⟩
    go_wp2_with fail
    clear es
    have F1 := Lib.hid (FmtAt.mk x0 x1 x2 x3 xl)
    have y1 := cell_regrown x1
    have y2 := cell_regrown x2
    have D1 := Lib.hid (fun p : Regrown => Calls.regrown_of (to_below (HT3.out (grow (redrawn w1 p.d) p.os))))
    clear x0 x1 x2 x3 xl
    refine wp_region_quiet_below (by kernel_rfl) (by kernel_rfl) ?_
    repeat (go_big_quiet_step (with_reducible exact D1.out _))
    refine wpQuiet_nil ?_
    intro _ hw'
    obtain ⟨⟨dq, osq⟩, hw''⟩ := hw'
    subst hw''
    have f2 := F1.out.later (below_regrown w1 dq osq)
    have bB := bel_trans bA (below_regrown w1 dq osq)
    clear y1 y2 D1 F1 bA hs
    generalize grow (redrawn w1 dq) osq = w2 at *
    obtain ⟨x0, x1, x2, x3, xl⟩ := f2
    go_wp2
    go_ret2
    exact ⟨rfl, bB⟩
  · go_enter Tryd.func14, Tryd.ntmps14
    go_wp2_with fail
    refine (HK.out _).mono ?_; rintro e w1 ⟨rfl, b1⟩
    have f1 := (fmtAt_new w 2 a d t 23).later b1
    have bA := bel_trans (bel_alloc (bel_refl w) (.cells #[.int .i64 2, .int .i64 (a : Int), .int .i64 (d : Int), .bool t] 23)) b1
    clear b1
    obtain ⟨x0, x1, x2, x3, xl⟩ := f1
    have es := HSt.out
    go_wp2_with fail
    refine (HT2.out _).mono ?_; rintro e w' ⟨rfl, rfl⟩
    go_wp2_with fail
    clear es
    have F1 := Lib.hid (FmtAt.mk x0 x1 x2 x3 xl)
    have y1 := cell_regrown x1
    have y2 := cell_regrown x2
    have D1 := Lib.hid (fun p : Regrown => Calls.regrown_of (to_below (HT3.out (grow (redrawn w1 p.d) p.os))))
    clear x0 x1 x2 x3 xl
    refine wp_region_quiet_below (by kernel_rfl) (by kernel_rfl) ?_
    repeat (go_big_quiet_step (with_reducible exact D1.out _))
    refine wpQuiet_nil ?_
    intro _ hw'
    obtain ⟨⟨dq, osq⟩, hw''⟩ := hw'
    subst hw''
    have f2 := F1.out.later (below_regrown w1 dq osq)
    have bB := bel_trans bA (below_regrown w1 dq osq)
    clear y1 y2 D1 F1 bA hs
    generalize grow (redrawn w1 dq) osq = w2 at *
    obtain ⟨x0, x1, x2, x3, xl⟩ := f2
    go_wp2
    go_ret2
    exact ⟨rfl, bB⟩
set_option maxRecDepth 100000 in
set_option maxHeartbeats 8000000 in
theorem refDigits_neg_false (k n : Nat) (u : Int) (G : Int) (a d : Nat) (st P2 P3 : Int) (h : fmtB u a d = true) (hu : (u = 1 ∧ G = 10) ∨ (u = 2 ∧ G = 254)) (ha : a ≤ 6) (hd : d ≤ 6) (hn : a + d = n) (kb : k ≤ 536870912)
    (hP2 : (10 : Int) ^ (6 - d) = P2) (P20 : 1 ≤ P2) (P2b : P2 ≤ 1000000) (hst : G * P2 = st) (s0 : 0 < st) (s1 : st ≤ 254000000) (hP3 : (10 : Int) ^ n = P3) (P30 : 1 ≤ P3) (P3b : P3 ≤ 1000000000000) (k0 : 0 < k)
    (m : Nat) (hr : (k : Int).tmod st = 0) (hq : (k : Int).tdiv st = m) (hmk : m ≤ k) (m0 : 0 < m) (hbig : (m : Int) < P3) (Z : List UInt8) (hZ : numL m 1 = Z) (lZ : Z.length ≤ 12) (hng : nearB (-(k : Int)) = true) (w : World) :
    Calls Tryd.prog 14 #[.int .i64 (-(k : Int)), fmtV u a d false] w fun e w' => e = .returned (strOk (some (45 :: Z))) ∧ Below w.heap.size w w' := by
  have HK := Lib.hid (fun w => refFmt_is false h w)
  have HT2 := Lib.hid (fun w => tens_is (x := (6 : Int) - (d : Int)) (n := 6 - d) (by omega) (by omega) hP2 w)
  have HT3 := Lib.hid (fun w => tens_is (x := (n : Int)) (n := n) rfl (by omega) hP3 w)
  have HSt := Lib.hid hst
  have hs : IntKind.i64.wrap ((a : Int) + (d : Int)) = (n : Int) := by
    rw [IntWalk.i64_in ((a : Int) + (d : Int)) (by omega)]; omega
  have hnn : n ≤ 12 := by omega
  obtain ⟨g0, g1⟩ := near_yes hng
  clear hng
  have hw1 : IntKind.i64.wrap (-(k : Int)) = -(k : Int) := IntWalk.i64_in _ (by omega)
  have hw2 : IntKind.i64.wrap (k : Int) = (k : Int) := IntWalk.i64_in _ (by omega)
  have c2 : decide (P3 ≤ (m : Int)) = false := decide_eq_false (by omega)
  have c3 : decide (P3 ≤ -(m : Int)) = false := decide_eq_false (by omega)
  have HZ := Lib.hid (fun w => refNum_is (x := 1) (n := 1) rfl hZ (by omega) (by omega) w)
  have e1 : ({ data := #[45] } : ByteArray) ++ ({ data := Z.toArray } : ByteArray) = ⟨(45 :: Z).toArray⟩ := str_app [45] Z
  have HE := Lib.hid e1
  clear e1 hZ
  clear h hP2 hst hP3 hn
  rcases hu with ⟨rfl, rfl⟩ | ⟨rfl, rfl⟩
  · go_enter Tryd.func14, Tryd.ntmps14
    go_wp2_with fail
    refine (HK.out _).mono ?_; rintro e w1 ⟨rfl, b1⟩
    have f1 := (fmtAt_new w 1 a d false 23).later b1
    have bA := bel_trans (bel_alloc (bel_refl w) (.cells #[.int .i64 1, .int .i64 (a : Int), .int .i64 (d : Int), .bool false] 23)) b1
    clear b1
    obtain ⟨x0, x1, x2, x3, xl⟩ := f1
    have es := HSt.out
    go_wp2_with fail
    refine (HT2.out _).mono ?_; rintro e w' ⟨rfl, rfl⟩
    go_wp2_with fail
    clear es
    have F1 := Lib.hid (FmtAt.mk x0 x1 x2 x3 xl)
    have y1 := cell_regrown x1
    have y2 := cell_regrown x2
    have D1 := Lib.hid (fun p : Regrown => Calls.regrown_of (to_below (HT3.out (grow (redrawn w1 p.d) p.os))))
    clear x0 x1 x2 x3 xl
    refine wp_region_quiet_below (by kernel_rfl) (by kernel_rfl) ?_
    repeat (go_big_quiet_step (with_reducible exact D1.out _))
    refine wpQuiet_nil ?_
    intro _ hw'
    obtain ⟨⟨dq, osq⟩, hw''⟩ := hw'
    subst hw''
    have f2 := F1.out.later (below_regrown w1 dq osq)
    have bB := bel_trans bA (below_regrown w1 dq osq)
    clear y1 y2 D1 F1 bA hs
    generalize grow (redrawn w1 dq) osq = w2 at *
    obtain ⟨x0, x1, x2, x3, xl⟩ := f2
    have e1 := HE.out
    go_wp2_with fail
    refine (HZ.out _).mono ?_; rintro e w' ⟨rfl, rfl⟩
    go_wp2
    go_ret2
    exact ⟨rfl, bB⟩
  · go_enter Tryd.func14, Tryd.ntmps14
    go_wp2_with fail
    refine (HK.out _).mono ?_; rintro e w1 ⟨rfl, b1⟩
    have f1 := (fmtAt_new w 2 a d false 23).later b1
    have bA := bel_trans (bel_alloc (bel_refl w) (.cells #[.int .i64 2, .int .i64 (a : Int), .int .i64 (d : Int), .bool false] 23)) b1
    clear b1
    obtain ⟨x0, x1, x2, x3, xl⟩ := f1
    have es := HSt.out
    go_wp2_with fail
    refine (HT2.out _).mono ?_; rintro e w' ⟨rfl, rfl⟩
    go_wp2_with fail
    clear es
    have F1 := Lib.hid (FmtAt.mk x0 x1 x2 x3 xl)
    have y1 := cell_regrown x1
    have y2 := cell_regrown x2
    have D1 := Lib.hid (fun p : Regrown => Calls.regrown_of (to_below (HT3.out (grow (redrawn w1 p.d) p.os))))
    clear x0 x1 x2 x3 xl
    refine wp_region_quiet_below (by kernel_rfl) (by kernel_rfl) ?_
    repeat (go_big_quiet_step (with_reducible exact D1.out _))
    refine wpQuiet_nil ?_
    intro _ hw'
    obtain ⟨⟨dq, osq⟩, hw''⟩ := hw'
    subst hw''
    have f2 := F1.out.later (below_regrown w1 dq osq)
    have bB := bel_trans bA (below_regrown w1 dq osq)
    clear y1 y2 D1 F1 bA hs
    generalize grow (redrawn w1 dq) osq = w2 at *
    obtain ⟨x0, x1, x2, x3, xl⟩ := f2
    have e1 := HE.out
    go_wp2_with fail
    refine (HZ.out _).mono ?_; rintro e w' ⟨rfl, rfl⟩
    go_wp2
    go_ret2
    exact ⟨rfl, bB⟩
set_option maxRecDepth 100000 in
set_option maxHeartbeats 8000000 in
theorem refDigits_neg_true (k n : Nat) (u : Int) (G : Int) (a d : Nat) (st P2 P3 : Int) (h : fmtB u a d = true) (hu : (u = 1 ∧ G = 10) ∨ (u = 2 ∧ G = 254)) (ha : a ≤ 6) (hd : d ≤ 6) (hn : a + d = n) (kb : k ≤ 536870912)
    (hP2 : (10 : Int) ^ (6 - d) = P2) (P20 : 1 ≤ P2) (P2b : P2 ≤ 1000000) (hst : G * P2 = st) (s0 : 0 < st) (s1 : st ≤ 254000000) (hP3 : (10 : Int) ^ n = P3) (P30 : 1 ≤ P3) (P3b : P3 ≤ 1000000000000) (k0 : 0 < k)
    (m : Nat) (hr : (k : Int).tmod st = 0) (hq : (k : Int).tdiv st = m) (hmk : m ≤ k) (m0 : 0 < m) (hbig : (m : Int) < P3) (P B : List UInt8) (hP : numL m n = P) (hB : bareL P = B) (lP : P.length ≤ 12) (lB : B.length ≤ 12) (hng : nearB (-(k : Int)) = true) (w : World) :
    Calls Tryd.prog 14 #[.int .i64 (-(k : Int)), fmtV u a d true] w fun e w' => e = .returned (strOk (some (45 :: (orZero B)))) ∧ Below w.heap.size w w' := by
  have HK := Lib.hid (fun w => refFmt_is true h w)
  have HT2 := Lib.hid (fun w => tens_is (x := (6 : Int) - (d : Int)) (n := 6 - d) (by omega) (by omega) hP2 w)
  have HT3 := Lib.hid (fun w => tens_is (x := (n : Int)) (n := n) rfl (by omega) hP3 w)
  have HSt := Lib.hid hst
  have hs : IntKind.i64.wrap ((a : Int) + (d : Int)) = (n : Int) := by
    rw [IntWalk.i64_in ((a : Int) + (d : Int)) (by omega)]; omega
  have hnn : n ≤ 12 := by omega
  obtain ⟨g0, g1⟩ := near_yes hng
  clear hng
  have hw1 : IntKind.i64.wrap (-(k : Int)) = -(k : Int) := IntWalk.i64_in _ (by omega)
  have hw2 : IntKind.i64.wrap (k : Int) = (k : Int) := IntWalk.i64_in _ (by omega)
  have c2 : decide (P3 ≤ (m : Int)) = false := decide_eq_false (by omega)
  have c3 : decide (P3 ≤ -(m : Int)) = false := decide_eq_false (by omega)
  have HN := Lib.hid (fun w => refNum_is (x := (a : Int) + (d : Int)) (n := n) (by omega) hP (by omega) (by omega) w)
  have HB := Lib.hid (fun w => refBare_is hB (by omega) w)
  clear hP hB
  clear h hP2 hst hP3 hn
  rcases hu with ⟨rfl, rfl⟩ | ⟨rfl, rfl⟩
  · go_enter Tryd.func14, Tryd.ntmps14
    go_wp2_with fail
    refine (HK.out _).mono ?_; rintro e w1 ⟨rfl, b1⟩
    have f1 := (fmtAt_new w 1 a d true 23).later b1
    have bA := bel_trans (bel_alloc (bel_refl w) (.cells #[.int .i64 1, .int .i64 (a : Int), .int .i64 (d : Int), .bool true] 23)) b1
    clear b1
    obtain ⟨x0, x1, x2, x3, xl⟩ := f1
    have es := HSt.out
    go_wp2_with fail
    refine (HT2.out _).mono ?_; rintro e w' ⟨rfl, rfl⟩
    go_wp2_with fail
    clear es
    have F1 := Lib.hid (FmtAt.mk x0 x1 x2 x3 xl)
    have y1 := cell_regrown x1
    have y2 := cell_regrown x2
    have D1 := Lib.hid (fun p : Regrown => Calls.regrown_of (to_below (HT3.out (grow (redrawn w1 p.d) p.os))))
    clear x0 x1 x2 x3 xl
    refine wp_region_quiet_below (by kernel_rfl) (by kernel_rfl) ?_
    repeat (go_big_quiet_step (with_reducible exact D1.out _))
    refine wpQuiet_nil ?_
    intro _ hw'
    obtain ⟨⟨dq, osq⟩, hw''⟩ := hw'
    subst hw''
    have f2 := F1.out.later (below_regrown w1 dq osq)
    have bB := bel_trans bA (below_regrown w1 dq osq)
    clear y1 y2 D1 F1 bA hs
    generalize grow (redrawn w1 dq) osq = w2 at *
    obtain ⟨x0, x1, x2, x3, xl⟩ := f2
    go_wp2_with fail
    refine (HN.out _).mono ?_; rintro e w' ⟨rfl, rfl⟩
    go_wp2_with fail
    refine (HB.out _).mono ?_; rintro e w' ⟨rfl, rfl⟩
    rcases first_byte B with rfl | ⟨c, s, rfl⟩
    · have e1 : ({ data := #[45] } : ByteArray) ++ ({ data := #[48] } : ByteArray) = ⟨(45 :: [48]).toArray⟩ := str_app [45] [48]
      go_wp2
      go_ret2
      exact ⟨rfl, bB⟩
    · have e1 : ({ data := #[45] } : ByteArray) ++ ({ data := (c :: s).toArray } : ByteArray) = ⟨(45 :: (c :: s)).toArray⟩ := str_app [45] (c :: s)
      have HO := Lib.hid (show orZero (c :: s) = c :: s from if_neg (by simp))
      have lB2 : s.length ≤ 12 := by simp at lB; omega
      go_wp2
      go_ret2
      exact ⟨by rw [HO.out]; rfl, bB⟩
  · go_enter Tryd.func14, Tryd.ntmps14
    go_wp2_with fail
    refine (HK.out _).mono ?_; rintro e w1 ⟨rfl, b1⟩
    have f1 := (fmtAt_new w 2 a d true 23).later b1
    have bA := bel_trans (bel_alloc (bel_refl w) (.cells #[.int .i64 2, .int .i64 (a : Int), .int .i64 (d : Int), .bool true] 23)) b1
    clear b1
    obtain ⟨x0, x1, x2, x3, xl⟩ := f1
    have es := HSt.out
    go_wp2_with fail
    refine (HT2.out _).mono ?_; rintro e w' ⟨rfl, rfl⟩
    go_wp2_with fail
    clear es
    have F1 := Lib.hid (FmtAt.mk x0 x1 x2 x3 xl)
    have y1 := cell_regrown x1
    have y2 := cell_regrown x2
    have D1 := Lib.hid (fun p : Regrown => Calls.regrown_of (to_below (HT3.out (grow (redrawn w1 p.d) p.os))))
    clear x0 x1 x2 x3 xl
    refine wp_region_quiet_below (by kernel_rfl) (by kernel_rfl) ?_
    repeat (go_big_quiet_step (with_reducible exact D1.out _))
    refine wpQuiet_nil ?_
    intro _ hw'
    obtain ⟨⟨dq, osq⟩, hw''⟩ := hw'
    subst hw''
    have f2 := F1.out.later (below_regrown w1 dq osq)
    have bB := bel_trans bA (below_regrown w1 dq osq)
    clear y1 y2 D1 F1 bA hs
    generalize grow (redrawn w1 dq) osq = w2 at *
    obtain ⟨x0, x1, x2, x3, xl⟩ := f2
    go_wp2_with fail
    refine (HN.out _).mono ?_; rintro e w' ⟨rfl, rfl⟩
    go_wp2_with fail
    refine (HB.out _).mono ?_; rintro e w' ⟨rfl, rfl⟩
    rcases first_byte B with rfl | ⟨c, s, rfl⟩
    · have e1 : ({ data := #[45] } : ByteArray) ++ ({ data := #[48] } : ByteArray) = ⟨(45 :: [48]).toArray⟩ := str_app [45] [48]
      go_wp2
      go_ret2
      exact ⟨rfl, bB⟩
    · have e1 : ({ data := #[45] } : ByteArray) ++ ({ data := (c :: s).toArray } : ByteArray) = ⟨(45 :: (c :: s)).toArray⟩ := str_app [45] (c :: s)
      have HO := Lib.hid (show orZero (c :: s) = c :: s from if_neg (by simp))
      have lB2 : s.length ≤ 12 := by simp at lB; omega
      go_wp2
      go_ret2
      exact ⟨by rw [HO.out]; rfl, bB⟩
end Go.Proofs.YtapnekpilgbcaaaDoor
