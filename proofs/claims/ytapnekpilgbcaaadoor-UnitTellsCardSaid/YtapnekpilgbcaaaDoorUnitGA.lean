/- Contract of package unit's Digits, where the grains are a whole number of steps. -/
import Derived.Test.YtapnekpilgbcaaaDoorUnitG
import Derived.IntWalk
namespace Go.Proofs.YtapnekpilgbcaaaDoor
open Go.RowKit
open Go.Sort (grow)

set_option maxHeartbeats 4000000 in
theorem digits_pos (k m n : Nat) (u : Int) (a d : Nat) (st : Int) (t : Bool) (P x : List UInt8) (b : Bool) (o : Option (List UInt8)) (h : fmtB u a d = true) (hu : u = 1 ∨ u = 2) (ha : a ≤ 6) (hd : d ≤ 6) (hn : a + d = n) (hg : nearB (k : Int) = true) (hst : stepI u d = st) (s0 : 0 < st) (s1 : st ≤ 254000000)
    (hr : (k : Int).tmod st = 0) (hq : (k : Int).tdiv st = m) (hP : pad n m = P) (hb : decide (m < 10 ^ n) = b) (hx : orZero (omitX P t) = x) (ho : o = if b = true then some x else none) (w : World) :
    Calls Tryd.prog 8 #[.int .i64 k, fmtV u a d t] w fun e w' => e = .returned (strOk o) ∧ Below w.heap.size w w' := by
  obtain ⟨g0, g1⟩ := near_yes hg
  have hmk : m ≤ k := by
    have h1 := Int.tdiv_nonneg (show (0 : Int) ≤ k by omega) (show 0 ≤ st by omega)
    have h2 := Int.tdiv_le_self st (show (0 : Int) ≤ k by omega)
    omega
  have lP : P.length ≤ 12 := by rw [← hP, pad_len]; omega
  have HK := Lib.hid (fun w => unitOk_is t h w)
  have HN := Lib.hid (fun w => near_is hg w)
  have HL := Lib.hid (fun w => last_is hst a t hu hd w)
  have HW := Lib.hid (fun w => write_is hP hb (by omega) (by omega) w)
  have HO := Lib.hid (fun w => omit_is hx u a d (by omega) w)
  have hs : IntKind.i64.wrap ((a : Int) + (d : Int)) = (n : Int) := by
    rw [IntWalk.i64_in ((a : Int) + (d : Int)) (by omega)]; omega
  have HE := Lib.hid ho
  have lx : x.length ≤ 12 := by
    rw [← hx]; have := omit_len P t; omega
  have e1 : ({ data := #[] } : ByteArray) ++ ({ data := x.toArray } : ByteArray) = ⟨x.toArray⟩ := str_app [] x
  clear h hg hst hu hP hb hx ho hn
  go_enter Tryd.func8, Tryd.ntmps8
  go_wp2_with fail
  refine (HK.out _).mono ?_; rintro e w2 ⟨rfl, b2⟩
  have f2 := (fmtAt_new w u a d t 23).later b2
  have bB := bel_trans (bel_alloc (bel_refl w) (.cells #[.int .i64 u, .int .i64 (a : Int), .int .i64 (d : Int), .bool t] 23)) b2
  clear b2
  obtain ⟨x0, x1, x2, x3, xl⟩ := f2
  go_wp2_with (first | (go_at_call 18; ((with_reducible refine (HN.out _).mono ?_); rintro e w' ⟨rfl, rfl⟩)) | fail)
  refine (HL.out _).mono ?_; rintro e w3 ⟨rfl, b3⟩
  have f3 := FmtAt.later ⟨x0, x1, x2, x3, xl⟩ b3
  have bC := bel_trans bB b3
  clear x0 x1 x2 x3 xl b3 bB
  obtain ⟨x0, x1, x2, x3, xl⟩ := f3
  go_wp2_with fail
  have F3 := Lib.hid (FmtAt.mk x0 x1 x2 x3 xl)
  have y1 := cell_regrown x1
  have y2 := cell_regrown x2
  have D1 := Lib.hid (fun p : Regrown => Calls.regrown_of (HW.out (grow (redrawn w3 p.d) p.os)))
  clear x0 x1 x2 x3 xl
  refine wp_region_quiet_below (by kernel_rfl) (by kernel_rfl) ?_
  repeat (go_big_quiet_step (with_reducible exact D1.out _))
  refine wpQuiet_nil ?_
  intro _ hw'
  obtain ⟨⟨dq, osq⟩, hw''⟩ := hw'
  subst hw''
  have f4 := F3.out.later (below_regrown w3 dq osq)
  have bD := bel_trans bC (below_regrown w3 dq osq)
  clear y1 y2 D1 F3 bC hs hr hq
  generalize grow (redrawn w3 dq) osq = w4 at *
  obtain ⟨x0, x1, x2, x3, xl⟩ := f4
  cases b with
  | false =>
    go_wp2
    go_ret2
    exact ⟨by rw [HE.out]; rfl, bD⟩
  | true =>
    go_wp2_with fail
    refine (HO.out _).mono ?_; rintro e w5 ⟨rfl, b5⟩
    go_wp2
    go_ret2
    exact ⟨by rw [HE.out]; rfl, bel_trans bD b5⟩

set_option maxHeartbeats 4000000 in
theorem digits_neg (k m n : Nat) (u : Int) (a d : Nat) (st : Int) (t : Bool) (P x : List UInt8) (b : Bool) (o : Option (List UInt8)) (h : fmtB u a d = true) (hu : u = 1 ∨ u = 2) (ha : a ≤ 6) (hd : d ≤ 6) (hn : a + d = n) (k0 : 0 < k) (hg : nearB (-(k : Int)) = true) (hst : stepI u d = st) (s0 : 0 < st) (s1 : st ≤ 254000000)
    (hr : (k : Int).tmod st = 0) (hq : (k : Int).tdiv st = m) (hP : pad n m = P) (hb : decide (m < 10 ^ n) = b) (hx : orZero (omitX P t) = x) (ho : o = if b = true then some (45 :: x) else none) (w : World) :
    Calls Tryd.prog 8 #[.int .i64 (-(k : Int)), fmtV u a d t] w fun e w' => e = .returned (strOk o) ∧ Below w.heap.size w w' := by
  obtain ⟨g0, g1⟩ := near_yes hg
  have hmk : m ≤ k := by
    have h1 := Int.tdiv_nonneg (show (0 : Int) ≤ k by omega) (show 0 ≤ st by omega)
    have h2 := Int.tdiv_le_self st (show (0 : Int) ≤ k by omega)
    omega
  have lP : P.length ≤ 12 := by rw [← hP, pad_len]; omega
  have HK := Lib.hid (fun w => unitOk_is t h w)
  have HN := Lib.hid (fun w => near_is hg w)
  have HL := Lib.hid (fun w => last_is hst a t hu hd w)
  have HW := Lib.hid (fun w => write_is hP hb (by omega) (by omega) w)
  have HO := Lib.hid (fun w => omit_is hx u a d (by omega) w)
  have hs : IntKind.i64.wrap ((a : Int) + (d : Int)) = (n : Int) := by
    rw [IntWalk.i64_in ((a : Int) + (d : Int)) (by omega)]; omega
  have HE := Lib.hid ho
  have lx : x.length ≤ 12 := by
    rw [← hx]; have := omit_len P t; omega
  have e1 : ({ data := #[45] } : ByteArray) ++ ({ data := x.toArray } : ByteArray) = ⟨(45 :: x).toArray⟩ := str_app [45] x
  clear h hg hst hu hP hb hx ho hn
  go_enter Tryd.func8, Tryd.ntmps8
  go_wp2_with fail
  refine (HK.out _).mono ?_; rintro e w2 ⟨rfl, b2⟩
  have f2 := (fmtAt_new w u a d t 23).later b2
  have bB := bel_trans (bel_alloc (bel_refl w) (.cells #[.int .i64 u, .int .i64 (a : Int), .int .i64 (d : Int), .bool t] 23)) b2
  clear b2
  obtain ⟨x0, x1, x2, x3, xl⟩ := f2
  go_wp2_with (first | (go_at_call 18; ((with_reducible refine (HN.out _).mono ?_); rintro e w' ⟨rfl, rfl⟩)) | fail)
  refine (HL.out _).mono ?_; rintro e w3 ⟨rfl, b3⟩
  have f3 := FmtAt.later ⟨x0, x1, x2, x3, xl⟩ b3
  have bC := bel_trans bB b3
  clear x0 x1 x2 x3 xl b3 bB
  obtain ⟨x0, x1, x2, x3, xl⟩ := f3
  go_wp2_with fail
  have F3 := Lib.hid (FmtAt.mk x0 x1 x2 x3 xl)
  have y1 := cell_regrown x1
  have y2 := cell_regrown x2
  have D1 := Lib.hid (fun p : Regrown => Calls.regrown_of (HW.out (grow (redrawn w3 p.d) p.os)))
  clear x0 x1 x2 x3 xl
  refine wp_region_quiet_below (by kernel_rfl) (by kernel_rfl) ?_
  repeat (go_big_quiet_step (with_reducible exact D1.out _))
  refine wpQuiet_nil ?_
  intro _ hw'
  obtain ⟨⟨dq, osq⟩, hw''⟩ := hw'
  subst hw''
  have f4 := F3.out.later (below_regrown w3 dq osq)
  have bD := bel_trans bC (below_regrown w3 dq osq)
  clear y1 y2 D1 F3 bC hs hr hq
  generalize grow (redrawn w3 dq) osq = w4 at *
  obtain ⟨x0, x1, x2, x3, xl⟩ := f4
  cases b with
  | false =>
    go_wp2
    go_ret2
    exact ⟨by rw [HE.out]; rfl, bD⟩
  | true =>
    go_wp2_with fail
    refine (HO.out _).mono ?_; rintro e w5 ⟨rfl, b5⟩
    go_wp2
    go_ret2
    exact ⟨by rw [HE.out]; rfl, bel_trans bD b5⟩
end Go.Proofs.YtapnekpilgbcaaaDoor
