/- Contract of package unit's Digits. -/
import Derived.Test.YtapnekpilgbcaaaDoorUnitC
namespace Go.Proofs.YtapnekpilgbcaaaDoor
open Go.RowKit
open Go.Sort (grow)

theorem step_pos {u : Int} (hu : u = 1 ∨ u = 2) {d : Nat} (_hd : d ≤ 6) : 10 ≤ stepI u d ∧ stepI u d ≤ 254000000 := by
  have g := grains_unit hu
  have b := tens_step_bd (k := grainsI u) (by omega) g.2 (m := 6 - d) (by omega)
  refine ⟨?_, b.2⟩
  unfold stepI tens
  have p : (1 : Int) ≤ 10 ^ (6 - d) := Int.pow_pos (by omega)
  have := Int.mul_le_mul_of_nonneg_left p (show 0 ≤ grainsI u by omega)
  omega
/-- How many steps a number of grains has. -/
def quoN (g u : Int) (d : Nat) : Nat := (g.natAbs / (stepI u d).toNat)
def dashL (g : Int) : List UInt8 := if g < 0 then [45] else []
def digitsO (g u a d : Int) (t : Bool) : Option (List UInt8) :=
  if fmtB u a d = true ∧ nearB g = true ∧ g % stepI u d.toNat = 0 ∧ quoN g u d.toNat < 10 ^ (a + d).toNat then
    some (dashL g ++ orZero (omitX (pad (a + d).toNat (quoN g u d.toNat)) t)) else none
theorem digits_none {g u a d : Int} {t : Bool} (h : ¬ (fmtB u a d = true ∧ nearB g = true ∧ g % stepI u d.toNat = 0 ∧ quoN g u d.toNat < 10 ^ (a + d).toNat)) : digitsO g u a d t = none := if_neg h
theorem digits_some {g u a d : Int} {t : Bool} (h : fmtB u a d = true ∧ nearB g = true ∧ g % stepI u d.toNat = 0 ∧ quoN g u d.toNat < 10 ^ (a + d).toNat) : digitsO g u a d t = some (dashL g ++ orZero (omitX (pad (a + d).toNat (quoN g u d.toNat)) t)) := if_pos h
/-- A string, and whether there is one. -/
abbrev strOk (o : Option (List UInt8)) : Value := .tuple #[.string ⟨(o.getD []).toArray⟩, .bool o.isSome]

theorem last_is {u : Int} {d : Nat} {st : Int} (h : stepI u d = st) (a : Int) (t : Bool) (hu : u = 1 ∨ u = 2) (hd : d ≤ 6) (w : World) :
    Calls Tryd.prog 19 #[fmtV u a d t] w fun e w' => e = .returned (.int .i64 st) ∧ Below w.heap.size w w' := h ▸ lastDigit_any u a d t hu hd w
theorem write_is {n c : Nat} {P : List UInt8} {b : Bool} (hp : pad c n = P) (hb : decide (n < 10 ^ c) = b) (hn : n ≤ 9223372036854775807) (hc : c ≤ 12) (w : World) :
    Calls Tryd.prog 20 #[.int .i64 n, .int .i64 c] w fun e w' => e = .returned (.tuple #[.string ⟨P.toArray⟩, .bool b]) ∧ Below w.heap.size w w' := by
  subst hp; subst hb; exact write_any n c hn hc w
theorem omit_is {r x : List UInt8} {t : Bool} (h : orZero (omitX r t) = x) (u a d : Int) (hr : r.length ≤ 1000) (w : World) :
    Calls Tryd.prog 21 #[.string ⟨r.toArray⟩, fmtV u a d t] w fun e w' => e = .returned (.string ⟨x.toArray⟩) ∧ Below w.heap.size w w' := h ▸ omit_any r u a d t hr w

set_option maxHeartbeats 1000000 in
theorem digits_bad (g u a d : Int) (t : Bool) (h : fmtB u a d = false) (w : World) :
    Calls Tryd.prog 8 #[.int .i64 g, fmtV u a d t] w fun e w' => e = .returned (strOk none) ∧ Below w.heap.size w w' := by
  have HK := Lib.hid (fun w => unitOk_is t h w)
  clear h
  go_enter Tryd.func8, Tryd.ntmps8
  go_wp2_with fail
  refine (HK.out _).mono ?_; rintro e w2 ⟨rfl, b2⟩
  go_wp2
  go_ret2
  exact ⟨rfl, bel_trans (bel_alloc (bel_refl w) _) b2⟩
set_option maxHeartbeats 1000000 in
theorem digits_far (g u a d : Int) (t : Bool) (h : fmtB u a d = true) (hg : nearB g = false) (w : World) :
    Calls Tryd.prog 8 #[.int .i64 g, fmtV u a d t] w fun e w' => e = .returned (strOk none) ∧ Below w.heap.size w w' := by
  have HK := Lib.hid (fun w => unitOk_is t h w)
  have HN := Lib.hid (fun w => near_is hg w)
  clear h hg
  go_enter Tryd.func8, Tryd.ntmps8
  go_wp2_with fail
  refine (HK.out _).mono ?_; rintro e w2 ⟨rfl, b2⟩
  go_wp2_with (go_at_call 18; ((with_reducible refine (HN.out _).mono ?_); rintro e w' ⟨rfl, rfl⟩))
  go_ret2
  exact ⟨rfl, bel_trans (bel_alloc (bel_refl w) _) b2⟩

set_option maxHeartbeats 2000000 in
theorem digits_odd (g u : Int) (a d : Nat) (st : Int) (t : Bool) (h : fmtB u a d = true) (hu : u = 1 ∨ u = 2) (hd : d ≤ 6) (hg : nearB g = true) (hst : stepI u d = st) (s0 : 0 < st) (s1 : st ≤ 254000000) (hr : (g.tmod st != 0) = true) (w : World) :
    Calls Tryd.prog 8 #[.int .i64 g, fmtV u a d t] w fun e w' => e = .returned (strOk none) ∧ Below w.heap.size w w' := by
  have HK := Lib.hid (fun w => unitOk_is t h w)
  have HN := Lib.hid (fun w => near_is hg w)
  have HL := Lib.hid (fun w => last_is hst a t hu hd w)
  obtain ⟨g0, g1⟩ := near_yes hg
  clear h hg hst hu
  go_enter Tryd.func8, Tryd.ntmps8
  go_wp2_with fail
  refine (HK.out _).mono ?_; rintro e w2 ⟨rfl, b2⟩
  have f2 := (fmtAt_new w u a d t 23).later b2
  have bB := bel_trans (bel_alloc (bel_refl w) (.cells #[.int .i64 u, .int .i64 (a : Int), .int .i64 (d : Int), .bool t] 23)) b2
  clear b2
  obtain ⟨x0, x1, x2, x3, xl⟩ := f2
  go_wp2_with (first | (go_at_call 18; ((with_reducible refine (HN.out _).mono ?_); rintro e w' ⟨rfl, rfl⟩)) | fail)
  refine (HL.out _).mono ?_; rintro e w3 ⟨rfl, b3⟩
  go_wp2
  go_ret2
  exact ⟨rfl, bel_trans bB b3⟩
end Go.Proofs.YtapnekpilgbcaaaDoor
