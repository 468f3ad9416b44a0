/- Contract of package unit's Coord. -/
import Derived.Test.YtapnekpilgbcaaaDoorUnitD
import Derived.Test.YtapnekpilgbcaaaDoorUnitCoord
import Derived.Lib.QuietBelow
namespace Go.Proofs.YtapnekpilgbcaaaDoor
open Go.RowKit
open Go.Sort (grow)

theorem split_is {l s r : List UInt8} (hs : signL l = s) (hr : unsign l = r) (hl : l.length ≤ 100000) (w : World) :
    Calls Tryd.prog 22 #[.string ⟨l.toArray⟩] w fun e w' => e = .returned (.tuple #[.string ⟨s.toArray⟩, .string ⟨r.toArray⟩]) ∧ Below w.heap.size w w' := by
  subst hs; subst hr; exact splitSign_any l hl w
theorem unitOk_is {u a d : Int} {b : Bool} (t : Bool) (h : fmtB u a d = b) (w : World) :
    Calls Tryd.prog 15 #[fmtV u a d t] w fun e w' => e = .returned (.bool b) ∧ Below w.heap.size w w' := h ▸ unitOk_any u a d t w
theorem fill_is {r X : List UInt8} {a d : Nat} {t : Bool} (h : fillL r (a + d) t = X) (u : Int) (ha : a ≤ 6) (hd : d ≤ 6) (hr : r.length ≤ a + d) (w : World) :
    Calls Tryd.prog 23 #[.string ⟨r.toArray⟩, fmtV u a d t] w fun e w' => e = .returned (.string ⟨X.toArray⟩) ∧ Below w.heap.size w w' := h ▸ fill_any r u a d t ha hd hr w
theorem parse_is {l : List UInt8} {o : Option Int} (h : parseO l = o) (hl : l.length ≤ 1000) (w : World) :
    Calls Tryd.prog 24 #[.string ⟨l.toArray⟩] w fun e w' => e = .returned (.tuple #[.int .i64 (o.getD 0), .bool o.isSome]) ∧ Below w.heap.size w w' := h ▸ parse_any l hl w
theorem grain_is {n u : Int} {o : Option Int} (h : grainO n u = o) (w : World) :
    Calls Tryd.prog 11 #[.int .i64 n, .int .i64 u] w fun e w' => e = .returned (.tuple #[.int .i64 (o.getD 0), .bool o.isSome]) ∧ w = w' := h ▸ grain_any n u w

/-- What a call leaves of a format that lies in a block of the caller's own. -/
structure FmtAt (w : World) (b : Nat) (u a d : Int) (t : Bool) : Prop where
  c0 : w.cell? ⟨b, 0, none⟩ = some (.int .i64 u)
  c1 : w.cell? ⟨b, 1, none⟩ = some (.int .i64 a)
  c2 : w.cell? ⟨b, 2, none⟩ = some (.int .i64 d)
  c3 : w.cell? ⟨b, 3, none⟩ = some (.bool t)
  lt : b < w.heap.size
theorem fmtAt_new (w : World) (u a d : Int) (t : Bool) (n : TypeId) : FmtAt (w.alloc (.cells #[.int .i64 u, .int .i64 a, .int .i64 d, .bool t] n)) w.heap.size u a d t :=
  ⟨by simp, by simp, by simp, by simp, by simp⟩
theorem FmtAt.later {w w1 : World} {b : Nat} {u a d : Int} {t : Bool} (h : FmtAt w b u a d t) (k : Below w.heap.size w w1) : FmtAt w1 b u a d t :=
  ⟨(k.cell (p := ⟨b, 0, none⟩) h.lt).trans h.c0, (k.cell (p := ⟨b, 1, none⟩) h.lt).trans h.c1, (k.cell (p := ⟨b, 2, none⟩) h.lt).trans h.c2, (k.cell (p := ⟨b, 3, none⟩) h.lt).trans h.c3, Nat.lt_of_lt_of_le h.lt k.size⟩

theorem set_off {w : World} {b i j : Nat} {v x : Value} (h : w.cell? ⟨b, j, none⟩ = some x) (hij : i ≠ j) : (w.setCell ⟨b, i, none⟩ v).cell? ⟨b, j, none⟩ = some x := by
  rw [World.cell?_setCell_other]
  · exact h
  · intro e
    simp only [Addr.mk.injEq] at e
    omega
theorem set_on {w : World} {b i : Nat} {v x : Value} (h : w.cell? ⟨b, i, none⟩ = some x) : (w.setCell ⟨b, i, none⟩ v).cell? ⟨b, i, none⟩ = some v := World.cell?_setCell_same _ _ _ h
/-- A format that is stored over another one in a block of the caller's own. -/
theorem FmtAt.stored {w : World} {b : Nat} {u a d : Int} {t : Bool} (h : FmtAt w b u a d t) (u' a' d' : Int) (t' : Bool) :
    FmtAt ((((w.setCell ⟨b, 0, none⟩ (.int .i64 u')).setCell ⟨b, 1, none⟩ (.int .i64 a')).setCell ⟨b, 2, none⟩ (.int .i64 d')).setCell ⟨b, 3, none⟩ (.bool t')) b u' a' d' t' := by
  obtain ⟨c0, c1, c2, c3, lt⟩ := h
  refine ⟨?_, ?_, ?_, ?_, ?_⟩
  · exact set_off (set_off (set_off (set_on c0) (by omega)) (by omega)) (by omega)
  · exact set_off (set_off (set_on (set_off c1 (by omega))) (by omega)) (by omega)
  · exact set_off (set_on (set_off (set_off c2 (by omega)) (by omega))) (by omega)
  · exact set_on (set_off (set_off (set_off c3 (by omega)) (by omega)) (by omega))
  · simpa using lt
theorem below_stored {w w1 : World} (h : Below w.heap.size w w1) (v0 v1 v2 v3 : Value) :
    Below w.heap.size w ((((w1.setCell ⟨w.heap.size, 0, none⟩ v0).setCell ⟨w.heap.size, 1, none⟩ v1).setCell ⟨w.heap.size, 2, none⟩ v2).setCell ⟨w.heap.size, 3, none⟩ v3) :=
  (((h.setCell (Nat.le_refl _) _).setCell (Nat.le_refl _) _).setCell (Nat.le_refl _) _).setCell (Nat.le_refl _) _
theorem frozen_new {w w1 : World} {o : Obj} (h : Below (w.alloc o).heap.size (w.alloc o) w1) (hz : ∀ i, (w.alloc o).frozen? ⟨w.heap.size, i, none⟩ = false) (i : Nat) : w1.frozen? ⟨w.heap.size, i, none⟩ = false := by
  rw [h.frozen (p := ⟨w.heap.size, i, none⟩) (by simp)]; exact hz i

set_option maxHeartbeats 1000000 in
theorem coord_bad (l : List UInt8) (u a d : Int) (t : Bool) (hl : l.length ≤ 1000) (h : fmtB u a d = false) (w : World) :
    Calls Tryd.prog 10 #[.string ⟨l.toArray⟩, fmtV u a d t] w fun e w' => e = .returned (.tuple #[.int .i64 0, .bool false]) ∧ Below w.heap.size w w' := by
  have HK := Lib.hid (fun w => unitOk_is t h w)
  clear h
  go_enter Tryd.func10, Tryd.ntmps10
  go_wp2_with fail
  refine (splitSign_any l (by omega) _).mono ?_; rintro e w1 ⟨rfl, b1⟩
  have f1 := (fmtAt_new w u a d t 23).later b1
  have bA := bel_trans (bel_alloc (bel_refl w) (.cells #[.int .i64 u, .int .i64 a, .int .i64 d, .bool t] 23)) b1
  clear b1
  obtain ⟨x0, x1, x2, x3, xl⟩ := f1
  go_wp2_with fail
  refine (HK.out _).mono ?_; rintro e w2 ⟨rfl, b2⟩
  go_wp2
  go_ret2
  exact ⟨rfl, bel_trans bA b2⟩

set_option maxHeartbeats 1000000 in
theorem coord_empty (l : List UInt8) (u : Int) (a d : Nat) (t : Bool) (hl : l.length ≤ 1000) (h : fmtB u a d = true) (hr : unsign l = []) (w : World) :
    Calls Tryd.prog 10 #[.string ⟨l.toArray⟩, fmtV u a d t] w fun e w' => e = .returned (.tuple #[.int .i64 0, .bool false]) ∧ Below w.heap.size w w' := by
  have HK := Lib.hid (fun w => unitOk_is t h w)
  have HS := Lib.hid (fun w => split_is rfl hr (by omega) w)
  clear h hr
  go_enter Tryd.func10, Tryd.ntmps10
  go_wp2_with fail
  refine (HS.out _).mono ?_; rintro e w1 ⟨rfl, b1⟩
  have f1 := (fmtAt_new w u a d t 23).later b1
  have bA := bel_trans (bel_alloc (bel_refl w) (.cells #[.int .i64 u, .int .i64 (a : Int), .int .i64 (d : Int), .bool t] 23)) b1
  clear b1
  obtain ⟨x0, x1, x2, x3, xl⟩ := f1
  go_wp2_with fail
  refine (HK.out _).mono ?_; rintro e w2 ⟨rfl, b2⟩
  go_wp2
  go_ret2
  exact ⟨rfl, bel_trans bA b2⟩

set_option maxHeartbeats 1000000 in
theorem coord_long (l q : List UInt8) (c : UInt8) (u : Int) (a d : Nat) (t : Bool) (hl : l.length ≤ 1000) (h : fmtB u a d = true) (ha : a ≤ 6) (hd : d ≤ 6) (hr : unsign l = c :: q) (hn : a + d < q.length + 1) (w : World) :
    Calls Tryd.prog 10 #[.string ⟨l.toArray⟩, fmtV u a d t] w fun e w' => e = .returned (.tuple #[.int .i64 0, .bool false]) ∧ Below w.heap.size w w' := by
  have HK := Lib.hid (fun w => unitOk_is t h w)
  have HS := Lib.hid (fun w => split_is rfl hr (by omega) w)
  have lq : q.length ≤ 1000 := by have := unsign_len l; rw [hr] at this; simp at this; omega
  clear h hr
  go_enter Tryd.func10, Tryd.ntmps10
  go_wp2_with fail
  refine (HS.out _).mono ?_; rintro e w1 ⟨rfl, b1⟩
  have f1 := (fmtAt_new w u a d t 23).later b1
  have bA := bel_trans (bel_alloc (bel_refl w) (.cells #[.int .i64 u, .int .i64 (a : Int), .int .i64 (d : Int), .bool t] 23)) b1
  clear b1
  obtain ⟨x0, x1, x2, x3, xl⟩ := f1
  go_wp2_with fail
  refine (HK.out _).mono ?_; rintro e w2 ⟨rfl, b2⟩
  have f2 := FmtAt.later ⟨x0, x1, x2, x3, xl⟩ b2
  have bB := bel_trans bA b2
  clear x0 x1 x2 x3 xl b2 bA
  obtain ⟨x0, x1, x2, x3, xl⟩ := f2
  go_wp2
  go_ret2
  exact ⟨rfl, bB⟩

set_option maxHeartbeats 4000000 in
theorem coord_core (l s q X W D S1 S2 Y : List UInt8) (c : UInt8) (u : Int) (a d : Nat) (t : Bool) (o g : Option Int) (hl : l.length ≤ 1000) (h : fmtB u a d = true) (ha : a ≤ 6) (hd : d ≤ 6) (hn : q.length + 1 ≤ a + d)
    (hs : signL l = s) (hr : unsign l = c :: q) (hX : fillL (c :: q) (a + d) t = X) (lX : X.length = a + d) (hW : X.take a = W) (hD : X.drop a = D) (hS1 : s ++ W = S1) (hS2 : S1 ++ [46] = S2) (hY : S2 ++ D = Y)
    (hP : parseO Y = o) (hG : g = o.bind (fun v => grainO v u)) (w : World) :
    Calls Tryd.prog 10 #[.string ⟨l.toArray⟩, fmtV u a d t] w fun e w' => e = .returned (.tuple #[.int .i64 (g.getD 0), .bool g.isSome]) ∧ Below w.heap.size w w' := by
  have ls : s.length ≤ 1 := by
    rw [← hs]
    cases l with
    | nil => simp [signL]
    | cons c r => by_cases h : c.toNat = 45 ∨ c.toNat = 43 <;> simp [signL, h]
  have lW : W.length ≤ 6 := by rw [← hW]; simp; omega
  have lD : D.length ≤ 6 := by rw [← hD]; simp; omega
  have l1 : S1.length ≤ 7 := by rw [← hS1]; simp; omega
  have l2 : S2.length ≤ 8 := by rw [← hS2]; simp; omega
  have lY : Y.length ≤ 14 := by rw [← hY]; simp; omega
  have e1 : ({ data := s.toArray } : ByteArray) ++ ({ data := W.toArray } : ByteArray) = ⟨S1.toArray⟩ := by rw [← hS1]; exact str_app _ _
  have e2 : ({ data := S1.toArray } : ByteArray) ++ ({ data := #[46] } : ByteArray) = ⟨S2.toArray⟩ := by rw [← hS2]; exact str_app _ [46]
  have e3 : ({ data := S2.toArray } : ByteArray) ++ ({ data := D.toArray } : ByteArray) = ⟨Y.toArray⟩ := by rw [← hY]; exact str_app _ _
  have x1c : ({ data := X.toArray } : ByteArray).extract 0 a = ⟨W.toArray⟩ := by rw [← hW]; exact cut_front X a (by omega)
  have x2c : ({ data := X.toArray } : ByteArray).extract a X.length = ⟨D.toArray⟩ := by rw [← hD]; exact cut_back X a (by omega)
  have HK := Lib.hid (fun w => unitOk_is t h w)
  have HS := Lib.hid (fun w => split_is hs hr (by omega) w)
  have HF := Lib.hid (fun w => fill_is hX u ha hd (by simpa using hn) w)
  have HP := Lib.hid (fun w => parse_is hP (by omega) w)
  have HG := Lib.hid hG
  have lx1 : a ≤ X.length := by omega
  have lx2 : X.length ≤ 12 := by omega
  have lq : q.length ≤ 12 := by omega
  clear h hs hr hX lX hW hD hS1 hS2 hY hP hG
  go_enter Tryd.func10, Tryd.ntmps10
  go_wp2_with fail
  refine (HS.out _).mono ?_; rintro e w1 ⟨rfl, b1⟩
  have f1 := (fmtAt_new w u a d t 23).later b1
  have bA := bel_trans (bel_alloc (bel_refl w) (.cells #[.int .i64 u, .int .i64 (a : Int), .int .i64 (d : Int), .bool t] 23)) b1
  clear b1
  obtain ⟨x0, x1, x2, x3, xl⟩ := f1
  go_wp2_with fail
  refine (HK.out _).mono ?_; rintro e w2 ⟨rfl, b2⟩
  have f2 := FmtAt.later ⟨x0, x1, x2, x3, xl⟩ b2
  have bB := bel_trans bA b2
  clear x0 x1 x2 x3 xl b2 bA
  obtain ⟨x0, x1, x2, x3, xl⟩ := f2
  go_wp2_with fail
  refine (HF.out _).mono ?_; rintro e w3 ⟨rfl, b3⟩
  have f3 := FmtAt.later ⟨x0, x1, x2, x3, xl⟩ b3
  have bC := bel_trans bB b3
  clear x0 x1 x2 x3 xl b3 bB
  obtain ⟨x0, x1, x2, x3, xl⟩ := f3
  go_wp2_with fail
  have F3 := Lib.hid (FmtAt.mk x0 x1 x2 x3 xl)
  have y1 := cell_regrown x1
  have D1 := Lib.hid (fun p : Regrown => Calls.regrown_of (HP.out (grow (redrawn w3 p.d) p.os)))
  clear x0 x1 x2 x3 xl
  refine wp_region_quiet_below (by kernel_rfl) (by kernel_rfl) ?_
  repeat (go_big_quiet_step (with_reducible exact D1.out _))
  refine wpQuiet_nil ?_
  intro _ hw'
  obtain ⟨⟨dq, osq⟩, hw''⟩ := hw'
  subst hw''
  have f4 := F3.out.later (below_regrown w3 dq osq)
  have bD := bel_trans bC (below_regrown w3 dq osq)
  clear y1 D1 F3 bC
  generalize grow (redrawn w3 dq) osq = w4 at *
  obtain ⟨x0, x1, x2, x3, xl⟩ := f4
  cases o with
  | none =>
    go_wp2
    go_ret2
    exact ⟨by rw [HG.out]; rfl, bD⟩
  | some v =>
    have HQ := Lib.hid (fun w => grain_is (rfl : grainO v u = grainO v u) w)
    go_wp2_with (go_at_call 11; ((with_reducible refine (HQ.out _).mono ?_); rintro e w' ⟨rfl, rfl⟩))
    go_ret2
    exact ⟨by rw [HG.out]; rfl, bD⟩
end Go.Proofs.YtapnekpilgbcaaaDoor
