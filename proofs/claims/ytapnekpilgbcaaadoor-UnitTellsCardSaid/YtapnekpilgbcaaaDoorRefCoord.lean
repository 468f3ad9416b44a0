/- The document's Coord of layer 3 returns what package unit's Coord returns. -/
import Derived.Test.YtapnekpilgbcaaaDoorRefUnit
import Derived.Test.YtapnekpilgbcaaaDoorUnitCoord
namespace Go.Proofs.YtapnekpilgbcaaaDoor
open Go.RowKit

theorem refGrain_is {n u : Int} {o : Option Int} (h : grainO n u = o) (w : World) :
    Calls Tryd.prog 12 #[.int .i64 n, .int .i64 u] w fun e w' => e = .returned (.tuple #[.int .i64 (o.getD 0), .bool o.isSome]) ∧ w = w' := h ▸ refGrain_any n u w
theorem whole_is {l : List UInt8} {x : Int} (h : val l = x) (hd : Digs l) (hl : l.length ≤ 18) (w : World) :
    Calls Tryd.prog 29 #[.string ⟨l.toArray⟩] w fun e w' => e = .returned (.int .i64 x) ∧ w = w' := h ▸ whole_any l hd hl w
theorem tens_is {x P : Int} {n : Nat} (h : x = n) (hn : n ≤ 12) (hP : (10 : Int) ^ n = P) (w : World) :
    Calls Tryd.prog 30 #[.int .i64 x] w fun e w' => e = .returned (.int .i64 P) ∧ w = w' := hP ▸ refTens_int h hn w
theorem digs_is {l : List UInt8} {K : Int} {p m : Nat} (hK : K = p) (h : runF (l.drop p) = m) (hl : l.length ≤ 100000) (hp : p ≤ 100000) (w : World) :
    Calls Tryd.prog 28 #[.string ⟨l.toArray⟩, .int .i64 K] w fun e w' => e = .returned (.int .i64 m) ∧ w = w' := by
  subst hK; subst h; exact digits_any l hl p hp w

set_option maxHeartbeats 1000000 in
theorem refCoord_fmt (l : List UInt8) (u a d : Int) (t : Bool) (h : fmtB u a d = false) (w : World) :
    Calls Tryd.prog 13 #[.string ⟨l.toArray⟩, fmtV u a d t] w fun e w' => e = .returned (.tuple #[.int .i64 0, .bool false]) ∧ Below w.heap.size w w' := by
  have HK := Lib.hid (fun w => refFmt_is t h w)
  clear h
  go_enter Tryd.func13, Tryd.ntmps13
  go_wp2_with fail
  refine (HK.out _).mono ?_; rintro e w2 ⟨rfl, b2⟩
  go_wp2
  go_ret2
  exact ⟨rfl, bel_trans (bel_alloc (bel_refl w) _) b2⟩
set_option maxHeartbeats 1000000 in
theorem refCoord_nil (u a d : Int) (t : Bool) (h : fmtB u a d = true) (w : World) :
    Calls Tryd.prog 13 #[.string ⟨([] : List UInt8).toArray⟩, fmtV u a d t] w fun e w' => e = .returned (.tuple #[.int .i64 0, .bool false]) ∧ Below w.heap.size w w' := by
  have HK := Lib.hid (fun w => refFmt_is t h w)
  have HD := Lib.hid (fun w => digs_is (l := []) (K := 0) (p := 0) (m := 0) rfl rfl (by simp) (by omega) w)
  clear h
  go_enter Tryd.func13, Tryd.ntmps13
  go_wp2_with fail
  refine (HK.out _).mono ?_; rintro e w2 ⟨rfl, b2⟩
  go_wp2_with fail
  refine (HD.out _).mono ?_; rintro e w' ⟨rfl, rfl⟩
  go_wp2
  go_ret2
  exact ⟨rfl, bel_trans (bel_alloc (bel_refl w) _) b2⟩
set_option maxRecDepth 100000 in
set_option maxHeartbeats 4000000 in
theorem refCoord_bad (q : List UInt8) (c : UInt8) (K : Nat) (m : Nat) (b43 b45 : Bool) (u : Int) (a d : Nat) (t : Bool) (h : fmtB u a d = true) (ha : a ≤ 6) (hd : d ≤ 6) (lq : q.length ≤ 1000)
    (hc43 : ((c.toNat : Int) == 43) = b43) (hc45 : ((c.toNat : Int) == 45) = b45) (hsig : (b43 = true ∧ b45 = false ∧ K = 1) ∨ (b43 = false ∧ b45 = true ∧ K = 1) ∨ (b43 = false ∧ b45 = false ∧ K = 0)) (hm : runF ((c :: q).drop K) = m)
    (hbad : m < 1 ∨ a + d < m ∨ K + m < q.length + 1 ∨ q.length + 1 < K + m) (hmq : m ≤ q.length + 1) (w : World) :
    Calls Tryd.prog 13 #[.string ⟨(c :: q).toArray⟩, fmtV u a d t] w fun e w' => e = .returned (.tuple #[.int .i64 0, .bool false]) ∧ Below w.heap.size w w' := by
  have HK := Lib.hid (fun w => refFmt_is t h w)
  have hb0 : (({ data := (c :: q).toArray } : ByteArray)[0]'(by show 0 < (c :: q).toArray.size; simp)) = c := rfl
  rcases hsig with ⟨rfl, rfl, rfl⟩ | ⟨rfl, rfl, rfl⟩ | ⟨rfl, rfl, rfl⟩
  · have HD := Lib.hid (fun w => digs_is (K := 1) (p := 1) rfl hm (by simp; omega) (by omega) w)
    clear hm h
    by_cases c1 : m < 1
    · obtain rfl : m = 0 := by omega
      clear hbad
      go_enter Tryd.func13, Tryd.ntmps13
      go_wp2_with fail
      refine (HK.out _).mono ?_; rintro e w1 ⟨rfl, b1⟩
      have f1 := (fmtAt_new w u a d t 23).later b1
      have bA := bel_trans (bel_alloc (bel_refl w) (.cells #[.int .i64 u, .int .i64 (a : Int), .int .i64 (d : Int), .bool t] 23)) b1
      clear b1
      obtain ⟨x0, x1, x2, x3, xl⟩ := f1
      go_wp2_with fail
      refine (HD.out _).mono ?_; rintro e w' ⟨rfl, rfl⟩
      go_wp2
      go_ret2
      exact ⟨rfl, bA⟩
    · by_cases c2 : a + d < m
      · clear hbad
        go_enter Tryd.func13, Tryd.ntmps13
        go_wp2_with fail
        refine (HK.out _).mono ?_; rintro e w1 ⟨rfl, b1⟩
        have f1 := (fmtAt_new w u a d t 23).later b1
        have bA := bel_trans (bel_alloc (bel_refl w) (.cells #[.int .i64 u, .int .i64 (a : Int), .int .i64 (d : Int), .bool t] 23)) b1
        clear b1
        obtain ⟨x0, x1, x2, x3, xl⟩ := f1
        go_wp2_with fail
        refine (HD.out _).mono ?_; rintro e w' ⟨rfl, rfl⟩
        go_wp2
        go_ret2
        exact ⟨rfl, bA⟩
      · have hne : ((1 : Int) + (m : Int) != (q.length : Int) + 1) = true := bne_iff_ne.2 (by omega)
        have hne2 : ((m : Int) + 1 != (q.length : Int) + 1) = true := bne_iff_ne.2 (by omega)
        clear hbad
        go_enter Tryd.func13, Tryd.ntmps13
        go_wp2_with fail
        refine (HK.out _).mono ?_; rintro e w1 ⟨rfl, b1⟩
        have f1 := (fmtAt_new w u a d t 23).later b1
        have bA := bel_trans (bel_alloc (bel_refl w) (.cells #[.int .i64 u, .int .i64 (a : Int), .int .i64 (d : Int), .bool t] 23)) b1
        clear b1
        obtain ⟨x0, x1, x2, x3, xl⟩ := f1
        go_wp2_with fail
        refine (HD.out _).mono ?_; rintro e w' ⟨rfl, rfl⟩
        go_wp2
        go_ret2
        exact ⟨rfl, bA⟩
  · have HD := Lib.hid (fun w => digs_is (K := 1) (p := 1) rfl hm (by simp; omega) (by omega) w)
    clear hm h
    by_cases c1 : m < 1
    · obtain rfl : m = 0 := by omega
      clear hbad
      go_enter Tryd.func13, Tryd.ntmps13
      go_wp2_with fail
      refine (HK.out _).mono ?_; rintro e w1 ⟨rfl, b1⟩
      have f1 := (fmtAt_new w u a d t 23).later b1
      have bA := bel_trans (bel_alloc (bel_refl w) (.cells #[.int .i64 u, .int .i64 (a : Int), .int .i64 (d : Int), .bool t] 23)) b1
      clear b1
      obtain ⟨x0, x1, x2, x3, xl⟩ := f1
      go_wp2_with fail
      refine (HD.out _).mono ?_; rintro e w' ⟨rfl, rfl⟩
      go_wp2
      go_ret2
      exact ⟨rfl, bA⟩
    · by_cases c2 : a + d < m
      · clear hbad
        go_enter Tryd.func13, Tryd.ntmps13
        go_wp2_with fail
        refine (HK.out _).mono ?_; rintro e w1 ⟨rfl, b1⟩
        have f1 := (fmtAt_new w u a d t 23).later b1
        have bA := bel_trans (bel_alloc (bel_refl w) (.cells #[.int .i64 u, .int .i64 (a : Int), .int .i64 (d : Int), .bool t] 23)) b1
        clear b1
        obtain ⟨x0, x1, x2, x3, xl⟩ := f1
        go_wp2_with fail
        refine (HD.out _).mono ?_; rintro e w' ⟨rfl, rfl⟩
        go_wp2
        go_ret2
        exact ⟨rfl, bA⟩
      · have hne : ((1 : Int) + (m : Int) != (q.length : Int) + 1) = true := bne_iff_ne.2 (by omega)
        have hne2 : ((m : Int) + 1 != (q.length : Int) + 1) = true := bne_iff_ne.2 (by omega)
        clear hbad
        go_enter Tryd.func13, Tryd.ntmps13
        go_wp2_with fail
        refine (HK.out _).mono ?_; rintro e w1 ⟨rfl, b1⟩
        have f1 := (fmtAt_new w u a d t 23).later b1
        have bA := bel_trans (bel_alloc (bel_refl w) (.cells #[.int .i64 u, .int .i64 (a : Int), .int .i64 (d : Int), .bool t] 23)) b1
        clear b1
        obtain ⟨x0, x1, x2, x3, xl⟩ := f1
        go_wp2_with fail
        refine (HD.out _).mono ?_; rintro e w' ⟨rfl, rfl⟩
        go_wp2
        go_ret2
        exact ⟨rfl, bA⟩
  · have HD := Lib.hid (fun w => digs_is (K := 0) (p := 0) rfl hm (by simp; omega) (by omega) w)
    clear hm h
    by_cases c1 : m < 1
    · obtain rfl : m = 0 := by omega
      clear hbad
      go_enter Tryd.func13, Tryd.ntmps13
      go_wp2_with fail
      refine (HK.out _).mono ?_; rintro e w1 ⟨rfl, b1⟩
      have f1 := (fmtAt_new w u a d t 23).later b1
      have bA := bel_trans (bel_alloc (bel_refl w) (.cells #[.int .i64 u, .int .i64 (a : Int), .int .i64 (d : Int), .bool t] 23)) b1
      clear b1
      obtain ⟨x0, x1, x2, x3, xl⟩ := f1
      go_wp2_with fail
      refine (HD.out _).mono ?_; rintro e w' ⟨rfl, rfl⟩
      go_wp2
      go_ret2
      exact ⟨rfl, bA⟩
    · by_cases c2 : a + d < m
      · clear hbad
        go_enter Tryd.func13, Tryd.ntmps13
        go_wp2_with fail
        refine (HK.out _).mono ?_; rintro e w1 ⟨rfl, b1⟩
        have f1 := (fmtAt_new w u a d t 23).later b1
        have bA := bel_trans (bel_alloc (bel_refl w) (.cells #[.int .i64 u, .int .i64 (a : Int), .int .i64 (d : Int), .bool t] 23)) b1
        clear b1
        obtain ⟨x0, x1, x2, x3, xl⟩ := f1
        go_wp2_with fail
        refine (HD.out _).mono ?_; rintro e w' ⟨rfl, rfl⟩
        go_wp2
        go_ret2
        exact ⟨rfl, bA⟩
      · have hne : ((m : Int) != (q.length : Int) + 1) = true := bne_iff_ne.2 (by omega)
        clear hbad
        go_enter Tryd.func13, Tryd.ntmps13
        go_wp2_with fail
        refine (HK.out _).mono ?_; rintro e w1 ⟨rfl, b1⟩
        have f1 := (fmtAt_new w u a d t 23).later b1
        have bA := bel_trans (bel_alloc (bel_refl w) (.cells #[.int .i64 u, .int .i64 (a : Int), .int .i64 (d : Int), .bool t] 23)) b1
        clear b1
        obtain ⟨x0, x1, x2, x3, xl⟩ := f1
        go_wp2_with fail
        refine (HD.out _).mono ?_; rintro e w' ⟨rfl, rfl⟩
        go_wp2
        go_ret2
        exact ⟨rfl, bA⟩
set_option maxRecDepth 100000 in
set_option maxHeartbeats 8000000 in
theorem refCoord_good (q : List UInt8) (c : UInt8) (K : Nat) (m : Nat) (b43 b45 : Bool) (u : Int) (a d : Nat) (t : Bool) (h : fmtB u a d = true) (ha : a ≤ 6) (hd : d ≤ 6) (lq : q.length ≤ 1000)
    (hc43 : ((c.toNat : Int) == 43) = b43) (hc45 : ((c.toNat : Int) == 45) = b45) (hsig : (b43 = true ∧ b45 = false ∧ K = 1) ∨ (b43 = false ∧ b45 = true ∧ K = 1) ∨ (b43 = false ∧ b45 = false ∧ K = 0)) (hm : runF ((c :: q).drop K) = m)
    (hm1 : 1 ≤ m) (hm2 : m ≤ a + d) (hlen : K + m = q.length + 1) (r : List UInt8) (hr : (c :: q).drop K = r) (hrd : Digs r) (X P1 P2 X1 X2 : Int) (hX : val r = X) (hP1 : (10 : Int) ^ (a + d - m) = P1) (hP2 : (10 : Int) ^ (6 - d) = P2)
    (hX1 : X1 = if t = true then X * P1 else X) (hX2 : X1 * P2 = X2) (X0 : 0 ≤ X) (Xb : X < 1000000000000) (X10 : 0 ≤ X1) (X1b : X1 < 1000000000000) (X20 : 0 ≤ X2) (X2b : X2 < 1000000000000) (P10 : 1 ≤ P1) (P1b : P1 ≤ 1000000000000) (P20 : 1 ≤ P2) (P2b : P2 ≤ 1000000000000) (g : Option Int) (hg : grainO (signed b45 X2) u = g) (w : World) :
    Calls Tryd.prog 13 #[.string ⟨(c :: q).toArray⟩, fmtV u a d t] w fun e w' => e = .returned (.tuple #[.int .i64 (g.getD 0), .bool g.isSome]) ∧ Below w.heap.size w w' := by
  have HK := Lib.hid (fun w => refFmt_is t h w)
  have hb0 : (({ data := (c :: q).toArray } : ByteArray)[0]'(by show 0 < (c :: q).toArray.size; simp)) = c := rfl
  have lr : r.length ≤ 18 := by rw [← hr]; simp; omega
  have HW := Lib.hid (fun w => whole_is hX hrd lr w)
  have HT1 := Lib.hid (fun w => tens_is (x := (a : Int) + (d : Int) - (m : Int)) (by omega) (by omega) hP1 w)
  have HT2 := Lib.hid (fun w => tens_is (x := (6 : Int) - (d : Int)) (by omega) (by omega) hP2 w)
  have HX1 := Lib.hid hX1
  have HX2 := Lib.hid hX2
  clear hX hP1 hP2 hX1 hX2 hrd
  rcases hsig with ⟨rfl, rfl, rfl⟩ | ⟨rfl, rfl, rfl⟩ | ⟨rfl, rfl, rfl⟩
  · have HD := Lib.hid (fun w => digs_is (K := 1) (p := 1) rfl hm (by simp; omega) (by omega) w)
    have HG := Lib.hid (fun w => refGrain_is (show grainO (X2) u = g from hg) w)
    have hx : ({ data := (c :: q).toArray } : ByteArray).extract 1 (q.length + 1) = ⟨r.toArray⟩ := by rw [← hr]; exact cut_back (c :: q) 1 (by simp)
    have hne : ((1 : Int) + (m : Int) != (q.length : Int) + 1) = false := by rw [bne_eq_false_iff_eq]; omega
    have hne2 : ((m : Int) + 1 != (q.length : Int) + 1) = false := by rw [bne_eq_false_iff_eq]; omega
    have k1 : m ≤ q.length := by omega
    have k2 : q.length ≤ m := by omega
    clear hm h hr hg hlen
    cases t
    · have e1 : X = X1 := HX1.out.symm
      subst e1
      have e2 := HX2.out
      go_enter Tryd.func13, Tryd.ntmps13
      go_wp2_with fail
      refine (HK.out _).mono ?_; rintro e w1 ⟨rfl, b1⟩
      have f1 := (fmtAt_new w u a d false 23).later b1
      have bA := bel_trans (bel_alloc (bel_refl w) (.cells #[.int .i64 u, .int .i64 (a : Int), .int .i64 (d : Int), .bool false] 23)) b1
      clear b1
      obtain ⟨x0, x1, x2, x3, xl⟩ := f1
      go_wp2_with fail
      refine (HD.out _).mono ?_; rintro e w' ⟨rfl, rfl⟩
      go_wp2_with fail
      refine (HW.out _).mono ?_; rintro e w' ⟨rfl, rfl⟩
      go_wp2_with fail
      refine (HT2.out _).mono ?_; rintro e w' ⟨rfl, rfl⟩
      go_wp2_with fail
      refine (HG.out _).mono ?_; rintro e w' ⟨rfl, rfl⟩
      go_wp2
      go_ret2
      exact ⟨rfl, bA⟩
    · have e1 : X * P1 = X1 := HX1.out.symm
      have e2 := HX2.out
      go_enter Tryd.func13, Tryd.ntmps13
      go_wp2_with fail
      refine (HK.out _).mono ?_; rintro e w1 ⟨rfl, b1⟩
      have f1 := (fmtAt_new w u a d true 23).later b1
      have bA := bel_trans (bel_alloc (bel_refl w) (.cells #[.int .i64 u, .int .i64 (a : Int), .int .i64 (d : Int), .bool true] 23)) b1
      clear b1
      obtain ⟨x0, x1, x2, x3, xl⟩ := f1
      go_wp2_with fail
      refine (HD.out _).mono ?_; rintro e w' ⟨rfl, rfl⟩
      go_wp2_with fail
      refine (HW.out _).mono ?_; rintro e w' ⟨rfl, rfl⟩
      go_wp2_with fail
      refine (HT1.out _).mono ?_; rintro e w' ⟨rfl, rfl⟩
      go_wp2_with fail
      refine (HT2.out _).mono ?_; rintro e w' ⟨rfl, rfl⟩
      go_wp2_with fail
      refine (HG.out _).mono ?_; rintro e w' ⟨rfl, rfl⟩
      go_wp2
      go_ret2
      exact ⟨rfl, bA⟩
  · have HD := Lib.hid (fun w => digs_is (K := 1) (p := 1) rfl hm (by simp; omega) (by omega) w)
    have HG := Lib.hid (fun w => refGrain_is (show grainO (-X2) u = g from hg) w)
    have hx : ({ data := (c :: q).toArray } : ByteArray).extract 1 (q.length + 1) = ⟨r.toArray⟩ := by rw [← hr]; exact cut_back (c :: q) 1 (by simp)
    have hne : ((1 : Int) + (m : Int) != (q.length : Int) + 1) = false := by rw [bne_eq_false_iff_eq]; omega
    have hne2 : ((m : Int) + 1 != (q.length : Int) + 1) = false := by rw [bne_eq_false_iff_eq]; omega
    have k1 : m ≤ q.length := by omega
    have k2 : q.length ≤ m := by omega
    clear hm h hr hg hlen
    cases t
    · have e1 : X = X1 := HX1.out.symm
      subst e1
      have e2 := HX2.out
      go_enter Tryd.func13, Tryd.ntmps13
      go_wp2_with fail
      refine (HK.out _).mono ?_; rintro e w1 ⟨rfl, b1⟩
      have f1 := (fmtAt_new w u a d false 23).later b1
      have bA := bel_trans (bel_alloc (bel_refl w) (.cells #[.int .i64 u, .int .i64 (a : Int), .int .i64 (d : Int), .bool false] 23)) b1
      clear b1
      obtain ⟨x0, x1, x2, x3, xl⟩ := f1
      go_wp2_with fail
      refine (HD.out _).mono ?_; rintro e w' ⟨rfl, rfl⟩
      go_wp2_with fail
      refine (HW.out _).mono ?_; rintro e w' ⟨rfl, rfl⟩
      go_wp2_with fail
      refine (HT2.out _).mono ?_; rintro e w' ⟨rfl, rfl⟩
      go_wp2_with fail
      refine (HG.out _).mono ?_; rintro e w' ⟨rfl, rfl⟩
      go_wp2
      go_ret2
      exact ⟨rfl, bA⟩
    · have e1 : X * P1 = X1 := HX1.out.symm
      have e2 := HX2.out
      go_enter Tryd.func13, Tryd.ntmps13
      go_wp2_with fail
      refine (HK.out _).mono ?_; rintro e w1 ⟨rfl, b1⟩
      have f1 := (fmtAt_new w u a d true 23).later b1
      have bA := bel_trans (bel_alloc (bel_refl w) (.cells #[.int .i64 u, .int .i64 (a : Int), .int .i64 (d : Int), .bool true] 23)) b1
      clear b1
      obtain ⟨x0, x1, x2, x3, xl⟩ := f1
      go_wp2_with fail
      refine (HD.out _).mono ?_; rintro e w' ⟨rfl, rfl⟩
      go_wp2_with fail
      refine (HW.out _).mono ?_; rintro e w' ⟨rfl, rfl⟩
      go_wp2_with fail
      refine (HT1.out _).mono ?_; rintro e w' ⟨rfl, rfl⟩
      go_wp2_with fail
      refine (HT2.out _).mono ?_; rintro e w' ⟨rfl, rfl⟩
      go_wp2_with fail
      refine (HG.out _).mono ?_; rintro e w' ⟨rfl, rfl⟩
      go_wp2
      go_ret2
      exact ⟨rfl, bA⟩
  · have HD := Lib.hid (fun w => digs_is (K := 0) (p := 0) rfl hm (by simp; omega) (by omega) w)
    have HG := Lib.hid (fun w => refGrain_is (show grainO (X2) u = g from hg) w)
    have hx : ({ data := (c :: q).toArray } : ByteArray).extract 0 (q.length + 1) = ⟨r.toArray⟩ := by rw [← hr]; exact cut_back (c :: q) 0 (by simp)
    have hne : ((m : Int) != (q.length : Int) + 1) = false := by rw [bne_eq_false_iff_eq]; omega
    have k1 : m ≤ q.length + 1 := by omega
    have k2 : q.length + 1 ≤ m := by omega
    clear hm h hr hg hlen
    cases t
    · have e1 : X = X1 := HX1.out.symm
      subst e1
      have e2 := HX2.out
      go_enter Tryd.func13, Tryd.ntmps13
      go_wp2_with fail
      refine (HK.out _).mono ?_; rintro e w1 ⟨rfl, b1⟩
      have f1 := (fmtAt_new w u a d false 23).later b1
      have bA := bel_trans (bel_alloc (bel_refl w) (.cells #[.int .i64 u, .int .i64 (a : Int), .int .i64 (d : Int), .bool false] 23)) b1
      clear b1
      obtain ⟨x0, x1, x2, x3, xl⟩ := f1
      go_wp2_with fail
      refine (HD.out _).mono ?_; rintro e w' ⟨rfl, rfl⟩
      go_wp2_with fail
      refine (HW.out _).mono ?_; rintro e w' ⟨rfl, rfl⟩
      go_wp2_with fail
      refine (HT2.out _).mono ?_; rintro e w' ⟨rfl, rfl⟩
      go_wp2_with fail
      refine (HG.out _).mono ?_; rintro e w' ⟨rfl, rfl⟩
      go_wp2
      go_ret2
      exact ⟨rfl, bA⟩
    · have e1 : X * P1 = X1 := HX1.out.symm
      have e2 := HX2.out
      go_enter Tryd.func13, Tryd.ntmps13
      go_wp2_with fail
      refine (HK.out _).mono ?_; rintro e w1 ⟨rfl, b1⟩
      have f1 := (fmtAt_new w u a d true 23).later b1
      have bA := bel_trans (bel_alloc (bel_refl w) (.cells #[.int .i64 u, .int .i64 (a : Int), .int .i64 (d : Int), .bool true] 23)) b1
      clear b1
      obtain ⟨x0, x1, x2, x3, xl⟩ := f1
      go_wp2_with fail
      refine (HD.out _).mono ?_; rintro e w' ⟨rfl, rfl⟩
      go_wp2_with fail
      refine (HW.out _).mono ?_; rintro e w' ⟨rfl, rfl⟩
      go_wp2_with fail
      refine (HT1.out _).mono ?_; rintro e w' ⟨rfl, rfl⟩
      go_wp2_with fail
      refine (HT2.out _).mono ?_; rintro e w' ⟨rfl, rfl⟩
      go_wp2_with fail
      refine (HG.out _).mono ?_; rintro e w' ⟨rfl, rfl⟩
      go_wp2
      go_ret2
      exact ⟨rfl, bA⟩

theorem runF_all {l : List UInt8} (h : Digs l) : runF l = l.length := by
  have := runF_append h stops_nil
  rwa [List.append_nil] at this
theorem runF_lt {l : List UInt8} (h : ¬ l.all dig = true) : runF l < l.length := by
  refine runF_stop ?_
  have h2 : ¬ Digs l := fun k => h ((digs_all _).1 k)
  have := Classical.not_forall.1 h2
  obtain ⟨c, hc⟩ := this
  by_cases k : c ∈ l
  · exact ⟨c, k, by by_cases e : dig c = true
                    · exact absurd (fun _ => e) hc
                    · simpa using e⟩
  · exact absurd (fun m => absurd m k) hc
theorem sign_of (c : UInt8) (q : List UInt8) : ∃ (K : Nat) (b43 b45 : Bool), ((c.toNat : Int) == 43) = b43 ∧ ((c.toNat : Int) == 45) = b45 ∧ ((b43 = true ∧ b45 = false ∧ K = 1) ∨ (b43 = false ∧ b45 = true ∧ K = 1) ∨ (b43 = false ∧ b45 = false ∧ K = 0)) ∧
    (c :: q).drop K = unsign (c :: q) ∧ minus (c :: q) = b45 ∧ (unsign (c :: q)).length + K = q.length + 1 := by
  by_cases h45 : c.toNat = 45
  · exact ⟨1, false, true, by simp [h45], by simp [h45], .inr (.inl ⟨rfl, rfl, rfl⟩), by simp [unsign, h45], by simp [minus, h45], by simp [unsign, h45]⟩
  · by_cases h43 : c.toNat = 43
    · exact ⟨1, true, false, by simp [h43], by simp [h43], .inl ⟨rfl, rfl, rfl⟩, by simp [unsign, h43], by simp [minus, h43], by simp [unsign, h43]⟩
    · exact ⟨0, false, false, by simp; omega, by simp; omega, .inr (.inr ⟨rfl, rfl, rfl⟩), by simp [unsign, h43, h45], by simp [minus, h45], by simp [unsign, h43, h45]⟩
theorem refCoord_any (l : List UInt8) (u a d : Int) (t : Bool) (hl : l.length ≤ 1000) (w : World) :
    Calls Tryd.prog 13 #[.string ⟨l.toArray⟩, fmtV u a d t] w fun e w' => e = .returned (.tuple #[.int .i64 ((coordO l u a d t).getD 0), .bool (coordO l u a d t).isSome]) ∧ Below w.heap.size w w' := by
  cases hf : fmtB u a d with
  | false =>
    rw [coord_none (fun h => by rw [hf] at h; simp at h)]
    exact refCoord_fmt l u a d t hf w
  | true =>
    obtain ⟨hu, A, D, rfl, rfl, ha, hd, h0⟩ := fmt_form hf
    have hn : ((A : Int) + (D : Int)).toNat = A + D := by omega
    have hD : ((D : Int)).toNat = D := by omega
    have hA : ((A : Int)).toNat = A := by omega
    rcases first_byte l with rfl | ⟨c, q, rfl⟩
    · rw [coord_none (fun h => h.2.1 rfl)]
      exact refCoord_nil u A D t hf w
    · obtain ⟨K, b43, b45, hc43, hc45, hsig, hdrop, hmin, hlen⟩ := sign_of c q
      have lq : q.length ≤ 1000 := by simp at hl; omega
      by_cases hgood : unsign (c :: q) ≠ [] ∧ (unsign (c :: q)).length ≤ A + D ∧ (unsign (c :: q)).all dig = true
      · obtain ⟨g1, g2, g3⟩ := hgood
        have hdg := (digs_all _).2 g3
        have hpos := List.length_pos_iff.2 g1
        rw [coord_some ⟨hf, g1, by rw [hn]; exact g2, g3⟩, hmin, hA, hD]
        have hb := coord_bd t hdg g2 ha hd
        have hv := val_le hdg (k := 12) (by omega)
        rw [show (10 : Int) ^ 12 = 1000000000000 from by decide] at hv
        have hX : Digs (fillL (unsign (c :: q)) (A + D) t) := (digs_all _).2 (by rw [fill_all]; exact g3)
        have hvf := val_le hX (k := 12) (by rw [fill_len g2]; omega)
        rw [show (10 : Int) ^ 12 = 1000000000000 from by decide] at hvf
        have hfill := val_fill (unsign (c :: q)) (A + D) t
        have p1 := ten_bd (k := A + D - (unsign (c :: q)).length) (by omega)
        have p2 := ten_bd (k := 6 - D) (by omega)
        refine refCoord_good q c K (unsign (c :: q)).length b43 b45 u A D t hf ha hd lq hc43 hc45 hsig (by rw [hdrop, runF_all hdg]) (by omega) g2 (by omega) (unsign (c :: q)) hdrop hdg _ _ _ (val (fillL (unsign (c :: q)) (A + D) t)) (coordI (unsign (c :: q)) A D t) rfl rfl rfl ?_ rfl hv.1 hv.2 hvf.1 hvf.2 hb.1 hb.2 p1.1 p1.2 p2.1 p2.2 _ rfl w
        rw [hfill]; rfl
      · rw [coord_none (fun h => hgood ⟨h.2.1, by rw [hn] at h; exact h.2.2.1, h.2.2.2⟩)]
        have hle := runF_le (unsign (c :: q))
        refine refCoord_bad q c K (runF (unsign (c :: q))) b43 b45 u A D t hf ha hd lq hc43 hc45 hsig (by rw [hdrop]) ?_ (by omega) w
        by_cases g1 : unsign (c :: q) = []
        · rw [g1]; exact .inl (by decide)
        · by_cases g3 : (unsign (c :: q)).all dig = true
          · have hdg := (digs_all _).2 g3
            rw [runF_all hdg]
            by_cases g2 : (unsign (c :: q)).length ≤ A + D
            · exact absurd ⟨g1, g2, g3⟩ hgood
            · exact .inr (.inl (by omega))
          · have := runF_lt g3
            exact .inr (.inr (.inl (by omega)))
end Go.Proofs.YtapnekpilgbcaaaDoor
