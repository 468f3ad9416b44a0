/- Contract of package poly's Class. -/
import Derived.Test.YtcpnfafhekgabaaRises
import Derived.Test.YtcpnfafhekgabaaRowsRead
import Derived.Test.YtcpnfafhekgabaaBoxI
namespace Go.Proofs.Ytcpnfafhekgabaa
open Go.RowKit

/-- The head of the outer round. -/
def OutP (w : World) (g : Nat) (a b c d : Int) (L : List (List P2)) (sx sk : Value) (wr : World) : Prop :=
  ∃ (x : Bool) (k : Nat), sx = .bool x ∧ sk = .int .i64 k ∧ k ≤ L.length ∧ Odd (edgesL (L.take k)) a b c d (a, b) x ∧ BoxAt wr w.heap.size a b c d ∧ PtAt wr g a b ∧ Below w.heap.size w wr
/-- The head of the inner round. -/
def InP (w : World) (g : Nat) (a b c d : Int) (E : List E2) (C : List P2) (sx sl sj : Value) (wr : World) : Prop :=
  ∃ (x : Bool) (j : Nat) (l : Int), sx = .bool x ∧ sl = .int .i64 l ∧ sj = .int .i64 j ∧ j ≤ C.length ∧ l = (if j = 0 then (C.length : Int) - 1 else (j : Int) - 1) ∧ Odd (E ++ doneB C j) a b c d (a, b) x ∧ BoxAt wr w.heap.size a b c d ∧ PtAt wr g a b ∧ Below w.heap.size w wr
theorem has_corner {a b c d : Int} (ac : a ≤ c) (bd : b ≤ d) : hasB a b c d a b = true := decide_eq_true ⟨Int.le_refl a, ac, Int.le_refl b, bd⟩
theorem has_is {a b c d x y : Int} {r : Bool} (h : hasB a b c d x y = r) (w : World) :
    Calls Try.prog 23 #[boxV a b c d, ptV x y] w fun e w' => e = .returned (.bool r) ∧ Below w.heap.size w w' := h ▸ has_any a b c d x y w
theorem meets_is {a b c d x y u v : Int} {r : Bool} (h : meetB a b c d x y u v = r) (a0 : -536870912 ≤ a) (ac : a ≤ c) (c1 : c ≤ 536870912) (b0 : -536870912 ≤ b) (bd : b ≤ d) (d1 : d ≤ 536870912) (x0 : -536870912 ≤ x) (x1 : x ≤ 536870912) (y0 : -536870912 ≤ y) (y1 : y ≤ 536870912) (u0 : -536870912 ≤ u) (u1 : u ≤ 536870912) (v0 : -536870912 ≤ v) (v1 : v ≤ 536870912) (w : World) :
    Calls Try.prog 24 #[boxV a b c d, ptV x y, ptV u v] w fun e w' => e = .returned (.bool r) ∧ Below w.heap.size w w' := h ▸ meets_any a b c d x y u v a0 ac c1 b0 bd d1 x0 x1 y0 y1 u0 u1 v0 v1 w
theorem crosses_is {x y u v s t : Int} {r : Bool} (h : cutE ((x, y), (u, v)) (s, t) = r) (x0 : -536870912 ≤ x) (x1 : x ≤ 536870912) (y0 : -536870912 ≤ y) (y1 : y ≤ 536870912) (u0 : -536870912 ≤ u) (u1 : u ≤ 536870912) (v0 : -536870912 ≤ v) (v1 : v ≤ 536870912) (s0 : -536870912 ≤ s) (s1 : s ≤ 536870912) (t0 : -536870912 ≤ t) (t1 : t ≤ 536870912) (w : World) :
    Calls Try.prog 25 #[ptV x y, ptV u v, ptV s t] w fun e w' => e = .returned (.bool r) ∧ Below w.heap.size w w' := h ▸ crosses_any x y u v s t x0 x1 y0 y1 u0 u1 v0 v1 s0 s1 t0 t1 w

set_option maxRecDepth 100000 in
set_option maxHeartbeats 8000000 in
theorem class_at {L : List (List P2)} (hF : Fine L) {a b c d : Int} (a0 : -536870912 ≤ a) (ac : a ≤ c) (c1 : c ≤ 536870912) (b0 : -536870912 ≤ b) (bd : b ≤ d) (d1 : d ≤ 536870912) {w : World} {v : Value} (hR : RowsAt w w.heap.size v L) :
    Calls Try.prog 16 #[boxV a b c d, v] w fun e w' => e = .returned (.int .i64 (clsE (edgesL L) a b c d)) ∧ Below w.heap.size w w' := by
  have C := Lib.hid (fun w => corners_any a b c d w)
  have HC := Lib.hid (fun w => has_is (has_corner ac bd) w)
  have X0 := Lib.hid (boxAt_new w a b c d 33)
  have B0 := Lib.hid (bel_alloc (bel_refl w) (.cells #[.int .i64 a, .int .i64 b, .int .i64 c, .int .i64 d] 33))
  have J := fun w => corner0 a b c d w
  have FF := Lib.hid hF
  rcases hR.open_ with ⟨rfl, A, cap, rfl⟩ | ⟨sb, so, cap, rfl, hsb, hL0, hrow⟩
  · go_enter Try.func16, Try.ntmps16
    go_wp2_with fail
    refine (C.out _).mono ?_; rintro e w1 ⟨rfl, b1⟩
    have X1 := Lib.hid (X0.out.later b1)
    have B1 := Lib.hid (bel_trans B0.out b1)
    clear b1 X0 B0
    have B2 := Lib.hid (bel_alloc B1.out (.cells #[.int .i64 a, .int .i64 b] 23))
    obtain ⟨x0, x1, x2, x3, xl⟩ := X1.out
    clear X1 B1
    go_wp2_with fail
    clear x0 x1 x2 x3 xl J
    refine (HC.out _).mono ?_; rintro e w2 ⟨rfl, b2⟩
    have B3 := Lib.hid (bel_trans B2.out b2)
    clear b2 B2 HC C
    go_wp2_with fail
    go_loopw [6, 22] (fun sx sk wr => sx = .bool false ∧ sk = .int .i64 0 ∧ Below w.heap.size w wr) (fun _ _ _ => 0)
    case atStart => exact ⟨rfl, rfl, B3.out⟩
    case round =>
      obtain ⟨rfl, rfl, hB⟩ := hrel
      have B := Lib.hid hB
      clear hB B3
      go_wp2
      go_ret
      exact ⟨rfl, B.out⟩
  · have hlen := hF.len
    have HR := Lib.hid hrow
    clear hrow hR hF
    go_enter Try.func16, Try.ntmps16
    go_wp2_with fail
    refine (C.out _).mono ?_; rintro e w1 ⟨rfl, b1⟩
    have X1 := Lib.hid (X0.out.later b1)
    have B1 := Lib.hid (bel_trans B0.out b1)
    clear b1 X0 B0
    have P1 := Lib.hid (ptAt_new w1 a b 23)
    have X2 := Lib.hid (X1.out.alloc (.cells #[.int .i64 a, .int .i64 b] 23))
    have B2 := Lib.hid (bel_alloc B1.out (.cells #[.int .i64 a, .int .i64 b] 23))
    obtain ⟨x0, x1, x2, x3, xl⟩ := X1.out
    clear X1 B1
    go_wp2_with fail
    clear x0 x1 x2 x3 xl J
    refine (HC.out _).mono ?_; rintro e w2 ⟨rfl, b2⟩
    have X3 := Lib.hid (X2.out.later b2)
    have P3 := Lib.hid (P1.out.later b2)
    have B3 := Lib.hid (bel_trans B2.out b2)
    clear b2 X2 P1 B2 HC C
    go_wp2_with fail
    generalize w1.heap.size = g at *
    go_loopw [6, 22] (fun sx sk wr => OutP w g a b c d L sx sk wr) (fun _ sk _ => L.length - (intOf sk).toNat)
    case atStart => exact ⟨false, 0, rfl, rfl, Nat.zero_le _, Odd.nil a b c d (a, b), X3.out, P3.out, B3.out⟩
    case round =>
      obtain ⟨x, k, rfl, rfl, hk, hO, hX, hP, hB⟩ := hrel
      clear X3 P3 B3
      have O := Lib.hid hO
      have X := Lib.hid hX
      have P := Lib.hid hP
      have B := Lib.hid hB
      clear hO hX hP hB
      by_cases hlt : k < L.length
      · obtain ⟨u, hu, hp⟩ := HR.out k hlt
        have hu := (B.out.cell (p := ⟨sb, so + k, none⟩) hsb).trans hu
        have HT := Lib.hid (edgesL_take L k hlt)
        have HM := Lib.hid (fun e he => edges_sub (e := e) hlt he)
        have HFar := Lib.hid (fun i hi => FF.out.at_ (i := i) hlt hi)
        have hCl := FF.out.row _ (List.getElem_mem hlt)
        generalize L[k] = C at *
        rcases hp.open_ with ⟨rfl, A, cap', rfl⟩ | ⟨pb, po, pcap, rfl, hpb, hC0, hcells⟩
        · go_wp2_with fail
          go_loopw [6, 9, 31] (fun sx sl sj wr => InP w g a b c d (edgesL (L.take k)) [] sx sl sj wr) (fun _ _ _ _ => 0)
          case atStart => exact ⟨x, 0, -1, rfl, rfl, rfl, Nat.le_refl _, rfl, by simpa [doneB] using O.out, X.out, P.out, B.out⟩
          case round =>
            obtain ⟨x, j, l, rfl, rfl, rfl, hj, hl, hO, hX, hP, hB⟩ := hrel
            clear O X P B
            have O := Lib.hid hO
            have X := Lib.hid hX
            have P := Lib.hid hP
            have B := Lib.hid hB
            have hl := Lib.hid hl
            clear hO hX hP hB
            obtain rfl : j = 0 := by simpa using hj
            go_wp2_with fail
            go_roundw
            case rel => exact ⟨x, k + 1, rfl, by go_num, by omega, by rw [HT.out]; exact O.out, X.out, P.out, B.out⟩
            case measure => simp [intOf]; omega
        · have HC := Lib.hid hcells
          clear hcells hp
          go_wp2_with fail
          go_loopw [6, 9, 31] (fun sx sl sj wr => InP w g a b c d (edgesL (L.take k)) C sx sl sj wr) (fun _ _ sj _ => C.length - (intOf sj).toNat)
          case atStart => exact ⟨x, 0, _, rfl, rfl, rfl, Nat.zero_le _, rfl, by simpa [doneB] using O.out, X.out, P.out, B.out⟩
          case round =>
            obtain ⟨x, j, l, rfl, rfl, rfl, hj, hl, hO, hX, hP, hB⟩ := hrel
            clear O X P B hu
            have O := Lib.hid hO
            have X := Lib.hid hX
            have P := Lib.hid hP
            have B := Lib.hid hB
            clear hO hX hP hB
            by_cases hjl : j < C.length
            · obtain ⟨q, rfl, hq, hqe⟩ : ∃ q : Nat, (q : Int) = l ∧ q < C.length ∧ q = (if j = 0 then C.length - 1 else j - 1) := by
                subst hl
                by_cases h0 : j = 0
                · exact ⟨C.length - 1, by rw [if_pos h0]; omega, by omega, by rw [if_pos h0]⟩
                · exact ⟨j - 1, by rw [if_neg h0]; omega, by omega, by rw [if_neg h0]⟩
              have HQ := Lib.hid hqe
              clear hl hqe
              obtain ⟨e0, e1⟩ := HC.out j hjl
              obtain ⟨s0, s1⟩ := HC.out q hq
              have e0 := (B.out.cell (p := ⟨pb, po + j * 2, none⟩) hpb).trans e0
              have e1 := (B.out.cell (p := ⟨pb, po + j * 2 + 1, none⟩) hpb).trans e1
              have s0 := (B.out.cell (p := ⟨pb, po + q * 2, none⟩) hpb).trans s0
              have s1 := (B.out.cell (p := ⟨pb, po + q * 2 + 1, none⟩) hpb).trans s1
              have he : edB C j = (ptN C q, ptN C j) := by unfold edB; rw [← HQ.out]
              obtain ⟨⟨k0, k1⟩, k2, k3⟩ := HFar.out j hjl
              obtain ⟨⟨l0, l1⟩, l2, l3⟩ := HFar.out q hq
              have HE := Lib.hid (HM.out _ (edB_mem C hjl))
              rw [he] at HE
              have HS := Lib.hid (doneB_succ C j)
              rw [he] at HS
              clear he
              generalize ptN C j = pe at *
              generalize ptN C q = ps at *
              obtain ⟨ex, ey⟩ := pe
              obtain ⟨sx, sy⟩ := ps
              simp only [] at e0 e1 s0 s1 k0 k1 k2 k3 l0 l1 l2 l3
              obtain ⟨r, hr⟩ : ∃ r, meetB a b c d sx sy ex ey = r := ⟨_, rfl⟩
              obtain ⟨t, ht⟩ : ∃ t, cutE ((sx, sy), (ex, ey)) (a, b) = t := ⟨_, rfl⟩
              have KM := Lib.hid (fun w => meets_is hr a0 ac c1 b0 bd d1 l0 l1 l2 l3 k0 k1 k2 k3 w)
              have KC := Lib.hid (fun w => crosses_is ht l0 l1 l2 l3 k0 k1 k2 k3 a0 (Int.le_trans ac c1) b0 (Int.le_trans bd d1) w)
              have hr := Lib.hid hr
              have ht := Lib.hid ht
              have X4 := Lib.hid ((X.out.alloc (.cells #[.int .i64 ex, .int .i64 ey] 23)).alloc (.cells #[.int .i64 sx, .int .i64 sy] 23))
              have P4 := Lib.hid ((P.out.alloc (.cells #[.int .i64 ex, .int .i64 ey] 23)).alloc (.cells #[.int .i64 sx, .int .i64 sy] 23))
              have B4 := Lib.hid (bel_alloc (bel_alloc B.out (.cells #[.int .i64 ex, .int .i64 ey] 23)) (.cells #[.int .i64 sx, .int .i64 sy] 23))
              have E4 := Lib.hid ((ptAt_new wr ex ey 23).alloc (.cells #[.int .i64 sx, .int .i64 sy] 23))
              have S4 := ptAt_new (wr.alloc (.cells #[.int .i64 ex, .int .i64 ey] 23)) sx sy 23
              rw [show (wr.alloc (.cells #[.int .i64 ex, .int .i64 ey] 23)).heap.size = wr.heap.size + 1 by simp] at S4
              have S4 := Lib.hid S4
              have s0' : (wr.alloc (.cells #[.int .i64 ex, .int .i64 ey] 23)).cell? ⟨pb, po + q * 2, none⟩ = some (.int .i64 sx) := ((bel_alloc (bel_refl wr) _).cell (p := ⟨pb, po + q * 2, none⟩) (Nat.lt_of_lt_of_le hpb B.out.size)).trans s0
              have s1' : (wr.alloc (.cells #[.int .i64 ex, .int .i64 ey] 23)).cell? ⟨pb, po + q * 2 + 1, none⟩ = some (.int .i64 sy) := ((bel_alloc (bel_refl wr) _).cell (p := ⟨pb, po + q * 2 + 1, none⟩) (Nat.lt_of_lt_of_le hpb B.out.size)).trans s1
              clear s0 s1
              obtain ⟨x0, x1, x2, x3, xl⟩ := X.out
              go_wp2_with fail
              refine (KM.out _).mono ?_; rintro e w4 ⟨rfl, b4⟩
              have X5 := Lib.hid (X4.out.later b4)
              have P5 := Lib.hid (P4.out.later b4)
              have E5 := Lib.hid (E4.out.later b4)
              have S5 := Lib.hid (S4.out.later b4)
              have B5 := Lib.hid (bel_trans B4.out b4)
              clear b4 X4 P4 E4 S4 B4 x0 x1 x2 x3 xl e0 e1 s0' s1' X P B
              generalize wr.heap.size = m at *
              cases r with
              | true =>
                have H := Lib.hid (cls_met HE.out (show meetE a b c d ((sx, sy), (ex, ey)) = true from hr.out))
                go_wp2
                go_ret
                exact ⟨by rw [H.out]; rfl, B5.out⟩
              | false =>
                obtain ⟨p0, p1, pl⟩ := P5.out
                obtain ⟨q0, q1, ql⟩ := E5.out
                obtain ⟨r0, r1, rl⟩ := S5.out
                go_wp2_with fail
                refine (KC.out _).mono ?_; rintro e w5 ⟨rfl, b5⟩
                have X6 := Lib.hid (X5.out.later b5)
                have P6 := Lib.hid (P5.out.later b5)
                have B6 := Lib.hid (bel_trans B5.out b5)
                have O6 := Lib.hid (O.out.more (e := ((sx, sy), (ex, ey))) hr.out ht.out)
                clear b5 X5 P5 E5 S5 B5 p0 p1 pl q0 q1 ql r0 r1 rl
                go_wp2_with fail
                go_roundw
                case rel => exact ⟨(x != t), j + 1, j, rfl, rfl, by go_num, by omega, by simp, by rw [HS.out, ← List.append_assoc]; exact O6.out, X6.out, P6.out, B6.out⟩
                case measure => simp [intOf]; omega
            · obtain rfl : j = C.length := by omega
              have O2 := Lib.hid (O.out.perm (List.Perm.append_left _ (edges_B C)))
              go_wp2_with fail
              go_roundw
              case rel => exact ⟨x, k + 1, rfl, by go_num, by omega, by rw [HT.out]; exact O2.out, X.out, P.out, B.out⟩
              case measure => simp [intOf]; omega
      · obtain rfl : k = L.length := by omega
        have H := Lib.hid (show clsE (edgesL L) a b c d = if x then 2 else 0 by have := O.out; rw [List.take_length] at this; exact this.cls ac bd)
        cases x with
        | true =>
          go_wp2
          go_ret
          exact ⟨by rw [H.out]; rfl, B.out⟩
        | false =>
          go_wp2
          go_ret
          exact ⟨by rw [H.out]; rfl, B.out⟩
theorem class_is {L : List (List P2)} (hF : Fine L) {a b c d k : Int} (h : clsE (edgesL L) a b c d = k) (a0 : -536870912 ≤ a) (ac : a ≤ c) (c1 : c ≤ 536870912) (b0 : -536870912 ≤ b) (bd : b ≤ d) (d1 : d ≤ 536870912) {w : World} {v : Value} (hR : RowsAt w w.heap.size v L) :
    Calls Try.prog 16 #[boxV a b c d, v] w fun e w' => e = .returned (.int .i64 k) ∧ Below w.heap.size w w' := h ▸ class_at hF a0 ac c1 b0 bd d1 hR
theorem polyHas_at {L : List (List P2)} (hF : Fine L) {x y : Int} (x0 : -536870912 ≤ x) (x1 : x ≤ 536870912) (y0 : -536870912 ≤ y) (y1 : y ≤ 536870912) {w : World} {v : Value} (hR : RowsAt w w.heap.size v L) :
    Calls Try.prog 12 #[ptV x y, v] w fun e w' => e = .returned (.bool (hasE (edgesL L) (x, y))) ∧ Below w.heap.size w w' := by
  obtain ⟨k, hk⟩ : ∃ k, clsE (edgesL L) x y x y = k := ⟨_, rfl⟩
  have H := Lib.hid (show hasE (edgesL L) (x, y) = (k != 0) by rw [cls_dot, hk])
  have B0 := Lib.hid (bel_alloc (bel_alloc (bel_refl w) (.cells #[.int .i64 x, .int .i64 y] 23)) (.cells #[.int .i64 x, .int .i64 y, .int .i64 x, .int .i64 y] 33))
  have K := Lib.hid (class_is hF hk x0 (Int.le_refl x) x1 y0 (Int.le_refl y) y1 ((hR.later B0.out).more B0.out.size))
  clear hk hR
  go_enter Try.func12, Try.ntmps12
  go_wp2_with fail
  refine K.out.mono ?_; rintro e w1 ⟨rfl, b1⟩
  go_wp2
  go_ret
  exact ⟨by rw [H.out]; rfl, bel_trans B0.out b1⟩
end Go.Proofs.Ytcpnfafhekgabaa
