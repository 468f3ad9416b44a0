/- Contract of the document's answer for layer 6: the class of a box. -/
import Derived.Test.YtcpnfafhekgabaaRefPoly
import Derived.Lib.QuietBelow
namespace Go.Proofs.Ytcpnfafhekgabaa
open Go.RowKit
open Go.Sort (grow)

def OutM (w : World) (L : List (List P2)) (a b c d : Int) (sk : Value) (wr : World) : Prop :=
  ∃ k : Nat, sk = .int .i64 k ∧ k ≤ L.length ∧ (edgesL (L.take k)).any (meetE a b c d) = false ∧ BoxAt wr w.heap.size a b c d ∧ Below w.heap.size w wr
def InM (w : World) (E : List E2) (C : List P2) (a b c d : Int) (sj : Value) (wr : World) : Prop :=
  ∃ j : Nat, sj = .int .i64 j ∧ j ≤ C.length ∧ (E ++ doneF C j).any (meetE a b c d) = false ∧ BoxAt wr w.heap.size a b c d ∧ Below w.heap.size w wr
theorem any_more {E : List E2} {f : E2 → Bool} {e : E2} (h : E.any f = false) (k : f e = false) : (E ++ [e]).any f = false := by simp [h, k]
theorem cls_miss {E : List E2} {a b c d : Int} {x : Bool} (h : E.any (meetE a b c d) = false) (k : hasE E (a, b) = x) : clsE E a b c d = if x then 2 else 0 := by
  unfold clsE; rw [h, k]; rfl
theorem refMeets_is {a b c d x y u v : Int} {r : Bool} (h : meetB a b c d x y u v = r) (a0 : -536870912 ≤ a) (ac : a ≤ c) (c1 : c ≤ 536870912) (b0 : -536870912 ≤ b) (bd : b ≤ d) (d1 : d ≤ 536870912) (x0 : -536870912 ≤ x) (x1 : x ≤ 536870912) (y0 : -536870912 ≤ y) (y1 : y ≤ 536870912) (u0 : -536870912 ≤ u) (u1 : u ≤ 536870912) (v0 : -536870912 ≤ v) (v1 : v ≤ 536870912) (w : World) :
    Calls Try.prog 26 #[boxV a b c d, ptV x y, ptV u v] w fun e w' => e = .returned (.bool r) ∧ Below w.heap.size w w' := h ▸ refMeets_any a b c d x y u v a0 ac c1 b0 bd d1 x0 x1 y0 y1 u0 u1 v0 v1 w
theorem refPolyHas_is {L : List (List P2)} (hF : Fine L) {p q : Int} {x : Bool} (h : hasE (edgesL L) (p, q) = x) (p0 : -536870912 ≤ p) (p1 : p ≤ 536870912) (q0 : -536870912 ≤ q) (q1 : q ≤ 536870912) {w : World} {v : Value} (hR : RowsAt w w.heap.size v L) :
    Calls Try.prog 18 #[ptV p q, v] w fun e w' => e = .returned (.bool x) ∧ Below w.heap.size w w' := h ▸ refPolyHas_at hF p0 p1 q0 q1 hR

set_option maxRecDepth 100000 in
set_option maxHeartbeats 8000000 in
theorem refPoly_at {L : List (List P2)} (hF : Fine L) {a b c d : Int} (a0 : -536870912 ≤ a) (ac : a ≤ c) (c1 : c ≤ 536870912) (b0 : -536870912 ≤ b) (bd : b ≤ d) (d1 : d ≤ 536870912) {w : World} {v : Value} (hR : RowsAt w w.heap.size v L) :
    Calls Try.prog 17 #[boxV a b c d, v] w fun e w' => e = .returned (.int .i64 (clsE (edgesL L) a b c d)) ∧ Below w.heap.size w w' := by
  have X0 := Lib.hid (boxAt_new w a b c d 33)
  have B0 := Lib.hid (bel_alloc (bel_refl w) (.cells #[.int .i64 a, .int .i64 b, .int .i64 c, .int .i64 d] 33))
  have FF := Lib.hid hF
  have RR := Lib.hid hR
  obtain ⟨y, hy⟩ : ∃ y, hasE (edgesL L) (a, b) = y := ⟨_, rfl⟩
  have HY := Lib.hid hy
  clear hy
  rcases hR.open_ with ⟨rfl, A, cap, rfl⟩ | ⟨sb, so, cap, rfl, hsb, hL0, hrow⟩
  · go_enter Try.func17, Try.ntmps17
    go_wp2_with fail
    go_loopw [5] (fun sk wr => sk = .int .i64 0 ∧ BoxAt wr w.heap.size a b c d ∧ Below w.heap.size w wr) (fun _ _ => 0)
    case atStart => exact ⟨rfl, X0.out, B0.out⟩
    case round =>
      obtain ⟨rfl, hX, hB⟩ := hrel
      have X := Lib.hid hX
      have B := Lib.hid hB
      clear hX hB X0 B0
      have H := Lib.hid (cls_miss (E := edgesL []) (c := c) (d := d) rfl HY.out)
      have K := Lib.hid (refPolyHas_is FF.out HY.out a0 (Int.le_trans ac c1) b0 (Int.le_trans bd d1) ((RR.out.later B.out).more B.out.size))
      obtain ⟨x0, x1, x2, x3, xl⟩ := X.out
      cases y with
      | true =>
        go_wp2_with fail
        refine K.out.mono ?_; rintro e w2 ⟨rfl, b2⟩
        go_wp2
        go_ret
        exact ⟨by rw [H.out]; rfl, bel_trans B.out b2⟩
      | false =>
        go_wp2_with fail
        refine K.out.mono ?_; rintro e w2 ⟨rfl, b2⟩
        go_wp2
        go_ret
        exact ⟨by rw [H.out]; rfl, bel_trans B.out b2⟩
  · have hlen := hF.len
    have HR := Lib.hid hrow
    clear hrow hR hF
    go_enter Try.func17, Try.ntmps17
    go_wp2_with fail
    go_loopw [5] (fun sk wr => OutM w L a b c d sk wr) (fun sk _ => L.length - (intOf sk).toNat)
    case atStart => exact ⟨0, rfl, Nat.zero_le _, rfl, X0.out, B0.out⟩
    case round =>
      obtain ⟨k, rfl, hk, hO, hX, hB⟩ := hrel
      clear X0 B0
      have O := Lib.hid hO
      have X := Lib.hid hX
      have B := Lib.hid hB
      clear hO hX hB
      by_cases hlt : k < L.length
      · obtain ⟨u, hu, hp⟩ := HR.out k hlt
        have U := Lib.hid hu
        clear hu
        have HT := Lib.hid (edgesL_take L k hlt)
        have HM := Lib.hid (fun e he => edges_sub (e := e) hlt he)
        have HFar := Lib.hid (fun i hi => FF.out.at_ (i := i) hlt hi)
        have hCl := FF.out.row _ (List.getElem_mem hlt)
        generalize L[k] = C at *
        rcases hp.open_ with ⟨rfl, A, cap', rfl⟩ | ⟨pb, po, pcap, rfl, hpb, hC0, hcells⟩
        · go_wp2_with fail
          go_loopw [6] (fun sj wr => InM w (edgesL (L.take k)) [] a b c d sj wr) (fun _ _ => 0)
          case atStart => exact ⟨0, rfl, Nat.le_refl _, by simpa [doneF] using O.out, X.out, B.out⟩
          case round =>
            obtain ⟨j, rfl, hj, hO, hX, hB⟩ := hrel
            clear O X B
            have O := Lib.hid hO
            have X := Lib.hid hX
            have B := Lib.hid hB
            clear hO hX hB
            obtain rfl : j = 0 := by simpa using hj
            have hu := (B.out.cell (p := ⟨sb, so + k, none⟩) hsb).trans U.out
            go_wp2_with fail
            go_roundw
            case rel => exact ⟨k + 1, by go_num, by omega, by rw [HT.out]; exact O.out, X.out, B.out⟩
            case measure => simp [intOf]; omega
        · have HC := Lib.hid hcells
          clear hcells hp
          go_wp2_with fail
          go_loopw [6] (fun sj wr => InM w (edgesL (L.take k)) C a b c d sj wr) (fun sj _ => C.length - (intOf sj).toNat)
          case atStart => exact ⟨0, rfl, Nat.zero_le _, by simpa [doneF] using O.out, X.out, B.out⟩
          case round =>
            obtain ⟨j, rfl, hj, hO, hX, hB⟩ := hrel
            clear O X B
            have O := Lib.hid hO
            have X := Lib.hid hX
            have B := Lib.hid hB
            clear hO hX hB
            have hu := (B.out.cell (p := ⟨sb, so + k, none⟩) hsb).trans U.out
            by_cases hjl : j < C.length
            · obtain ⟨n, hn, hnl⟩ : ∃ n : Nat, (j + 1) % C.length = n ∧ n < C.length := ⟨_, rfl, Nat.mod_lt _ hC0⟩
              have hj1 : IntKind.i64.wrap ((j : Int) + 1) = (j : Int) + 1 := IntWalk.i64_in _ (by omega)
              have hm1 : ((j : Int) + 1).tmod (C.length : Int) = (n : Int) := by
                rw [Int.tmod_eq_emod_of_nonneg (by omega), ← hn]; simp
              have hm2 : ((j : Int) + 1) % (C.length : Int) = (n : Int) := by rw [← hn]; simp
              have hcz : ¬ (C.length : Int) = 0 := by omega
              have i1 : (0 : Int) ≤ (j : Int) := by omega
              have i2 : (j : Int) < (C.length : Int) := by omega
              have i3 : (0 : Int) ≤ (n : Int) := by omega
              have i4 : (n : Int) < (C.length : Int) := by omega
              have i5 : (0 : Int) ≤ (k : Int) := by omega
              have i6 : (k : Int) < (L.length : Int) := by omega
              obtain ⟨s0, s1⟩ := HC.out j hjl
              obtain ⟨e0, e1⟩ := HC.out n hnl
              have e0 := (B.out.cell (p := ⟨pb, po + n * 2, none⟩) hpb).trans e0
              have e1 := (B.out.cell (p := ⟨pb, po + n * 2 + 1, none⟩) hpb).trans e1
              have s0 := (B.out.cell (p := ⟨pb, po + j * 2, none⟩) hpb).trans s0
              have s1 := (B.out.cell (p := ⟨pb, po + j * 2 + 1, none⟩) hpb).trans s1
              have he : edF C j = (ptN C j, ptN C n) := by unfold edF; rw [hn]
              obtain ⟨⟨l0, l1⟩, l2, l3⟩ := HFar.out j hjl
              obtain ⟨⟨k0, k1⟩, k2, k3⟩ := HFar.out n hnl
              have HE := Lib.hid (HM.out _ (edF_mem C hjl))
              rw [he] at HE
              have HS := Lib.hid (doneF_succ C j)
              rw [he] at HS
              clear he hn
              generalize ptN C n = pe at *
              generalize ptN C j = ps at *
              obtain ⟨ex, ey⟩ := pe
              obtain ⟨sx, sy⟩ := ps
              simp only [] at e0 e1 s0 s1 k0 k1 k2 k3 l0 l1 l2 l3
              obtain ⟨r, hr⟩ : ∃ r, meetB a b c d sx sy ex ey = r := ⟨_, rfl⟩
              have KM := Lib.hid (fun w => refMeets_is hr a0 ac c1 b0 bd d1 l0 l1 l2 l3 k0 k1 k2 k3 w)
              have hr := Lib.hid hr
              obtain ⟨x0, x1, x2, x3, xl⟩ := X.out
              go_wp2_with fail
              have x0 := cell_regrown x0
              have x1 := cell_regrown x1
              have x2 := cell_regrown x2
              have x3 := cell_regrown x3
              have hu := cell_regrown hu
              have e0 := cell_regrown e0
              have e1 := cell_regrown e1
              have s0 := cell_regrown s0
              have s1 := cell_regrown s1
              have D1 := Lib.hid (fun p : Regrown => Calls.regrown_of (KM.out (grow (redrawn wr p.d) p.os)))
              refine wp_region_quiet_below (by kernel_rfl) (by kernel_rfl) ?_
              repeat (go_big_quiet_step (with_reducible exact D1.out _))
              refine wpQuiet_nil ?_
              intro _ hw'
              obtain ⟨⟨dq, osq⟩, hw''⟩ := hw'
              subst hw''
              have bz := below_regrown wr dq osq
              have X2 := Lib.hid (X.out.later bz)
              have B2 := Lib.hid (bel_trans B.out bz)
              clear bz x0 x1 x2 x3 xl hu e0 e1 s0 s1 D1 KM X B hj1 hm1 hm2 hcz i1 i2 i3 i4 i5 i6
              generalize grow (redrawn wr dq) osq = w3 at *
              cases r with
              | true =>
                have H := Lib.hid (cls_met HE.out (show meetE a b c d ((sx, sy), (ex, ey)) = true from hr.out))
                go_wp2
                go_ret
                exact ⟨by rw [H.out]; rfl, B2.out⟩
              | false =>
                go_wp2_with fail
                go_roundw
                case rel => exact ⟨j + 1, by go_num, by omega, by rw [HS.out, ← List.append_assoc]; exact any_more O.out hr.out, X2.out, B2.out⟩
                case measure => simp [intOf]; omega
            · obtain rfl : j = C.length := by omega
              have O2 := O.out
              rw [edges_F] at O2
              have O2 := Lib.hid O2
              go_wp2_with fail
              go_roundw
              case rel => exact ⟨k + 1, by go_num, by omega, by rw [HT.out]; exact O2.out, X.out, B.out⟩
              case measure => simp [intOf]; omega
      · obtain rfl : k = L.length := by omega
        have H := Lib.hid (cls_miss (show (edgesL L).any (meetE a b c d) = false by have := O.out; rwa [List.take_length] at this) HY.out)
        have K := Lib.hid (refPolyHas_is FF.out HY.out a0 (Int.le_trans ac c1) b0 (Int.le_trans bd d1) ((RR.out.later B.out).more B.out.size))
        obtain ⟨x0, x1, x2, x3, xl⟩ := X.out
        cases y with
        | true =>
          go_wp2_with fail
          refine K.out.mono ?_; rintro e w2 ⟨rfl, b2⟩
          go_wp2
          go_ret
          exact ⟨by rw [H.out]; rfl, bel_trans B.out b2⟩
        | false =>
          go_wp2_with fail
          refine K.out.mono ?_; rintro e w2 ⟨rfl, b2⟩
          go_wp2
          go_ret
          exact ⟨by rw [H.out]; rfl, bel_trans B.out b2⟩
end Go.Proofs.Ytcpnfafhekgabaa
