/- Contracts of the document's answer for layer 6: which points contours have. -/
import Derived.Test.YtcpnfafhekgabaaRefBoxM
import Derived.Test.YtcpnfafhekgabaaHeldBox
import Derived.Test.YtcpnfafhekgabaaRowsRead
import Derived.BigRegion
import Derived.BigQuiet
import Derived.Deep.QuietTactic
import Derived.Deep.DeepCutAuto
namespace Go.Proofs.Ytcpnfafhekgabaa
open Go.RowKit

/-- What an odd number of edges amounts to, where none has the point. -/
structure OddP (E : List E2) (p : P2) (x : Bool) : Prop where
  miss : E.any (fun e => onE e p) = false
  odd : xorL (E.map fun e => cutE e p) = x
theorem OddP.nil (p : P2) : OddP [] p false := ⟨rfl, rfl⟩
theorem OddP.more {E : List E2} {p : P2} {x r : Bool} {e : E2} (h : OddP E p x) (hm : onE e p = false) (hr : cutE e p = r) : OddP (E ++ [e]) p (x != r) := by
  refine ⟨by simp [h.miss, hm], ?_⟩
  rw [List.map_append, xorL_append, h.odd]
  simp [xorL, hr]
theorem OddP.flip {E : List E2} {p : P2} {x : Bool} {e : E2} (h : OddP E p x) (hm : onE e p = false) (hr : cutE e p = true) : OddP (E ++ [e]) p (!x) := by
  have := h.more hm hr
  cases x <;> exact this
theorem OddP.same {E : List E2} {p : P2} {x : Bool} {e : E2} (h : OddP E p x) (hm : onE e p = false) (hr : cutE e p = false) : OddP (E ++ [e]) p x := by
  have := h.more hm hr
  cases x <;> exact this
theorem OddP.has {E : List E2} {p : P2} {x : Bool} (h : OddP E p x) : hasE E p = x := by
  unfold hasE; rw [h.miss, h.odd]; rfl
theorem has_on {E : List E2} {p : P2} {e : E2} (hE : e ∈ E) (he : onE e p = true) : hasE E p = true := by
  unfold hasE; rw [List.any_eq_true.2 ⟨e, hE, he⟩]; rfl
/-- Where an edge's ends lie beside a ray: both tests of the document. -/
theorem sides (x y u v s t k : Int) (h : crI x y u v s t = k) : (y ≤ t ∧ t < v ∧ decide (v ≤ t) = false ∧ decide (t < y) = false ∧ Hid (cutE ((x, y), (u, v)) (s, t) = decide (0 < k))) ∨ (y ≤ t ∧ decide (t < v) = false ∧ v ≤ t ∧ decide (t < y) = false ∧ Hid (cutE ((x, y), (u, v)) (s, t) = false)) ∨ (decide (y ≤ t) = false ∧ t < v ∧ decide (v ≤ t) = false ∧ t < y ∧ Hid (cutE ((x, y), (u, v)) (s, t) = false)) ∨ (decide (y ≤ t) = false ∧ decide (t < v) = false ∧ v ≤ t ∧ t < y ∧ Hid (cutE ((x, y), (u, v)) (s, t) = decide (k < 0))) := by
  unfold Hid cutE crE
  simp only [h, decide_eq_false_iff_not]
  by_cases h1 : y ≤ t <;> by_cases h2 : v ≤ t <;> simp [h1, h2] <;> omega
theorem on_cases (x y u v s t k a b c d : Int) (h : crI x y u v s t = k) (ha : mnI x u = a) (hb : mxI x u = b) (hc : mnI y v = c) (hd : mxI y v = d) :
    (k = 0 ∧ a ≤ s ∧ s ≤ b ∧ c ≤ t ∧ t ≤ d ∧ Hid (onE ((x, y), (u, v)) (s, t) = true)) ∨ (¬ k = 0 ∧ True ∧ True ∧ True ∧ True ∧ Hid (onE ((x, y), (u, v)) (s, t) = false)) ∨ (k = 0 ∧ ¬ a ≤ s ∧ True ∧ True ∧ True ∧ Hid (onE ((x, y), (u, v)) (s, t) = false)) ∨
    (k = 0 ∧ a ≤ s ∧ ¬ s ≤ b ∧ True ∧ True ∧ Hid (onE ((x, y), (u, v)) (s, t) = false)) ∨ (k = 0 ∧ a ≤ s ∧ s ≤ b ∧ ¬ c ≤ t ∧ True ∧ Hid (onE ((x, y), (u, v)) (s, t) = false)) ∨ (k = 0 ∧ a ≤ s ∧ s ≤ b ∧ c ≤ t ∧ ¬ t ≤ d ∧ Hid (onE ((x, y), (u, v)) (s, t) = false)) := by
  unfold Hid onE crE
  simp only [h, ha, hb, hc, hd, decide_eq_true_eq, decide_eq_false_iff_not, true_and]
  omega
def OutR (w : World) (L : List (List P2)) (p q : Int) (sx sk : Value) (wr : World) : Prop :=
  ∃ (x : Bool) (k : Nat), sx = .bool x ∧ sk = .int .i64 k ∧ k ≤ L.length ∧ OddP (edgesL (L.take k)) (p, q) x ∧ PtAt wr w.heap.size p q ∧ Below w.heap.size w wr
def InR (w : World) (E : List E2) (C : List P2) (p q : Int) (sx sj : Value) (wr : World) : Prop :=
  ∃ (x : Bool) (j : Nat), sx = .bool x ∧ sj = .int .i64 j ∧ j ≤ C.length ∧ OddP (E ++ doneF C j) (p, q) x ∧ PtAt wr w.heap.size p q ∧ Below w.heap.size w wr
/-- An edge's ends, each in a block of its own. -/
def EndsR (w : World) (p q sx sy ex ey : Int) (s8 s9 : Value) (wc : World) : Prop :=
  ∃ bs be : Nat, s8 = .pointer (some ⟨bs, 0, none⟩) ∧ s9 = .pointer (some ⟨be, 0, none⟩) ∧ PtAt wc bs sx sy ∧ PtAt wc be ex ey ∧ PtAt wc w.heap.size p q ∧ Below w.heap.size w wc
theorem ptAt_on {w : World} {x y : Int} {n : TypeId} {g : Nat} (h : w.heap.size = g) : PtAt (w.alloc (.cells #[.int .i64 x, .int .i64 y] n)) g x y := h ▸ ptAt_new w x y n

set_option maxRecDepth 100000 in
set_option maxHeartbeats 8000000 in
theorem refPolyHas_at {L : List (List P2)} (hF : Fine L) {p q : Int} (p0 : -536870912 ≤ p) (p1 : p ≤ 536870912) (q0 : -536870912 ≤ q) (q1 : q ≤ 536870912) {w : World} {v : Value} (hR : RowsAt w w.heap.size v L) :
    Calls Try.prog 18 #[ptV p q, v] w fun e w' => e = .returned (.bool (hasE (edgesL L) (p, q))) ∧ Below w.heap.size w w' := by
  have P0 := Lib.hid (ptAt_new w p q 23)
  have B0 := Lib.hid (bel_alloc (bel_refl w) (.cells #[.int .i64 p, .int .i64 q] 23))
  have FF := Lib.hid hF
  rcases hR.open_ with ⟨rfl, A, cap, rfl⟩ | ⟨sb, so, cap, rfl, hsb, hL0, hrow⟩
  · go_enter Try.func18, Try.ntmps18
    go_wp2_with fail
    go_loopw [5, 6] (fun sx sk wr => sx = .bool false ∧ sk = .int .i64 0 ∧ Below w.heap.size w wr) (fun _ _ _ => 0)
    case atStart => exact ⟨rfl, rfl, B0.out⟩
    case round =>
      obtain ⟨rfl, rfl, hB⟩ := hrel
      have B := Lib.hid hB
      clear hB B0
      go_wp2
      go_ret
      exact ⟨rfl, B.out⟩
  · have hlen := hF.len
    have HR := Lib.hid hrow
    clear hrow hR hF
    go_enter Try.func18, Try.ntmps18
    go_wp2_with fail
    go_loopw [5, 6] (fun sx sk wr => OutR w L p q sx sk wr) (fun _ sk _ => L.length - (intOf sk).toNat)
    case atStart => exact ⟨false, 0, rfl, rfl, Nat.zero_le _, OddP.nil (p, q), P0.out, B0.out⟩
    case round =>
      obtain ⟨x, k, rfl, rfl, hk, hO, hP, hB⟩ := hrel
      clear P0 B0
      have O := Lib.hid hO
      have P := Lib.hid hP
      have B := Lib.hid hB
      clear hO hP hB
      by_cases hlt : k < L.length
      · obtain ⟨u, hu, hp⟩ := HR.out k hlt
        have U := Lib.hid hu
        clear hu
        have HT := Lib.hid (edgesL_take L k hlt)
        have HM := Lib.hid (fun e he => edges_sub (e := e) hlt he)
        have HFar := Lib.hid (fun i hi => FF.out.at_ (i := i) hlt hi)
        have hCl := FF.out.row _ (List.getElem_mem hlt)
        generalize L[k] = C at *
        rcases hp.open_ with ⟨rfl, A, cap', rfl⟩ | ⟨pb, po, pcap, rfl, hpb, hC0, hcells⟩
        · go_wp2_with fail
          go_loopw [5, 7] (fun sx sj wr => InR w (edgesL (L.take k)) [] p q sx sj wr) (fun _ _ _ => 0)
          case atStart => exact ⟨x, 0, rfl, rfl, Nat.le_refl _, by simpa [doneF] using O.out, P.out, B.out⟩
          case round =>
            obtain ⟨x, j, rfl, rfl, hj, hO, hP, hB⟩ := hrel
            clear O P B
            have O := Lib.hid hO
            have P := Lib.hid hP
            have B := Lib.hid hB
            clear hO hP hB
            obtain rfl : j = 0 := by simpa using hj
            have hu := (B.out.cell (p := ⟨sb, so + k, none⟩) hsb).trans U.out
            go_wp2_with fail
            go_roundw
            case rel => exact ⟨x, k + 1, rfl, by go_num, by omega, by rw [HT.out]; exact O.out, P.out, B.out⟩
            case measure => simp [intOf]; omega
        · have HC := Lib.hid hcells
          clear hcells hp
          go_wp2_with fail
          go_loopw [5, 7] (fun sx sj wr => InR w (edgesL (L.take k)) C p q sx sj wr) (fun _ sj _ => C.length - (intOf sj).toNat)
          case atStart => exact ⟨x, 0, rfl, rfl, Nat.zero_le _, by simpa [doneF] using O.out, P.out, B.out⟩
          case round =>
            obtain ⟨x, j, rfl, rfl, hj, hO, hP, hB⟩ := hrel
            clear O P B
            have O := Lib.hid hO
            have P := Lib.hid hP
            have B := Lib.hid hB
            clear hO hP hB
            have hu := (B.out.cell (p := ⟨sb, so + k, none⟩) hsb).trans U.out
            by_cases hjl : j < C.length
            · obtain ⟨n, hn, hnl⟩ : ∃ n : Nat, (j + 1) % C.length = n ∧ n < C.length := ⟨_, rfl, Nat.mod_lt _ hC0⟩
              have hj1 : IntKind.i64.wrap ((j : Int) + 1) = (j : Int) + 1 := IntWalk.i64_in _ (by omega)
              have hm1 : ((j : Int) + 1).tmod (C.length : Int) = (n : Int) := by
                rw [Int.tmod_eq_emod_of_nonneg (by omega), ← hn]; simp
              have hm2 : ((j : Int) + 1) % (C.length : Int) = (n : Int) := by rw [← hn]; simp
              have hcz : ¬ (C.length : Int) = 0 := by omega
              have i1 : (0 : Int) ≤ (j : Int) := by omega
              have i2 : (j : Int) < (C.length : Int) := by omega
              have i3 : (0 : Int) ≤ (n : Int) := by omega
              have i4 : (n : Int) < (C.length : Int) := by omega
              have i5 : (0 : Int) ≤ (k : Int) := by omega
              have i6 : (k : Int) < (L.length : Int) := by omega
              obtain ⟨s0, s1⟩ := HC.out j hjl
              obtain ⟨e0, e1⟩ := HC.out n hnl
              have e0 := (B.out.cell (p := ⟨pb, po + n * 2, none⟩) hpb).trans e0
              have e1 := (B.out.cell (p := ⟨pb, po + n * 2 + 1, none⟩) hpb).trans e1
              have s0 := (B.out.cell (p := ⟨pb, po + j * 2, none⟩) hpb).trans s0
              have s1 := (B.out.cell (p := ⟨pb, po + j * 2 + 1, none⟩) hpb).trans s1
              have he : edF C j = (ptN C j, ptN C n) := by unfold edF; rw [hn]
              obtain ⟨⟨l0, l1⟩, l2, l3⟩ := HFar.out j hjl
              obtain ⟨⟨k0, k1⟩, k2, k3⟩ := HFar.out n hnl
              have HE := Lib.hid (HM.out _ (edF_mem C hjl))
              rw [he] at HE
              have HS := Lib.hid (doneF_succ C j)
              rw [he] at HS
              clear he hn
              generalize ptN C n = pe at *
              generalize ptN C j = ps at *
              obtain ⟨ex, ey⟩ := pe
              obtain ⟨sx, sy⟩ := ps
              simp only [] at e0 e1 s0 s1 k0 k1 k2 k3 l0 l1 l2 l3
              have hpbr : pb < wr.heap.size := Nat.lt_of_lt_of_le hpb B.out.size
              have hsbr : sb < wr.heap.size := Nat.lt_of_lt_of_le hsb B.out.size
              go_upto_region 8 with (fail)
              go_cut [8, 9] (fun s8 s9 wc => EndsR w p q sx sy ex ey s8 s9 wc)
              case first =>
                go_region
                · go_wp2_with fail
                  go_meet
                  exact ⟨wr.heap.size, wr.heap.size + 1, rfl, rfl, ((ptAt_new wr sx sy _).alloc _).drew, (ptAt_on (by simp)).drew, ((P.out.alloc _).alloc _).drew, bel_drew (bel_alloc (bel_alloc B.out _) _)⟩
                · go_wp2_with fail
                  go_meet
                  exact ⟨wr.heap.size + 1, wr.heap.size, rfl, rfl, (ptAt_on (by simp)).drew, ((ptAt_new wr ex ey _).alloc _).drew, ((P.out.alloc _).alloc _).drew, bel_drew (bel_alloc (bel_alloc B.out _) _)⟩
              case rest =>
                obtain ⟨bs, be, rfl, rfl, hS, hE, hP, hB⟩ := hcut
                clear P B s0 s1 e0 e1 hu hj1 hm1 hm2 hcz i1 i2 i3 i4 i5 i6 hpbr hsbr
                have P := Lib.hid hP
                have B := Lib.hid hB
                have S := Lib.hid hS
                have E := Lib.hid hE
                clear hP hB hS hE
                obtain ⟨kx, hkx⟩ : ∃ kx, crI sx sy ex ey p q = kx := ⟨_, rfl⟩
                have KC := Lib.hid (fun w => refCross_is hkx l0 l1 l2 l3 k0 k1 k2 k3 p0 p1 q0 q1 w)
                have HK := Lib.hid hkx
                clear hkx
                obtain ⟨f0, f1, fl⟩ := P.out
                obtain ⟨g0, g1, gl⟩ := S.out
                obtain ⟨h0, h1, hl⟩ := E.out
                go_wp2_with fail
                refine (KC.out _).mono ?_; rintro e w5 ⟨rfl, b5⟩
                have P5 := Lib.hid (P.out.later b5)
                have S5 := Lib.hid (S.out.later b5)
                have E5 := Lib.hid (E.out.later b5)
                have B5 := Lib.hid (bel_trans B.out b5)
                clear b5 P S E B f0 f1 fl g0 g1 gl h0 h1 hl KC
                obtain ⟨f0, f1, fl⟩ := P5.out
                obtain ⟨g0, g1, gl⟩ := S5.out
                obtain ⟨h0, h1, hl⟩ := E5.out
                obtain ⟨o, ho⟩ : ∃ o, onE ((sx, sy), (ex, ey)) (p, q) = o := ⟨_, rfl⟩
                have hon := Lib.hid ho
                clear ho
                go_upto_region 10 with (fail)
                go_cut [10, 94] (fun s10 s94 wc => s10 = .int .i64 kx ∧ s94 = .bool o ∧ w5 = wc)
                case first =>
                  obtain ⟨m1, hm1⟩ : ∃ k, (if ex < sx then ex else sx) = k := ⟨_, rfl⟩
                  obtain ⟨m2, hm2⟩ : ∃ k, (if sx < ex then ex else sx) = k := ⟨_, rfl⟩
                  obtain ⟨m3, hm3⟩ : ∃ k, (if ey < sy then ey else sy) = k := ⟨_, rfl⟩
                  obtain ⟨m4, hm4⟩ : ∃ k, (if sy < ey then ey else sy) = k := ⟨_, rfl⟩
                  rcases on_cases sx sy ex ey p q kx m1 m2 m3 m4 HK.out hm1 hm2 hm3 hm4 with ⟨c1, c2, c3, c4, c5, H⟩ | ⟨c1, c2, c3, c4, c5, H⟩ | ⟨c1, c2, c3, c4, c5, H⟩ | ⟨c1, c2, c3, c4, c5, H⟩ | ⟨c1, c2, c3, c4, c5, H⟩ | ⟨c1, c2, c3, c4, c5, H⟩
                  all_goals
                    go_wp2
                    go_meet
                    exact ⟨by first | rfl | rw [c1], by rw [← hon.out, H.out], rfl⟩
                case rest =>
                  obtain ⟨rfl, rfl, rfl⟩ := hcut
                  cases o with
                  | true =>
                    have H := Lib.hid (has_on HE.out hon.out)
                    go_wp2
                    go_ret
                    exact ⟨by rw [H.out]; rfl, B5.out⟩
                  | false =>
                    have P := P5
                    have B := B5
                    clear P5 B5 S5 E5
                    rcases sides sx sy ex ey p q kx HK.out with ⟨c1, c2, c3, c4, H⟩ | ⟨c1, c2, c3, c4, H⟩ | ⟨c1, c2, c3, c4, H⟩ | ⟨c1, c2, c3, c4, H⟩
                    · by_cases hp : 0 < kx
                      · go_wp2_with fail
                        go_quiet (fail)
                        go_wp2_with fail
                        go_roundw
                        case rel => exact ⟨(!x), j + 1, rfl, by go_num, by omega, by rw [HS.out, ← List.append_assoc]; exact O.out.flip hon.out (H.out.trans (decide_eq_true hp)), P.out.later (bel_drewN _ _), bel_trans B.out (bel_drewN _ _)⟩
                        case measure => simp [intOf]; omega
                      · have hp' : decide (0 < kx) = false := decide_eq_false hp
                        go_wp2_with fail
                        go_quiet (fail)
                        go_wp2_with fail
                        go_roundw
                        case rel => exact ⟨x, j + 1, rfl, by go_num, by omega, by rw [HS.out, ← List.append_assoc]; exact O.out.same hon.out (H.out.trans (decide_eq_false (by omega))), P.out.later (bel_drewN _ _), bel_trans B.out (bel_drewN _ _)⟩
                        case measure => simp [intOf]; omega
                    · go_wp2_with fail
                      go_quiet (fail)
                      go_wp2_with fail
                      go_roundw
                      case rel => exact ⟨x, j + 1, rfl, by go_num, by omega, by rw [HS.out, ← List.append_assoc]; exact O.out.same hon.out H.out, P.out.later (bel_drewN _ _), bel_trans B.out (bel_drewN _ _)⟩
                      case measure => simp [intOf]; omega
                    · go_wp2_with fail
                      go_quiet (fail)
                      go_wp2_with fail
                      go_roundw
                      case rel => exact ⟨x, j + 1, rfl, by go_num, by omega, by rw [HS.out, ← List.append_assoc]; exact O.out.same hon.out H.out, P.out.later (bel_drewN _ _), bel_trans B.out (bel_drewN _ _)⟩
                      case measure => simp [intOf]; omega
                    · by_cases hp : kx < 0
                      · go_wp2_with fail
                        go_quiet (fail)
                        go_wp2_with fail
                        go_roundw
                        case rel => exact ⟨(!x), j + 1, rfl, by go_num, by omega, by rw [HS.out, ← List.append_assoc]; exact O.out.flip hon.out (H.out.trans (decide_eq_true hp)), P.out.later (bel_drewN _ _), bel_trans B.out (bel_drewN _ _)⟩
                        case measure => simp [intOf]; omega
                      · have hp' : decide (kx < 0) = false := decide_eq_false hp
                        go_wp2_with fail
                        go_quiet (fail)
                        go_wp2_with fail
                        go_roundw
                        case rel => exact ⟨x, j + 1, rfl, by go_num, by omega, by rw [HS.out, ← List.append_assoc]; exact O.out.same hon.out (H.out.trans (decide_eq_false (by omega))), P.out.later (bel_drewN _ _), bel_trans B.out (bel_drewN _ _)⟩
                        case measure => simp [intOf]; omega
            · obtain rfl : j = C.length := by omega
              have O2 := O.out
              rw [edges_F] at O2
              have O2 := Lib.hid O2
              go_wp2_with fail
              go_roundw
              case rel => exact ⟨x, k + 1, rfl, by go_num, by omega, by rw [HT.out]; exact O2.out, P.out, B.out⟩
              case measure => simp [intOf]; omega
      · obtain rfl : k = L.length := by omega
        have H := Lib.hid (show hasE (edgesL L) (p, q) = x by have := O.out; rw [List.take_length] at this; exact this.has)
        go_wp2
        go_ret
        exact ⟨by rw [H.out]; rfl, B.out⟩
end Go.Proofs.Ytcpnfafhekgabaa
