/- Contracts of the laws' helpers of layer 4: a point that is not too far, a point close to (0, 0), a box that may be. -/
import Derived.Test.YtoofbbmddddlcaaHeldBox
import Derived.Test.YtoofbbmddddlcaaMask
import Derived.Deep.RegionHeld3
import Derived.Deep.DeepCutAuto
namespace Go.Proofs.Ytoofbbmddddlcaa
open Go.RowKit

theorem pt_any (x y : Int) (w : World) :
    Calls Try.prog 19 #[ptV x y] w fun e w' => e = .returned (ptV (x.tmod 536870913) (y.tmod 536870913)) ∧ (w.alloc (.cells #[.int .i64 x, .int .i64 y] 25)).alloc (.cells #[.int .i64 (x.tmod 536870913), .int .i64 (y.tmod 536870913)] 25) = w' := by
  obtain ⟨u, _, _, hu⟩ := tmod_at x 536870913 (by omega)
  obtain ⟨v, _, _, hv⟩ := tmod_at y 536870913 (by omega)
  have H := Lib.hid (show ptV (x.tmod 536870913) (y.tmod 536870913) = ptV u v by rw [hu, hv])
  rw [hu, hv]
  go_enter Try.func19, Try.ntmps19
  go_wp2
  exact bodyPost_ret (v := ptV u v) (by simp [results, Try.results19, go_sem]) rfl ⟨rfl, rfl⟩

theorem ptAt_at {w : World} {x y : Int} {n : TypeId} {p : Nat} (h : w.heap.size = p) : PtAt (w.alloc (.cells #[.int .i64 x, .int .i64 y] n)) p x y := h ▸ ptAt_new w x y n
theorem ptIn_at {w : World} {x y : Int} {n : TypeId} {p : Nat} (h : w.heap.size = p) : PtIn (w.alloc (.cells #[.int .i64 x, .int .i64 y] n)) p x y := h ▸ ptIn_new w x y n
theorem boxIn_at {w : World} {a b c d : Int} {n : TypeId} {p : Nat} (h : w.heap.size = p) : BoxIn (w.alloc (.cells #[.int .i64 a, .int .i64 b, .int .i64 c, .int .i64 d] n)) p a b c d := h ▸ boxIn_new w a b c d n
theorem BoxIn.drew {w : World} {b : Nat} {x0 y0 x1 y1 : Int} (h : BoxIn w b x0 y0 x1 y1) : BoxIn w.drew b x0 y0 x1 y1 := ⟨h.at_.drew, h.free⟩
theorem PtIn.drew {w : World} {b : Nat} {x y : Int} (h : PtIn w b x y) : PtIn w.drew b x y := ⟨h.at_.drew, h.free⟩
/-- What the two calls of Pt leave: both points, each in a block of its own, and the result's block. -/
def TwoPts (w : World) (b : Nat) (x y u v : Int) (s3 s4 : Value) (wc : World) : Prop :=
  ∃ p q : Nat, s3 = .pointer (some ⟨p, 0, none⟩) ∧ s4 = .pointer (some ⟨q, 0, none⟩) ∧ PtAt wc p x y ∧ PtAt wc q u v ∧ BoxIn wc b 0 0 0 0 ∧ Below w.heap.size w wc
theorem pt_is {x y u v : Int} (h : x.tmod 536870913 = u) (k : y.tmod 536870913 = v) (w : World) :
    Calls Try.prog 19 #[ptV x y] w fun e w' => e = .returned (ptV u v) ∧ (w.alloc (.cells #[.int .i64 x, .int .i64 y] 25)).alloc (.cells #[.int .i64 u, .int .i64 v] 25) = w' := h ▸ k ▸ pt_any x y w

set_option maxHeartbeats 8000000 in
theorem boxT_core (a b c d x y u v k l m n : Int) (e0 : a.tmod 536870913 = x) (e1 : b.tmod 536870913 = y) (e2 : c.tmod 536870913 = u) (e3 : d.tmod 536870913 = v) (hk : (if u < x then u else x) = k) (hl : (if v < y then v else y) = l) (hm : (if x < u then u else x) = m) (hn : (if y < v then v else y) = n) (w : World) :
    Calls Try.prog 18 #[boxV a b c d] w fun e w' => e = .returned (boxV k l m n) ∧ Below w.heap.size w w' := by
  have P1 := Lib.hid (fun w => pt_is e0 e1 w)
  have P2 := Lib.hid (fun w => pt_is e2 e3 w)
  have hK := Lib.hid hk
  have hL := Lib.hid hl
  have hM := Lib.hid hm
  have hN := Lib.hid hn
  have X0 := (boxAt_new w a b c d 23).alloc (.cells #[.int .i64 0, .int .i64 0, .int .i64 0, .int .i64 0] 23)
  have Z0 := boxIn_at (w := w.alloc (.cells #[.int .i64 a, .int .i64 b, .int .i64 c, .int .i64 d] 23)) (a := 0) (b := 0) (c := 0) (d := 0) (n := 23) (p := w.heap.size + 1) (by simp)
  have B0 := bel_alloc (bel_alloc (bel_refl w) (.cells #[.int .i64 a, .int .i64 b, .int .i64 c, .int .i64 d] 23)) (.cells #[.int .i64 0, .int .i64 0, .int .i64 0, .int .i64 0] 23)
  clear e0 e1 e2 e3 hk hl hm hn
  go_enter Try.func18, Try.ntmps18
  go_wp2_with fail
  generalize ((w.alloc (.cells #[.int .i64 a, .int .i64 b, .int .i64 c, .int .i64 d] 23)).alloc (.cells #[.int .i64 0, .int .i64 0, .int .i64 0, .int .i64 0] 23)) = W at *
  have Z0 := Lib.hid Z0
  have B0 := Lib.hid B0
  obtain ⟨c0, c1, c2, c3, cl⟩ := X0
  clear cl
  go_cut [3, 4] (fun s3 s4 wc => TwoPts w (w.heap.size + 1) x y u v s3 s4 wc)
  case first =>
    go_region_held3 (fun w' => w'.cell? ⟨w.heap.size, 0, none⟩ = some (.int .i64 a) ∧ w'.cell? ⟨w.heap.size, 1, none⟩ = some (.int .i64 b) ∧ w'.cell? ⟨w.heap.size, 2, none⟩ = some (.int .i64 c) ∧ w'.cell? ⟨w.heap.size, 3, none⟩ = some (.int .i64 d)) (simp (maxDischargeDepth := 40) [c0, c1, c2, c3, World.cell?_alloc_some])
      (first | (go_at_call 19; (with_reducible refine (P1.out _).mono ?_); rintro e w' ⟨rfl, rfl⟩) | (go_at_call 19; (with_reducible refine (P2.out _).mono ?_); rintro e w' ⟨rfl, rfl⟩))
    all_goals go_wp2
    all_goals go_meet
    all_goals
      refine ⟨_, _, rfl, rfl, ?_, ?_, ?_, ?_⟩
      · repeat (first | (refine ptAt_at ?_; simp; done) | refine PtAt.alloc ?_ _ | refine PtAt.drew ?_)
      · repeat (first | (refine ptAt_at ?_; simp; done) | refine PtAt.alloc ?_ _ | refine PtAt.drew ?_)
      · repeat (first | exact Z0.out | refine BoxIn.alloc ?_ _ | refine BoxIn.drew ?_)
      · repeat (first | exact B0.out | refine bel_alloc ?_ _ | refine bel_drew ?_)
  case rest =>
    obtain ⟨p, q, rfl, rfl, hp, hq, hI, hB⟩ := hcut
    have hI' := Lib.hid hI
    have hB := Lib.hid hB
    obtain ⟨p0, p1, pl⟩ := hp
    obtain ⟨q0, q1, ql⟩ := hq
    obtain ⟨⟨i0, i1, i2, i3, il⟩, fr⟩ := hI
    have hk := hK.out
    have hl := hL.out
    have hm := hM.out
    have hn := hN.out
    clear Z0 B0 P1 P2 c0 c1 c2 c3
    go_wp2
    have q2 := hI'.out.stored k l m n
    have bB := bel_set (bel_set (bel_set (bel_set hB.out (b := w.heap.size + 1) (by omega) 0 (.int .i64 k)) (b := w.heap.size + 1) (by omega) 1 (.int .i64 l)) (b := w.heap.size + 1) (by omega) 2 (.int .i64 m)) (b := w.heap.size + 1) (by omega) 3 (.int .i64 n)
    clear i0 i1 i2 i3 il fr hI' hB p0 p1 pl q0 q1 ql
    generalize (((wc.setCell ⟨w.heap.size + 1, 0, none⟩ (.int .i64 k)).setCell ⟨w.heap.size + 1, 1, none⟩ (.int .i64 l)).setCell ⟨w.heap.size + 1, 2, none⟩ (.int .i64 m)).setCell ⟨w.heap.size + 1, 3, none⟩ (.int .i64 n) = w2 at *
    obtain ⟨⟨i0, i1, i2, i3, il⟩, fr⟩ := q2
    exact bodyPost_ret (v := boxV k l m n) (by simp [results, Try.results18, go_sem, i0, i1, i2, i3]) rfl ⟨rfl, bB⟩
/-- The numbers of the box that the laws make of any four numbers. -/
theorem boxT_form (a b c d : Int) : ∃ k l m n : Int, -536870912 ≤ k ∧ k ≤ m ∧ m ≤ 536870912 ∧ -536870912 ≤ l ∧ l ≤ n ∧ n ≤ 536870912 ∧ ∀ w, Calls Try.prog 18 #[boxV a b c d] w fun e w' => e = .returned (boxV k l m n) ∧ Below w.heap.size w w' := by
  obtain ⟨x, x0, x1, e0⟩ := tmod_at a 536870913 (by omega)
  obtain ⟨y, y0, y1, e1⟩ := tmod_at b 536870913 (by omega)
  obtain ⟨u, u0, u1, e2⟩ := tmod_at c 536870913 (by omega)
  obtain ⟨v, v0, v1, e3⟩ := tmod_at d 536870913 (by omega)
  refine ⟨mnI x u, mnI y v, mxI x u, mxI y v, ?_, ?_, ?_, ?_, ?_, ?_, fun w => boxT_core a b c d x y u v _ _ _ _ e0 e1 e2 e3 rfl rfl rfl rfl w⟩
  all_goals
    have := mnI_le x u
    have := mnI_le y v
    have := mxI_le x u
    have := mxI_le y v
    rcases mnI_or x u with h1 | h1 <;> rcases mnI_or y v with h2 | h2 <;> rcases mxI_or x u with h3 | h3 <;> rcases mxI_or y v with h4 | h4 <;> omega
theorem pt_form (a b : Int) : ∃ x y : Int, -536870912 ≤ x ∧ x ≤ 536870912 ∧ -536870912 ≤ y ∧ y ≤ 536870912 ∧ ∀ w, Calls Try.prog 19 #[ptV a b] w fun e w' => e = .returned (ptV x y) ∧ (w.alloc (.cells #[.int .i64 a, .int .i64 b] 25)).alloc (.cells #[.int .i64 x, .int .i64 y] 25) = w' := by
  obtain ⟨x, x0, x1, e0⟩ := tmod_at a 536870913 (by omega)
  obtain ⟨y, y0, y1, e1⟩ := tmod_at b 536870913 (by omega)
  exact ⟨x, y, by omega, by omega, by omega, by omega, fun w => pt_is e0 e1 w⟩
end Go.Proofs.Ytoofbbmddddlcaa
