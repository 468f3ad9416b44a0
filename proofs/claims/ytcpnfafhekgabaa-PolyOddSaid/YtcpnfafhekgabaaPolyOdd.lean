/- A box of lines has its own points; told twice it has its edges alone; one within another is a hole: for every two small boxes and point that the law makes of any numbers of 64 bits. No condition. -/
import Derived.Test.YtcpnfafhekgabaaRows
import Derived.Test.YtcpnfafhekgabaaAwake6
import Derived.Test.YtcpnfafhekgabaaRefBoxM
import Derived.Test.YtcpnfafhekgabaaCloseN
import Derived.Test.YtcpnfafhekgabaaTame5
import Derived.Test.YtcpnfafhekgabaaHeldMore
import Derived.Test.YtcpnfafhekgabaaLit6
import Derived.Test.YtcpnfafhekgabaaContourRect
import Derived.Test.YtcpnfafhekgabaaQuietTail
import Derived.ProofKit
import Derived.OpenShut
import Derived.ShutString
import Derived.ChangeOld
import Derived.Below
import Derived.BigRegion
import Derived.Lib.SmallJoins
import Derived.Lib.QuietBelow
import Derived.BigQuiet
import Derived.Deep.RegionHeld3
import Derived.Deep.DeepCutAuto
namespace Go.Proofs.Ytcpnfafhekgabaa.polyOdd
open Go.ChangeShapes Go.WideShapes Go.ChangeAt Go.RowKit Go.Joins
open Go.Sort (grow)

theorem close_below {a b x y : Int} (h : a.tmod 31 = x) (g : b.tmod 31 = y) (w : World) :
    Calls Try.prog 9 #[ptV a b, .int .i64 30] w fun e w' => e = .returned (ptV x y) ∧ Below w.heap.size w w' := (closeN (n := 30) (by omega) (by omega) rfl h g w).mono fun _ _ k => ⟨k.1, k.2 ▸ bel_drew (bel_alloc (bel_alloc (bel_refl w) _) _)⟩
theorem refHas_is {a b c d x y : Int} {r : Bool} (h : hasB a b c d x y = r) (w : World) :
    Calls Try.prog 21 #[boxV a b c d, ptV x y] w fun e w' => e = .returned (.bool r) ∧ Below w.heap.size w w' := h ▸ refHas_any a b c d x y w
theorem corners_eq (a b c d : Int) (w : World) :
    Calls Try.prog 20 #[boxV a b c d] w fun e w' => e = .returned (.agg #[.int .i64 a, .int .i64 b, .int .i64 c, .int .i64 b, .int .i64 a, .int .i64 d, .int .i64 c, .int .i64 d]) ∧ (w.alloc (.cells #[.int .i64 a, .int .i64 b, .int .i64 c, .int .i64 d] 33)).alloc (.cells #[.int .i64 a, .int .i64 b, .int .i64 c, .int .i64 b, .int .i64 a, .int .i64 d, .int .i64 c, .int .i64 d] 41) = w' := by
  go_enter Try.func20, Try.ntmps20
  go_wp2
  exact bodyPost_ret (v := .agg #[.int .i64 a, .int .i64 b, .int .i64 c, .int .i64 b, .int .i64 a, .int .i64 d, .int .i64 c, .int .i64 d]) (by simp [results, Try.results20, go_sem]) rfl ⟨rfl, rfl⟩
theorem rim_cases {a b c d x y : Int} {i e : Bool} (hi : hasB a b c d x y = i) (he : rimB a b c d x y = e) : (i = false ∧ e = false) ∨ (i = true ∧ (x == a) = true ∧ e = true) ∨ (i = true ∧ (x == a) = false ∧ (x == c) = true ∧ e = true) ∨ (i = true ∧ (x == a) = false ∧ (x == c) = false ∧ (y == b) = true ∧ e = true) ∨
    (i = true ∧ (x == a) = false ∧ (x == c) = false ∧ (y == b) = false ∧ (y == d) = true ∧ e = true) ∨ (i = true ∧ (x == a) = false ∧ (x == c) = false ∧ (y == b) = false ∧ (y == d) = false ∧ e = false) := by
  unfold rimB at he
  rw [hi] at he
  cases i
  · exact .inl ⟨rfl, he.symm⟩
  · cases h1 : x == a
    · cases h2 : x == c
      · cases h3 : y == b
        · cases h4 : y == d
          · rw [h1, h2, h3, h4] at he; exact .inr (.inr (.inr (.inr (.inr ⟨rfl, rfl, rfl, rfl, rfl, he.symm⟩))))
          · rw [h1, h2, h3, h4] at he; exact .inr (.inr (.inr (.inr (.inl ⟨rfl, rfl, rfl, rfl, rfl, he.symm⟩))))
        · rw [h1, h2, h3] at he; exact .inr (.inr (.inr (.inl ⟨rfl, rfl, rfl, rfl, he.symm⟩)))
      · rw [h1, h2] at he; exact .inr (.inr (.inl ⟨rfl, rfl, rfl, he.symm⟩))
    · rw [h1] at he; exact .inr (.inl ⟨rfl, rfl, he.symm⟩)
theorem fine_rect (a b c d e f g h : Int) (h1 : -19 ≤ a ∧ a ≤ 26) (h2 : -19 ≤ b ∧ b ≤ 26) (h3 : -19 ≤ c ∧ c ≤ 26) (h4 : -19 ≤ d ∧ d ≤ 26) (h5 : -19 ≤ e ∧ e ≤ 26) (h6 : -19 ≤ f ∧ f ≤ 26) (h7 : -19 ≤ g ∧ g ≤ 26) (h8 : -19 ≤ h ∧ h ≤ 26) : Fine [rectX a b c d] ∧ Fine [rectX a b c d, rectX a b c d] ∧ Fine [rectX a b c d, rectY e f g h] := by
  have f1 : ∀ p ∈ rectX a b c d, (-536870912 ≤ p.1 ∧ p.1 ≤ 536870912) ∧ -536870912 ≤ p.2 ∧ p.2 ≤ 536870912 := by
    intro p hp
    simp only [rectX, List.mem_cons, List.not_mem_nil, or_false] at hp
    rcases hp with rfl | rfl | rfl | rfl <;> simp only [] <;> omega
  have f2 : ∀ p ∈ rectY e f g h, (-536870912 ≤ p.1 ∧ p.1 ≤ 536870912) ∧ -536870912 ≤ p.2 ∧ p.2 ≤ 536870912 := by
    intro p hp
    simp only [rectY, List.mem_cons, List.not_mem_nil, or_false] at hp
    rcases hp with rfl | rfl | rfl | rfl <;> simp only [] <;> omega
  refine ⟨fine_of (by simp) ?_ ?_, fine_of (by simp) ?_ ?_, fine_of (by simp) ?_ ?_⟩
  all_goals
    intro c hc
    simp only [List.mem_cons, List.not_mem_nil, or_false] at hc
  · subst hc; simp [rectX]
  · subst hc; exact f1
  · rcases hc with rfl | rfl <;> simp [rectX]
  · rcases hc with rfl | rfl <;> exact f1
  · rcases hc with rfl | rfl <;> simp [rectX, rectY]
  · rcases hc with rfl | rfl
    · exact f1
    · exact f2
/-- Both arrays of corners, each in a block of its own. -/
def Two (w : World) (a b c d e f g h x y : Int) (s7 s8 : Value) (wc : World) : Prop :=
  ∃ p q : Nat, s7 = .pointer (some ⟨p, 0, none⟩) ∧ s8 = .pointer (some ⟨q, 0, none⟩) ∧ EightAt wc p a b c d ∧ EightAt wc q e f g h ∧ BBP w.heap.size a b c d e f g h x y wc ∧ Below w.heap.size w wc
/-- Both contours. -/
def Con (w : World) (a b c d e f g h x y : Int) (s9 s10 : Value) (wc : World) : Prop :=
  ∃ p q : Nat, s9 = .slice (some ⟨p, 0, none⟩) 4 4 ∧ s10 = .slice (some ⟨q, 0, none⟩) 4 4 ∧ PtsAt wc wc.heap.size (.slice (some ⟨p, 0, none⟩) 4 4) (rectX a b c d) ∧ PtsAt wc wc.heap.size (.slice (some ⟨q, 0, none⟩) 4 4) (rectY e f g h) ∧ BBP w.heap.size a b c d e f g h x y wc ∧ Below w.heap.size w wc
/-- What the two tests of a box have said. -/
def Told (w : World) (a b c d e f g h x y : Int) (p q : Nat) (i r : Bool) (s11 s12 : Value) (wc : World) : Prop :=
  s11 = .bool i ∧ s12 = .bool r ∧ PtsAt wc wc.heap.size (.slice (some ⟨p, 0, none⟩) 4 4) (rectX a b c d) ∧ PtsAt wc wc.heap.size (.slice (some ⟨q, 0, none⟩) 4 4) (rectY e f g h) ∧ BBP w.heap.size a b c d e f g h x y wc ∧ Below w.heap.size w wc
theorem two_new (w : World) {cs cs' : Array Value} {tp : TypeId} {c c' : List P2} {n : Nat} (hc : cs.toList = cellsP c) (hc' : cs'.toList = cellsP c') (hn : c.length = n) (hn' : c'.length = n) :
    PtsAt ((w.alloc (.cells cs tp)).alloc (.cells cs' tp)).drew ((w.alloc (.cells cs tp)).alloc (.cells cs' tp)).drew.heap.size (.slice (some ⟨w.heap.size, 0, none⟩) n n) c ∧ PtsAt ((w.alloc (.cells cs tp)).alloc (.cells cs' tp)).drew ((w.alloc (.cells cs tp)).alloc (.cells cs' tp)).drew.heap.size (.slice (some ⟨w.heap.size + 1, 0, none⟩) n n) c' := by
  have h := (PtsAt.new (w.alloc (.cells cs tp)) (t := tp) hc' hn').on (bel_drew (bel_refl _))
  rw [show (w.alloc (.cells cs tp)).heap.size = w.heap.size + 1 by simp] at h
  exact ⟨(PtsAt.new w (t := tp) hc hn).on (bel_drew (bel_alloc (bel_refl _) _)), h⟩
theorem BBP.alloc {N : Nat} {a b c d e f g h x y : Int} {w : World} (k : BBP N a b c d e f g h x y w) (o : Obj) : BBP N a b c d e f g h x y (w.alloc o) := k.later (bel_alloc (bel_refl w) o)
theorem BBP.drew {N : Nat} {a b c d e f g h x y : Int} {w : World} (k : BBP N a b c d e f g h x y w) : BBP N a b c d e f g h x y w.drew := k.later (bel_drew (bel_refl w))
theorem eightAt_at {w : World} {a b c d : Int} {n : TypeId} {p : Nat} (h : w.heap.size = p) : EightAt (w.alloc (.cells #[.int .i64 a, .int .i64 b, .int .i64 c, .int .i64 b, .int .i64 a, .int .i64 d, .int .i64 c, .int .i64 d] n)) p a b c d := h ▸ eightAt_new w a b c d n
theorem EightAt.drew {w : World} {g : Nat} {a b c d : Int} (h : EightAt w g a b c d) : EightAt w.drew g a b c d := h.later (bel_drew (bel_refl w))
theorem EightAt.alloc {w : World} {g : Nat} {a b c d : Int} (h : EightAt w g a b c d) (o : Obj) : EightAt (w.alloc o) g a b c d := h.later (bel_alloc (bel_refl w) o)
theorem bbp_cells {N : Nat} {a b c d e f g h x y : Int} {w : World} (k : BBP N a b c d e f g h x y w) : w.cell? ⟨N, 0, none⟩ = some (.int .i64 a) ∧ w.cell? ⟨N, 1, none⟩ = some (.int .i64 b) ∧ w.cell? ⟨N, 2, none⟩ = some (.int .i64 c) ∧ w.cell? ⟨N, 3, none⟩ = some (.int .i64 d) ∧ w.cell? ⟨N + 1, 0, none⟩ = some (.int .i64 e) ∧ w.cell? ⟨N + 1, 1, none⟩ = some (.int .i64 f) ∧ w.cell? ⟨N + 1, 2, none⟩ = some (.int .i64 g) ∧ w.cell? ⟨N + 1, 3, none⟩ = some (.int .i64 h) :=
  ⟨k.f0.at_.c0, k.f0.at_.c1, k.f0.at_.c2, k.f0.at_.c3, k.f1.at_.c0, k.f1.at_.c1, k.f1.at_.c2, k.f1.at_.c3⟩
theorem eights_cells {p q : Nat} {a b c d e f g h : Int} {w : World} (k : EightAt w p a b c d) (l : EightAt w q e f g h) : w.cell? ⟨p, 0, none⟩ = some (.int .i64 a) ∧ w.cell? ⟨p, 1, none⟩ = some (.int .i64 b) ∧ w.cell? ⟨p, 2, none⟩ = some (.int .i64 c) ∧ w.cell? ⟨p, 3, none⟩ = some (.int .i64 b) ∧ w.cell? ⟨p, 4, none⟩ = some (.int .i64 a) ∧ w.cell? ⟨p, 5, none⟩ = some (.int .i64 d) ∧ w.cell? ⟨p, 6, none⟩ = some (.int .i64 c) ∧ w.cell? ⟨p, 7, none⟩ = some (.int .i64 d) ∧
    w.cell? ⟨q, 0, none⟩ = some (.int .i64 e) ∧ w.cell? ⟨q, 1, none⟩ = some (.int .i64 f) ∧ w.cell? ⟨q, 2, none⟩ = some (.int .i64 g) ∧ w.cell? ⟨q, 3, none⟩ = some (.int .i64 f) ∧ w.cell? ⟨q, 4, none⟩ = some (.int .i64 e) ∧ w.cell? ⟨q, 5, none⟩ = some (.int .i64 h) ∧ w.cell? ⟨q, 6, none⟩ = some (.int .i64 g) ∧ w.cell? ⟨q, 7, none⟩ = some (.int .i64 h) :=
  ⟨k.c0, k.c1, k.c2, k.c3, k.c4, k.c5, k.c6, k.c7, l.c0, l.c1, l.c2, l.c3, l.c4, l.c5, l.c6, l.c7⟩

set_option maxRecDepth 100000 in
set_option maxHeartbeats 16000000 in
theorem core (k0 k1 k2 k3 l0 l1 l2 l3 m0 m1 : Int) (a b c d e f g h x y : Int) (ha : -19 ≤ a ∧ a ≤ c ∧ c ≤ 26) (hb : -19 ≤ b ∧ b ≤ d ∧ d ≤ 26) (he : -19 ≤ e ∧ e ≤ g ∧ g ≤ 26) (hf : -19 ≤ f ∧ f ≤ h ∧ h ≤ 26) (hx : -30 ≤ x ∧ x ≤ 30 ∧ -30 ≤ y ∧ y ≤ 30)
    (X1 : ∀ w, Calls Try.prog 15 #[boxV k0 k1 k2 k3] w fun r w' => r = .returned (boxV a b c d) ∧ Below w.heap.size w w')
    (X2 : ∀ w, Calls Try.prog 15 #[boxV l0 l1 l2 l3] w fun r w' => r = .returned (boxV e f g h) ∧ Below w.heap.size w w')
    (X3 : ∀ w, Calls Try.prog 9 #[ptV m0 m1, .int .i64 30] w fun r w' => r = .returned (ptV x y) ∧ Below w.heap.size w w') (w : World) :
    Calls Try.prog 7 #[boxV k0 k1 k2 k3, boxV l0 l1 l2 l3, ptV m0 m1] w fun r w' => r = .returned (.bool true) ∧ Below w.heap.size w w' := by
  have HX1 := Lib.hid X1
  have HX2 := Lib.hid X2
  have HX3 := Lib.hid X3
  have F0 := bbp_new w k0 k1 k2 k3 l0 l1 l2 l3 m0 m1 33 23
  have B0 := bel_newBBP w k0 k1 k2 k3 l0 l1 l2 l3 m0 m1 33 23
  unfold newBBP at F0 B0
  have F0 := Lib.hid F0
  have B0 := Lib.hid B0
  clear X1 X2 X3
  go_enter Try.func7, Try.ntmps7
  go_wp2_with fail
  generalize (((w.alloc (.cells #[.int .i64 k0, .int .i64 k1, .int .i64 k2, .int .i64 k3] 33)).alloc (.cells #[.int .i64 l0, .int .i64 l1, .int .i64 l2, .int .i64 l3] 33)).alloc (.cells #[.int .i64 m0, .int .i64 m1] 23)) = V at *
  obtain ⟨⟨⟨i0, i1, i2, i3, il⟩, fi⟩, ⟨⟨j0, j1, j2, j3, jl⟩, fj⟩, ⟨⟨q0, q1, ql⟩, fq⟩⟩ := F0.out
  have i0 := cell_regrown i0
  have i1 := cell_regrown i1
  have i2 := cell_regrown i2
  have i3 := cell_regrown i3
  have j0 := cell_regrown j0
  have j1 := cell_regrown j1
  have j2 := cell_regrown j2
  have j3 := cell_regrown j3
  have q0 := cell_regrown q0
  have q1 := cell_regrown q1
  have D1 := Lib.hid (fun p : Regrown => Calls.regrown_of (HX1.out (grow (redrawn V p.d) p.os)))
  have D2 := Lib.hid (fun p : Regrown => Calls.regrown_of (HX2.out (grow (redrawn V p.d) p.os)))
  have D3 := Lib.hid (fun p : Regrown => Calls.regrown_of (HX3.out (grow (redrawn V p.d) p.os)))
  clear HX1 HX2 HX3
  refine region_below_tail 6 (by kernel_rfl) (by kernel_rfl) ?_
  simp only [List.take_succ_cons, List.take_zero]
  repeat (go_big_quiet_step (first | with_reducible exact D1.out _ | with_reducible exact D2.out _ | with_reducible exact D3.out _))
  refine wpQuiet_nil ?_
  intro _ hw'
  obtain ⟨⟨dr, osr⟩, hw''⟩ := hw'
  subst hw''
  clear i0 i1 i2 i3 j0 j1 j2 j3 q0 q1 il fi jl fj ql fq D1 D2 D3
  have zz := below_regrown V dr osr
  have F1 := Lib.hid (F0.out.later zz)
  have B1 := Lib.hid (bel_trans B0.out zz)
  clear F0 B0 zz
  generalize grow (redrawn V dr) osr = V1 at *
  simp only [List.drop_succ_cons, List.drop_zero]
  obtain ⟨⟨⟨i0, i1, i2, i3, il⟩, fi⟩, ⟨⟨j0, j1, j2, j3, jl⟩, fj⟩, ⟨⟨q0, q1, ql⟩, fq⟩⟩ := F1.out
  go_upto_region 2 with (fail)
  clear i0 i1 i2 i3 j0 j1 j2 j3 q0 q1 il fi jl fj ql fq
  have F2 := F1.out.stored a b c d e f g h x y
  have B2 := bel_bbp B1.out (Nat.le_refl _) a b c d e f g h x y
  unfold setBBP at F2 B2
  have F2 := Lib.hid F2
  have B2 := Lib.hid B2
  clear F1 B1
  generalize ((((((((((V1.setCell ⟨w.heap.size, 0, none⟩ (.int .i64 a)).setCell ⟨w.heap.size, 1, none⟩ (.int .i64 b)).setCell ⟨w.heap.size, 2, none⟩ (.int .i64 c)).setCell ⟨w.heap.size, 3, none⟩ (.int .i64 d)).setCell ⟨w.heap.size + 1, 0, none⟩ (.int .i64 e)).setCell ⟨w.heap.size + 1, 1, none⟩ (.int .i64 f)).setCell ⟨w.heap.size + 1, 2, none⟩ (.int .i64 g)).setCell ⟨w.heap.size + 1, 3, none⟩ (.int .i64 h)).setCell ⟨w.heap.size + 1 + 1, 0, none⟩ (.int .i64 x)).setCell ⟨w.heap.size + 1 + 1, 1, none⟩ (.int .i64 y)) = V2 at *
  go_cut [7, 8] (fun s7 s8 wc => Two w a b c d e f g h x y s7 s8 wc)
  case first =>
    have C1 := Lib.hid (fun w => corners_eq a b c d w)
    have C2 := Lib.hid (fun w => corners_eq e f g h w)
    obtain ⟨⟨⟨i0, i1, i2, i3, il⟩, fi⟩, ⟨⟨j0, j1, j2, j3, jl⟩, fj⟩, ⟨⟨q0, q1, ql⟩, fq⟩⟩ := F2.out
    go_region_held3 (fun w' => w'.cell? ⟨w.heap.size, 0, none⟩ = some (.int .i64 a) ∧ w'.cell? ⟨w.heap.size, 1, none⟩ = some (.int .i64 b) ∧ w'.cell? ⟨w.heap.size, 2, none⟩ = some (.int .i64 c) ∧ w'.cell? ⟨w.heap.size, 3, none⟩ = some (.int .i64 d) ∧ w'.cell? ⟨w.heap.size + 1, 0, none⟩ = some (.int .i64 e) ∧ w'.cell? ⟨w.heap.size + 1, 1, none⟩ = some (.int .i64 f) ∧ w'.cell? ⟨w.heap.size + 1, 2, none⟩ = some (.int .i64 g) ∧ w'.cell? ⟨w.heap.size + 1, 3, none⟩ = some (.int .i64 h)) (first | (refine bbp_cells (x := x) (y := y) ?_; repeat (first | exact F2.out | refine BBP.alloc ?_ _ | refine BBP.drew ?_)))
      (first | (go_at_call 20; (with_reducible refine (C1.out _).mono ?_); rintro r w' ⟨rfl, rfl⟩) | (go_at_call 20; (with_reducible refine (C2.out _).mono ?_); rintro r w' ⟨rfl, rfl⟩))
    all_goals go_wp2
    all_goals go_meet
    all_goals
      refine ⟨_, _, rfl, rfl, ?_, ?_, ?_, ?_⟩
      · repeat (first | (refine eightAt_at ?_; simp; done) | refine EightAt.alloc ?_ _ | refine EightAt.drew ?_)
      · repeat (first | (refine eightAt_at ?_; simp; done) | refine EightAt.alloc ?_ _ | refine EightAt.drew ?_)
      · repeat (first | exact F2.out | refine BBP.alloc ?_ _ | refine BBP.drew ?_)
      · repeat (first | exact B2.out | refine bel_alloc ?_ _ | refine bel_drew ?_)
  case rest =>
    obtain ⟨p, q, rfl, rfl, hP, hQ, hF, hB⟩ := hcut
    clear F2 B2
    have P := Lib.hid hP
    have Q := Lib.hid hQ
    have F := Lib.hid hF
    have B := Lib.hid hB
    clear hP hQ hF hB
    go_upto_region 3 with (fail)
    go_cut [9, 10] (fun s9 s10 wc => Con w a b c d e f g h x y s9 s10 wc)
    case first =>
      obtain ⟨g0, g1, g2, g3, g4, g5, g6, g7, gl⟩ := P.out
      obtain ⟨h0, h1, h2, h3, h4, h5, h6, h7, hl⟩ := Q.out
      go_region_held3 (fun w' => w'.cell? ⟨p, 0, none⟩ = some (.int .i64 a) ∧ w'.cell? ⟨p, 1, none⟩ = some (.int .i64 b) ∧ w'.cell? ⟨p, 2, none⟩ = some (.int .i64 c) ∧ w'.cell? ⟨p, 3, none⟩ = some (.int .i64 b) ∧ w'.cell? ⟨p, 4, none⟩ = some (.int .i64 a) ∧ w'.cell? ⟨p, 5, none⟩ = some (.int .i64 d) ∧ w'.cell? ⟨p, 6, none⟩ = some (.int .i64 c) ∧ w'.cell? ⟨p, 7, none⟩ = some (.int .i64 d) ∧ w'.cell? ⟨q, 0, none⟩ = some (.int .i64 e) ∧ w'.cell? ⟨q, 1, none⟩ = some (.int .i64 f) ∧ w'.cell? ⟨q, 2, none⟩ = some (.int .i64 g) ∧ w'.cell? ⟨q, 3, none⟩ = some (.int .i64 f) ∧ w'.cell? ⟨q, 4, none⟩ = some (.int .i64 e) ∧ w'.cell? ⟨q, 5, none⟩ = some (.int .i64 h) ∧ w'.cell? ⟨q, 6, none⟩ = some (.int .i64 g) ∧ w'.cell? ⟨q, 7, none⟩ = some (.int .i64 h)) (first | (refine eights_cells ?_ ?_ <;> repeat (first | exact P.out | exact Q.out | refine EightAt.alloc ?_ _ | refine EightAt.drew ?_)))
        (first | fail)
      all_goals go_wp2_with fail
      all_goals go_meet
      · have z := two_new wc (cs := #[.int .i64 a, .int .i64 b, .int .i64 c, .int .i64 b, .int .i64 c, .int .i64 d, .int .i64 a, .int .i64 d]) (cs' := #[.int .i64 e, .int .i64 h, .int .i64 g, .int .i64 h, .int .i64 g, .int .i64 f, .int .i64 e, .int .i64 f]) (tp := 23) (c := rectX a b c d) (c' := rectY e f g h) (n := 4) rfl rfl rfl rfl
        exact ⟨_, _, rfl, rfl, z.1, z.2, F.out.later (bel_drew (bel_alloc (bel_alloc (bel_refl wc) _) _)), bel_drew (bel_alloc (bel_alloc B.out _) _)⟩
      · have z := two_new wc (cs' := #[.int .i64 a, .int .i64 b, .int .i64 c, .int .i64 b, .int .i64 c, .int .i64 d, .int .i64 a, .int .i64 d]) (cs := #[.int .i64 e, .int .i64 h, .int .i64 g, .int .i64 h, .int .i64 g, .int .i64 f, .int .i64 e, .int .i64 f]) (tp := 23) (c' := rectX a b c d) (c := rectY e f g h) (n := 4) rfl rfl rfl rfl
        exact ⟨_, _, rfl, rfl, z.2, z.1, F.out.later (bel_drew (bel_alloc (bel_alloc (bel_refl wc) _) _)), bel_drew (bel_alloc (bel_alloc B.out _) _)⟩
    case rest =>
    obtain ⟨p, q, rfl, rfl, hP, hQ, hF, hB⟩ := hcut
    clear P Q F B
    have P := Lib.hid hP
    have Q := Lib.hid hQ
    have F := Lib.hid hF
    have B := Lib.hid hB
    clear hP hQ hF hB
    obtain ⟨i, hi⟩ : ∃ r, hasB a b c d x y = r := ⟨_, rfl⟩
    obtain ⟨r, hr⟩ : ∃ r, rimB a b c d x y = r := ⟨_, rfl⟩
    have HI := Lib.hid hi
    have HR := Lib.hid hr
    have KH := Lib.hid (fun w => refHas_is hi w)
    clear hi hr
    go_upto_region 4 with (fail)
    go_cut [11, 12] (fun s1 s2 wc => Told w a b c d e f g h x y p q i r s1 s2 wc)
    case first =>
      obtain ⟨⟨⟨i0, i1, i2, i3, il⟩, fi⟩, ⟨⟨j0, j1, j2, j3, jl⟩, fj⟩, ⟨⟨q0, q1, ql⟩, fq⟩⟩ := F.out
      have i0 := cell_regrown i0
      have i1 := cell_regrown i1
      have i2 := cell_regrown i2
      have i3 := cell_regrown i3
      have q0 := cell_regrown q0
      have q1 := cell_regrown q1
      have D1 := Lib.hid (fun p : Regrown => Calls.regrown_of (KH.out (grow (redrawn wc p.d) p.os)))
      rcases rim_cases HI.out HR.out with ⟨rfl, rfl⟩ | ⟨rfl, t1, rfl⟩ | ⟨rfl, t1, t2, rfl⟩ | ⟨rfl, t1, t2, t3, rfl⟩ | ⟨rfl, t1, t2, t3, t4, rfl⟩ | ⟨rfl, t1, t2, t3, t4, rfl⟩
      all_goals
        refine wp_region_quiet_below (by kernel_rfl) (by kernel_rfl) ?_
        repeat (go_big_quiet_step (with_reducible exact D1.out _))
        refine wpQuiet_nil ?_
        intro _ hw'
        obtain ⟨⟨dr, osr⟩, hw''⟩ := hw'
        subst hw''
        have zz := below_regrown wc dr osr
        go_wp2_with fail
        go_meet
        exact ⟨rfl, rfl, P.out.on zz, Q.out.on zz, F.out.later zz, bel_trans B.out zz⟩
    case rest =>
    obtain ⟨rfl, rfl, hP, hQ, hF, hB⟩ := hcut
    clear P Q F B KH
    have P := Lib.hid hP
    have Q := Lib.hid hQ
    have F := Lib.hid hF
    have B := Lib.hid hB
    clear hP hQ hF hB
    obtain ⟨j, hj⟩ : ∃ r, hasB e f g h x y = r := ⟨_, rfl⟩
    obtain ⟨s, hs⟩ : ∃ r, rimB e f g h x y = r := ⟨_, rfl⟩
    have HJ := Lib.hid hj
    have HS := Lib.hid hs
    have KH := Lib.hid (fun w => refHas_is hj w)
    clear hj hs
    go_upto_region 5 with (fail)
    go_cut [13, 14] (fun s1 s2 wc => Told w a b c d e f g h x y p q j s s1 s2 wc)
    case first =>
      obtain ⟨⟨⟨i0, i1, i2, i3, il⟩, fi⟩, ⟨⟨j0, j1, j2, j3, jl⟩, fj⟩, ⟨⟨q0, q1, ql⟩, fq⟩⟩ := F.out
      have j0 := cell_regrown j0
      have j1 := cell_regrown j1
      have j2 := cell_regrown j2
      have j3 := cell_regrown j3
      have q0 := cell_regrown q0
      have q1 := cell_regrown q1
      have D1 := Lib.hid (fun p : Regrown => Calls.regrown_of (KH.out (grow (redrawn wc p.d) p.os)))
      rcases rim_cases HJ.out HS.out with ⟨rfl, rfl⟩ | ⟨rfl, t1, rfl⟩ | ⟨rfl, t1, t2, rfl⟩ | ⟨rfl, t1, t2, t3, rfl⟩ | ⟨rfl, t1, t2, t3, t4, rfl⟩ | ⟨rfl, t1, t2, t3, t4, rfl⟩
      all_goals
        refine wp_region_quiet_below (by kernel_rfl) (by kernel_rfl) ?_
        repeat (go_big_quiet_step (with_reducible exact D1.out _))
        refine wpQuiet_nil ?_
        intro _ hw'
        obtain ⟨⟨dr, osr⟩, hw''⟩ := hw'
        subst hw''
        have zz := below_regrown wc dr osr
        go_wp2_with fail
        go_meet
        exact ⟨rfl, rfl, P.out.on zz, Q.out.on zz, F.out.later zz, bel_trans B.out zz⟩
    case rest =>
    obtain ⟨rfl, rfl, hP, hQ, hF, hB⟩ := hcut
    clear P Q F B KH
    have P := Lib.hid hP
    have Q := Lib.hid hQ
    have F := Lib.hid hF
    have B := Lib.hid hB
    clear hP hQ hF hB
    obtain ⟨o, ho⟩ : ∃ o, (r || s || (i != j)) = o := ⟨_, rfl⟩
    have HO := Lib.hid ho
    have W1 := Lib.hid (fine_rect a b c d e f g h (by omega) (by omega) (by omega) (by omega) (by omega) (by omega) (by omega) (by omega))
    have E1 := Lib.hid ((rect_one ha.2.1 hb.2.1 x y).trans HI.out)
    have E2 := Lib.hid ((rect_two ha.2.1 hb.2.1 x y).trans HR.out)
    have E3 := Lib.hid (show hasE (edgesL [rectX a b c d, rectY e f g h]) (x, y) = o by rw [rect_hole ha.2.1 hb.2.1 he.2.1 hf.2.1, HI.out, HJ.out, HR.out, HS.out]; exact ho)
    have K1 := Lib.hid (fun w v hR => polyHas_is (w := w) (v := v) W1.out.1 E1.out (by omega) (by omega) (by omega) (by omega) hR)
    have K2 := Lib.hid (fun w v hR => polyHas_is (w := w) (v := v) W1.out.2.1 E2.out (by omega) (by omega) (by omega) (by omega) hR)
    have K3 := Lib.hid (fun w v hR => polyHas_is (w := w) (v := v) W1.out.2.2 E3.out (by omega) (by omega) (by omega) (by omega) hR)
    clear ho
    have L1 := Lib.hid (K1.out _ _ (rows_one (t := 29) P.out))
    obtain ⟨⟨⟨i0, i1, i2, i3, il⟩, fi⟩, ⟨⟨j0, j1, j2, j3, jl⟩, fj⟩, ⟨⟨q0, q1, ql⟩, fq⟩⟩ := F.out
    go_wp2_with fail
    refine L1.out.mono ?_; rintro z w5 ⟨rfl, b5⟩
    have z5 := bel_trans (bel_alloc (bel_refl wc) (.cells #[.slice (some ⟨p, 0, none⟩) 4 4] 29)) b5
    have P5 := Lib.hid (P.out.on z5)
    have Q5 := Lib.hid (Q.out.on z5)
    have F5 := Lib.hid (F.out.later z5)
    have B5 := Lib.hid (bel_trans B.out z5)
    clear b5 z5 P Q F B L1 i0 i1 i2 i3 il fi j0 j1 j2 j3 jl fj q0 q1 ql fq
    have L2 := Lib.hid (K2.out _ _ (rows_two (t := 29) P5.out P5.out))
    obtain ⟨⟨⟨i0, i1, i2, i3, il⟩, fi⟩, ⟨⟨j0, j1, j2, j3, jl⟩, fj⟩, ⟨⟨q0, q1, ql⟩, fq⟩⟩ := F5.out
    go_wp2_with fail
    refine L2.out.mono ?_; rintro z w6 ⟨rfl, b6⟩
    have z6 := bel_trans (bel_alloc (bel_refl w5) (.cells #[.slice (some ⟨p, 0, none⟩) 4 4, .slice (some ⟨p, 0, none⟩) 4 4] 29)) b6
    have P6 := Lib.hid (P5.out.on z6)
    have Q6 := Lib.hid (Q5.out.on z6)
    have F6 := Lib.hid (F5.out.later z6)
    have B6 := Lib.hid (bel_trans B5.out z6)
    clear b6 z6 P5 Q5 F5 B5 L2 i0 i1 i2 i3 il fi j0 j1 j2 j3 jl fj q0 q1 ql fq
    have L3 := Lib.hid (K3.out _ _ (rows_two (t := 29) P6.out Q6.out))
    obtain ⟨⟨⟨i0, i1, i2, i3, il⟩, fi⟩, ⟨⟨j0, j1, j2, j3, jl⟩, fj⟩, ⟨⟨q0, q1, ql⟩, fq⟩⟩ := F6.out
    go_wp2_with fail
    refine L3.out.mono ?_; rintro z w7 ⟨rfl, b7⟩
    have B7 := Lib.hid (bel_trans (bel_alloc B6.out (.cells #[.slice (some ⟨p, 0, none⟩) 4 4, .slice (some ⟨q, 0, none⟩) 4 4] 29)) b7)
    clear b7 P6 Q6 F6 B6 L3 i0 i1 i2 i3 il fi j0 j1 j2 j3 jl fj q0 q1 ql fq
    have AW := Lib.hid (awake_any w7)
    have HO2 := HO.out
    have HO := Lib.hid HO2
    clear HO2
    clear HI HJ HR HS E1 E2 E3 K1 K2 K3 W1
    cases r
    · cases s
      · cases i <;> cases j
        all_goals
          obtain rfl := HO.out
          go_wp2_with fail
          refine AW.out.mono ?_; rintro z w8 ⟨rfl, b8⟩
          go_wp2
          go_ret
          exact ⟨rfl, bel_trans B7.out b8⟩
      · obtain rfl : true = o := HO.out
        go_wp2_with fail
        refine AW.out.mono ?_; rintro z w8 ⟨rfl, b8⟩
        go_wp2
        go_ret
        exact ⟨rfl, bel_trans B7.out b8⟩
    · obtain rfl : true = o := HO.out
      go_wp2_with fail
      refine AW.out.mono ?_; rintro z w8 ⟨rfl, b8⟩
      go_wp2
      go_ret
      exact ⟨rfl, bel_trans B7.out b8⟩
theorem walk (k0 k1 k2 k3 l0 l1 l2 l3 m0 m1 : Int) (_ : -9223372036854775808 ≤ k0) (_ : k0 ≤ 9223372036854775807) (_ : -9223372036854775808 ≤ k1) (_ : k1 ≤ 9223372036854775807) (_ : -9223372036854775808 ≤ k2) (_ : k2 ≤ 9223372036854775807) (_ : -9223372036854775808 ≤ k3) (_ : k3 ≤ 9223372036854775807) (_ : -9223372036854775808 ≤ l0) (_ : l0 ≤ 9223372036854775807) (_ : -9223372036854775808 ≤ l1) (_ : l1 ≤ 9223372036854775807) (_ : -9223372036854775808 ≤ l2) (_ : l2 ≤ 9223372036854775807) (_ : -9223372036854775808 ≤ l3) (_ : l3 ≤ 9223372036854775807) (_ : -9223372036854775808 ≤ m0) (_ : m0 ≤ 9223372036854775807) (_ : -9223372036854775808 ≤ m1) (_ : m1 ≤ 9223372036854775807) (w : World) :
    Calls Try.prog 7 #[boxV k0 k1 k2 k3, boxV l0 l1 l2 l3, ptV m0 m1] w fun r w' => r = .returned (.bool true) ∧ Below w.heap.size w w' := by
  obtain ⟨a, b, c, d, g1, g2, X1⟩ := small_form k0 k1 k2 k3
  obtain ⟨e, f, g, h, g3, g4, X2⟩ := small_form l0 l1 l2 l3
  obtain ⟨x, x0, x1, ex⟩ := tmod_at m0 31 (by omega)
  obtain ⟨y, y0, y1, ey⟩ := tmod_at m1 31 (by omega)
  exact core k0 k1 k2 k3 l0 l1 l2 l3 m0 m1 a b c d e f g h x y (by omega) (by omega) (by omega) (by omega) (by omega) X1 X2 (fun w => close_below ex ey w) w

theorem own : ownKnob Try.prog.godebug = none := by kernel_rfl
set_option maxRecDepth 100000 in
set_option maxHeartbeats 4000000 in
theorem lifted (os : Os) (started : os.Started) (H : Type) (enc : TypeId × Value → H) :
    ReturnsInHanded {} Try.checked os 7 .any (Rows.polyOddSpec.pre6 enc Try.prog Try.f7 Rows.polyOddRow.domain false) (Rows.polyOddSpec.post enc Try.prog Try.f7 false true false false) := by
  refine returnsInHanded_of_change (C := Try.checked) own started (by kernel_rfl) Try.func7
    (ChangeSpec.witness6 (enc := enc) (C := Try.checked) false ⟨#[], #[.agg #[.int .i64 0, .int .i64 0, .int .i64 0, .int .i64 0], .agg #[.int .i64 0, .int .i64 0, .int .i64 0, .int .i64 0], .agg #[.int .i64 0, .int .i64 0]], []⟩ 8 (by kernel_rfl) (by kernel_rfl) (by kernel_rfl) (by kernel_rfl)) ?_
  intro W base args ds gs before hval0 hW _ _
  have hval : ∀ (j : Nat) t v, Try.f7.params[j]? = some t → args[j]? = some v → Value.okWide Try.prog W .any base t v := hval0
  have hW' := hW
  obtain ⟨p, q, hA0, hV, rfl, hfz, hnd⟩ := hW
  have hA : DataW.TrodAll enc Try.prog W 0 (fun _ => true) true Try.f7.params.toList args.toList ds p := hA0
  rw [Try.params7] at hA hval
  obtain ⟨v0, vs0, d0, ds0, p0, q0, hargs, rfl, rfl, h0, r0⟩ := trodAll_cons hA
  obtain ⟨v1, vs1, d1, ds1, p1, q1, rfl, rfl, rfl, h1, r1⟩ := trodAll_cons r0
  obtain ⟨v2, vs2, d2, ds2, p2, q2, rfl, rfl, rfl, h2, r2⟩ := trodAll_cons r1
  obtain ⟨rfl, rfl, rfl⟩ := trodAll_nil r2
  obtain rfl : args = #[v0, v1, v2] := by cases args; simp_all
  obtain ⟨rfl, rfl⟩ := trodVars_none hV
  obtain ⟨c0_0, c0_1, c0_2, c0_3, y0_0, y0_1, y0_2, y0_3, m0, rfl, rfl, rfl, k0_0, k0_1, k0_2, k0_3⟩ := open_agg4 Try.underlying33 (by kernel_rfl) (by kernel_rfl) (hval 0 33 v0 rfl rfl) h0
  obtain ⟨a0_0, ea0_0, rfl, wa0_0⟩ := DataW.trod_int Try.underlying2 k0_0
  simp at ea0_0; subst ea0_0
  obtain ⟨a0_1, ea0_1, rfl, wa0_1⟩ := DataW.trod_int Try.underlying2 k0_1
  simp at ea0_1; subst ea0_1
  obtain ⟨a0_2, ea0_2, rfl, wa0_2⟩ := DataW.trod_int Try.underlying2 k0_2
  simp at ea0_2; subst ea0_2
  obtain ⟨a0_3, ea0_3, rfl, wa0_3⟩ := DataW.trod_int Try.underlying2 k0_3
  simp at ea0_3; subst ea0_3
  obtain ⟨c1_0, c1_1, c1_2, c1_3, y1_0, y1_1, y1_2, y1_3, m1, rfl, rfl, rfl, k1_0, k1_1, k1_2, k1_3⟩ := open_agg4 Try.underlying33 (by kernel_rfl) (by kernel_rfl) (hval 1 33 v1 rfl rfl) h1
  obtain ⟨a1_0, ea1_0, rfl, wa1_0⟩ := DataW.trod_int Try.underlying2 k1_0
  simp at ea1_0; subst ea1_0
  obtain ⟨a1_1, ea1_1, rfl, wa1_1⟩ := DataW.trod_int Try.underlying2 k1_1
  simp at ea1_1; subst ea1_1
  obtain ⟨a1_2, ea1_2, rfl, wa1_2⟩ := DataW.trod_int Try.underlying2 k1_2
  simp at ea1_2; subst ea1_2
  obtain ⟨a1_3, ea1_3, rfl, wa1_3⟩ := DataW.trod_int Try.underlying2 k1_3
  simp at ea1_3; subst ea1_3
  obtain ⟨c2_0, c2_1, y2_0, y2_1, m2, rfl, rfl, rfl, k2_0, k2_1⟩ := open_agg2 Try.underlying23 (by kernel_rfl) (by kernel_rfl) (hval 2 23 v2 rfl rfl) h2
  obtain ⟨a2_0, ea2_0, rfl, wa2_0⟩ := DataW.trod_int Try.underlying2 k2_0
  simp at ea2_0; subst ea2_0
  obtain ⟨a2_1, ea2_1, rfl, wa2_1⟩ := DataW.trod_int Try.underlying2 k2_1
  simp at ea2_1; subst ea2_1
  have s0 : ∀ (W' : World) (sp : Nat → Bool), DataW.Trod enc Try.prog W' 0 sp true 33 (.agg #[.int .i64 a0_0, .int .i64 a0_1, .int .i64 a0_2, .int .i64 a0_3]) (.agg [.lit (.int .i64 a0_0), .lit (.int .i64 a0_1), .lit (.int .i64 a0_2), .lit (.int .i64 a0_3)]) [] := fun W' sp =>
    shut_agg4 (y0 := (.lit (.int .i64 a0_0), [])) (y1 := (.lit (.int .i64 a0_1), [])) (y2 := (.lit (.int .i64 a0_2), [])) (y3 := (.lit (.int .i64 a0_3), [])) Try.underlying33 (by kernel_rfl) (by kernel_rfl) ⟨1, by simp [DataW.trod, Try.underlying2, wa0_0]⟩ ⟨1, by simp [DataW.trod, Try.underlying2, wa0_1]⟩ ⟨1, by simp [DataW.trod, Try.underlying2, wa0_2]⟩ ⟨1, by simp [DataW.trod, Try.underlying2, wa0_3]⟩
  have s1 : ∀ (W' : World) (sp : Nat → Bool), DataW.Trod enc Try.prog W' 0 sp true 33 (.agg #[.int .i64 a1_0, .int .i64 a1_1, .int .i64 a1_2, .int .i64 a1_3]) (.agg [.lit (.int .i64 a1_0), .lit (.int .i64 a1_1), .lit (.int .i64 a1_2), .lit (.int .i64 a1_3)]) [] := fun W' sp =>
    shut_agg4 (y0 := (.lit (.int .i64 a1_0), [])) (y1 := (.lit (.int .i64 a1_1), [])) (y2 := (.lit (.int .i64 a1_2), [])) (y3 := (.lit (.int .i64 a1_3), [])) Try.underlying33 (by kernel_rfl) (by kernel_rfl) ⟨1, by simp [DataW.trod, Try.underlying2, wa1_0]⟩ ⟨1, by simp [DataW.trod, Try.underlying2, wa1_1]⟩ ⟨1, by simp [DataW.trod, Try.underlying2, wa1_2]⟩ ⟨1, by simp [DataW.trod, Try.underlying2, wa1_3]⟩
  have s2 : ∀ (W' : World) (sp : Nat → Bool), DataW.Trod enc Try.prog W' 0 sp true 23 (.agg #[.int .i64 a2_0, .int .i64 a2_1]) (.agg [.lit (.int .i64 a2_0), .lit (.int .i64 a2_1)]) [] := fun W' sp =>
    shut_agg2 (y0 := (.lit (.int .i64 a2_0), [])) (y1 := (.lit (.int .i64 a2_1), [])) Try.underlying23 (by kernel_rfl) (by kernel_rfl) ⟨1, by simp [DataW.trod, Try.underlying2, wa2_0]⟩ ⟨1, by simp [DataW.trod, Try.underlying2, wa2_1]⟩
  clear hA0 hval0
  simp only [List.append_nil] at hW'
  refine (walk a0_0 a0_1 a0_2 a0_3 a1_0 a1_1 a1_2 a1_3 a2_0 a2_1 (bounds_i64 wa0_0).1 (bounds_i64 wa0_0).2 (bounds_i64 wa0_1).1 (bounds_i64 wa0_1).2 (bounds_i64 wa0_2).1 (bounds_i64 wa0_2).2 (bounds_i64 wa0_3).1 (bounds_i64 wa0_3).2 (bounds_i64 wa1_0).1 (bounds_i64 wa1_0).2 (bounds_i64 wa1_1).1 (bounds_i64 wa1_1).2 (bounds_i64 wa1_2).1 (bounds_i64 wa1_2).2 (bounds_i64 wa1_3).1 (bounds_i64 wa1_3).2 (bounds_i64 wa2_0).1 (bounds_i64 wa2_0).2 (bounds_i64 wa2_1).1 (bounds_i64 wa2_1).2 W).mono fun e W' ⟨he, bel⟩ => ?_
  subst he
  exact ⟨_, rfl, _, _, _, [], _, [], hW', trodAll_mk1 (shut_bool Try.underlying4 _), (trodAll_cons_mk (s0 _ _) (trodAll_cons_mk (s1 _ _) (trodAll_cons_mk (s2 _ _) trodAll_mk0))), rfl, bel.frame _, fun h => by cases h⟩
theorem over : Rows.polyOddRow.holds Try.pinned (OpenSpec.ofChange Rows.polyOddSpec) :=
  OpenClaim.holds_of_wide 7 Try.f7 rfl rfl rfl rfl rfl rfl rfl ⟨rfl, rfl, rfl, rfl, rfl⟩ rfl rfl rfl rfl rfl (by kernel_rfl) Try.func7 (by kernel_rfl)
    (of_decide_eq_true (by kernel_rfl)) (by unfold Func.isWrapper; first | (rw [if_pos (by decide +kernel)]; kernel_rfl) | (rw [if_neg (by decide +kernel)]; exact ⟨rfl, rfl⟩))
    (fun os started H enc _ => lifted os started H enc)
theorem proved : Rows.PolyOddSaid := over
#print axioms proved
end Go.Proofs.Ytcpnfafhekgabaa.polyOdd
