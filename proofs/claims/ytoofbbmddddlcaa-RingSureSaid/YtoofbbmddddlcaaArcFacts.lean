/- Contract of the laws' helper of layer 9: an arc, of a centre and numbers. The arcs that the laws make are arcs, and are not too far. -/
import Derived.Test.YtoofbbmddddlcaaLaws7
import Derived.Test.YtoofbbmddddlcaaHeldBox
import Derived.Test.YtoofbbmddddlcaaStray
import Derived.Test.YtoofbbmddddlcaaMask
import Derived.BigRegion
import Derived.BigQuiet
import Derived.Test.YtoofbbmddddlcaaRingMove
namespace Go.Proofs.Ytoofbbmddddlcaa
open Go.RowKit
open Go.Sort (grow)

def twX : Nat → Int
  | 0 => 5 | 1 => 4 | 2 => 3 | 3 => 0 | 4 => -3 | 5 => -4 | 6 => -5 | 7 => -4 | 8 => -3 | 9 => 0 | 10 => 3 | _ => 4
def twY : Nat → Int
  | 0 => 0 | 1 => 3 | 2 => 4 | 3 => 5 | 4 => 4 | 5 => 3 | 6 => 0 | 7 => -3 | 8 => -4 | 9 => -5 | 10 => -4 | _ => -3
theorem twelve_of {q : Nat} (hq : q < 12) : q = 0 ∨ q = 1 ∨ q = 2 ∨ q = 3 ∨ q = 4 ∨ q = 5 ∨ q = 6 ∨ q = 7 ∨ q = 8 ∨ q = 9 ∨ q = 10 ∨ q = 11 := by omega
theorem tw_bd {q : Nat} (hq : q < 12) : (-5 ≤ twX q ∧ twX q ≤ 5) ∧ (-5 ≤ twY q ∧ twY q ≤ 5) ∧ twX q * twX q + twY q * twY q = 25 := by
  rcases twelve_of hq with rfl | rfl | rfl | rfl | rfl | rfl | rfl | rfl | rfl | rfl | rfl | rfl <;> decide
abbrev twCells : Array Value := #[.int .i64 5, .int .i64 0, .int .i64 4, .int .i64 3, .int .i64 3, .int .i64 4, .int .i64 0, .int .i64 5, .int .i64 (-3), .int .i64 4, .int .i64 (-4), .int .i64 3, .int .i64 (-5), .int .i64 0, .int .i64 (-4), .int .i64 (-3), .int .i64 (-3), .int .i64 (-4), .int .i64 0, .int .i64 (-5), .int .i64 3, .int .i64 (-4), .int .i64 4, .int .i64 (-3)]
/-- The twelve points in a block. -/
structure TwAt (w : World) (g : Nat) : Prop where
  lt : g < w.heap.size
  x : ∀ q : Nat, q < 12 → w.cell? ⟨g, q * 2, none⟩ = some (.int .i64 (twX q))
  y : ∀ q : Nat, q < 12 → w.cell? ⟨g, q * 2 + 1, none⟩ = some (.int .i64 (twY q))
theorem twAt_new (w : World) (n : TypeId) : TwAt (w.alloc (.cells twCells n)) w.heap.size := by
  refine ⟨by simp, fun q hq => ?_, fun q hq => ?_⟩
  all_goals
    rcases twelve_of hq with rfl | rfl | rfl | rfl | rfl | rfl | rfl | rfl | rfl | rfl | rfl | rfl
    all_goals simp [twX, twY]
def arcQ (a : Int) : Nat := ((a % 256).tmod 12).toNat
theorem arcQ_lt (a : Int) : arcQ a < 12 := by
  have h := Int.tmod_eq_emod_of_nonneg (b := 12) (show 0 ≤ a % 256 by omega)
  unfold arcQ; omega
theorem arcQ_at (a : Int) : ∃ u : Int, bits .and .i64 a 255 = u ∧ u.tmod 12 = (arcQ a : Int) ∧ 0 ≤ u ∧ u ≤ 255 := by
  refine ⟨a % 256, mask_emod a 8 (by omega), ?_, by omega, by omega⟩
  have h := Int.tmod_eq_emod_of_nonneg (b := 12) (show 0 ≤ a % 256 by omega)
  unfold arcQ; omega
/-- How many times as great. -/
def arcK (z : Int) (sm : Bool) : Int := if sm then (IntKind.u64.wrap z % 20000000 + 1) % 4 + 1 else IntKind.u64.wrap z % 20000000 + 1
theorem arcK_bd (z : Int) (sm : Bool) : 1 ≤ arcK z sm ∧ arcK z sm ≤ 20000000 ∧ (sm = true → arcK z sm ≤ 4) := by
  unfold arcK
  cases sm with
  | false => rw [if_neg (by decide)]; exact ⟨by omega, by omega, fun h => absurd h (by decide)⟩
  | true => rw [if_pos rfl]; exact ⟨by omega, by omega, fun _ => by omega⟩
/-- The arc in work: the centre, three results, and both ends' points in blocks of their own. -/
def ArcAt (w : World) (x y a b e f : Int) (s14 s15 : Value) (wc : World) : Prop :=
  ∃ p q : Nat, s14 = .pointer (some ⟨p, 0, none⟩) ∧ s15 = .pointer (some ⟨q, 0, none⟩) ∧ w.heap.size + 4 < p ∧ w.heap.size + 4 < q ∧ PtAt wc p a b ∧ PtAt wc q e f ∧
    PtIn wc w.heap.size x y ∧ PtIn wc (w.heap.size + 1) 0 0 ∧ PtIn wc (w.heap.size + 1 + 1) 0 0 ∧ PtIn wc (w.heap.size + 1 + 1 + 1) 0 0 ∧ Below w.heap.size w wc
theorem arc_two {w W : World} {x y : Int} (a b e f : Int) (n : TypeId) (h0 : PtIn W w.heap.size x y) (h1 : PtIn W (w.heap.size + 1) 0 0) (h2 : PtIn W (w.heap.size + 1 + 1) 0 0) (h3 : PtIn W (w.heap.size + 1 + 1 + 1) 0 0) (hs : w.heap.size + 4 < W.heap.size) (hB : Below w.heap.size w W) :
    ArcAt w x y a b e f (.pointer (some ⟨W.heap.size, 0, none⟩)) (.pointer (some ⟨W.heap.size + 1, 0, none⟩)) (((W.alloc (.cells #[.int .i64 a, .int .i64 b] n)).alloc (.cells #[.int .i64 e, .int .i64 f] n)).drew) ∧
    ArcAt w x y a b e f (.pointer (some ⟨W.heap.size + 1, 0, none⟩)) (.pointer (some ⟨W.heap.size, 0, none⟩)) (((W.alloc (.cells #[.int .i64 e, .int .i64 f] n)).alloc (.cells #[.int .i64 a, .int .i64 b] n)).drew) := by
  have hz : ∀ o : Obj, (W.alloc o).heap.size = W.heap.size + 1 := by intro o; simp
  constructor
  · have k := bel_drew (bel_alloc (bel_alloc (bel_refl W) (.cells #[.int .i64 a, .int .i64 b] n)) (.cells #[.int .i64 e, .int .i64 f] n))
    refine ⟨_, _, rfl, rfl, hs, by omega, (((ptAt_new W a b n).alloc _)).drew, ?_, h0.later k, h1.later k, h2.later k, h3.later k, bel_trans hB k⟩
    have g := ptAt_new (W.alloc (.cells #[.int .i64 a, .int .i64 b] n)) e f n
    rw [hz] at g
    exact g.drew
  · have k := bel_drew (bel_alloc (bel_alloc (bel_refl W) (.cells #[.int .i64 e, .int .i64 f] n)) (.cells #[.int .i64 a, .int .i64 b] n))
    refine ⟨_, _, rfl, rfl, by omega, hs, ?_, (((ptAt_new W e f n).alloc _)).drew, h0.later k, h1.later k, h2.later k, h3.later k, bel_trans hB k⟩
    have g := ptAt_new (W.alloc (.cells #[.int .i64 e, .int .i64 f] n)) a b n
    rw [hz] at g
    exact g.drew
abbrev newArc (w : World) (x y : Int) (tp ts : TypeId) : World := ((((w.alloc (.cells #[.int .i64 x, .int .i64 y] tp)).alloc (.cells #[.int .i64 0, .int .i64 0] tp)).alloc (.cells #[.int .i64 0, .int .i64 0] tp)).alloc (.cells #[.int .i64 0, .int .i64 0] tp)).alloc (.cells twCells ts)
theorem arc_blocks (w : World) (x y : Int) (tp ts : TypeId) : PtIn (newArc w x y tp ts) w.heap.size x y ∧ PtIn (newArc w x y tp ts) (w.heap.size + 1) 0 0 ∧ PtIn (newArc w x y tp ts) (w.heap.size + 1 + 1) 0 0 ∧ PtIn (newArc w x y tp ts) (w.heap.size + 1 + 1 + 1) 0 0 ∧ TwAt (newArc w x y tp ts) (w.heap.size + 1 + 1 + 1 + 1) ∧ (newArc w x y tp ts).heap.size = w.heap.size + 5 ∧ Below w.heap.size w (newArc w x y tp ts) := by
  have hz : ∀ (w : World) (o : Obj), (w.alloc o).heap.size = w.heap.size + 1 := by intro w o; simp
  have g1 := ptIn_new (w.alloc (.cells #[.int .i64 x, .int .i64 y] tp)) 0 0 tp
  have g2 := ptIn_new ((w.alloc (.cells #[.int .i64 x, .int .i64 y] tp)).alloc (.cells #[.int .i64 0, .int .i64 0] tp)) 0 0 tp
  have g3 := ptIn_new (((w.alloc (.cells #[.int .i64 x, .int .i64 y] tp)).alloc (.cells #[.int .i64 0, .int .i64 0] tp)).alloc (.cells #[.int .i64 0, .int .i64 0] tp)) 0 0 tp
  have g4 := twAt_new ((((w.alloc (.cells #[.int .i64 x, .int .i64 y] tp)).alloc (.cells #[.int .i64 0, .int .i64 0] tp)).alloc (.cells #[.int .i64 0, .int .i64 0] tp)).alloc (.cells #[.int .i64 0, .int .i64 0] tp)) ts
  rw [hz] at g1
  rw [hz, hz] at g2
  rw [hz, hz, hz] at g3
  rw [hz, hz, hz, hz] at g4
  refine ⟨((((ptIn_new w x y tp).alloc _).alloc _).alloc _).alloc _, ((g1.alloc _).alloc _).alloc _, (g2.alloc _).alloc _, g3.alloc _, g4, by simp, bel_alloc (bel_alloc (bel_alloc (bel_alloc (bel_alloc (bel_refl w) _) _) _) _) _⟩
/-- The centre moved near, and so many times. -/
def ArcMid (w : World) (k x y a b e f : Int) (p q : Nat) (s16 : Value) (wc : World) : Prop :=
  s16 = .int .i64 k ∧ PtAt wc p a b ∧ PtAt wc q e f ∧ PtIn wc w.heap.size x y ∧ PtIn wc (w.heap.size + 1) 0 0 ∧ PtIn wc (w.heap.size + 1 + 1) 0 0 ∧ PtIn wc (w.heap.size + 1 + 1 + 1) 0 0 ∧ Below w.heap.size w wc

/-- The worlds that the three results' stores make. -/
def arcV (wc : World) (N : Nat) (x y a b e f : Int) : Nat → World
  | 0 => wc.drew
  | 1 => (wc.drew.setCell ⟨N + 1, 0, none⟩ (.int .i64 x)).setCell ⟨N + 1, 1, none⟩ (.int .i64 y)
  | 2 => (((wc.drew.setCell ⟨N + 1, 0, none⟩ (.int .i64 x)).setCell ⟨N + 1, 1, none⟩ (.int .i64 y)).setCell ⟨N + 1 + 1, 0, none⟩ (.int .i64 a)).setCell ⟨N + 1 + 1, 1, none⟩ (.int .i64 b)
  | _ => (((((wc.drew.setCell ⟨N + 1, 0, none⟩ (.int .i64 x)).setCell ⟨N + 1, 1, none⟩ (.int .i64 y)).setCell ⟨N + 1 + 1, 0, none⟩ (.int .i64 a)).setCell ⟨N + 1 + 1, 1, none⟩ (.int .i64 b)).setCell ⟨N + 1 + 1 + 1, 0, none⟩ (.int .i64 e)).setCell ⟨N + 1 + 1 + 1, 1, none⟩ (.int .i64 f)
theorem PtAt.two {w : World} {b c : Nat} {x y : Int} (h : PtAt w b x y) (hc : c ≠ b) (u v : Int) : PtAt ((w.setCell ⟨c, 0, none⟩ (.int .i64 u)).setCell ⟨c, 1, none⟩ (.int .i64 v)) b x y := (h.far hc 0 _).far hc 1 _
theorem PtIn.two {w : World} {b c : Nat} {x y : Int} (h : PtIn w b x y) (hc : c ≠ b) (u v : Int) : PtIn ((w.setCell ⟨c, 0, none⟩ (.int .i64 u)).setCell ⟨c, 1, none⟩ (.int .i64 v)) b x y := (h.far hc 0 _).far hc 1 _
theorem bel_two {W w : World} {b : Nat} (h : Below W.heap.size W w) (hb : W.heap.size ≤ b) (u v : Int) : Below W.heap.size W ((w.setCell ⟨b, 0, none⟩ (.int .i64 u)).setCell ⟨b, 1, none⟩ (.int .i64 v)) := bel_set (bel_set h hb 0 _) hb 1 _
theorem PtIn.drawn {w : World} {b : Nat} {x y : Int} (h : PtIn w b x y) : PtIn w.drew b x y := h.later (bel_drew (bel_refl w))
theorem arcV_at {w wc : World} {x y P1 P2 P3 P4 : Int} {p q : Nat} (a b e f : Int) (hp : PtAt wc p P1 P2) (hq : PtAt wc q P3 P4) (h0 : PtIn wc w.heap.size x y) (h1 : PtIn wc (w.heap.size + 1) 0 0) (h2 : PtIn wc (w.heap.size + 1 + 1) 0 0) (h3 : PtIn wc (w.heap.size + 1 + 1 + 1) 0 0) (hB : Below w.heap.size w wc) (hp' : w.heap.size + 4 < p) (hq' : w.heap.size + 4 < q) :
    ∀ i, PtAt (arcV wc w.heap.size x y a b e f i) p P1 P2 ∧ PtAt (arcV wc w.heap.size x y a b e f i) q P3 P4 ∧ PtAt (arcV wc w.heap.size x y a b e f i) w.heap.size x y ∧
      (∃ u v, PtIn (arcV wc w.heap.size x y a b e f i) (w.heap.size + 1) u v ∧ (1 ≤ i → u = x ∧ v = y)) ∧ (∃ u v, PtIn (arcV wc w.heap.size x y a b e f i) (w.heap.size + 1 + 1) u v ∧ (2 ≤ i → u = a ∧ v = b)) ∧ (∃ u v, PtIn (arcV wc w.heap.size x y a b e f i) (w.heap.size + 1 + 1 + 1) u v ∧ (3 ≤ i → u = e ∧ v = f)) ∧ Below w.heap.size w (arcV wc w.heap.size x y a b e f i) := by
  intro i
  have p0 := hp.drew
  have q0 := hq.drew
  have z0 := h0.at_.drew
  have y1 := h1.drawn
  have y2 := h2.drawn
  have y3 := h3.drawn
  have B0 := bel_drew hB
  match i with
  | 0 => exact ⟨p0, q0, z0, ⟨_, _, y1, by omega⟩, ⟨_, _, y2, by omega⟩, ⟨_, _, y3, by omega⟩, B0⟩
  | 1 => exact ⟨p0.two (by omega) _ _, q0.two (by omega) _ _, z0.two (by omega) _ _, ⟨_, _, y1.stored _ _, fun _ => ⟨rfl, rfl⟩⟩, ⟨_, _, y2.two (by omega) _ _, by omega⟩, ⟨_, _, y3.two (by omega) _ _, by omega⟩, bel_two B0 (by omega) _ _⟩
  | 2 => exact ⟨(p0.two (by omega) _ _).two (by omega) _ _, (q0.two (by omega) _ _).two (by omega) _ _, (z0.two (by omega) _ _).two (by omega) _ _, ⟨_, _, (y1.stored _ _).two (by omega) _ _, fun _ => ⟨rfl, rfl⟩⟩, ⟨_, _, (y2.two (by omega) _ _).stored _ _, fun _ => ⟨rfl, rfl⟩⟩, ⟨_, _, (y3.two (by omega) _ _).two (by omega) _ _, by omega⟩, bel_two (bel_two B0 (by omega) _ _) (by omega) _ _⟩
  | k + 3 => exact ⟨((p0.two (by omega) _ _).two (by omega) _ _).two (by omega) _ _, ((q0.two (by omega) _ _).two (by omega) _ _).two (by omega) _ _, ((z0.two (by omega) _ _).two (by omega) _ _).two (by omega) _ _, ⟨_, _, ((y1.stored _ _).two (by omega) _ _).two (by omega) _ _, fun _ => ⟨rfl, rfl⟩⟩, ⟨_, _, ((y2.two (by omega) _ _).stored _ _).two (by omega) _ _, fun _ => ⟨rfl, rfl⟩⟩, ⟨_, _, ((y3.two (by omega) _ _).two (by omega) _ _).stored _ _, fun _ => ⟨rfl, rfl⟩⟩, bel_two (bel_two (bel_two B0 (by omega) _ _) (by omega) _ _) (by omega) _ _⟩

set_option maxRecDepth 100000 in
set_option maxHeartbeats 8000000 in
theorem arc_core (x y i j z cx cy dx dy mx my k k0 uz m n3 : Int) (sm : Bool) (A1 B1 E1 F1 A2 B2 E2 F2 : Int)
    (C1 : ∀ w, Calls Try.prog 10 #[ptV x y, .int .i64 400000000] w fun e w' => e = .returned (ptV cx cy) ∧ Below w.heap.size w w')
    (C2 : ∀ w, Calls Try.prog 10 #[ptV cx cy, .int .i64 15] w fun e w' => e = .returned (ptV dx dy) ∧ Below w.heap.size w w')
    (h1 : IntKind.u64.wrap z = uz) (h2 : 0 ≤ uz) (h3 : uz ≤ 18446744073709551615) (h4 : uz.tmod 20000000 = m) (h5 : uz % 20000000 = m) (h6 : m + 1 = k0) (h7 : IntKind.i64.wrap m = m) (h8 : IntKind.i64.wrap (m + 1) = k0) (h9 : bits .and .i64 k0 3 = n3) (h10 : IntKind.i64.wrap (n3 + 1) = n3 + 1)
    (hk : (if sm then n3 + 1 else k0) = k) (hx : (if sm then dx else cx) = mx) (hy : (if sm then dy else cy) = my)
    (a1 : IntKind.i64.wrap (k * twX (arcQ i)) = A1) (a2 : IntKind.i64.wrap (mx + A1) = A2) (b1 : IntKind.i64.wrap (k * twY (arcQ i)) = B1) (b2 : IntKind.i64.wrap (my + B1) = B2)
    (e1 : IntKind.i64.wrap (k * twX (arcQ j)) = E1) (e2 : IntKind.i64.wrap (mx + E1) = E2) (f1 : IntKind.i64.wrap (k * twY (arcQ j)) = F1) (f2 : IntKind.i64.wrap (my + F1) = F2) (w : World) :
    Calls Try.prog 8 #[ptV x y, .int .i64 i, .int .i64 j, .int .i64 z, .bool sm] w fun e' w' => e' = .returned (.tuple #[ptV mx my, ptV A2 B2, ptV E2 F2]) ∧ Below w.heap.size w w' := by
  obtain ⟨u1, ha1, ht1, a10, a11⟩ := arcQ_at i
  obtain ⟨u2, ha2, ht2, a20, a21⟩ := arcQ_at j
  have hq1 := arcQ_lt i
  have hq2 := arcQ_lt j
  generalize arcQ i = q1 at *
  generalize arcQ j = q2 at *
  have C1 := Lib.hid C1
  have C2 := Lib.hid C2
  obtain ⟨G0, G1, G2, G3, TW, Hs, HB⟩ := arc_blocks w x y 25 25
  unfold newArc at G0 G1 G2 G3 TW Hs HB
  have X1 := TW.x q1 hq1
  have X2 := TW.y q1 hq1
  have X3 := TW.x q2 hq2
  have X4 := TW.y q2 hq2
  have L := TW.lt
  generalize twX q1 = P1 at *
  generalize twY q1 = P2 at *
  generalize twX q2 = P3 at *
  generalize twY q2 = P4 at *
  have G := Lib.hid (⟨G0, G1, G2, G3, Hs, HB⟩ : _ ∧ _ ∧ _ ∧ _ ∧ _ ∧ _)
  have XX := Lib.hid (⟨X1, X2, X3, X4, L⟩ : _ ∧ _ ∧ _ ∧ _ ∧ _)
  clear G0 G1 G2 G3 TW Hs HB X1 X2 X3 X4 L
  have H7 := Lib.hid (And.intro h1 (And.intro h2 (And.intro h3 (And.intro h4 (And.intro h5 (And.intro h6 (And.intro h7 h8)))))))
  have H8 := Lib.hid (And.intro h9 h10)
  have HA := Lib.hid (And.intro a1 (And.intro a2 (And.intro b1 (And.intro b2 (And.intro e1 (And.intro e2 (And.intro f1 f2)))))))
  have HK := Lib.hid (And.intro hk (And.intro hx hy))
  clear h1 h2 h3 h4 h5 h6 h7 h8 h9 h10 a1 a2 b1 b2 e1 e2 f1 f2 hk hx hy
  go_enter Try.func8, Try.ntmps8
  go_upto_region 2 with (fail)
  generalize ((((w.alloc (.cells #[.int .i64 x, .int .i64 y] 25)).alloc (.cells #[.int .i64 0, .int .i64 0] 25)).alloc (.cells #[.int .i64 0, .int .i64 0] 25)).alloc (.cells #[.int .i64 0, .int .i64 0] 25)).alloc (.cells twCells 25) = W at *
  obtain ⟨g, hg⟩ : ∃ g, w.heap.size + 1 + 1 + 1 + 1 = g := ⟨_, rfl⟩
  obtain ⟨X1, X2, X3, X4, L⟩ := XX.out
  rw [hg] at X1 X2 X3 X4 L
  rw [hg]
  clear XX hg
  have v1 : IntKind.i64.wrap (q1 : Int) = (q1 : Int) := IntWalk.i64_in _ (by omega)
  have v2 : IntKind.i64.wrap (q2 : Int) = (q2 : Int) := IntWalk.i64_in _ (by omega)
  go_cut [14, 15] (fun s14 s15 wc => ArcAt w x y P1 P2 P3 P4 s14 s15 wc)
  case first =>
    have hT := Lib.hid (by have g := G.out; exact arc_two P1 P2 P3 P4 25 g.1 g.2.1 g.2.2.1 g.2.2.2.1 (show w.heap.size + 4 < W.heap.size by rw [g.2.2.2.2.1]; omega) g.2.2.2.2.2)
    go_region
    all_goals go_wp2
    all_goals go_meet
    · exact hT.out.1
    · exact hT.out.2
  case rest =>
    obtain ⟨p, q, rfl, rfl, hp, hq, fp, fq, d0, d1, d2, d3, dB⟩ := hcut
    clear X1 X2 X3 X4 L v1 v2 G hq1 hq2 ht1 ht2 a10 a11 a20 a21 ha1 ha2
    have D := Lib.hid (And.intro fp (And.intro fq (And.intro d0 (And.intro d1 (And.intro d2 (And.intro d3 dB))))))
    clear fp fq d0 d1 d2 d3 dB
    obtain ⟨h1, h2, h3, h4, h5, h6, h7, h8⟩ := H7.out
    clear H7
    obtain ⟨fp, fq, d0, d1, d2, d3, dB⟩ := D.out
    obtain ⟨⟨c0, c1, cl⟩, fc⟩ := d0
    go_wp2_with fail
    refine (C1.out _).mono ?_; rintro e' w1 ⟨rfl, z1⟩
    have D1 := Lib.hid (And.intro (fp.later z1) (And.intro (fq.later z1) (And.intro ((⟨⟨c0, c1, cl⟩, fc⟩ : PtIn wc w.heap.size x y).later z1) (And.intro (d1.later z1) (And.intro (d2.later z1) (And.intro (d3.later z1) (bel_trans dB z1)))))))
    clear fp fq c0 c1 cl fc d1 d2 d3 dB z1 D C1
    obtain ⟨fp, fq, d0, d1, d2, d3, dB⟩ := D1.out
    have d0' := d0.stored cx cy
    have D2 := Lib.hid (And.intro ((fp.far (c := w.heap.size) (by omega) 0 (.int .i64 cx)).far (c := w.heap.size) (by omega) 1 (.int .i64 cy)) (And.intro ((fq.far (c := w.heap.size) (by omega) 0 (.int .i64 cx)).far (c := w.heap.size) (by omega) 1 (.int .i64 cy)) (And.intro d0' (And.intro ((d1.far (c := w.heap.size) (by omega) 0 (.int .i64 cx)).far (c := w.heap.size) (by omega) 1 (.int .i64 cy)) (And.intro ((d2.far (c := w.heap.size) (by omega) 0 (.int .i64 cx)).far (c := w.heap.size) (by omega) 1 (.int .i64 cy)) (And.intro ((d3.far (c := w.heap.size) (by omega) 0 (.int .i64 cx)).far (c := w.heap.size) (by omega) 1 (.int .i64 cy)) (bel_set (bel_set dB (b := w.heap.size) (Nat.le_refl _) 0 (.int .i64 cx)) (b := w.heap.size) (Nat.le_refl _) 1 (.int .i64 cy))))))))
    obtain ⟨⟨c0, c1, cl⟩, fc⟩ := d0
    clear fp fq d1 d2 d3 dB d0' D1
    go_upto_region 5 with (fail)
    clear c0 c1 cl fc
    generalize (w1.setCell ⟨w.heap.size, 0, none⟩ (.int .i64 cx)).setCell ⟨w.heap.size, 1, none⟩ (.int .i64 cy) = w2 at *
    clear h1 h2 h3 h4 h5 h6 h7 h8
    go_upto_if 49 with (fail)
    go_cut [16] (fun s16 wc => ArcMid w k mx my P1 P2 P3 P4 p q s16 wc)
    case first =>
      cases sm with
      | false =>
        rw [if_neg (by decide), if_neg (by decide), if_neg (by decide)] at HK
        obtain ⟨rfl, rfl, rfl⟩ := HK.out
        go_wp2
        go_meet
        exact ⟨rfl, D2.out⟩
      | true =>
        rw [if_pos rfl, if_pos rfl, if_pos rfl] at HK
        obtain ⟨rfl, rfl, rfl⟩ := HK.out
        obtain ⟨h9, h10⟩ := H8.out
        obtain ⟨⟨c0, c1, cl⟩, fc⟩ := D2.out.2.2.1
        go_wp2_with fail
        refine (C2.out _).mono ?_; rintro e' w3 ⟨rfl, z3⟩
        obtain ⟨fp, fq, d0, d1, d2, d3, dB⟩ := D2.out
        have fp := fp.later z3
        have fq := fq.later z3
        have d0 := d0.later z3
        have d1 := d1.later z3
        have d2 := d2.later z3
        have d3 := d3.later z3
        have dB := bel_trans dB z3
        have d0' := d0.stored dx dy
        have D3 := Lib.hid (And.intro ((fp.far (c := w.heap.size) (by omega) 0 (.int .i64 dx)).far (c := w.heap.size) (by omega) 1 (.int .i64 dy)) (And.intro ((fq.far (c := w.heap.size) (by omega) 0 (.int .i64 dx)).far (c := w.heap.size) (by omega) 1 (.int .i64 dy)) (And.intro d0' (And.intro ((d1.far (c := w.heap.size) (by omega) 0 (.int .i64 dx)).far (c := w.heap.size) (by omega) 1 (.int .i64 dy)) (And.intro ((d2.far (c := w.heap.size) (by omega) 0 (.int .i64 dx)).far (c := w.heap.size) (by omega) 1 (.int .i64 dy)) (And.intro ((d3.far (c := w.heap.size) (by omega) 0 (.int .i64 dx)).far (c := w.heap.size) (by omega) 1 (.int .i64 dy)) (bel_set (bel_set dB (b := w.heap.size) (Nat.le_refl _) 0 (.int .i64 dx)) (b := w.heap.size) (Nat.le_refl _) 1 (.int .i64 dy))))))))
        clear c0 c1 cl fc fp fq d1 d2 d3 dB d0' z3
        obtain ⟨⟨c0, c1, cl⟩, fc⟩ := d0
        go_wp2
        go_meet
        exact ⟨rfl, D3.out⟩
    case rest =>
      obtain ⟨rfl, fp, fq, d0, d1, d2, d3, dB⟩ := hcut
      clear D2 HK H8 C2
      obtain ⟨a1, a2, b1, b2, e1, e2, f1, f2⟩ := HA.out
      clear HA
      have fp := Lib.hid fp
      have fq := Lib.hid fq
      have d0 := Lib.hid d0
      have d1 := Lib.hid d1
      have d2 := Lib.hid d2
      have d3 := Lib.hid d3
      have dB := Lib.hid dB
      have hV := Lib.hid (arcV_at (x := mx) (y := my) A2 B2 E2 F2 fp.out fq.out d0.out d1.out d2.out d3.out dB.out hp hq)
      obtain ⟨V, hVV⟩ : ∃ V, arcV wc w.heap.size mx my A2 B2 E2 F2 = V := ⟨_, rfl⟩
      have hV := Lib.hid (by have h := hV.out; rw [hVV] at h; exact h)
      have v0' : V 0 = wc.drew := by rw [← hVV]; rfl
      have v1' : V 1 = ((V 0).setCell ⟨w.heap.size + 1, 0, none⟩ (.int .i64 mx)).setCell ⟨w.heap.size + 1, 1, none⟩ (.int .i64 my) := by rw [← hVV]; rfl
      have v2' : V 2 = ((V 1).setCell ⟨w.heap.size + 1 + 1, 0, none⟩ (.int .i64 A2)).setCell ⟨w.heap.size + 1 + 1, 1, none⟩ (.int .i64 B2) := by rw [← hVV]; rfl
      have v3' : V 3 = ((V 2).setCell ⟨w.heap.size + 1 + 1 + 1, 0, none⟩ (.int .i64 E2)).setCell ⟨w.heap.size + 1 + 1 + 1, 1, none⟩ (.int .i64 F2) := by rw [← hVV]; rfl
      have v0 := Lib.hid v0'
      have v1 := Lib.hid v1'
      have v2 := Lib.hid v2'
      have v3 := Lib.hid v3'
      have p0 := fun i => (hV.out i).1.c0
      have p1 := fun i => (hV.out i).1.c1
      have q0 := fun i => (hV.out i).2.1.c0
      have q1' := fun i => (hV.out i).2.1.c1
      have c0 := fun i => (hV.out i).2.2.1.c0
      have c1 := fun i => (hV.out i).2.2.1.c1
      clear hVV v0' v1' v2' v3'
      go_upto_region 7 with (fail)
      refine region_stray (C := fun w' => ∃ i : Nat, w' = V i) 31 (by kernel_rfl) (fun _ _ d _ _ h => by cases d <;> exact h) (by kernel_rfl) ?_
      simp only [List.take_succ_cons, List.take_zero]
      repeat (go_big_quiet_step (fail))
      refine wpQuiet_nil ?_
      simp only [List.drop_succ_cons, List.drop_zero]
      rw [← v0.out]
      clear p0 p1 q0 q1' c0 c1 a1 a2 b1 b2 e1 e2 f1 f2 fp fq d0 d1 d2 d3 dB v0
      have g1 := (hV.out 0).2.2.2.1
      have g2 := (hV.out 1).2.2.2.2.1
      have g3 := (hV.out 2).2.2.2.2.2.1
      obtain ⟨_, _, ⟨⟨r0, r1, rl⟩, rf⟩, _⟩ := g1
      refine ⟨⟨0, rfl⟩, ?_⟩
      go_wp2
      rw [← v1.out]
      clear r0 r1 rl rf
      obtain ⟨_, _, ⟨⟨r0, r1, rl⟩, rf⟩, _⟩ := g2
      refine ⟨⟨1, rfl⟩, ?_⟩
      go_wp2
      rw [← v2.out]
      clear r0 r1 rl rf
      obtain ⟨_, _, ⟨⟨r0, r1, rl⟩, rf⟩, _⟩ := g3
      refine ⟨⟨2, rfl⟩, ?_⟩
      go_wp2
      rw [← v3.out]
      clear r0 r1 rl rf
      refine ⟨⟨3, rfl⟩, ?_⟩
      obtain ⟨_, _, _, ⟨u1, u2, ⟨⟨r0, r1, rl⟩, _⟩, k1⟩, ⟨u3, u4, ⟨⟨s0, s1, sl⟩, _⟩, k2⟩, ⟨u5, u6, ⟨⟨t0, t1, tl⟩, _⟩, k3⟩, kB⟩ := hV.out 3
      obtain ⟨rfl, rfl⟩ := k1 (by omega)
      obtain ⟨rfl, rfl⟩ := k2 (by omega)
      obtain ⟨rfl, rfl⟩ := k3 (by omega)
      clear v1 v2 v3 hV
      go_wp2
      exact bodyPost_ret (v := .tuple #[ptV u1 u2, ptV u3 u4, ptV u5 u6]) (by simp [results, Try.results8, go_sem, r0, r1, s0, s1, t0, t1]) rfl ⟨rfl, kB⟩
theorem arc_form (x y i j z : Int) (sm : Bool) : ∃ cx cy : Int, (-400000000 ≤ cx ∧ cx ≤ 400000000 ∧ -400000000 ≤ cy ∧ cy ≤ 400000000) ∧ (sm = true → -15 ≤ cx ∧ cx ≤ 15 ∧ -15 ≤ cy ∧ cy ≤ 15) ∧ (x = 0 → y = 0 → cx = 0 ∧ cy = 0) ∧
    ∀ w, Calls Try.prog 8 #[ptV x y, .int .i64 i, .int .i64 j, .int .i64 z, .bool sm] w fun e' w' => e' = .returned (.tuple #[ptV cx cy, ptV (cx + arcK z sm * twX (arcQ i)) (cy + arcK z sm * twY (arcQ i)), ptV (cx + arcK z sm * twX (arcQ j)) (cy + arcK z sm * twY (arcQ j))]) ∧ Below w.heap.size w w' := by
  obtain ⟨cx, a0, a1, ha⟩ := tmod_at x 400000001 (by omega)
  obtain ⟨cy, b0, b1, hb⟩ := tmod_at y 400000001 (by omega)
  obtain ⟨dx, c0, c1, hc⟩ := tmod_at cx 16 (by omega)
  obtain ⟨dy, d0, d1, hd⟩ := tmod_at cy 16 (by omega)
  obtain ⟨uz, m, h1, h2, h3, h4, h5, h6, h7⟩ := rem_at z 20000000 (by omega) (by omega)
  have hn : bits .and .i64 (m + 1) 3 = (m + 1) % 4 := mask_emod (m + 1) 2 (by omega)
  have hK : arcK z sm = if sm then (m + 1) % 4 + 1 else m + 1 := by unfold arcK; rw [h1, h5]
  have hKb := arcK_bd z sm
  obtain ⟨k, hk⟩ : ∃ k, arcK z sm = k := ⟨_, rfl⟩
  obtain ⟨mx, hmx⟩ : ∃ k, (if sm then dx else cx) = k := ⟨_, rfl⟩
  obtain ⟨my, hmy⟩ : ∃ k, (if sm then dy else cy) = k := ⟨_, rfl⟩
  rw [hk] at hK hKb ⊢
  have bx : -400000000 ≤ mx ∧ mx ≤ 400000000 ∧ -400000000 ≤ my ∧ my ≤ 400000000 := by cases sm <;> simp only [if_true, Bool.false_eq_true, if_false] at hmx hmy <;> omega
  have bxs : sm = true → -15 ≤ mx ∧ mx ≤ 15 ∧ -15 ≤ my ∧ my ≤ 15 := by rintro rfl; simp only [if_true] at hmx hmy; omega
  obtain ⟨⟨p0, p1⟩, ⟨p2, p3⟩, _⟩ := tw_bd (arcQ_lt i)
  obtain ⟨⟨q0, q1⟩, ⟨q2, q3⟩, _⟩ := tw_bd (arcQ_lt j)
  have big : ∀ t : Int, -5 ≤ t → t ≤ 5 → -100000000 ≤ k * t ∧ k * t ≤ 100000000 := by
    intro t t0 t1
    have e1 := Int.mul_le_mul_of_nonneg_left (show t ≤ 5 from t1) (show 0 ≤ k by omega)
    have e2 := Int.mul_le_mul_of_nonneg_left (show -5 ≤ t from t0) (show 0 ≤ k by omega)
    omega
  have g1 := big _ p0 p1
  have g2 := big _ p2 p3
  have g3 := big _ q0 q1
  have g4 := big _ q2 q3
  refine ⟨mx, my, bx, bxs, ?_, fun w => ?_⟩
  · rintro rfl rfl
    have e1 : cx = 0 := by rw [← ha]; rfl
    have e2 : cy = 0 := by rw [← hb]; rfl
    subst e1 e2
    have e3 : dx = 0 := by rw [← hc]; rfl
    have e4 : dy = 0 := by rw [← hd]; rfl
    subst e3 e4
    cases sm <;> exact ⟨hmx.symm, hmy.symm⟩
  · exact arc_core x y i j z cx cy dx dy mx my k (m + 1) uz m ((m + 1) % 4) sm _ _ _ _ _ _ _ _ (fun w => close_low (by omega) (by omega) rfl ha hb w) (fun w => close_low (by omega) (by omega) rfl hc hd w) h1 h2 h3 h4 h5 rfl (IntWalk.i64_in _ (by omega)) (IntWalk.i64_in _ (by omega)) hn (IntWalk.i64_in _ (by omega)) hK.symm hmx hmy
      (IntWalk.i64_in _ (by omega)) (IntWalk.i64_in _ (by omega)) (IntWalk.i64_in _ (by omega)) (IntWalk.i64_in _ (by omega)) (IntWalk.i64_in _ (by omega)) (IntWalk.i64_in _ (by omega)) (IntWalk.i64_in _ (by omega)) (IntWalk.i64_in _ (by omega)) w
end Go.Proofs.Ytoofbbmddddlcaa
namespace Go.Proofs.Ytoofbbmddddlcaa
open Go.RowKit

theorem arc_sq (cx cy K : Int) {q : Nat} (hq : q < 12) : sqI cx cy (cx + K * twX q) (cy + K * twY q) = 25 * (K * K) := by
  have h := (tw_bd hq).2.2
  unfold sqI
  have e : (cx + K * twX q - cx) * (cx + K * twX q - cx) + (cy + K * twY q - cy) * (cy + K * twY q - cy) = (twX q * twX q + twY q * twY q) * (K * K) := by grind
  rw [e, h]
theorem arc_okR (cx cy : Int) {K : Int} {q q' : Nat} (hK : 1 ≤ K) (hq : q < 12) (hq' : q' < 12) : okR cx cy (cx + K * twX q) (cy + K * twY q) (cx + K * twX q') (cy + K * twY q') = true := by
  refine decide_eq_true ?_
  rw [arc_sq cx cy K hq, arc_sq cx cy K hq']
  have := Int.mul_pos (show 0 < K by omega) (show 0 < K by omega)
  omega
theorem arc_far {K M t : Int} (hK : 1 ≤ K) (hM : K ≤ M) (t0 : -5 ≤ t) (t1 : t ≤ 5) : -(5 * M) ≤ K * t ∧ K * t ≤ 5 * M := by
  have e1 := Int.mul_le_mul_of_nonneg_left t1 (show 0 ≤ K by omega)
  have e2 := Int.mul_le_mul_of_nonneg_left t0 (show 0 ≤ K by omega)
  omega
/-- What the laws know of an arc: the centre and both ends, and how far they are. -/
theorem arc_at (x y i j z : Int) (sm : Bool) : ∃ cx cy ax ay ex ey : Int, (-400000000 ≤ cx ∧ cx ≤ 400000000 ∧ -400000000 ≤ cy ∧ cy ≤ 400000000) ∧ (-500000000 ≤ ax ∧ ax ≤ 500000000 ∧ -500000000 ≤ ay ∧ ay ≤ 500000000) ∧ (-500000000 ≤ ex ∧ ex ≤ 500000000 ∧ -500000000 ≤ ey ∧ ey ≤ 500000000) ∧
    (sm = true → (-15 ≤ cx ∧ cx ≤ 15 ∧ -15 ≤ cy ∧ cy ≤ 15) ∧ (-35 ≤ ax ∧ ax ≤ 35 ∧ -35 ≤ ay ∧ ay ≤ 35) ∧ (-35 ≤ ex ∧ ex ≤ 35 ∧ -35 ≤ ey ∧ ey ≤ 35)) ∧ okR cx cy ax ay ex ey = true ∧
    ∀ w, Calls Try.prog 8 #[ptV x y, .int .i64 i, .int .i64 j, .int .i64 z, .bool sm] w fun e' w' => e' = .returned (.tuple #[ptV cx cy, ptV ax ay, ptV ex ey]) ∧ Below w.heap.size w w' := by
  obtain ⟨cx, cy, h1, h2, _, H⟩ := arc_form x y i j z sm
  obtain ⟨k1, k2, k3⟩ := arcK_bd z sm
  obtain ⟨⟨p0, p1⟩, ⟨p2, p3⟩, _⟩ := tw_bd (arcQ_lt i)
  obtain ⟨⟨q0, q1⟩, ⟨q2, q3⟩, _⟩ := tw_bd (arcQ_lt j)
  have g1 := arc_far k1 k2 p0 p1
  have g2 := arc_far k1 k2 p2 p3
  have g3 := arc_far k1 k2 q0 q1
  have g4 := arc_far k1 k2 q2 q3
  refine ⟨cx, cy, _, _, _, _, h1, by omega, by omega, fun hs => ?_, arc_okR cx cy k1 (arcQ_lt i) (arcQ_lt j), H⟩
  have h2 := h2 hs
  have k3 := k3 hs
  have g1 := arc_far k1 k3 p0 p1
  have g2 := arc_far k1 k3 p2 p3
  have g3 := arc_far k1 k3 q0 q1
  have g4 := arc_far k1 k3 q2 q3
  exact ⟨h2, by omega, by omega⟩
end Go.Proofs.Ytoofbbmddddlcaa
