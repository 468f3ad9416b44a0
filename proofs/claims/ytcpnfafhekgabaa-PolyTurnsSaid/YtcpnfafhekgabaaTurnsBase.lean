/- Towards PolyTurns: points and classes hang on no way in which contours are told, nor on where they are, how they are mirrored and turned: for every list of contours, box, point and move that the law makes of any numbers of 64 bits. No condition. -/
import Derived.Test.YtcpnfafhekgabaaAwake6
import Derived.Test.YtcpnfafhekgabaaTame5
import Derived.Test.YtcpnfafhekgabaaHeld6
import Derived.Test.YtcpnfafhekgabaaHeld5
import Derived.Test.YtcpnfafhekgabaaGroup
import Derived.ProofKit
import Derived.OpenShut
import Derived.ShutString
import Derived.ChangeOld
import Derived.Below
import Derived.Carry
import Derived.BigRegion
import Derived.Lib.SmallJoins
import Derived.Lib.QuietBelow
import Derived.BigQuiet
import Derived.Deep.RegionWith
import Derived.Deep.DeepCutAuto
namespace Go.Proofs.Ytcpnfafhekgabaa.polyTurns
open Go.ChangeShapes Go.WideShapes Go.ChangeAt Go.RowKit Go.Joins
open Go.Sort (grow)

theorem close_far {a b x y : Int} (h : a.tmod 100000001 = x) (g : b.tmod 100000001 = y) (w : World) :
    Calls Try.prog 9 #[ptV a b, .int .i64 100000000] w fun e w' => e = .returned (ptV x y) ∧ Below w.heap.size w w' := (closeN (n := 100000000) (by omega) (by omega) rfl h g w).mono fun _ _ k => ⟨k.1, k.2 ▸ bel_drew (bel_alloc (bel_alloc (bel_refl w) _) _)⟩
theorem tame_near (L : List (List P2)) : ∀ c ∈ tameL true L, ∀ p ∈ c, (-20 ≤ p.1 ∧ p.1 ≤ 20) ∧ -20 ≤ p.2 ∧ p.2 ≤ 20 := by
  intro c hc p hp
  obtain ⟨q, rfl⟩ := ((tame_rows true L).2 c hc).2 p hp
  exact tameP_near q
/-- The box, the point and the move in their blocks, the contours in blocks of the call's own. -/
def Mid (w : World) (T : List (List P2)) (a b c d x y s t : Int) (s1 : Value) (wc : World) : Prop :=
  ∃ z, s1 = z ∧ BPP w.heap.size a b c d x y s t wc ∧ RowsAt wc wc.heap.size z T ∧ Below w.heap.size w wc
theorem grp_forms {w : World} {base : Nat} {e : TypeId} {size n : Nat} {v1 v2 v3 v4 : Value} {x1 x2 x3 x4 : List Value} (h : Grp w base e size [(v1, n, x1), (v2, n, x2), (v3, n, x3), (v4, n, x4)]) :
    (∃ A c, Value.slice A n c = v1) ∧ (∃ A c, Value.slice A n c = v2) ∧ (∃ A c, Value.slice A n c = v3) ∧ (∃ A c, Value.slice A n c = v4) :=
  ⟨own_form (h.1 (v1, n, x1) (by simp)), own_form (h.1 (v2, n, x2) (by simp)), own_form (h.1 (v3, n, x3) (by simp)), own_form (h.1 (v4, n, x4) (by simp))⟩
theorem grp_lt {w : World} {base : Nat} {e : TypeId} {size n : Nat} {v1 v2 v3 v4 : Value} {x1 x2 x3 x4 : List Value} (h : Grp w base e size [(v1, n, x1), (v2, n, x2), (v3, n, x3), (v4, n, x4)]) :
    (∀ g, v1.ownBlock = some g → g < w.heap.size) ∧ (∀ g, v2.ownBlock = some g → g < w.heap.size) ∧ (∀ g, v3.ownBlock = some g → g < w.heap.size) ∧ (∀ g, v4.ownBlock = some g → g < w.heap.size) :=
  ⟨fun g hg => ((h.1 (v1, n, x1) (by simp)).lt g hg).2, fun g hg => ((h.1 (v2, n, x2) (by simp)).lt g hg).2, fun g hg => ((h.1 (v3, n, x3) (by simp)).lt g hg).2, fun g hg => ((h.1 (v4, n, x4) (by simp)).lt g hg).2⟩
theorem pts_all {w : World} {B : Nat} {A : Option Addr} {c : List P2} (f : 0 < c.length → ∃ a, A = some a ∧ a.block < B ∧ ∀ k p, c[k]? = some p → w.cell? (a.add (k * 2)) = some (.int .i64 p.1) ∧ w.cell? (a.add (k * 2 + 1)) = some (.int .i64 p.2)) (h : 0 < c.length) :
    ∃ b o, A = some ⟨b, o, none⟩ ∧ b < B ∧ ∀ k, k < c.length → w.cell? ⟨b, o + k * 2, none⟩ = some (.int .i64 (ptN c k).1) ∧ w.cell? ⟨b, o + k * 2 + 1, none⟩ = some (.int .i64 (ptN c k).2) := by
  rcases PtsAt.open_ (v := .slice A c.length 0) ⟨A, 0, rfl, f⟩ with ⟨rfl, _⟩ | ⟨b, o, cap, e, hb, _, hc⟩
  · simp at h
  · simp only [Value.slice.injEq] at e
    exact ⟨b, o, e.1, hb, hc⟩
/-- What stays in a round: the point that it reads in a block of its own, and all old memory. -/
structure Keeps (w3 : World) (N : Nat) (x y : Int) (w : World) : Prop where
  q : PtAt w N x y
  b : Below w3.heap.size w3 w
theorem Keeps.alloc {w3 w : World} {N : Nat} {x y : Int} (h : Keeps w3 N x y w) (o : Obj) : Keeps w3 N x y (w.alloc o) := ⟨h.q.alloc o, bel_alloc h.b o⟩
theorem Keeps.grown {w3 w w' : World} {N : Nat} {x y : Int} {e : TypeId} {size : Nat} {v : Value} {n : Nat} {xs : List Value} (h : Keeps w3 N x y w) (ho : w.ownsRow w3.heap.size e size v n xs) (hv : ∀ g, v.ownBlock = some g → g < N) (hg : w.grownBy w' v.ownBlock) : Keeps w3 N x y w' := by
  have hne : some N ≠ v.ownBlock := fun e => by have := hv N e.symm; omega
  exact ⟨⟨hg.cell h.q.c0 hne, hg.cell h.q.c1 hne, Nat.lt_of_lt_of_le h.q.lt hg.size⟩, h.b.grown hg h.b.size fun g hg' => (ho.lt g hg').1⟩
def mvC (j : Nat) (s t : Int) (c : List P2) : List P2 := (rot j c).map (mvP s t)
def tuC (j : Nat) (c : List P2) : List P2 := (rot j c).map tuP
/-- The head of the outer round. -/
def OutU (wb : World) (T : List (List P2)) (j : Nat) (s t : Int) (v1 v2 v3 v4 si : Value) (wr : World) : Prop :=
  ∃ (m : Nat) (w3 : World) (V1 V2 V3 V4 : List Value), w3 = wr ∧ si = .int .i64 ((m : Int) - 1) ∧ m ≤ T.length ∧
    Grp w3 wb.heap.size 29 1 [(v1, T.length - m, V1), (v2, T.length - m, V2), (v3, T.length - m, V3), (v4, T.length - m, V4)] ∧
    (Each w3 wb.heap.size 23 (back (rot j) T m) V1 ∧ Each w3 wb.heap.size 23 (back (mvC j s t) T m) V2 ∧ Each w3 wb.heap.size 23 (back (tuC j) T m) V3 ∧ Each w3 wb.heap.size 23 (back List.reverse T m) V4) ∧ Below wb.heap.size wb w3
/-- The head of the inner round. -/
def InU (w3 : World) (C : List P2) (j : Nat) (s t : Int) (v1 v2 v3 v4 sk : Value) (wr : World) : Prop :=
  ∃ k : Nat, sk = .int .i64 k ∧ k ≤ C.length ∧
    Grp wr w3.heap.size 23 2 [(v1, k, cellsP (((rot j C).take k).map id)), (v2, k, cellsP (((rot j C).take k).map (mvP s t))), (v3, k, cellsP (((rot j C).take k).map tuP)), (v4, k, cellsP (C.reverse.take k))] ∧ Below w3.heap.size w3 wr

theorem rows_set3 {w : World} {base : Nat} {e1 e0 : TypeId} {v : Value} {T : List (List P2)} (h : RowsOwn w base e1 e0 v T) {n : Nat} (h0 : n < base) (h1 : n + 1 < base) (h2 : n + 1 + 1 < base) (a b c d x y s t : Int) : RowsOwn (setBPP w n a b c d x y s t) base e1 e0 v T :=
  ((((h.setBox h0 a b c d).set h1 0 (.int .i64 x)).set h1 1 (.int .i64 y)).set h2 0 (.int .i64 s)).set h2 1 (.int .i64 t)
theorem mem_rot {j : Nat} {c : List P2} {p : P2} (h : p ∈ rot j c) : p ∈ c := by
  induction j with
  | zero => exact h
  | succ j ih =>
    refine ih ?_
    rw [rot] at h
    revert h
    cases rot j c with
    | nil => exact id
    | cons y z =>
      intro h
      rw [rot1, List.mem_append, List.mem_singleton] at h
      exact List.mem_cons.2 h.symm
theorem fine_back {f : List P2 → List P2} {T : List (List P2)} (h4 : T.length ≤ 4) (hl : ∀ c ∈ T, (f c).length ≤ 12) (hp : ∀ c ∈ T, ∀ p ∈ f c, (-536870912 ≤ p.1 ∧ p.1 ≤ 536870912) ∧ -536870912 ≤ p.2 ∧ p.2 ≤ 536870912) : Fine (back f T 0) := by
  have hm : ∀ c ∈ back f T 0, ∃ d ∈ T, f d = c := by
    intro c hc
    unfold back at hc
    rw [List.mem_reverse, List.drop_zero] at hc
    exact List.mem_map.1 hc
  refine ⟨by rw [back_len]; omega, fun c hc => ?_, fun c hc => ?_⟩
  · obtain ⟨d, hd, rfl⟩ := hm c hc
    have := hl d hd
    omega
  · obtain ⟨d, hd, rfl⟩ := hm c hc
    exact hp d hd
/-- What the last comparisons read. -/
structure Fnl (n M : Nat) (a b c d x y s t : Int) (z1 z2 z3 z4 : Value) (T1 T2 T3 T4 : List (List P2)) (w0 w : World) : Prop where
  f : BPP n a b c d x y s t w
  m : BoxAt w M (a + s) (b + t) (c + s) (d + t)
  u : BoxAt w (M + 1) (-d) a (-b) c
  r1 : RowsAt w w.heap.size z1 T1
  r2 : RowsAt w w.heap.size z2 T2
  r3 : RowsAt w w.heap.size z3 T3
  r4 : RowsAt w w.heap.size z4 T4
  b : Below w0.heap.size w0 w
theorem Fnl.later {n M : Nat} {a b c d x y s t : Int} {z1 z2 z3 z4 : Value} {T1 T2 T3 T4 : List (List P2)} {w0 w w1 : World} (h : Fnl n M a b c d x y s t z1 z2 z3 z4 T1 T2 T3 T4 w0 w) (k : Below w.heap.size w w1) : Fnl n M a b c d x y s t z1 z2 z3 z4 T1 T2 T3 T4 w0 w1 :=
  ⟨h.f.later k, h.m.later k, h.u.later k, h.r1.on k, h.r2.on k, h.r3.on k, h.r4.on k, bel_trans h.b k⟩
theorem m1 {α : Type} (a b c d : α) : a ∈ [a, b, c, d] := List.mem_cons_self ..
theorem m2 {α : Type} (a b c d : α) : b ∈ [a, b, c, d] := List.mem_cons_of_mem _ (List.mem_cons_self ..)
theorem m3 {α : Type} (a b c d : α) : c ∈ [a, b, c, d] := List.mem_cons_of_mem _ (List.mem_cons_of_mem _ (List.mem_cons_self ..))
theorem m4 {α : Type} (a b c d : α) : d ∈ [a, b, c, d] := List.mem_cons_of_mem _ (List.mem_cons_of_mem _ (List.mem_cons_of_mem _ (List.mem_cons_self ..)))
/-- What is left of a body behind its first pieces. -/
def dropSeq : Nat → Code → Code
  | 0, c => c
  | n + 1, .seq _ b => dropSeq n b
  | _ + 1, c => c
noncomputable def restCode : Code := dropSeq 2 (Try.f6.body.getD .skip)
noncomputable def endCode : Code := dropSeq 4 (Try.f6.body.getD .skip)
/-- What has been gathered of contours, and the contours that come next. -/
structure Bag (w : World) (base : Nat) (e0 : TypeId) (l : List (List (List P2) × List Value)) (m : List (Value × List P2)) : Prop where
  each : ∀ x ∈ l, Each w base e0 x.1 x.2
  own : ∀ y ∈ m, w.ownsRow base e0 2 y.1 y.2.length (cellsP y.2)
theorem Bag.later {w w' : World} {base : Nat} {e0 : TypeId} {l : List (List (List P2) × List Value)} {m : List (Value × List P2)} (h : Bag w base e0 l m) (k : Below w.heap.size w w') : Bag w' base e0 l m := ⟨fun x hx => (h.each x hx).later k, fun y hy => own_later (h.own y hy) k⟩
theorem Bag.kept {w w' : World} {base b : Nat} {e1 e0 : TypeId} {l : List (List (List P2) × List Value)} {m : List (Value × List P2)} {x : Value} {n : Nat} {xs : List Value} (h : Bag w base e0 l m) (hne : e0 ≠ e1) (hx : w.ownsRow b e1 1 x n xs) (hg : w.grownBy w' x.ownBlock) : Bag w' base e0 l m :=
  ⟨fun z hz => (h.each z hz).kept hne hx hg, fun y hy => (h.own y hy).kept hg (own_far (h.own y hy) hx hne)⟩
theorem inner_done {w : World} {b b' : Nat} {e : TypeId} {v1 v2 v3 v4 : Value} {C : List P2} {j : Nat} {s t : Int} (h : Grp w b e 2 [(v1, C.length, cellsP (((rot j C).take C.length).map id)), (v2, C.length, cellsP (((rot j C).take C.length).map (mvP s t))), (v3, C.length, cellsP (((rot j C).take C.length).map tuP)), (v4, C.length, cellsP (C.reverse.take C.length))]) (hb : b' ≤ b) :
    ∀ y ∈ [(v1, rot j C), (v2, mvC j s t C), (v3, tuC j C), (v4, C.reverse)], w.ownsRow b' e 2 y.1 y.2.length (cellsP y.2) := by
  rw [show (rot j C).take C.length = rot j C from List.take_of_length_le (by rw [rot_length]; exact Nat.le_refl _), List.map_id, show C.reverse.take C.length = C.reverse from List.take_of_length_le (by simp)] at h
  have h' := own_base_all h hb
  have e1 : (rot j C).length = C.length := rot_length j C
  have e2 : (mvC j s t C).length = C.length := by unfold mvC; rw [List.length_map, e1]
  have e3 : (tuC j C).length = C.length := by unfold tuC; rw [List.length_map, e1]
  intro y hy
  simp only [List.mem_cons, List.not_mem_nil, or_false] at hy
  rcases hy with rfl | rfl | rfl | rfl
  · show w.ownsRow b' e 2 v1 (rot j C).length _
    rw [e1]; exact h'.1 _ (m1 _ _ _ _)
  · show w.ownsRow b' e 2 v2 (mvC j s t C).length _
    rw [e2]; exact h'.1 _ (m2 _ _ _ _)
  · show w.ownsRow b' e 2 v3 (tuC j C).length _
    rw [e3]; exact h'.1 _ (m3 _ _ _ _)
  · show w.ownsRow b' e 2 v4 C.reverse.length _
    rw [List.length_reverse]; exact h'.1 _ (m4 _ _ _ _)
end Go.Proofs.Ytcpnfafhekgabaa.polyTurns
