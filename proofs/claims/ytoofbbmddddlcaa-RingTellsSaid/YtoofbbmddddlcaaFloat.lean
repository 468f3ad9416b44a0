/- A region that draws its order: reads, and calls that make memory and write nothing old, in any order, while other operations (copies, arithmetic) may come up before them or behind them, too: one walk in the order of the text serves every order of the former. From any state of the region on, over whatever class of worlds. No program in it. -/
import Derived.Test.YtoofbbmddddlcaaQuietTail
namespace Go.Proofs.Ytoofbbmddddlcaa
open Go Go.RowKit
open Go.Sort (grow)

section
variable {P : Program} {ops : Array Oper} {md : Region.Mode} {C : World → Prop}

/-- What has come up is closed under what it waits for. -/
def closedB (md : Region.Mode) (ops : Array Oper) (s : Array Bool) : Bool :=
  (List.range ops.size).all fun j => !(s.getD j false) || (match ops[j]? with
    | some o => o.after.all fun e => !(Region.binds md e) || s.getD e.on false
    | none => true)
/-- Each operation before number n - 1 that has not come up is waited for by a later one before number n. -/
def sinkS (md : Region.Mode) (ops : Array Oper) (s : Array Bool) (n : Nat) : Bool :=
  (List.range (n - 1)).all fun i => s.getD i false || (List.range n).any fun j => decide (i < j) && !(s.getD j false) && Region.waitsFor md ops j i
/-- Each one from number n on waits for number n - 1, or for one of those before it. -/
def gateS (md : Region.Mode) (ops : Array Oper) (s : Array Bool) (n : Nat) : Bool :=
  (List.range ops.size).all fun t => decide (t < n) || s.getD t false || Region.waitsFor md ops t (n - 1) || (List.range t).any fun u => decide (n ≤ u) && !(s.getD u false) && Region.waitsFor md ops t u
/-- The operations from number k on come up one behind the other, each free to be taken first; then those before number n are done, and the state is e. -/
def lexS (md : Region.Mode) (ops : Array Oper) (e : Array Bool) (n : Nat) : Nat → Nat → Array Bool → Bool
  | 0, _, s => decide (s = e) && (Region.ready md ops s).all fun j => decide (n ≤ j)
  | f + 1, k, s => (Region.ready md ops s).contains k && Region.free md ops s k && lexS md ops e n f (k + 1) (s.setIfInBounds k true)
def planB (md : Region.Mode) (ops : Array Oper) (s e : Array Bool) (n : Nat) : Bool :=
  Region.noSelect ops && decide (0 < n) && decide (n ≤ ops.size) && decide (s.size = ops.size) && !(s.getD (n - 1) false) && closedB md ops s && sinkS md ops s n && gateS md ops s n && lexS md ops e n n 0 s

/-- The states between: what had come up at the start has, nothing else from number n on. -/
structure FloatInv (md : Region.Mode) (ops : Array Oper) (n : Nat) (s0 s : Array Bool) : Prop where
  size : s.size = ops.size
  closed : ∀ j o, ops[j]? = some o → s.getD j false = true → ∀ e ∈ o.after, Region.binds md e = true → s.getD e.on false = true
  tail : ∀ t, n ≤ t → t < ops.size → s0.getD t false = false → s.getD t false = false
  old : ∀ j, s0.getD j false = true → s.getD j false = true

theorem getD_sides {s : Array Bool} {i : Nat} (h : i < s.size) : s.getD i true = s.getD i false := by simp [h]
theorem FloatInv.set {n i : Nat} {s0 s : Array Bool} (inv : FloatInv md ops n s0 s) (hi : i ∈ Region.ready md ops s) (hin : i < n) : FloatInv md ops n s0 (s.setIfInBounds i true) := by
  obtain ⟨_, o, ho, hall⟩ := mem_ready.1 hi
  refine ⟨by simp [inv.size], fun j oj hj hl e he hb => ?_, fun t ht h1 h2 => by rw [getD_set_ne false (by omega)]; exact inv.tail t ht h1 h2, fun j hj => getD_set_true (inv.old j hj)⟩
  by_cases hij : i = j
  · subst hij
    have : oj = o := Option.some.inj (hj.symm.trans ho)
    subst this
    exact getD_set_true (hall e he hb)
  · rw [getD_set_ne false hij] at hl
    exact getD_set_true (inv.closed j oj hj hl e he hb)
theorem last_waits {n : Nat} {s0 s : Array Bool} (hs : sinkS md ops s0 n = true) (_hn : n ≤ ops.size) (inv : FloatInv md ops n s0 s) :
    ∀ (d i : Nat), n - i = d → i < n → s.getD i false = false → s.getD (n - 1) false = false := by
  intro d
  induction d using Nat.strongRecOn with
  | _ d ih =>
    intro i hd hi hu
    by_cases e : i = n - 1
    · rw [← e]; exact hu
    have h1 := List.all_eq_true.1 hs i (List.mem_range.2 (by omega))
    simp only [Bool.or_eq_true] at h1
    rcases h1 with h1 | h1
    · rw [inv.old i h1] at hu; cases hu
    obtain ⟨j, hj, hj2⟩ := List.any_eq_true.1 h1
    simp only [Bool.and_eq_true, decide_eq_true_eq, Bool.not_eq_true'] at hj2
    have hjn := List.mem_range.1 hj
    refine ih (n - j) (by omega) j rfl hjn ?_
    cases hl : s.getD j false with
    | false => rfl
    | true =>
      obtain ⟨o, ho, e', he, hb, hon⟩ := Region.waitsFor_spec hj2.2
      have := inv.closed j o ho hl e' he hb
      rw [hon, hu] at this
      cases this
theorem gate_waits {n : Nat} {s0 s : Array Bool} (hs : sinkS md ops s0 n = true) (hg : gateS md ops s0 n = true) (hn : n ≤ ops.size) (inv : FloatInv md ops n s0 s) {i : Nat} (hi : i < n) (hu : s.getD i false = false) {t : Nat} (ht : n ≤ t) : t ∉ Region.ready md ops s := by
  intro hr
  obtain ⟨hut, o, ho, hall⟩ := mem_ready.1 hr
  have htl : t < ops.size := (Array.getElem?_eq_some_iff.1 ho).1
  rw [getD_sides (by rw [inv.size]; exact htl)] at hut
  have hl := last_waits hs hn inv _ i rfl hi hu
  have h1 := List.all_eq_true.1 hg t (List.mem_range.2 htl)
  simp only [Bool.or_eq_true, decide_eq_true_eq] at h1
  rcases h1 with ((h1 | h1) | h1) | h1
  · omega
  · rw [inv.old t h1] at hut; cases hut
  · obtain ⟨o', ho', e, he, hb, hon⟩ := Region.waitsFor_spec h1
    have : o' = o := Option.some.inj (ho'.symm.trans ho)
    subst this
    have := hall e he hb
    rw [hon, hl] at this
    cases this
  · obtain ⟨u, hu1, hu2⟩ := List.any_eq_true.1 h1
    simp only [Bool.and_eq_true, decide_eq_true_eq, Bool.not_eq_true'] at hu2
    have hul := List.mem_range.1 hu1
    obtain ⟨o', ho', e, he, hb, hon⟩ := Region.waitsFor_spec hu2.2
    have : o' = o := Option.some.inj (ho'.symm.trans ho)
    subst this
    have := hall e he hb
    rw [hon, inv.tail u hu2.1.1 (by omega) hu2.1.2] at this
    cases this
theorem float_only {n i : Nat} {s0 s : Array Bool} (hs : sinkS md ops s0 n = true) (hg : gateS md ops s0 n = true) (hn : n ≤ ops.size) (inv : FloatInv md ops n s0 s) (hin : i < n) (hr : i ∈ Region.ready md ops s) {j : Nat} (hj : j ∈ Region.ready md ops s) : j < n := by
  by_cases h : j < n
  · exact h
  · have hu := (mem_ready.1 hr).1
    rw [getD_sides (by rw [inv.size]; omega)] at hu
    exact (gate_waits hs hg hn inv hin hu (Nat.le_of_not_lt h) hj).elim
theorem float_take {n i : Nat} {o : Oper} {v : Value} {s0 : Array Bool} {L : Array Bool → Act → Prop} (hi : ops[i]? = some o) (hsel : ∀ (j : Nat) (o' : Oper) cs b, ops[j]? = some o' → o'.op ≠ .select cs b)
    (hs : sinkS md ops s0 n = true) (hg : gateS md ops s0 n = true) (hn : n ≤ ops.size) (hin : i < n) (hL : ∀ s a, L s a → ∀ j ∈ Region.ready md ops s, n ≤ j) (f : Nat) :
    ∀ s a, FloatInv md ops n s0 s → (∀ j o', ops[j]? = some o' → j ≠ i → s.getD j true = false → (∀ e ∈ o'.after, Region.binds md e = true → e.on ≠ i) → o.apart ops o' = true) →
      i ∈ Region.ready md ops s → YieldsIn P ops C o v a → Heads P md ops C n L f (s.setIfInBounds i true) (a.put o.dst v) → Heads P md ops C n L (f + 1) s a := by
  induction f with
  | zero =>
    intro s a inv _ hr hy H
    refine ⟨List.ne_nil_of_mem hr, fun j hj => ⟨float_only hs hg hn inv hin hr hj, ?_⟩⟩
    by_cases e : j = i
    · rw [e]; exact hy.qOp hi H
    · exact absurd (hL _ _ H j (ready_mono hj e)) (Nat.not_le_of_lt (float_only hs hg hn inv hin hr hj))
  | succ f ih =>
    intro s a inv ha hr hy H
    refine ⟨List.ne_nil_of_mem hr, fun j hj => ⟨float_only hs hg hn inv hin hr hj, ?_⟩⟩
    by_cases e : j = i
    · rw [e]; exact hy.qOp hi H
    · obtain ⟨hu, o', ho', hall⟩ := mem_ready.1 hj
      have hno : ∀ x ∈ o'.after, Region.binds md x = true → x.on ≠ i := by
        intro x hx hb he
        have k := hall x hx hb
        rw [he, getD_both (mem_ready.1 hr).1] at k
        exact Bool.false_ne_true k
      have H2 := (H.2 j (ready_mono hj e)).2
      refine qOp_mono (fun a' k => ?_) (qOp_put ho' (ha j o' ho' e hu hno) (fun cs b => hsel i o cs b hi) (fun cs b => hsel j o' cs b ho') hy H2)
      refine ih _ a' (inv.set hj (float_only hs hg hn inv hin hr hj)) (fun m om hm hmi hum hnm => ?_) (ready_mono hr (fun h => e h.symm)) k.1 ?_
      · refine ha m om hm hmi ?_ hnm
        by_cases hjm : j = m
        · rw [← hjm]; exact hu
        · rwa [getD_set_ne true hjm] at hum
      · rw [Array.setIfInBounds_comm _ _ e]; exact k.2
theorem float_lex {n : Nat} {s0 e : Array Bool} {R : Act → Prop} (hsel : Region.noSelect ops = true) (hs : sinkS md ops s0 n = true) (hg : gateS md ops s0 n = true) (hn : n ≤ ops.size) (l : List Oper) :
    ∀ (k : Nat) (s : Array Bool) (a : Act), (∀ j, j < l.length → l[j]? = ops[k + j]?) → k + l.length = n → FloatInv md ops n s0 s → lexS md ops e n l.length k s = true → wpQuiet P ops C R l a →
      Heads P md ops C n (fun s' a' => (s' = e ∧ ∀ j ∈ Region.ready md ops e, n ≤ j) ∧ R a') l.length s a := by
  induction l with
  | nil =>
    intro k s a _ _ _ hB h
    simp only [List.length_nil, lexS, Bool.and_eq_true, decide_eq_true_eq] at hB
    obtain ⟨rfl, hB⟩ := hB
    exact ⟨⟨rfl, fun j hj => by simpa using List.all_eq_true.1 hB j hj⟩, h⟩
  | cons o l ih =>
    intro k s a hl hk inv hB h
    have h0 : ops[k]? = some o := by have := hl 0 (by simp); simpa using this.symm
    simp only [List.length_cons, lexS, Bool.and_eq_true] at hB
    have hkn : k < n := by rw [List.length_cons] at hk; omega
    have hr : k ∈ Region.ready md ops s := by simpa using hB.1.1
    have hq : qOp P ops C k (wpQuiet P ops C R l) a := by unfold qOp; rw [h0]; exact h
    obtain ⟨v, hy, hK⟩ := yieldsIn_of_qOp h0 hq
    refine float_take h0 (Region.noSelect_spec hsel) hs hg hn hkn (fun s' a' k' j hj => by rw [k'.1.1] at hj; exact k'.1.2 j hj) l.length s a inv (Region.free_spec h0 hB.1.2) hr hy ?_
    refine ih (k + 1) _ _ (fun j hj => ?_) (by rw [List.length_cons] at hk; omega) (inv.set hr hkn) hB.2 hK
    have := hl (j + 1) (by simp; omega)
    rw [show k + 1 + j = k + (j + 1) by omega, ← this]
    simp
/-- The first n operations in any order, whatever has come up besides; behind them the region goes on from the state e. -/
theorem any_heads {n g : Nat} {s e : Array Bool} {Q : Exit → Act → World → Prop} {l : List Oper} {a : Act} {w : World} (hB : planB md l.toArray s e n = true) (hC : C w)
    (h : wpQuiet P l.toArray C (fun a' => ∀ w', C w' → wpAny P md l.toArray Q g e a' w') (l.take n) a) : wpAny P md l.toArray Q (n + g) s a w := by
  simp only [planB, Bool.and_eq_true, decide_eq_true_eq, Bool.not_eq_true'] at hB
  obtain ⟨⟨⟨⟨⟨⟨⟨⟨hsel, h0⟩, hn⟩, hz⟩, hu⟩, hc⟩, hs⟩, hg⟩, hlex⟩ := hB
  have hn2 : n ≤ l.length := by simpa using hn
  have e1 : (l.take n).length = n := by rw [List.length_take]; omega
  have inv : FloatInv md l.toArray n s s := by
    refine ⟨hz, fun j o ho hl x hx hb => ?_, fun t _ _ h => h, fun j h => h⟩
    have hjl : j < l.toArray.size := (Array.getElem?_eq_some_iff.1 ho).1
    have k := List.all_eq_true.1 hc j (List.mem_range.2 hjl)
    rw [ho, hl] at k
    simp only [Bool.not_true, Bool.false_or] at k
    have k2 := Array.all_eq_true'.1 k x hx
    rw [hb] at k2
    simpa using k2
  have H := float_lex (P := P) (C := C) hsel hs hg hn (l.take n) 0 s a (fun j hj => by
    rw [e1] at hj
    simp [hj]) (by rw [e1]; omega) inv (by rw [e1]; exact hlex) h
  rw [e1] at H
  exact heads_any (P := P) (Q := Q) (g := g) (fun s' a' w' hw' hL => by rw [hL.1.1]; exact hL.2 w' hw') n _ _ _ hC H
/-- Over the worlds that agree with one below its size. -/
theorem any_heads_below {n g : Nat} {s e : Array Bool} {Q : Exit → Act → World → Prop} {l : List Oper} {a : Act} {w : World} (hB : planB md l.toArray s e n = true)
    (h : wpQuiet P l.toArray (fun w' => ∃ p : Regrown, w' = grow (redrawn w p.d) p.os) (fun a' => ∀ w', (∃ p : Regrown, w' = grow (redrawn w p.d) p.os) → wpAny P md l.toArray Q g e a' w') (l.take n) a) : wpAny P md l.toArray Q (n + g) s a w.drew :=
  any_heads (C := fun w' => ∃ p : Regrown, w' = grow (redrawn w p.d) p.os) hB (regrown_of_below (by exact ⟨rfl, rfl, rfl, Nat.le_refl _, fun _ _ => rfl⟩)) h
/-- The operations from number n on, in one forced order. -/
theorem any_tail {n g : Nat} {e : Array Bool} {Q : Exit → Act → World → Prop} {l : List Oper} {a : Act} {w : World} (hg : l.length = n + g) (hB : Region.seqB md l.toArray g n e = true) (h : wpList P l.toArray Q (l.drop n) a w) : wpAny P md l.toArray Q g e a w := by
  have e1 : (l.drop n).length = g := by rw [List.length_drop]; omega
  have := wpAny_of_seq (P := P) (md := md) (Q' := Q) (ops := l.toArray) (l.drop n) n e a w (fun j => by simp [List.getElem?_drop]) (by rw [e1]; exact hB) h
  rwa [e1] at this
/-- An operation that looks at no world may be taken first. -/
theorem any_take {fuel : Nat} {s : Array Bool} {Q : Exit → Act → World → Prop} {a : Act} {w : World} (i d : Nat) (v : Value) {o : Oper} (hi : ops[i]? = some o) (hd : o.dst = some d)
    (hs : Region.noSelect ops = true) (hf : Region.free md ops s i = true) (hr : (Region.ready md ops s).contains i = true) (hQ : ∀ c a w, Q (.panic c) (a.put o.dst v) w → Q (.panic c) a w)
    (hw : Region.wanted o (yielded ops a.tmps) = true) (hv : ∀ w, (execOp a.eval o).run P w = .ok (.value v) w) (h : wpAny P md ops Q fuel (s.setIfInBounds i true) (a.put (some d) v) w) : wpAny P md ops Q (fuel + 1) s a w :=
  wpAny_take hi hs hf hr hQ (.inl ⟨hw, hv⟩) (hd ▸ h)
end
end Go.Proofs.Ytoofbbmddddlcaa
