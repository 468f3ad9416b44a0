/- A region that draws its order: reads and arithmetic, and stores into other memory that may come up between them: one walk in the order of the text serves every order, if each read's value is the same in every world that the stores make. No program in it. -/
import Derived.Test.YtoofbbmddddlcaaQuietTail
import Derived.Orders
namespace Go.Proofs.Ytoofbbmddddlcaa
open Go Go.RowKit

section
variable {P : Program} {ops : Array Oper} {md : Region.Mode} {C : World → Prop} {Q : Exit → Act → World → Prop}

/-- Whatever comes up next, the world stays in the class. -/
def anyC (P : Program) (md : Region.Mode) (ops : Array Oper) (C : World → Prop) (Q : Exit → Act → World → Prop) : Nat → Array Bool → Act → World → Prop
  | 0, s, a, w => C w ∧ Region.ready md ops s = [] ∧ Q .normal a w
  | f + 1, s, a, w => C w ∧ (Region.ready md ops s = [] → Q .normal a w) ∧ ∀ i ∈ Region.ready md ops s, wpOp P ops Q i (anyC P md ops C Q f (s.setIfInBounds i true)) a w
theorem anyC_any : ∀ (f : Nat) (s : Array Bool) (a : Act) (w : World), anyC P md ops C Q f s a w → wpAny P md ops Q f s a w
  | 0, _, _, _, h => h.2
  | f + 1, _, _, _, h => ⟨h.2.1, fun i hi => wpOp_mono (fun a' w' k => anyC_any f _ a' w' k) (h.2.2 i hi)⟩
theorem anyC_in {f : Nat} {s : Array Bool} {a : Act} {w : World} (h : anyC P md ops C Q f s a w) : C w := by
  cases f <;> exact h.1
/-- What an operation yields in every world of the class, leaving it as it is. -/
def YieldsC (P : Program) (ops : Array Oper) (C : World → Prop) (o : Oper) (v : Value) (a : Act) : Prop :=
  (Region.wanted o (yielded ops a.tmps) = true ∧ ∀ w, C w → (execOp a.eval o).run P w = .ok (.value v) w) ∨ (Region.wanted o (yielded ops a.tmps) = false ∧ v = undef)
theorem YieldsC.wpOp {i : Nat} {o : Oper} {v : Value} {a : Act} (hi : ops[i]? = some o) (hy : YieldsC P ops C o v a) {K : Act → World → Prop} {w : World} (hC : C w) (h : K (a.put o.dst v) w) : wpOp P ops Q i K a w := by
  unfold Go.wpOp
  simp only [hi]
  rcases hy with ⟨hw, hv⟩ | ⟨hw, rfl⟩
  · simp only [hw, if_true, Oper.wp, hv w hC, Oper.upon]; exact .inl h
  · simp only [hw, Bool.false_eq_true, if_false]; exact h
theorem YieldsC.of_same {o : Oper} {v : Value} {a a' : Act} (hy : YieldsC P ops C o v a) (he : execOp a'.eval o = execOp a.eval o) (hw : Region.wanted o (yielded ops a'.tmps) = Region.wanted o (yielded ops a.tmps)) : YieldsC P ops C o v a' := by
  unfold YieldsC at *
  rw [he, hw]
  exact hy
theorem wpOp_putC {j : Nat} {oi oj : Oper} {v : Value} (hj : ops[j]? = some oj) (hap : oi.apart ops oj = true) (hsi : ∀ cs b, oi.op ≠ .select cs b) (hsj : ∀ cs b, oj.op ≠ .select cs b)
    (hQ : ∀ c a w, Q (.panic c) (a.put oi.dst v) w → Q (.panic c) a w) {K : Act → World → Prop} {a : Act} {w : World} (hy : YieldsC P ops C oi v a) (h : wpOp P ops Q j K (a.put oi.dst v) w) :
    wpOp P ops Q j (fun a' w' => YieldsC P ops C oi v a' ∧ K (a'.put oi.dst v) w') a w := by
  obtain ⟨h1, h2, h3⟩ := Oper.apart_spec hap
  have keep : ∀ (a : Act), YieldsC P ops C oi v a → ∀ u, YieldsC P ops C oi v (a.put oj.dst u) := fun a hy u =>
    hy.of_same (execOp_put oi hsi a oj.dst u h3) (wanted_put oi a oj.dst u h3)
  have keepD : ∀ d, YieldsC P ops C oi v { a with defers := d :: a.defers } := fun d => hy.of_same rfl rfl
  unfold wpOp at *
  simp only [hj] at *
  rw [wanted_put oj a oi.dst v h1] at h
  split
  · rename_i hw
    simp only [hw, if_true] at h
    rcases h with h | ⟨hasks, hlets⟩
    case inr => exact .inr ⟨by unfold Oper.asks at *; rw [execOp_put oj hsj a oi.dst v h1] at hasks; exact hasks, hlets⟩
    refine .inl ?_
    unfold Oper.wp at *
    rw [execOp_put oj hsj a oi.dst v h1] at h
    generalize (execOp a.eval oj).run P w = r at *
    cases r with
    | ok n w' =>
      cases n <;> simp only [Oper.upon] at h ⊢
      case value u => exact ⟨keep a hy u, by rw [← Act.put_comm a v u h2]; exact h⟩
      case skip => exact ⟨keep a hy _, by rw [← Act.put_comm a v undef h2]; exact h⟩
      case defer d =>
        refine ⟨keep _ (keepD d) _, ?_⟩
        rw [← Act.put_comm _ v undef h2, ← Act.put_defers]
        exact h
      case enter f args =>
        refine Calls.mono h fun e w'' he => ?_
        cases e with
        | returned u => exact ⟨keep a hy u, by rw [← Act.put_comm a v u h2]; exact he⟩
        | panicked c => exact hQ _ _ _ he
        | outgrown => exact he
      case row row args => exact Rows.mono h fun u w'' he => ⟨keep a hy u, by rw [← Act.put_comm a v u h2]; exact he⟩
    | halt x w' =>
      cases x <;> simp only [Oper.upon] at h ⊢
      case panic u => exact hQ _ _ _ h
  · rename_i hw
    simp only [hw] at h
    exact ⟨keep a hy _, by rw [← Act.put_comm a v undef h2]; exact h⟩
theorem anyC_first {i : Nat} {oi : Oper} {v : Value} (hi : ops[i]? = some oi) (hsel : ∀ (j : Nat) (o : Oper) cs b, ops[j]? = some o → o.op ≠ .select cs b) (hQ : ∀ c a w, Q (.panic c) (a.put oi.dst v) w → Q (.panic c) a w) :
    ∀ (f : Nat) (s : Array Bool) (a : Act) (w : World), (∀ j oj, ops[j]? = some oj → j ≠ i → s.getD j true = false → (∀ e ∈ oj.after, Region.binds md e = true → e.on ≠ i) → oi.apart ops oj = true) →
      i ∈ Region.ready md ops s → YieldsC P ops C oi v a → anyC P md ops C Q f (s.setIfInBounds i true) (a.put oi.dst v) w → anyC P md ops C Q (f + 1) s a w := by
  intro f
  induction f with
  | zero =>
    intro s a w _ hr hy H
    refine ⟨anyC_in H, fun h => (by rw [h] at hr; cases hr), fun j hj => ?_⟩
    by_cases hji : j = i
    · subst hji; exact hy.wpOp hi (anyC_in H) H
    · have := ready_mono hj hji
      rw [H.2.1] at this
      cases this
  | succ f ih =>
    intro s a w hfree hr hy H
    refine ⟨anyC_in H, fun h => (by rw [h] at hr; cases hr), fun j hj => ?_⟩
    by_cases hji : j = i
    · subst hji; exact hy.wpOp hi (anyC_in H) H
    · have h1 := H.2.2 j (ready_mono hj hji)
      obtain ⟨hjun, oj, hoj, hall⟩ := mem_ready.1 hj
      have hnot : ∀ e ∈ oj.after, Region.binds md e = true → e.on ≠ i := fun e he hb heq => by
        have h1 := hall e he hb
        rw [heq, getD_both (mem_ready.1 hr).1] at h1
        cases h1
      have h2 := wpOp_putC hoj (hfree j oj hoj hji hjun hnot) (fun cs b => hsel i oi cs b hi) (fun cs b => hsel j oj cs b hoj) hQ hy h1
      have hfree' : ∀ k ok, ops[k]? = some ok → k ≠ i → (s.setIfInBounds j true).getD k true = false → (∀ e ∈ ok.after, Region.binds md e = true → e.on ≠ i) → oi.apart ops ok = true := fun k ok hk hki hun hno => by
        refine hfree k ok hk hki ?_ hno
        by_cases hjk : j = k
        · subst hjk; exact hjun
        · rw [getD_set_ne true hjk] at hun; exact hun
      refine wpOp_mono (fun a' w' h3 => ih (s.setIfInBounds j true) a' w' hfree' (ready_mono hr (Ne.symm hji)) h3.1 ?_) h2
      rw [Array.setIfInBounds_comm _ _ hji]
      exact h3.2
/-- One operation at a time, the world in the class between. -/
def listC (P : Program) (ops : Array Oper) (C : World → Prop) (Q : Exit → Act → World → Prop) : List Oper → Act → World → Prop
  | [], a, w => C w ∧ Q .normal a w
  | o :: r, a, w => C w ∧ wpList P ops (fun x a' w' => (x = .normal → listC P ops C Q r a' w') ∧ (x ≠ .normal → Q x a' w')) [o] a w
theorem out_of {r : Act → World → Prop} (h : LetsOut (fun x a' w' => (x = .normal → r a' w') ∧ (x ≠ .normal → Q x a' w'))) : LetsOut Q := by
  obtain ⟨a, w, h⟩ := h
  exact ⟨a, w, h.2 (by intro e; cases e)⟩
theorem listC_op {k : Nat} {o : Oper} {r : Act → World → Prop} {a : Act} {w : World} (h0 : ops[k]? = some o) (h : wpList P ops (fun x a' w' => (x = .normal → r a' w') ∧ (x ≠ .normal → Q x a' w')) [o] a w) : wpOp P ops Q k r a w := by
  unfold wpOp
  simp only [h0]
  unfold wpList at h
  split
  · rename_i hw
    simp only [hw, if_true] at h
    rcases h with h | ⟨h1, h2⟩
    · refine .inl ?_
      unfold Oper.wp at *
      generalize (execOp a.eval o).run P w = x at *
      cases x with
      | ok n w' =>
        cases n <;> simp only [Oper.upon, wpList] at h ⊢
        case value u => exact h.1 trivial
        case skip => exact h.1 trivial
        case defer d => exact h.1 trivial
        case enter f args =>
          refine Calls.mono h fun e w'' he => ?_
          cases e with
          | returned u => exact he.1 trivial
          | panicked c => exact he.2 (by intro e; cases e)
          | outgrown => exact out_of he
        case row row args => exact Rows.mono h fun u w'' he => he.1 trivial
      | halt x w' =>
        cases x <;> simp only [Oper.upon] at h ⊢
        case panic u => exact h.2 (by intro e; cases e)
    · exact .inr ⟨h1, out_of h2⟩
  · rename_i hw
    simp only [hw, wpList] at h
    exact h.1 trivial
theorem anyC_of_seq : ∀ (l : List Oper) (k : Nat) (s : Array Bool) (a : Act) (w : World), (∀ j, l[j]? = ops[k + j]?) → Region.seqB md ops l.length k s = true → listC P ops C Q l a w → anyC P md ops C Q l.length s a w
  | [], _, _, _, _, _, hB, h => ⟨h.1, by simpa [Region.seqB] using hB, h.2⟩
  | o :: l, k, s, a, w, hl, hB, h => by
    have h0 : ops[k]? = some o := by simpa using (hl 0).symm
    simp only [List.length_cons, Region.seqB, Bool.and_eq_true, decide_eq_true_eq] at hB
    refine ⟨h.1, fun h1 => (by rw [hB.1] at h1; cases h1), fun i hi => ?_⟩
    rw [hB.1] at hi
    have hik : i = k := by simpa using hi
    subst hik
    exact wpOp_mono (fun a' w' h' => anyC_of_seq l (i + 1) _ a' w' (fun j => by have := hl (j + 1); simpa [Nat.add_assoc, Nat.add_comm 1 j] using this) hB.2 h') (listC_op h0 h.2)
/-- Operations that hand back a value and enter no function. -/
def plainOp : Op → Bool
  | .move _ | .load .. | .fieldAddr .. | .binOp .. | .build .. | .unOp .. | .convert .. | .extract .. | .indexAddr .. | .index .. | .field .. => true
  | _ => false
theorem value_of {s : Sem Value} {w w' : World} {n : Next} (h : Sem.run P (do pure (.value (← s)) : Sem Next) w = .ok n w') : ∃ v, n = .value v := by
  simp only [Sem.run_bind] at h
  generalize Sem.run P s w = r at h
  cases r with
  | ok x w1 =>
    simp only [Result.andThen_ok, Sem.run_pure] at h
    cases h
    exact ⟨x, rfl⟩
  | halt x w1 => cases h
theorem plain_value {ρ : Operand → Value} {o : Oper} (hp : plainOp o.op = true) {w w' : World} {n : Next} (h : (execOp ρ o).run P w = .ok n w') : ∃ v, n = .value v := by
  obtain ⟨dst, op, type, pos, after, guard⟩ := o
  cases op <;> simp only [plainOp, Bool.false_eq_true] at hp <;> simp only [execOp] at h
  case move x => simp only [Sem.run_pure] at h; cases h; exact ⟨_, rfl⟩
  all_goals exact value_of h
theorem plain_run {o : Oper} {a : Act} {v : Value} {w : World} (hp : plainOp o.op = true) (h : o.quietAt P a C w v) : (execOp a.eval o).run P w = .ok (.value v) w := by
  unfold Oper.quietAt at h
  generalize hr : (execOp a.eval o).run P w = r at h
  cases r with
  | ok n w' =>
    obtain ⟨u, rfl⟩ := plain_value hp hr
    simp only [Oper.quietUpon] at h
    rw [h.1, h.2]
  | halt x w' => simp only [Oper.quietUpon] at h
theorem yieldsC_of {o : Oper} {v : Value} {a : Act} (hp : plainOp o.op = true) (h : YieldsIn P ops C o v a) : YieldsC P ops C o v a :=
  h.imp (fun k => ⟨k.1, fun w hw => plain_run hp (k.2 w hw)⟩) id
theorem anyC_lex {n g : Nat} {w : World} (hsel : Region.noSelect ops = true) (hQ : ∀ c a (d : Option Tmp) v w, Q (.panic c) (a.put d v) w → Q (.panic c) a w) {R : Act → Prop} (hR : ∀ s a, Region.seqB md ops g n s = true → R a → anyC P md ops C Q g s a w) (l : List Oper) :
    ∀ (k : Nat) (s : Array Bool) (a : Act), (∀ j, j < l.length → l[j]? = ops[k + j]?) → k + l.length = n → l.all (fun o => plainOp o.op) = true → Region.lexHead md ops g l.length k s = true → wpQuiet P ops C R l a → anyC P md ops C Q (l.length + g) s a w := by
  induction l with
  | nil =>
    intro k s a _ hk _ hB h
    have e : k = n := by simpa using hk
    rw [e] at hB
    rw [List.length_nil, Nat.zero_add]
    exact hR s a hB h
  | cons o l ih =>
    intro k s a hl hk hp hB h
    have h0 : ops[k]? = some o := by have := hl 0 (by simp); simpa using this.symm
    simp only [List.length_cons, Region.lexHead, Bool.and_eq_true] at hB
    simp only [List.all_cons, Bool.and_eq_true] at hp
    have hr : k ∈ Region.ready md ops s := by simpa using hB.1.1
    have hq : qOp P ops C k (wpQuiet P ops C R l) a := by unfold qOp; rw [h0]; exact h
    obtain ⟨v, hy, hK⟩ := yieldsIn_of_qOp h0 hq
    rw [List.length_cons, Nat.add_right_comm]
    refine anyC_first h0 (Region.noSelect_spec hsel) (fun c a w => hQ c a _ _ w) _ s a w (Region.free_spec h0 hB.1.2) hr (yieldsC_of hp.1 hy) ?_
    refine ih (k + 1) _ _ (fun j hj => ?_) (by rw [List.length_cons] at hk; omega) hp.2 hB.2 hK
    have := hl (j + 1) (by simp; omega)
    rw [show k + 1 + j = k + (j + 1) by omega, ← this]
    simp
def strayB (md : Region.Mode) (ops : Array Oper) (n : Nat) : Bool := Region.noSelect ops && decide (n ≤ ops.size) && (ops.toList.take n).all (fun o => plainOp o.op) && Region.lexHead md ops (ops.size - n) n 0 (Array.replicate ops.size false)
/-- One walk in the order of the text serves every order: n operations that read and reckon, the rest in one forced order, the world in the class all the while. -/
theorem region_stray {id : Nat} {a : Act} {w : World} {l : List Oper} (n : Nat) (hm : P.follows .mixedOrders = true) (hQ : ∀ c a (d : Option Tmp) v w, Q (.panic c) (a.put d v) w → Q (.panic c) a w) (hB : strayB .any l.toArray n = true)
    (h : wpQuiet P l.toArray C (fun a' => listC P l.toArray C Q (l.drop n) a' w.drew) (l.take n) a) : (Code.region id l.toArray true).wp P Q a w := by
  simp only [strayB, Bool.and_eq_true, decide_eq_true_eq] at hB
  obtain ⟨⟨⟨hsel, hn⟩, hp⟩, hlex⟩ := hB
  have hn2 : n ≤ l.length := by simpa using hn
  have e1 : (l.take n).length = n := by rw [List.length_take]; omega
  have e2 : (l.drop n).length = l.toArray.size - n := by simp
  have H := anyC_lex (P := P) (C := C) (md := .any) (n := n) (g := l.toArray.size - n) (w := w.drew) (Q := Q) hsel hQ (fun s a' hs hR => by
    have := anyC_of_seq (P := P) (C := C) (md := .any) (Q := Q) (l.drop n) n s a' w.drew (fun j => by simp [List.getElem?_drop]) (by rw [e2]; exact hs) hR
    rwa [e2] at this) (l.take n) 0 _ a (fun j hj => by
    rw [e1] at hj
    simp [hj]) (by rw [e1]; omega) hp (by rw [e1]; exact hlex) h
  rw [e1, show n + (l.toArray.size - n) = l.toArray.size by simp; omega] at H
  exact wp_region_any hm (anyC_any _ _ _ _ H)
end
end Go.Proofs.Ytoofbbmddddlcaa
