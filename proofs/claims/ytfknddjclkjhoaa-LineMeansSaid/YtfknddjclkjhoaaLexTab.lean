/- A great region that draws its order: that one walk in the order of the text serves every order is told by a small table of its operations (on which each waits, where it writes, at what it looks). No program in it. -/
import Derived.Lib.QuietBelow
namespace Go.Proofs.Ytfknddjclkjhoaa
open Go Go.RowKit

/-- What the check asks of an operation. -/
structure LexRow where
  after : List Nat
  dst : Option Nat
  looks : List Nat
  deriving DecidableEq
def lexRow (md : Region.Mode) (ops : Array Oper) (o : Oper) : LexRow := ⟨(o.after.toList.filter (Region.binds md)).map (·.on), o.dst, o.looksAt ops⟩
def lexTab (md : Region.Mode) (ops : Array Oper) : List LexRow := ops.toList.map (lexRow md ops)
def apartR (x y : LexRow) : Bool :=
  (match x.dst with
   | some d => !(y.looks.contains d) && y.dst != some d
   | none => true) &&
  (match y.dst with
   | some d => !(x.looks.contains d)
   | none => true)
def restR (k : Nat) (x : LexRow) : List LexRow → Bool
  | [] => true
  | y :: l => (y.after.contains k || apartR x y) && restR k x l
def lexR : Nat → List LexRow → Bool
  | _, [] => true
  | k, x :: l => x.after.all (fun on => decide (on < k)) && restR k x l && lexR (k + 1) l

theorem restR_spec {k : Nat} {x : LexRow} : ∀ {l : List LexRow}, restR k x l = true → ∀ y ∈ l, y.after.contains k = true ∨ apartR x y = true
  | [], _, y, hy => by cases hy
  | z :: l, h, y, hy => by
    simp only [restR, Bool.and_eq_true, Bool.or_eq_true] at h
    rcases List.mem_cons.1 hy with rfl | hy
    · exact h.1
    · exact restR_spec h.2 y hy
theorem lexR_spec : ∀ {l : List LexRow} {k : Nat}, lexR k l = true → ∀ i (x : LexRow), l[i]? = some x → (∀ on ∈ x.after, on < k + i) ∧ restR (k + i) x (l.drop (i + 1)) = true
  | [], _, _, i, x, hx => by simp at hx
  | z :: l, k, h, i, x, hx => by
    simp only [lexR, Bool.and_eq_true] at h
    obtain ⟨⟨h1, h2⟩, h3⟩ := h
    cases i with
    | zero =>
      obtain rfl : z = x := by simpa using hx
      refine ⟨fun on hon => ?_, by simpa using h2⟩
      simpa using List.all_eq_true.1 h1 on hon
    | succ i =>
      have := lexR_spec h3 i x (by simpa using hx)
      rw [show k + 1 + i = k + (i + 1) by omega] at this
      simpa using this
theorem tab_at {md : Region.Mode} {ops : Array Oper} {i : Nat} {o : Oper} (h : ops[i]? = some o) : (lexTab md ops)[i]? = some (lexRow md ops o) := by
  unfold lexTab
  rw [List.getElem?_map]
  have : ops.toList[i]? = some o := by simpa using h
  rw [this]; rfl
theorem apart_row {md : Region.Mode} {ops : Array Oper} {x y : Oper} (h : apartR (lexRow md ops x) (lexRow md ops y) = true) : x.apart ops y = true := h

theorem lexFrom_of {md : Region.Mode} {ops : Array Oper} (h : lexR 0 (lexTab md ops) = true) : ∀ (f k : Nat) (s : Array Bool), k + f = ops.size → s.size = ops.size → (∀ j, j < ops.size → ∀ b, s.getD j b = decide (j < k)) → Region.lexFrom md ops f k s = true := by
  intro f
  induction f with
  | zero =>
    intro k s hk hs hl
    simp only [Region.lexFrom, Region.ready, List.isEmpty_iff, List.filter_eq_nil_iff, List.mem_range]
    intro i hi
    rw [hl i hi]
    simp; omega
  | succ f ih =>
    intro k s hk hs hl
    have hkn : k < ops.size := by omega
    obtain ⟨o, ho⟩ : ∃ o, ops[k]? = some o := ⟨ops[k], by simp [hkn]⟩
    obtain ⟨h1, h2⟩ := lexR_spec h k _ (tab_at (md := md) ho)
    rw [Nat.zero_add] at h1 h2
    simp only [Region.lexFrom, Bool.and_eq_true]
    refine ⟨⟨?_, ?_⟩, ?_⟩
    · simp only [Region.ready, List.contains_iff_mem, List.mem_filter, List.mem_range]
      refine ⟨hkn, ?_⟩
      rw [hl k hkn, ho]
      simp only [Option.map_some, Option.getD_some, Bool.and_eq_true, Bool.not_eq_true', decide_eq_false_iff_not, Nat.lt_irrefl, not_false_eq_true, true_and]
      rw [Array.all_eq_true_iff_forall_mem]
      intro e he
      by_cases hb : Region.binds md e = true
      · have hon := h1 e.on (by
          unfold lexRow
          simp only [List.mem_map, List.mem_filter]
          exact ⟨e, ⟨by simpa using he, hb⟩, rfl⟩)
        rw [hl e.on (by omega)]
        simp [hon]
      · simp [hb]
    · simp only [Region.free, ho, List.all_eq_true, List.mem_range]
      intro j hj
      rw [hl j hj]
      rcases Nat.lt_trichotomy j k with hjk | rfl | hjk
      · simp [hjk]
      · simp
      · obtain ⟨oj, hoj⟩ : ∃ o, ops[j]? = some o := ⟨ops[j], by simp [hj]⟩
        have hm : lexRow md ops oj ∈ (lexTab md ops).drop (k + 1) := by
          refine List.mem_of_getElem? (i := j - (k + 1)) ?_
          rw [List.getElem?_drop, show k + 1 + (j - (k + 1)) = j by omega]
          exact tab_at hoj
        have hr := restR_spec h2 _ hm
        rw [hoj]
        simp only [Bool.or_eq_true]
        right
        rcases hr with hr | hr
        · left
          rw [Array.any_eq_true']
          unfold lexRow at hr
          simp only [List.contains_iff_mem, List.mem_map, List.mem_filter] at hr
          obtain ⟨e, ⟨he, hb⟩, rfl⟩ := hr
          exact ⟨e, by simpa using he, by simp [hb]⟩
        · right; exact apart_row hr
    · refine ih (k + 1) _ (by omega) (by simp [hs]) (fun j hj b => ?_)
      by_cases hjk : j = k
      · subst hjk
        simp [Array.getD, hs, hj]
      · have := hl j hj b
        simp only [Array.getD, Array.size_setIfInBounds, hs, hj, dite_true] at this ⊢
        rw [Array.getInternal_eq_getElem] at this ⊢
        rw [Array.getElem_setIfInBounds_ne (by omega) (by omega)]
        rw [this, decide_eq_decide]; omega
theorem lexB_of {md : Region.Mode} {ops : Array Oper} {T : List LexRow} (hs : Region.noSelect ops = true) (hT : lexTab md ops = T) (h : lexR 0 T = true) : Region.lexB md ops = true := by
  simp only [Region.lexB, Bool.and_eq_true]
  refine ⟨hs, lexFrom_of (hT ▸ h) ops.size 0 _ (by omega) (by simp) (fun j hj b => ?_)⟩
  simp [Array.getD, hj]
end Go.Proofs.Ytfknddjclkjhoaa
