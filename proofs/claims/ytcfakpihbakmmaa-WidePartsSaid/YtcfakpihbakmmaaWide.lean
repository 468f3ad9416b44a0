/- Contracts of package wide: what each of its functions returns, for all numbers. -/
import Derived.Test.YtcfakpihbakmmaaProg
import Derived.Test.YtcfakpihbakmmaaMath
import Derived.WalkKit
import Derived.WalkSpells
import Derived.WalkLawsBesides
import Derived.Lib.Hide
namespace Go.Proofs.Ytcfakpihbakmmaa
open Go.RowKit

theorem bcell {W w1 : World} (hb : Below W.heap.size W w1) : (∀ b o, b < W.heap.size → w1.cell? ⟨b, o, none⟩ = W.cell? ⟨b, o, none⟩) ∧ (∀ b o, b < W.heap.size → w1.frozen? ⟨b, o, none⟩ = W.frozen? ⟨b, o, none⟩) :=
  ⟨fun b o h => hb.cell (p := ⟨b, o, none⟩) h, fun b o h => hb.frozen (p := ⟨b, o, none⟩) h⟩

theorem bel_trans {a b c : World} (h : Below a.heap.size a b) (k : Below b.heap.size b c) : Below a.heap.size a c := h.trans (k.mono h.size)
theorem bel_alloc {a b : World} (h : Below a.heap.size a b) (o : Obj) : Below a.heap.size a (b.alloc o) := h.alloc h.size o
theorem bel_refl (a : World) : Below a.heap.size a a := Below.refl _ _
theorem bel_size {a b : World} (h : Below a.heap.size a b) : a.heap.size ≤ b.heap.size := h.size
/-- What a call that follows an allocation leaves of sizes. -/
theorem bel_more {a b : World} {o : Obj} (h : Below (a.alloc o).heap.size (a.alloc o) b) : a.heap.size < b.heap.size := by have := h.size; simp at this; omega

/-- The value of a 128-bit number. -/
abbrev wide (hi lo : Int) : Value := .agg #[.int .u64 hi, .int .u64 lo]

theorem retTwo {a b c d : Int} {k : IntKind} (h1 : a = c) (h2 : b = d) : Ending.returned (.tuple #[.int k a, .int k b]) = .returned (.tuple #[.int k c, .int k d]) := by rw [h1, h2]
theorem retOne {a c : Int} {k : IntKind} (h1 : a = c) : Ending.returned (.int k a) = .returned (.int k c) := by rw [h1]

set_option maxHeartbeats 400000 in
theorem addWord_any (a b c : Int) (h0 : 0 ≤ a) (h1 : a ≤ 18446744073709551615) (h2 : 0 ≤ b) (h3 : b ≤ 18446744073709551615) (h4 : 0 ≤ c) (h5 : c ≤ 1) (w : World) :
    Calls Try.prog 19 #[.int .u64 a, .int .u64 b, .int .u64 c] w fun e w' => e = .returned (.tuple #[.int .u64 (sumLo a b c), .int .u64 (sumHi a b c)]) ∧ w = w' := by
  have hs := sum_form a b c
  have hc := sum_carry a b c h0 h1 h2 h3 h4 h5
  have hn := sum_none a b c h0 h1 h2 h3 h4 h5
  have Hs := Lib.hid hs
  have Hc := Lib.hid hc
  have Hn := Lib.hid hn
  clear hs hc hn
  by_cases hx : a ≤ IntKind.u64.wrap (a + b)
  · by_cases hy : IntKind.u64.wrap (a + b) ≤ IntKind.u64.wrap (IntKind.u64.wrap (a + b) + c)
    · go_enter Try.func19, Try.ntmps19
      go_wp2
      all_goals (go_ret2; exact ⟨retTwo Hs.out (Hn.out ⟨hx, hy⟩), rfl⟩)
    · go_enter Try.func19, Try.ntmps19
      go_wp2
      all_goals (go_ret2; exact ⟨retTwo Hs.out (Hc.out (.inr (by omega))), rfl⟩)
  · go_enter Try.func19, Try.ntmps19
    go_wp2
    all_goals (go_ret2; exact ⟨retTwo Hs.out (Hc.out (.inl (by omega))), rfl⟩)

set_option maxHeartbeats 400000 in
theorem abs_any (a : Int) (h0 : -9223372036854775808 ≤ a) (h1 : a ≤ 9223372036854775807) (w : World) :
    Calls Try.prog 12 #[.int .i64 a] w fun e w' => e = .returned (.int .u64 (absI a)) ∧ w = w' := by
  by_cases h : a < 0
  · go_enter Try.func12, Try.ntmps12
    go_wp2
    go_ret
    exact ⟨retOne (abs_neg_form a h0 h), rfl⟩
  · go_enter Try.func12, Try.ntmps12
    go_wp2
    go_ret
    exact ⟨retOne (by unfold absI; rw [if_neg (by omega)]), rfl⟩

set_option maxHeartbeats 400000 in
theorem cmpWord_any (a b : Int) (w : World) :
    Calls Try.prog 20 #[.int .u64 a, .int .u64 b] w fun e w' => e = .returned (.int .i64 (cmpW a b)) ∧ w = w' := by
  by_cases h : a < b
  · go_enter Try.func20, Try.ntmps20
    go_wp2
    go_ret
    exact ⟨retOne (by unfold cmpW; rw [if_pos h]), rfl⟩
  · by_cases h' : b < a
    · go_enter Try.func20, Try.ntmps20
      go_wp2
      go_ret
      exact ⟨retOne (by unfold cmpW; rw [if_neg (by omega), if_pos h']), rfl⟩
    · go_enter Try.func20, Try.ntmps20
      go_wp2
      go_ret
      exact ⟨retOne (by unfold cmpW; rw [if_neg (by omega), if_neg (by omega)]), rfl⟩

theorem mulLo_form (a b : Int) : IntKind.u64.wrap (a * b) = mulLo a b := wrap64u _
set_option maxHeartbeats 400000 in
theorem mul_any (a b : Int) (h0 : 0 ≤ a) (h1 : a ≤ 18446744073709551615) (h2 : 0 ≤ b) (h3 : b ≤ 18446744073709551615) (w : World) :
    Calls Try.prog 8 #[.int .u64 a, .int .u64 b] w fun e w' => e = .returned (wide (mulHi a b) (mulLo a b)) ∧ Below w.heap.size w w' := by
  have Hm := Lib.hid (mul_form a b h0 h1 h2 h3)
  have Hl := Lib.hid (mulLo_form a b)
  clear h0 h1 h2 h3
  go_enter Try.func8, Try.ntmps8
  go_wp2
  rw [Hm.out, Hl.out]
  exact bodyPost_ret (v := wide (mulHi a b) (mulLo a b)) (by simp [results, Try.results8, go_sem]) rfl ⟨rfl, (Below.refl _ _).alloc (Nat.le_refl _) _⟩

set_option maxHeartbeats 400000 in
theorem sq_any (a : Int) (h0 : -9223372036854775808 ≤ a) (h1 : a ≤ 9223372036854775807) (w : World) :
    Calls Try.prog 15 #[.int .i64 a] w fun e w' => e = .returned (wide (mulHi (absI a) (absI a)) (mulLo (absI a) (absI a))) ∧ Below w.heap.size w w' := by
  obtain ⟨hn0, hn1⟩ := absI_bd a h0 h1
  go_enter Try.func15, Try.ntmps15
  go_wp2_with (first
    | (go_at_call 12; refine (abs_any _ (by omega) (by omega) _).mono ?_; rintro e w' ⟨rfl, rfl⟩)
    | (go_at_call 8; refine (mul_any _ _ (by omega) (by omega) (by omega) (by omega) _).mono ?_; rintro e w1 ⟨rfl, hb⟩; obtain ⟨hc, hf⟩ := bcell hb; have hz : w.heap.size < w1.heap.size := by have := hb.size; simp at this; omega))
  obtain ⟨hc, hf⟩ := bcell hb
  exact bodyPost_ret (v := wide (mulHi (absI a) (absI a)) (mulLo (absI a) (absI a))) (by simp [results, Try.results15, go_sem, hc, hz]) rfl ⟨rfl, ((((Below.refl _ _).alloc (Nat.le_refl _) _).trans (hb.mono (by simp))).setCell (by simp) _).setCell (by simp) _⟩

set_option maxHeartbeats 400000 in
theorem add_any (a b c d : Int) (ha : 0 ≤ a) (ha' : a ≤ 18446744073709551615) (hb : 0 ≤ b) (hb' : b ≤ 18446744073709551615) (hc : 0 ≤ c) (hc' : c ≤ 18446744073709551615) (hd : 0 ≤ d) (hd' : d ≤ 18446744073709551615) (w : World) :
    Calls Try.prog 9 #[wide a b, wide c d] w fun e w' => e = .returned (.tuple #[wide (addHi a b c d) (addLo a b c d), .bool (addOk a b c d)]) ∧ Below w.heap.size w w' := by
  have ho := add_over a b c d ha ha' hb hb' hc hc' hd hd'
  obtain ⟨hs0, hs1⟩ := sumHi_bd b d 0 hb hb' hd hd' (by omega) (by omega)
  obtain ⟨ht0, ht1⟩ := sumHi_bd a c (sumHi b d 0) ha ha' hc hc' hs0 hs1
  by_cases hx : 0 < sumHi a c (sumHi b d 0)
  · have hno : addOk a b c d = false := by rw [ho]; exact decide_eq_false (by omega)
    have Hv := Lib.hid (addHi_no a b c d hno)
    have Hno := Lib.hid hno
    clear hno ho
    go_enter Try.func9, Try.ntmps9
    go_wp2_with fail
    refine (addWord_any _ _ _ (by omega) (by omega) (by omega) (by omega) (by omega) (by omega) _).mono ?_; rintro e w' ⟨rfl, rfl⟩
    go_wp2_with fail
    refine (addWord_any _ _ _ (by omega) (by omega) (by omega) (by omega) (by omega) (by omega) _).mono ?_; rintro e w' ⟨rfl, rfl⟩
    go_wp2
    rw [Hv.out.1, Hv.out.2, Hno.out]
    exact bodyPost_ret (v := .tuple #[wide 0 0, .bool false]) (by simp [results, Try.results9, go_sem]) rfl ⟨rfl, (((Below.refl _ _).alloc (Nat.le_refl _) _).alloc (by simp) _).alloc (by simp; omega) _⟩
  · have hok : addOk a b c d = true := by rw [ho]; exact decide_eq_true (by omega)
    have Hv := Lib.hid (addHi_ok a b c d hok hb hb' hd hd' ha hc)
    have Hok := Lib.hid hok
    clear hok ho
    go_enter Try.func9, Try.ntmps9
    go_wp2_with fail
    refine (addWord_any _ _ _ (by omega) (by omega) (by omega) (by omega) (by omega) (by omega) _).mono ?_; rintro e w' ⟨rfl, rfl⟩
    go_wp2_with fail
    refine (addWord_any _ _ _ (by omega) (by omega) (by omega) (by omega) (by omega) (by omega) _).mono ?_; rintro e w' ⟨rfl, rfl⟩
    go_wp2
    rw [← Hv.out.1, ← Hv.out.2, Hok.out]
    exact bodyPost_ret (v := .tuple #[wide (sumLo a c (sumHi b d 0)) (sumLo b d 0), .bool true]) (by simp [results, Try.results9, go_sem]) rfl ⟨rfl, (((Below.refl _ _).alloc (Nat.le_refl _) _).alloc (by simp) _).alloc (by simp; omega) _⟩

set_option maxHeartbeats 400000 in
theorem cmp_any (a b c d : Int) (hb : 0 ≤ b) (hb' : b ≤ 18446744073709551615) (hd : 0 ≤ d) (hd' : d ≤ 18446744073709551615) (w : World) :
    Calls Try.prog 17 #[wide a b, wide c d] w fun e w' => e = .returned (.int .i64 (cmpWide a b c d)) ∧ Below w.heap.size w w' := by
  by_cases h : a = c
  · subst h
    have Hv := Lib.hid (cmpWide_lo a b d)
    go_enter Try.func17, Try.ntmps17
    go_wp2_with (go_at_call 20; refine (cmpWord_any _ _ _).mono ?_; rintro e w' ⟨rfl, rfl⟩)
    go_ret
    exact ⟨retOne Hv.out, ((Below.refl _ _).alloc (Nat.le_refl _) _).alloc (by simp) _⟩
  · have Hv := Lib.hid (cmpWide_hi a b c d hb hb' hd hd' h)
    have hne : (a != c) = true := by rw [bne_iff_ne]; exact h
    go_enter Try.func17, Try.ntmps17
    go_wp2_with (go_at_call 20; refine (cmpWord_any _ _ _).mono ?_; rintro e w' ⟨rfl, rfl⟩)
    go_ret
    exact ⟨retOne Hv.out, ((Below.refl _ _).alloc (Nat.le_refl _) _).alloc (by simp) _⟩
end Go.Proofs.Ytcfakpihbakmmaa
