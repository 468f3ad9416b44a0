/- Contracts of package wide: what each of its functions returns, for all numbers. -/
import Derived.Test.YtoofbbmddddlcaaProg
import Derived.Test.YtoofbbmddddlcaaMath
import Derived.Test.YtoofbbmddddlcaaBase
import Derived.WalkKit
import Derived.WalkSpells
import Derived.WalkLawsBesides
import Derived.Lib.Hide
namespace Go.Proofs.Ytoofbbmddddlcaa
open Go.RowKit



/-- The value of a 128-bit number. -/
abbrev wide (hi lo : Int) : Value := .agg #[.int .u64 hi, .int .u64 lo]



set_option maxHeartbeats 400000 in
theorem abs_any (a : Int) (h0 : -9223372036854775808 ≤ a) (h1 : a ≤ 9223372036854775807) (w : World) :
    Calls Try.prog 62 #[.int .i64 a] w fun e w' => e = .returned (.int .u64 (absI a)) ∧ w = w' := by
  by_cases h : a < 0
  · go_enter Try.func62, Try.ntmps62
    go_wp2
    go_ret
    exact ⟨retOne (abs_neg_form a h0 h), rfl⟩
  · go_enter Try.func62, Try.ntmps62
    go_wp2
    go_ret
    exact ⟨retOne (by unfold absI; rw [if_neg (by omega)]), rfl⟩

set_option maxHeartbeats 400000 in
theorem cmpWord_any (a b : Int) (w : World) :
    Calls Try.prog 61 #[.int .u64 a, .int .u64 b] w fun e w' => e = .returned (.int .i64 (cmpW a b)) ∧ w = w' := by
  by_cases h : a < b
  · go_enter Try.func61, Try.ntmps61
    go_wp2
    go_ret
    exact ⟨retOne (by unfold cmpW; rw [if_pos h]), rfl⟩
  · by_cases h' : b < a
    · go_enter Try.func61, Try.ntmps61
      go_wp2
      go_ret
      exact ⟨retOne (by unfold cmpW; rw [if_neg (by omega), if_pos h']), rfl⟩
    · go_enter Try.func61, Try.ntmps61
      go_wp2
      go_ret
      exact ⟨retOne (by unfold cmpW; rw [if_neg (by omega), if_neg (by omega)]), rfl⟩

theorem mulLo_form (a b : Int) : IntKind.u64.wrap (a * b) = mulLo a b := wrap64u _
set_option maxHeartbeats 400000 in
theorem mul_any (a b : Int) (h0 : 0 ≤ a) (h1 : a ≤ 18446744073709551615) (h2 : 0 ≤ b) (h3 : b ≤ 18446744073709551615) (w : World) :
    Calls Try.prog 56 #[.int .u64 a, .int .u64 b] w fun e w' => e = .returned (wide (mulHi a b) (mulLo a b)) ∧ Below w.heap.size w w' := by
  have Hm := Lib.hid (mul_form a b h0 h1 h2 h3)
  have Hl := Lib.hid (mulLo_form a b)
  clear h0 h1 h2 h3
  go_enter Try.func56, Try.ntmps56
  go_wp2
  rw [Hm.out, Hl.out]
  exact bodyPost_ret (v := wide (mulHi a b) (mulLo a b)) (by simp [results, Try.results56, go_sem]) rfl ⟨rfl, (Below.refl _ _).alloc (Nat.le_refl _) _⟩

set_option maxHeartbeats 400000 in
theorem sq_any (a : Int) (h0 : -9223372036854775808 ≤ a) (h1 : a ≤ 9223372036854775807) (w : World) :
    Calls Try.prog 55 #[.int .i64 a] w fun e w' => e = .returned (wide (mulHi (absI a) (absI a)) (mulLo (absI a) (absI a))) ∧ Below w.heap.size w w' := by
  obtain ⟨hn0, hn1⟩ := absI_bd a h0 h1
  go_enter Try.func55, Try.ntmps55
  go_wp2_with (first
    | (go_at_call 62; refine (abs_any _ (by omega) (by omega) _).mono ?_; rintro e w' ⟨rfl, rfl⟩)
    | (go_at_call 56; refine (mul_any _ _ (by omega) (by omega) (by omega) (by omega) _).mono ?_; rintro e w1 ⟨rfl, hb⟩; obtain ⟨hc, hf⟩ := bcell hb))
  obtain ⟨hc, hf⟩ := bcell hb
  exact bodyPost_ret (v := wide (mulHi (absI a) (absI a)) (mulLo (absI a) (absI a))) (by simp [results, Try.results55, go_sem, hc]) rfl ⟨rfl, ((((Below.refl _ _).alloc (Nat.le_refl _) _).trans (hb.mono (by simp))).setCell (by simp) _).setCell (by simp) _⟩


set_option maxHeartbeats 400000 in
theorem cmp_any (a b c d : Int) (hb : 0 ≤ b) (hb' : b ≤ 18446744073709551615) (hd : 0 ≤ d) (hd' : d ≤ 18446744073709551615) (w : World) :
    Calls Try.prog 54 #[wide a b, wide c d] w fun e w' => e = .returned (.int .i64 (cmpWide a b c d)) ∧ Below w.heap.size w w' := by
  by_cases h : a = c
  · subst h
    have Hv := Lib.hid (cmpWide_lo a b d)
    go_enter Try.func54, Try.ntmps54
    go_wp2_with (go_at_call 61; refine (cmpWord_any _ _ _).mono ?_; rintro e w' ⟨rfl, rfl⟩)
    go_ret
    exact ⟨retOne Hv.out, ((Below.refl _ _).alloc (Nat.le_refl _) _).alloc (by simp) _⟩
  · have Hv := Lib.hid (cmpWide_hi a b c d hb hb' hd hd' h)
    have hne : (a != c) = true := by rw [bne_iff_ne]; exact h
    go_enter Try.func54, Try.ntmps54
    go_wp2_with (go_at_call 61; refine (cmpWord_any _ _ _).mono ?_; rintro e w' ⟨rfl, rfl⟩)
    go_ret
    exact ⟨retOne Hv.out, ((Below.refl _ _).alloc (Nat.le_refl _) _).alloc (by simp) _⟩
end Go.Proofs.Ytoofbbmddddlcaa
