/- Contracts of the document's answer for layer 1: it returns the same numbers. -/
import Derived.Test.YtoofbbmddddlcaaWide
namespace Go.Proofs.Ytoofbbmddddlcaa
open Go.RowKit

set_option maxHeartbeats 400000 in
theorem refAbs_any (a : Int) (h0 : -9223372036854775808 ≤ a) (h1 : a ≤ 9223372036854775807) (w : World) :
    Calls Try.prog 63 #[.int .i64 a] w fun e w' => e = .returned (.int .u64 (absI a)) ∧ w = w' := by
  by_cases h : a < 0
  · go_enter Try.func63, Try.ntmps63
    go_wp2
    go_ret
    exact ⟨retOne (abs_ref_form a h), rfl⟩
  · go_enter Try.func63, Try.ntmps63
    go_wp2
    go_ret
    exact ⟨retOne (by unfold absI; rw [if_neg (by omega)]), rfl⟩

set_option maxHeartbeats 400000 in
theorem refMul_any (a b : Int) (h0 : 0 ≤ a) (h1 : a ≤ 18446744073709551615) (h2 : 0 ≤ b) (h3 : b ≤ 18446744073709551615) (w : World) :
    Calls Try.prog 59 #[.int .u64 a, .int .u64 b] w fun e w' => e = .returned (wide (mulHi a b) (mulLo a b)) ∧ Below w.heap.size w w' := by
  have ha32 := and32 a h0 h1
  have hb32 := and32 b h2 h3
  have Q := quad4 a b h0 h1 h2 h3
  have Hm := Lib.hid (refMul_form a b _ _ _ _ Q)
  obtain ⟨p0, p1, q0, q1, r0, r1, s0, s1, all⟩ := Q
  have hq := and32 _ q0 (by omega)
  have hr := and32 _ r0 (by omega)
  have hs := and32 _ s0 (by omega)
  clear all
  go_enter Try.func59, Try.ntmps59
  go_wp2
  rw [Hm.out.1, Hm.out.2]
  exact bodyPost_ret (v := wide (mulHi a b) (mulLo a b)) (by simp [results, Try.results59, go_sem]) rfl ⟨rfl, (Below.refl _ _).alloc (Nat.le_refl _) _⟩

set_option maxHeartbeats 400000 in
theorem refSq_any (a : Int) (h0 : -9223372036854775808 ≤ a) (h1 : a ≤ 9223372036854775807) (w : World) :
    Calls Try.prog 58 #[.int .i64 a] w fun e w' => e = .returned (wide (mulHi (absI a) (absI a)) (mulLo (absI a) (absI a))) ∧ Below w.heap.size w w' := by
  obtain ⟨hn0, hn1⟩ := absI_bd a h0 h1
  go_enter Try.func58, Try.ntmps58
  go_wp2_with (first
    | (go_at_call 63; refine (refAbs_any _ (by omega) (by omega) _).mono ?_; rintro e w' ⟨rfl, rfl⟩)
    | (go_at_call 59; refine (refMul_any _ _ (by omega) (by omega) (by omega) (by omega) _).mono ?_; rintro e w1 ⟨rfl, hb⟩; obtain ⟨hc, hf⟩ := bcell hb))
  obtain ⟨hc, hf⟩ := bcell hb
  exact bodyPost_ret (v := wide (mulHi (absI a) (absI a)) (mulLo (absI a) (absI a))) (by simp [results, Try.results58, go_sem, hc]) rfl ⟨rfl, ((((Below.refl _ _).alloc (Nat.le_refl _) _).trans (hb.mono (by simp))).setCell (by simp) _).setCell (by simp) _⟩

set_option maxHeartbeats 400000 in
theorem refCmp_any (a b c d : Int) (hb : 0 ≤ b) (hb' : b ≤ 18446744073709551615) (hd : 0 ≤ d) (hd' : d ≤ 18446744073709551615) (w : World) :
    Calls Try.prog 57 #[wide a b, wide c d] w fun e w' => e = .returned (.int .i64 (cmpWide a b c d)) ∧ Below w.heap.size w w' := by
  by_cases h : a = c
  · subst h
    rcases Int.lt_trichotomy b d with g | g | g
    · have Hv : (-1 : Int) = cmpWide a b a d := by rw [← cmpWide_lo]; unfold cmpW; rw [if_pos g]
      have e1 : (b == d) = false := beq_eq_false_iff_ne.2 (by omega)
      have Hv := Lib.hid Hv
      go_enter Try.func57, Try.ntmps57
      go_wp2
      go_ret
      exact ⟨retOne Hv.out, ((Below.refl _ _).alloc (Nat.le_refl _) _).alloc (by simp) _⟩
    · subst g
      have Hv : (0 : Int) = cmpWide a b a b := by rw [← cmpWide_lo]; unfold cmpW; simp
      have Hv := Lib.hid Hv
      go_enter Try.func57, Try.ntmps57
      go_wp2
      go_ret
      exact ⟨retOne Hv.out, ((Below.refl _ _).alloc (Nat.le_refl _) _).alloc (by simp) _⟩
    · have Hv : (1 : Int) = cmpWide a b a d := by rw [← cmpWide_lo]; unfold cmpW; rw [if_neg (by omega), if_pos g]
      have e1 : (b == d) = false := beq_eq_false_iff_ne.2 (by omega)
      have Hv := Lib.hid Hv
      go_enter Try.func57, Try.ntmps57
      go_wp2
      go_ret
      exact ⟨retOne Hv.out, ((Below.refl _ _).alloc (Nat.le_refl _) _).alloc (by simp) _⟩
  · have Hv := cmpWide_hi a b c d hb hb' hd hd' h
    have e1 : (a == c) = false := beq_eq_false_iff_ne.2 h
    by_cases g : a < c
    · have Hv := Lib.hid ((show (-1 : Int) = cmpW a c from by unfold cmpW; rw [if_pos g]).trans Hv)
      clear h
      go_enter Try.func57, Try.ntmps57
      go_wp2
      go_ret
      exact ⟨retOne Hv.out, ((Below.refl _ _).alloc (Nat.le_refl _) _).alloc (by simp) _⟩
    · have Hv := Lib.hid ((show (1 : Int) = cmpW a c from by unfold cmpW; rw [if_neg g, if_pos (by omega)]).trans Hv)
      clear h
      go_enter Try.func57, Try.ntmps57
      go_wp2
      go_ret
      exact ⟨retOne Hv.out, ((Below.refl _ _).alloc (Nat.le_refl _) _).alloc (by simp) _⟩

end Go.Proofs.Ytoofbbmddddlcaa
