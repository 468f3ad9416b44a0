/- Contracts of the document's answer for layer 3: Grain, FormatOk, tens. -/
import Derived.Test.YtapnekpilgbcaaaDoorRefDeci
import Derived.Test.YtapnekpilgbcaaaDoorUnitC
import Derived.Test.YtapnekpilgbcaaaDoorUnitG
namespace Go.Proofs.YtapnekpilgbcaaaDoor
open Go.RowKit

theorem refOk_is {n : Int} {b : Bool} (h : okN n = b) (w : World) :
    Calls Tryd.prog 27 #[.int .i64 n] w fun e w' => e = .returned (.bool b) ∧ w = w' := by
  have := refOk_any n w
  rw [show okB n = b from h] at this
  exact this

set_option maxHeartbeats 1000000 in
theorem refGrain_core (n u k : Int) (hk : k = 10 ∧ u = 1 ∨ k = 254 ∧ u = 2) (w : World) :
    Calls Tryd.prog 12 #[.int .i64 n, .int .i64 u] w fun e w' => e = .returned (.tuple #[.int .i64 ((grainO n u).getD 0), .bool (grainO n u).isSome]) ∧ w = w' := by
  cases ho : okN n with
  | false =>
    have HK := Lib.hid (fun w => refOk_is ho w)
    have HN := Lib.hid (grainO_none (n := n) (u := u) (fun h => by rw [ho] at h; simp at h))
    clear ho
    rcases hk with ⟨rfl, rfl⟩ | ⟨rfl, rfl⟩
    all_goals
      go_enter Tryd.func12, Tryd.ntmps12
      go_wp2_with (go_at_call 27; ((with_reducible refine (HK.out _).mono ?_); rintro e w' ⟨rfl, rfl⟩))
      go_ret2
      exact ⟨by rw [HN.out]; rfl, rfl⟩
  | true =>
    obtain ⟨n0, n1⟩ := okN_yes ho
    have HK := Lib.hid (fun w => refOk_is ho w)
    rcases hk with ⟨rfl, rfl⟩ | ⟨rfl, rfl⟩
    · have hg : n * grainsI 1 = 10 * n := by rw [show grainsI 1 = 10 from rfl]; omega
      by_cases c1 : 536870912 < 10 * n
      · have HN := Lib.hid (grainO_none (n := n) (u := 1) (fun h => by have := near_yes h.2.2; omega))
        clear ho hg
        go_enter Tryd.func12, Tryd.ntmps12
        go_wp2_with (go_at_call 27; ((with_reducible refine (HK.out _).mono ?_); rintro e w' ⟨rfl, rfl⟩))
        go_ret2
        exact ⟨by rw [HN.out]; rfl, rfl⟩
      · by_cases c2 : 10 * n < -536870912
        · have HN := Lib.hid (grainO_none (n := n) (u := 1) (fun h => by have := near_yes h.2.2; omega))
          clear ho hg
          go_enter Tryd.func12, Tryd.ntmps12
          go_wp2_with (go_at_call 27; ((with_reducible refine (HK.out _).mono ?_); rintro e w' ⟨rfl, rfl⟩))
          go_ret2
          exact ⟨by rw [HN.out]; rfl, rfl⟩
        · have HN := Lib.hid (show grainO n 1 = some (10 * n) by rw [grainO_some ⟨.inl rfl, ho, decide_eq_true (by omega)⟩, hg])
          clear ho hg
          go_enter Tryd.func12, Tryd.ntmps12
          go_wp2_with (go_at_call 27; ((with_reducible refine (HK.out _).mono ?_); rintro e w' ⟨rfl, rfl⟩))
          go_ret2
          exact ⟨by rw [HN.out]; rfl, rfl⟩
    · have hg : n * grainsI 2 = 254 * n := by rw [show grainsI 2 = 254 from rfl]; omega
      by_cases c1 : 536870912 < 254 * n
      · have HN := Lib.hid (grainO_none (n := n) (u := 2) (fun h => by have := near_yes h.2.2; omega))
        clear ho hg
        go_enter Tryd.func12, Tryd.ntmps12
        go_wp2_with (go_at_call 27; ((with_reducible refine (HK.out _).mono ?_); rintro e w' ⟨rfl, rfl⟩))
        go_ret2
        exact ⟨by rw [HN.out]; rfl, rfl⟩
      · by_cases c2 : 254 * n < -536870912
        · have HN := Lib.hid (grainO_none (n := n) (u := 2) (fun h => by have := near_yes h.2.2; omega))
          clear ho hg
          go_enter Tryd.func12, Tryd.ntmps12
          go_wp2_with (go_at_call 27; ((with_reducible refine (HK.out _).mono ?_); rintro e w' ⟨rfl, rfl⟩))
          go_ret2
          exact ⟨by rw [HN.out]; rfl, rfl⟩
        · have HN := Lib.hid (show grainO n 2 = some (254 * n) by rw [grainO_some ⟨.inr rfl, ho, decide_eq_true (by omega)⟩, hg])
          clear ho hg
          go_enter Tryd.func12, Tryd.ntmps12
          go_wp2_with (go_at_call 27; ((with_reducible refine (HK.out _).mono ?_); rintro e w' ⟨rfl, rfl⟩))
          go_ret2
          exact ⟨by rw [HN.out]; rfl, rfl⟩
set_option maxHeartbeats 1000000 in
theorem refGrain_any (n u : Int) (w : World) :
    Calls Tryd.prog 12 #[.int .i64 n, .int .i64 u] w fun e w' => e = .returned (.tuple #[.int .i64 ((grainO n u).getD 0), .bool (grainO n u).isSome]) ∧ w = w' := by
  by_cases h1 : u = 1
  · exact refGrain_core n u 10 (.inl ⟨rfl, h1⟩) w
  · by_cases h2 : u = 2
    · exact refGrain_core n u 254 (.inr ⟨rfl, h2⟩) w
    · have HN := Lib.hid (grainO_none (n := n) (u := u) (fun h => by omega))
      have c2 : (u == 2) = false := beq_eq_false_iff_ne.2 h2
      cases ho : okN n with
      | false =>
        have HK := Lib.hid (fun w => refOk_is ho w)
        clear ho h2
        go_enter Tryd.func12, Tryd.ntmps12
        go_wp2_with (go_at_call 27; ((with_reducible refine (HK.out _).mono ?_); rintro e w' ⟨rfl, rfl⟩))
        go_ret2
        exact ⟨by rw [HN.out]; rfl, rfl⟩
      | true =>
        have HK := Lib.hid (fun w => refOk_is ho w)
        clear ho
        by_cases h3 : u < 1
        · clear h2 h1
          go_enter Tryd.func12, Tryd.ntmps12
          go_wp2_with (go_at_call 27; ((with_reducible refine (HK.out _).mono ?_); rintro e w' ⟨rfl, rfl⟩))
          go_ret2
          exact ⟨by rw [HN.out]; rfl, rfl⟩
        · have h4 : 2 < u := by omega
          clear h2 h1
          go_enter Tryd.func12, Tryd.ntmps12
          go_wp2_with (go_at_call 27; ((with_reducible refine (HK.out _).mono ?_); rintro e w' ⟨rfl, rfl⟩))
          go_ret2
          exact ⟨by rw [HN.out]; rfl, rfl⟩

theorem fmt_and (u a d : Int) : fmtB u a d = (decide (1 ≤ u) && decide (u ≤ 2) && decide (0 ≤ a) && decide (a ≤ 6) && decide (0 ≤ d) && decide (d ≤ 6) && decide (0 < a + d)) := by
  unfold fmtB
  rw [Bool.eq_iff_iff]
  simp only [decide_eq_true_eq, Bool.and_eq_true]
  omega
set_option maxHeartbeats 1000000 in
theorem refFmt_any (u a d : Int) (t : Bool) (w : World) :
    Calls Tryd.prog 16 #[fmtV u a d t] w fun e w' => e = .returned (.bool (fmtB u a d)) ∧ Below w.heap.size w w' := by
  have hF := fmt_and u a d
  by_cases h1 : 1 ≤ u
  · by_cases h2 : u ≤ 2
    · by_cases h3 : 0 ≤ a
      · by_cases h4 : a ≤ 6
        · by_cases h5 : 0 ≤ d
          · by_cases h6 : d ≤ 6
            · by_cases h7 : 0 < a + d
              · have HF := Lib.hid (show fmtB u a d = true by rw [hF]; simp [*])
                clear hF
                go_enter Tryd.func16, Tryd.ntmps16
                go_wp2
                go_ret
                exact ⟨by rw [HF.out]; rfl, bel_alloc (bel_refl w) _⟩
              · have HF := Lib.hid (show fmtB u a d = false by rw [hF, decide_eq_false h7]; simp)
                have hb : decide (0 < a + d) = false := decide_eq_false h7
                clear hF
                go_enter Tryd.func16, Tryd.ntmps16
                go_wp2
                go_ret
                exact ⟨by rw [HF.out]; rfl, bel_alloc (bel_refl w) _⟩
            · have HF := Lib.hid (show fmtB u a d = false by rw [hF, decide_eq_false h6]; simp)
              have hb : decide (d ≤ 6) = false := decide_eq_false h6
              clear hF h6
              go_enter Tryd.func16, Tryd.ntmps16
              go_wp2
              go_ret
              exact ⟨by rw [HF.out]; rfl, bel_alloc (bel_refl w) _⟩
          · have HF := Lib.hid (show fmtB u a d = false by rw [hF, decide_eq_false h5]; simp)
            have hb : decide (0 ≤ d) = false := decide_eq_false h5
            clear hF h5
            go_enter Tryd.func16, Tryd.ntmps16
            go_wp2
            go_ret
            exact ⟨by rw [HF.out]; rfl, bel_alloc (bel_refl w) _⟩
        · have HF := Lib.hid (show fmtB u a d = false by rw [hF, decide_eq_false h4]; simp)
          have hb : decide (a ≤ 6) = false := decide_eq_false h4
          clear hF h4
          go_enter Tryd.func16, Tryd.ntmps16
          go_wp2
          go_ret
          exact ⟨by rw [HF.out]; rfl, bel_alloc (bel_refl w) _⟩
      · have HF := Lib.hid (show fmtB u a d = false by rw [hF, decide_eq_false h3]; simp)
        have hb : decide (0 ≤ a) = false := decide_eq_false h3
        clear hF h3
        go_enter Tryd.func16, Tryd.ntmps16
        go_wp2
        go_ret
        exact ⟨by rw [HF.out]; rfl, bel_alloc (bel_refl w) _⟩
    · have HF := Lib.hid (show fmtB u a d = false by rw [hF, decide_eq_false h2]; simp)
      have hb : decide (u ≤ 2) = false := decide_eq_false h2
      clear hF h2
      go_enter Tryd.func16, Tryd.ntmps16
      go_wp2
      go_ret
      exact ⟨by rw [HF.out]; rfl, bel_alloc (bel_refl w) _⟩
  · have HF := Lib.hid (show fmtB u a d = false by rw [hF, decide_eq_false h1]; simp)
    have hb : decide (1 ≤ u) = false := decide_eq_false h1
    clear hF h1
    go_enter Tryd.func16, Tryd.ntmps16
    go_wp2
    go_ret
    exact ⟨by rw [HF.out]; rfl, bel_alloc (bel_refl w) _⟩
theorem refFmt_is {u a d : Int} {b : Bool} (t : Bool) (h : fmtB u a d = b) (w : World) :
    Calls Tryd.prog 16 #[fmtV u a d t] w fun e w' => e = .returned (.bool b) ∧ Below w.heap.size w w' := h ▸ refFmt_any u a d t w

theorem ten_bd {k : Nat} (h : k ≤ 12) : (1 : Int) ≤ 10 ^ k ∧ (10 : Int) ^ k ≤ 1000000000000 := by
  have p : (1 : Int) ≤ 10 ^ k := Int.pow_pos (by omega)
  have q : (10 : Int) ^ k ≤ 10 ^ 12 := ten_mono h
  rw [show (10 : Int) ^ 12 = 1000000000000 from by decide] at q
  exact ⟨p, q⟩
set_option maxHeartbeats 400000 in
theorem refTens_any (n : Nat) (hn : n ≤ 12) (w : World) :
    Calls Tryd.prog 30 #[.int .i64 n] w fun e w' => e = .returned (.int .i64 (10 ^ n)) ∧ w = w' := by
  go_enter Tryd.func30, Tryd.ntmps30
  go_wp2
  go_loop [3, 4] (fun p i => ∃ j : Nat, j ≤ n ∧ i = .int .i64 j ∧ p = .int .i64 (tens 1 j)) (fun _ i => n - (intOf i).toNat)
  case atStart => exact ⟨0, by omega, rfl, rfl⟩
  case round =>
    obtain ⟨j, hj, rfl, rfl⟩ := hrel
    have hb : 1 ≤ tens 1 j ∧ tens 1 j ≤ 1000000000000 := by
      have := ten_bd (k := j) (by omega)
      unfold tens; omega
    obtain ⟨v0, v1⟩ := hb
    by_cases hlt : j < n
    · have v2 : tens 1 j ≤ 100000000000 := by
        have q : (10 : Int) ^ j ≤ 10 ^ 11 := ten_mono (by omega)
        rw [show (10 : Int) ^ 11 = 100000000000 from by decide] at q
        unfold tens; omega
      have HN := Lib.hid (tens_succ 1 j)
      go_wp2
      go_round
      case rel => exact ⟨j + 1, by omega, by go_num, by rw [HN.out]; exact congrArg (Value.int .i64) (Int.mul_comm _ _)⟩
      case measure => simp [intOf]; omega
    · obtain rfl : n = j := by omega
      have HE := Lib.hid (show tens 1 n = 10 ^ n by unfold tens; omega)
      go_wp2
      go_ret
      exact ⟨ret_int HE.out, rfl⟩
theorem refTens_int {x : Int} {n : Nat} (h : x = n) (hn : n ≤ 12) (w : World) :
    Calls Tryd.prog 30 #[.int .i64 x] w fun e w' => e = .returned (.int .i64 (10 ^ n)) ∧ w = w' := by
  subst h; exact refTens_any n hn w
end Go.Proofs.YtapnekpilgbcaaaDoor
