/- Contracts of package unit's small functions: what each returns. -/
import Derived.Test.YtapnekpilgbcaaaDoorDeci
import Derived.Test.YtapnekpilgbcaaaDoorUnitMath
namespace Go.Proofs.YtapnekpilgbcaaaDoor
open Go.RowKit

/-- The value of a format. -/
abbrev fmtV (u a d : Int) (t : Bool) : Value := .agg #[.int .i64 u, .int .i64 a, .int .i64 d, .bool t]

theorem grains_any (u : Int) (w : World) :
    Calls Tryd.prog 25 #[.int .i64 u] w fun e w' => e = .returned (.int .i64 (grainsI u)) ∧ w = w' := by
  rcases grains_cases u with ⟨rfl, h⟩ | ⟨rfl, h⟩ | ⟨h1, h⟩
  · go_enter Tryd.func25, Tryd.ntmps25
    go_wp2
    go_ret
    exact ⟨rfl, rfl⟩
  · go_enter Tryd.func25, Tryd.ntmps25
    go_wp2
    go_ret
    exact ⟨rfl, rfl⟩
  · have H := Lib.hid h
    have c1 : (u == 1) = false := beq_eq_false_iff_ne.2 (by omega)
    have c2 : (u == 2) = false := beq_eq_false_iff_ne.2 (by omega)
    clear h h1
    go_enter Tryd.func25, Tryd.ntmps25
    go_wp2
    go_ret
    exact ⟨by rw [H.out]; rfl, rfl⟩
theorem near_any (n : Int) (w : World) :
    Calls Tryd.prog 18 #[.int .i64 n] w fun e w' => e = .returned (.bool (nearB n)) ∧ w = w' := by
  by_cases h : -536870912 ≤ n
  · by_cases k : n ≤ 536870912
    · have H := Lib.hid (show nearB n = true from decide_eq_true ⟨h, k⟩)
      go_enter Tryd.func18, Tryd.ntmps18
      go_wp2
      go_ret
      exact ⟨by rw [H.out]; rfl, rfl⟩
    · have H := Lib.hid (show nearB n = false from decide_eq_false (by omega))
      go_enter Tryd.func18, Tryd.ntmps18
      go_wp2
      go_ret
      exact ⟨by rw [H.out]; rfl, rfl⟩
  · have H := Lib.hid (show nearB n = false from decide_eq_false (by omega))
    go_enter Tryd.func18, Tryd.ntmps18
    go_wp2
    go_ret
    exact ⟨by rw [H.out]; rfl, rfl⟩
theorem places_any (n : Int) (w : World) :
    Calls Tryd.prog 32 #[.int .i64 n] w fun e w' => e = .returned (.bool (plB n)) ∧ w = w' := by
  by_cases h : 0 ≤ n
  · by_cases k : n ≤ 6
    · have H := Lib.hid (show plB n = true from decide_eq_true ⟨h, k⟩)
      go_enter Tryd.func32, Tryd.ntmps32
      go_wp2
      go_ret
      exact ⟨by rw [H.out]; rfl, rfl⟩
    · have H := Lib.hid (show plB n = false from decide_eq_false (by omega))
      go_enter Tryd.func32, Tryd.ntmps32
      go_wp2
      go_ret
      exact ⟨by rw [H.out]; rfl, rfl⟩
  · have H := Lib.hid (show plB n = false from decide_eq_false (by omega))
    go_enter Tryd.func32, Tryd.ntmps32
    go_wp2
    go_ret
    exact ⟨by rw [H.out]; rfl, rfl⟩
theorem grains_is {u k : Int} (h : grainsI u = k) (w : World) :
    Calls Tryd.prog 25 #[.int .i64 u] w fun e w' => e = .returned (.int .i64 k) ∧ w = w' := h ▸ grains_any u w
theorem near_is {n : Int} {b : Bool} (h : nearB n = b) (w : World) :
    Calls Tryd.prog 18 #[.int .i64 n] w fun e w' => e = .returned (.bool b) ∧ w = w' := h ▸ near_any n w
theorem places_is {n : Int} {b : Bool} (h : plB n = b) (w : World) :
    Calls Tryd.prog 32 #[.int .i64 n] w fun e w' => e = .returned (.bool b) ∧ w = w' := h ▸ places_any n w
theorem ok_is {n : Int} {b : Bool} (h : okN n = b) (w : World) :
    Calls Tryd.prog 26 #[.int .i64 n] w fun e w' => e = .returned (.bool b) ∧ w = w' := by
  have := ok_any n w
  rw [show okB n = b from h] at this
  exact this

set_option maxHeartbeats 1000000 in
theorem grain_any (n u : Int) (w : World) :
    Calls Tryd.prog 11 #[.int .i64 n, .int .i64 u] w fun e w' => e = .returned (.tuple #[.int .i64 ((grainO n u).getD 0), .bool (grainO n u).isSome]) ∧ w = w' := by
  rcases grains_cases u with ⟨hu, hg⟩ | ⟨hu, hg⟩ | ⟨hu, hg⟩
  · have HG := Lib.hid (fun w => grains_is hg w)
    cases ho : okN n with
    | false =>
      have HK := Lib.hid (fun w => ok_is ho w)
      have HN := Lib.hid (grainO_none (n := n) (u := u) (fun h => by rw [ho] at h; simp at h))
      clear hu hg ho
      go_enter Tryd.func11, Tryd.ntmps11
      go_wp2_with (first
        | (go_at_call 25; ((with_reducible refine (HG.out _).mono ?_); rintro e w' ⟨rfl, rfl⟩))
        | (go_at_call 26; ((with_reducible refine (HK.out _).mono ?_); rintro e w' ⟨rfl, rfl⟩)))
      go_ret2
      exact ⟨by rw [HN.out]; rfl, rfl⟩
    | true =>
      obtain ⟨n0, n1⟩ := okN_yes ho
      have HK := Lib.hid (fun w => ok_is ho w)
      cases hn : nearB (n * 10) with
      | false =>
        have HF := Lib.hid (fun w => near_is hn w)
        have HN := Lib.hid (grainO_none (n := n) (u := u) (fun h => by rw [hg, hn] at h; simp at h))
        clear hu hg ho hn
        go_enter Tryd.func11, Tryd.ntmps11
        go_wp2_with (first
          | (go_at_call 25; ((with_reducible refine (HG.out _).mono ?_); rintro e w' ⟨rfl, rfl⟩))
          | (go_at_call 18; ((with_reducible refine (HF.out _).mono ?_); rintro e w' ⟨rfl, rfl⟩))
          | (go_at_call 26; ((with_reducible refine (HK.out _).mono ?_); rintro e w' ⟨rfl, rfl⟩)))
        go_ret2
        exact ⟨by rw [HN.out]; rfl, rfl⟩
      | true =>
        have HF := Lib.hid (fun w => near_is hn w)
        have HN := Lib.hid (show grainO n u = some (n * 10) by rw [grainO_some ⟨.inl hu, ho, by rw [hg]; exact hn⟩, hg])
        clear hu hg ho hn
        go_enter Tryd.func11, Tryd.ntmps11
        go_wp2_with (first
          | (go_at_call 25; ((with_reducible refine (HG.out _).mono ?_); rintro e w' ⟨rfl, rfl⟩))
          | (go_at_call 18; ((with_reducible refine (HF.out _).mono ?_); rintro e w' ⟨rfl, rfl⟩))
          | (go_at_call 26; ((with_reducible refine (HK.out _).mono ?_); rintro e w' ⟨rfl, rfl⟩)))
        go_ret2
        exact ⟨by rw [HN.out]; rfl, rfl⟩
  · have HG := Lib.hid (fun w => grains_is hg w)
    cases ho : okN n with
    | false =>
      have HK := Lib.hid (fun w => ok_is ho w)
      have HN := Lib.hid (grainO_none (n := n) (u := u) (fun h => by rw [ho] at h; simp at h))
      clear hu hg ho
      go_enter Tryd.func11, Tryd.ntmps11
      go_wp2_with (first
        | (go_at_call 25; ((with_reducible refine (HG.out _).mono ?_); rintro e w' ⟨rfl, rfl⟩))
        | (go_at_call 26; ((with_reducible refine (HK.out _).mono ?_); rintro e w' ⟨rfl, rfl⟩)))
      go_ret2
      exact ⟨by rw [HN.out]; rfl, rfl⟩
    | true =>
      obtain ⟨n0, n1⟩ := okN_yes ho
      have HK := Lib.hid (fun w => ok_is ho w)
      cases hn : nearB (n * 254) with
      | false =>
        have HF := Lib.hid (fun w => near_is hn w)
        have HN := Lib.hid (grainO_none (n := n) (u := u) (fun h => by rw [hg, hn] at h; simp at h))
        clear hu hg ho hn
        go_enter Tryd.func11, Tryd.ntmps11
        go_wp2_with (first
          | (go_at_call 25; ((with_reducible refine (HG.out _).mono ?_); rintro e w' ⟨rfl, rfl⟩))
          | (go_at_call 18; ((with_reducible refine (HF.out _).mono ?_); rintro e w' ⟨rfl, rfl⟩))
          | (go_at_call 26; ((with_reducible refine (HK.out _).mono ?_); rintro e w' ⟨rfl, rfl⟩)))
        go_ret2
        exact ⟨by rw [HN.out]; rfl, rfl⟩
      | true =>
        have HF := Lib.hid (fun w => near_is hn w)
        have HN := Lib.hid (show grainO n u = some (n * 254) by rw [grainO_some ⟨.inr hu, ho, by rw [hg]; exact hn⟩, hg])
        clear hu hg ho hn
        go_enter Tryd.func11, Tryd.ntmps11
        go_wp2_with (first
          | (go_at_call 25; ((with_reducible refine (HG.out _).mono ?_); rintro e w' ⟨rfl, rfl⟩))
          | (go_at_call 18; ((with_reducible refine (HF.out _).mono ?_); rintro e w' ⟨rfl, rfl⟩))
          | (go_at_call 26; ((with_reducible refine (HK.out _).mono ?_); rintro e w' ⟨rfl, rfl⟩)))
        go_ret2
        exact ⟨by rw [HN.out]; rfl, rfl⟩
  · have HG := Lib.hid (fun w => grains_is hg w)
    have HN := Lib.hid (grainO_none (n := n) (u := u) (fun h => hu h.1))
    clear hu hg
    go_enter Tryd.func11, Tryd.ntmps11
    go_wp2_with (go_at_call 25; ((with_reducible refine (HG.out _).mono ?_); rintro e w' ⟨rfl, rfl⟩))
    go_ret2
    exact ⟨by rw [HN.out]; rfl, rfl⟩

theorem fmt_no {u a d : Int} (h : ¬ ((u = 1 ∨ u = 2) ∧ (0 ≤ a ∧ a ≤ 6) ∧ (0 ≤ d ∧ d ≤ 6) ∧ 0 < a + d)) : fmtB u a d = false := decide_eq_false h
theorem fmt_yes {u a d : Int} (h : (u = 1 ∨ u = 2) ∧ (0 ≤ a ∧ a ≤ 6) ∧ (0 ≤ d ∧ d ≤ 6) ∧ 0 < a + d) : fmtB u a d = true := decide_eq_true h

set_option maxHeartbeats 1000000 in
theorem unitOk_any (u a d : Int) (t : Bool) (w : World) :
    Calls Tryd.prog 15 #[fmtV u a d t] w fun e w' => e = .returned (.bool (fmtB u a d)) ∧ Below w.heap.size w w' := by
  by_cases hu : u = 1 ∨ u = 2
  · obtain ⟨k, hk, k0, k1⟩ : ∃ k, grainsI u = k ∧ 10 ≤ k ∧ k ≤ 254 := ⟨_, rfl, grains_unit hu⟩
    have HG := Lib.hid (fun w => grains_is hk w)
    clear hk
    by_cases ha : 0 ≤ a ∧ a ≤ 6
    · have HA := Lib.hid (fun w => places_is (decide_eq_true ha : plB a = true) w)
      by_cases hd : 0 ≤ d ∧ d ≤ 6
      · have HD := Lib.hid (fun w => places_is (decide_eq_true hd : plB d = true) w)
        by_cases hz : 0 < a + d
        · have H := Lib.hid (fmt_yes ⟨hu, ha, hd, hz⟩)
          obtain ⟨a0, a1⟩ := ha
          obtain ⟨d0, d1⟩ := hd
          clear hu
          go_enter Tryd.func15, Tryd.ntmps15
          go_wp2_with (first
            | (go_at_call 25; ((with_reducible refine (HG.out _).mono ?_); rintro e w' ⟨rfl, rfl⟩))
            | (go_at_call 32; ((with_reducible refine (HA.out _).mono ?_); rintro e w' ⟨rfl, rfl⟩))
            | (go_at_call 32; ((with_reducible refine (HD.out _).mono ?_); rintro e w' ⟨rfl, rfl⟩)))
          go_ret
          exact ⟨by rw [H.out]; rfl, bel_alloc (bel_refl w) _⟩
        · have H := Lib.hid (fmt_no (u := u) (a := a) (d := d) (fun h => hz h.2.2.2))
          obtain ⟨a0, a1⟩ := ha
          obtain ⟨d0, d1⟩ := hd
          have hzb : decide (0 < a + d) = false := decide_eq_false hz
          clear hu
          go_enter Tryd.func15, Tryd.ntmps15
          go_wp2_with (first
            | (go_at_call 25; ((with_reducible refine (HG.out _).mono ?_); rintro e w' ⟨rfl, rfl⟩))
            | (go_at_call 32; ((with_reducible refine (HA.out _).mono ?_); rintro e w' ⟨rfl, rfl⟩))
            | (go_at_call 32; ((with_reducible refine (HD.out _).mono ?_); rintro e w' ⟨rfl, rfl⟩)))
          go_ret
          exact ⟨by rw [H.out, ← hzb]; rfl, bel_alloc (bel_refl w) _⟩
      · have HD := Lib.hid (fun w => places_is (decide_eq_false hd : plB d = false) w)
        have H := Lib.hid (fmt_no (u := u) (a := a) (d := d) (fun h => hd h.2.2.1))
        clear hu ha hd
        go_enter Tryd.func15, Tryd.ntmps15
        go_wp2_with (first
          | (go_at_call 25; ((with_reducible refine (HG.out _).mono ?_); rintro e w' ⟨rfl, rfl⟩))
          | (go_at_call 32; ((with_reducible refine (HA.out _).mono ?_); rintro e w' ⟨rfl, rfl⟩))
          | (go_at_call 32; ((with_reducible refine (HD.out _).mono ?_); rintro e w' ⟨rfl, rfl⟩)))
        go_ret
        exact ⟨by rw [H.out]; rfl, bel_alloc (bel_refl w) _⟩
    · have HA := Lib.hid (fun w => places_is (decide_eq_false ha : plB a = false) w)
      have H := Lib.hid (fmt_no (u := u) (a := a) (d := d) (fun h => ha h.2.1))
      clear hu ha
      go_enter Tryd.func15, Tryd.ntmps15
      go_wp2_with (first
        | (go_at_call 25; ((with_reducible refine (HG.out _).mono ?_); rintro e w' ⟨rfl, rfl⟩))
        | (go_at_call 32; ((with_reducible refine (HA.out _).mono ?_); rintro e w' ⟨rfl, rfl⟩)))
      go_ret
      exact ⟨by rw [H.out]; rfl, bel_alloc (bel_refl w) _⟩
  · have hk : grainsI u = 0 := by rcases grains_cases u with h | h | h <;> omega
    have HG := Lib.hid (fun w => grains_is hk w)
    have H := Lib.hid (fmt_no (u := u) (a := a) (d := d) (fun h => hu h.1))
    clear hu hk
    go_enter Tryd.func15, Tryd.ntmps15
    go_wp2_with (go_at_call 25; ((with_reducible refine (HG.out _).mono ?_); rintro e w' ⟨rfl, rfl⟩))
    go_ret
    exact ⟨by rw [H.out]; rfl, bel_alloc (bel_refl w) _⟩

set_option maxHeartbeats 400000 in
theorem lastDigit_any (u a : Int) (d : Nat) (t : Bool) (hu : u = 1 ∨ u = 2) (hd : d ≤ 6) (w : World) :
    Calls Tryd.prog 19 #[fmtV u a d t] w fun e w' => e = .returned (.int .i64 (stepI u d)) ∧ Below w.heap.size w w' := by
  obtain ⟨k, hk, k0, k1⟩ : ∃ k, grainsI u = k ∧ 10 ≤ k ∧ k ≤ 254 := ⟨_, rfl, grains_unit hu⟩
  have HG := Lib.hid (fun w => grains_is hk w)
  have HS := Lib.hid (show stepI u d = tens k (6 - d) by unfold stepI; rw [hk])
  clear hk hu
  go_enter Tryd.func19, Tryd.ntmps19
  go_wp2_with (go_at_call 25; ((with_reducible refine (HG.out _).mono ?_); rintro e w' ⟨rfl, rfl⟩))
  go_loop [3, 4] (fun n i => ∃ j : Nat, j ≤ 6 ∧ d ≤ j ∧ i = .int .i64 j ∧ n = .int .i64 (tens k (j - d))) (fun _ i => 6 - (intOf i).toNat)
  case atStart => exact ⟨d, hd, Nat.le_refl _, rfl, by rw [Nat.sub_self, tens_zero]⟩
  case round =>
    obtain ⟨j, h6, hj, rfl, rfl⟩ := hrel
    obtain ⟨v0, v1⟩ := tens_step_bd (k := k) (by omega) k1 (m := j - d) (by omega)
    by_cases hlt : j < 6
    · have HN := Lib.hid (tens_succ k (j - d))
      go_wp2
      go_round
      case rel => exact ⟨j + 1, by omega, by omega, by go_num, by rw [show j + 1 - d = j - d + 1 from by omega, HN.out]⟩
      case measure => simp [intOf]; omega
    · obtain rfl : j = 6 := by omega
      go_wp2
      go_ret
      exact ⟨ret_int HS.out.symm, bel_alloc (bel_refl w) _⟩
end Go.Proofs.YtapnekpilgbcaaaDoor
