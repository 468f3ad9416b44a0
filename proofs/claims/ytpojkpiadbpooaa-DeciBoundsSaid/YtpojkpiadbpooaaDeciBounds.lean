/- A number has at most six digits on each side of the point, at most one sign and one point, and at least one digit: of 0 to 15 nines on each side, with no sign, one or two, with a point or without, and with something behind it. For all numbers that the law draws these from. No condition. -/
import Derived.Test.YtpojkpiadbpooaaRows
import Derived.Test.YtpojkpiadbpooaaAwake2
import Derived.ProofKit
import Derived.OpenShut
import Derived.ShutString
import Derived.ChangeOld
import Derived.Below
import Derived.ChangeMaps5
import Derived.Lib.SmallJoins
namespace Go.Proofs.Ytpojkpiadbpooaa.deciBounds
open Go.ChangeShapes Go.WideShapes Go.ChangeAt Go.RowKit Go.Joins

theorem sign_cases (s : Nat) (h : s ≤ 3) : (s = 0 ∧ signs s = []) ∨ (s = 1 ∧ signs s = [43]) ∨ (s = 2 ∧ signs s = [45]) ∨ (s = 3 ∧ signs s = [45, 45]) := by
  have h4 : s = 0 ∨ s = 1 ∨ s = 2 ∨ s = 3 := by omega
  rcases h4 with rfl | rfl | rfl | rfl <;> simp [signs]
theorem signs_len (s : Nat) : (signs s).length ≤ 2 := by unfold signs; (repeat' split) <;> simp
/-- The string after i nines. -/
theorem nine_more (x : List UInt8) (i : Nat) : ({ data := (x ++ nines i).toArray } : ByteArray) ++ ({ data := #[57] } : ByteArray) = { data := (x ++ nines (i + 1)).toArray } := by
  rw [← nines_succ, ← List.append_assoc]; exact str_app _ [57]

set_option maxRecDepth 100000 in
set_option maxHeartbeats 4000000 in
theorem core (a b s : Int) (p : Bool) (A B S : Nat) (w : World) (ea : bits .and .i64 a 15 = (A : Int)) (eb : bits .and .i64 b 15 = (B : Int)) (es : bits .and .i64 s 3 = (S : Int)) (hA : A ≤ 15) (hB : B ≤ 15) (hS : S ≤ 3) :
    Calls Try.prog 3 #[.int .i64 a, .int .i64 b, .int .i64 s, .bool p] w fun e w' => e = .returned (.bool true) ∧ Below w.heap.size w w' := by
  obtain ⟨C, hC⟩ : ∃ C, C = if p = true then B else 0 := ⟨_, rfl⟩
  obtain ⟨L, hL⟩ : ∃ L, L = signs S ++ (nines A ++ tailL p B) := ⟨_, rfl⟩
  have lS := signs_len S
  have hC15 : C ≤ 15 := by rw [hC]; split <;> omega
  have lL : L.length ≤ 40 := by rw [hL]; simp [nines_len]; unfold tailL; split <;> simp [nines_len] <;> omega
  obtain ⟨g, o, hg, ho⟩ : ∃ (g : Bool) (o : Option Int), (parseO L = o ∧ ((g = true ∧ ∃ v, o = some v ∧ okB v = true) ∨ (g = false ∧ o = none))) ∧ g = decide (S < 3 ∧ A ≤ 6 ∧ C ≤ 6 ∧ 0 < A + C) := by
    rcases bounds_num (s := S) (a := A) (b := B) (p := p) hS with ⟨h, v, hv, v0, v1⟩ | ⟨h, hv⟩
    · refine ⟨true, some v, ⟨by rw [hL]; exact hv, .inl ⟨rfl, v, rfl, decide_eq_true ⟨v0, v1⟩⟩⟩, ?_⟩
      rw [hC]; exact (decide_eq_true h).symm
    · refine ⟨false, none, ⟨by rw [hL]; exact hv, .inr ⟨rfl, rfl⟩⟩, ?_⟩
      rw [hC]; exact (decide_eq_false h).symm
  have n1 : parseO (L ++ [32]) = none := by rw [hL, List.append_assoc, List.append_assoc]; exact bounds_none hS [32] (stops_cons (by decide)) (by intro c r e; cases e; decide) (by decide) (by decide)
  have n2 : parseO (L ++ [46, 46]) = none := by rw [hL, List.append_assoc, List.append_assoc]; exact bounds_none hS [46, 46] (stops_cons (by decide)) (by intro c r e; cases e; decide) (by decide) (by decide)
  have P1 := Lib.hid (fun w => parse_at L o hg.1 (by omega) w)
  have P2 := Lib.hid (fun w => parse_at (L ++ [32]) none n1 (by simp; omega) w)
  have P3 := Lib.hid (fun w => parse_at (L ++ [46, 46]) none n2 (by simp; omega) w)
  have hc2 : ({ data := L.toArray } : ByteArray) ++ ({ data := #[32] } : ByteArray) = { data := (L ++ [32]).toArray } := str_app _ [32]
  have hc3 : ({ data := L.toArray } : ByteArray) ++ ({ data := #[46, 46] } : ByteArray) = { data := (L ++ [46, 46]).toArray } := str_app _ [46, 46]
  have HL := Lib.hid hL
  have HC := Lib.hid hC
  have HG := Lib.hid hg.2
  have HD := Lib.hid ho
  clear n1 n2 hL hC hg ho
  go_enter Try.func3, Try.ntmps3
  go_upto_region 2 with (fail)
  go_cut [9] (fun s9 wc => s9 = .string ⟨(signs S ++ nines 0).toArray⟩ ∧ Below w.heap.size w wc)
  case first =>
    rcases sign_cases S hS with ⟨h, e⟩ | ⟨h, e⟩ | ⟨h, e⟩ | ⟨h, e⟩
    all_goals
      have E := Lib.hid e
      rw [h] at es
      clear h e
      go_wp2
      go_meet
      exact ⟨by rw [E.out]; rfl, bel_alloc (bel_refl w) _⟩
  case rest =>
    obtain ⟨rfl, bw⟩ := hcut
    go_wp2_with fail
    go_loop [9, 10] (fun x n => ∃ i : Nat, i ≤ A ∧ x = .string ⟨(signs S ++ nines i).toArray⟩ ∧ n = .int .i64 i) (fun _ n => A - (intOf n).toNat)
    case atStart => exact ⟨0, by omega, rfl, rfl⟩
    case round =>
      obtain ⟨i, hi, rfl, rfl⟩ := hrel
      by_cases hlt : i < A
      · have hn := nine_more (signs S) i
        have ls : (signs S ++ nines i).length ≤ 20 := by simp [nines_len]; omega
        generalize hX : signs S ++ nines i = X at *
        generalize hY : signs S ++ nines (i + 1) = Y at *
        have HY := Lib.hid hY
        clear hX hY
        go_wp2
        go_round
        case rel => exact ⟨i + 1, by omega, by rw [HY.out], by go_num⟩
        case measure => simp [intOf]; omega
      · obtain rfl : A = i := by omega
        go_upto_if 35 with (fail)
        go_cut [1, 9] (fun s1 s9 wx => s1 = .int .i64 (C : Int) ∧ s9 = .string ⟨L.toArray⟩ ∧ wc = wx)
        case first =>
          cases p
          · have h1 := Lib.hid (show C = 0 from HC.out)
            have h2 := Lib.hid (show L = signs S ++ nines A by rw [HL.out]; simp [tailL])
            clear HC HL HG HD P1 P2 P3 hc2 hc3
            go_wp2
            go_meet
            exact ⟨by rw [h1.out]; rfl, by rw [h2.out], rfl⟩
          · have h1 := Lib.hid (show C = B from HC.out)
            have h2 := Lib.hid (show L = (signs S ++ nines A ++ [46]) ++ nines B by rw [HL.out]; simp [tailL])
            have hd : ({ data := (signs S ++ nines A).toArray } : ByteArray) ++ ({ data := #[46] } : ByteArray) = { data := (signs S ++ nines A ++ [46]).toArray } := str_app _ [46]
            have l1 : (signs S ++ nines A).length ≤ 17 := by simp [nines_len]; omega
            have l2 : (signs S ++ nines A ++ [46]).length ≤ 18 := by simp [nines_len]; omega
            generalize signs S ++ nines A ++ [46] = Z at *
            generalize signs S ++ nines A = X at *
            clear HC HL HG HD P1 P2 P3 hc2 hc3
            have hz0 : ({ data := Z.toArray } : ByteArray) = { data := (Z ++ nines 0).toArray } := by simp [nines]
            go_wp2_with fail
            go_loop [9, 11] (fun x n => ∃ j : Nat, j ≤ B ∧ x = .string ⟨(Z ++ nines j).toArray⟩ ∧ n = .int .i64 j) (fun _ n => B - (intOf n).toNat)
            case atStart => exact ⟨0, by omega, by simp [nines], rfl⟩
            case round =>
              obtain ⟨j, hj, rfl, rfl⟩ := hrel
              by_cases hlt : j < B
              · have hn := nine_more Z j
                have ls : (Z ++ nines j).length ≤ 40 := by simp [nines_len]; omega
                generalize Z ++ nines j = X1 at *
                generalize hY : Z ++ nines (j + 1) = Y at *
                have HY := Lib.hid hY
                clear hY hz0
                go_wp2
                go_round
                case rel => exact ⟨j + 1, by omega, by rw [HY.out], by go_num⟩
                case measure => simp [intOf]; omega
              · obtain rfl : B = j := by omega
                go_wp2
                go_meet
                exact ⟨by rw [h1.out], by rw [h2.out], rfl⟩
        case rest =>
          obtain ⟨rfl, rfl, rfl⟩ := hcut
          go_upto_region 15 with (go_at_call 7; ((with_reducible refine (P1.out _).mono ?_); rintro e w1 ⟨rfl, b1⟩))
          go_cut [14] (fun s14 wx => s14 = .bool g ∧ w1 = wx)
          case first =>
            clear P1 P2 P3 hc2 hc3
            by_cases g1 : S < 3
            · by_cases g2 : A ≤ 6
              · by_cases g3 : C ≤ 6
                · by_cases g4 : 0 < A + C
                  · have h := Lib.hid (HD.out.trans (decide_eq_true ⟨g1, g2, g3, g4⟩))
                    go_wp2
                    go_meet
                    exact ⟨by rw [h.out]; exact congrArg Value.bool (decide_eq_true (by omega)), rfl⟩
                  · have h := Lib.hid (HD.out.trans (decide_eq_false (fun q => g4 q.2.2.2)))
                    go_wp2
                    go_meet
                    exact ⟨by rw [h.out]; exact congrArg Value.bool (decide_eq_false (by omega)), rfl⟩
                · have h := Lib.hid (HD.out.trans (decide_eq_false (fun q => g3 q.2.2.1)))
                  go_wp2
                  go_meet
                  exact ⟨by rw [h.out], rfl⟩
              · have h := Lib.hid (HD.out.trans (decide_eq_false (fun q => g2 q.2.1)))
                go_wp2
                go_meet
                exact ⟨by rw [h.out], rfl⟩
            · have h := Lib.hid (HD.out.trans (decide_eq_false (fun q => g1 q.1)))
              go_wp2
              go_meet
              exact ⟨by rw [h.out], rfl⟩
          case rest =>
            obtain ⟨rfl, rfl⟩ := hcut
            clear HD HL HC
            rcases HG.out with ⟨rfl, v, rfl, hv⟩ | ⟨rfl, rfl⟩
            · have HV := Lib.hid hv
              clear hv
              go_wp2_with fail
              refine (P2.out _).mono ?_; rintro e w2 ⟨rfl, b2⟩
              go_wp2_with fail
              refine (P3.out _).mono ?_; rintro e w3 ⟨rfl, b3⟩
              go_wp2_with fail
              refine (ok_any _ _).mono ?_; rintro e w' ⟨rfl, rfl⟩
              rw [HV.out]
              go_wp2_with fail
              refine (awake_any _).mono ?_; rintro e w4 ⟨rfl, b4⟩
              go_wp2
              go_ret
              exact ⟨rfl, bel_trans (bel_trans (bel_trans (bel_trans bw b1) b2) b3) b4⟩
            · go_wp2_with fail
              refine (P2.out _).mono ?_; rintro e w2 ⟨rfl, b2⟩
              go_wp2_with fail
              refine (P3.out _).mono ?_; rintro e w3 ⟨rfl, b3⟩
              go_wp2_with fail
              refine (awake_any _).mono ?_; rintro e w4 ⟨rfl, b4⟩
              go_wp2
              go_ret
              exact ⟨rfl, bel_trans (bel_trans (bel_trans (bel_trans bw b1) b2) b3) b4⟩
theorem walk (a b s : Int) (p : Bool) (_h0 : -9223372036854775808 ≤ a) (_h1 : a ≤ 9223372036854775807) (_h2 : -9223372036854775808 ≤ b) (_h3 : b ≤ 9223372036854775807) (_h4 : -9223372036854775808 ≤ s) (_h5 : s ≤ 9223372036854775807) (w : World) :
    Calls Try.prog 3 #[.int .i64 a, .int .i64 b, .int .i64 s, .bool p] w fun e w' => e = .returned (.bool true) ∧ Below w.heap.size w w' :=
  core a b s p (a % 16).toNat (b % 16).toNat (s % 4).toNat w (by rw [and_15]; omega) (by rw [and_15]; omega) (by rw [and_3]; omega) (by omega) (by omega) (by omega)
theorem own : ownKnob Try.prog.godebug = none := by kernel_rfl
set_option maxRecDepth 100000 in
theorem lifted (os : Os) (started : os.Started) (H : Type) (enc : TypeId × Value → H) :
    ReturnsInHanded {} Try.checked os 3 .any (Rows.deciBoundsSpec.pre6 enc Try.prog Try.f3 Rows.deciBoundsRow.domain false) (Rows.deciBoundsSpec.post enc Try.prog Try.f3 false true false false) := by
  refine returnsInHanded_of_change (C := Try.checked) own started (by kernel_rfl) Try.func3
    (ChangeSpec.witness6 (enc := enc) (C := Try.checked) false ⟨#[], #[.int .i64 0, .int .i64 0, .int .i64 0, .bool false], []⟩ 8 (by kernel_rfl) (by kernel_rfl) (by kernel_rfl) (by kernel_rfl)) ?_
  intro W base args ds gs before hval0 hW _ _
  have hval : ∀ (j : Nat) t v, Try.f3.params[j]? = some t → args[j]? = some v → Value.okWide Try.prog W .any base t v := hval0
  have hW' := hW
  obtain ⟨p, q, hA0, hV, rfl, hfz, hnd⟩ := hW
  have hA : DataW.TrodAll enc Try.prog W 0 (fun _ => true) true Try.f3.params.toList args.toList ds p := hA0
  rw [Try.params3] at hA hval
  obtain ⟨v0, vs0, d0, ds0, p0, q0, hargs, rfl, rfl, h0, r0⟩ := trodAll_cons hA
  obtain ⟨v1, vs1, d1, ds1, p1, q1, rfl, rfl, rfl, h1, r1⟩ := trodAll_cons r0
  obtain ⟨v2, vs2, d2, ds2, p2, q2, rfl, rfl, rfl, h2, r2⟩ := trodAll_cons r1
  obtain ⟨v3, vs3, d3, ds3, p3, q3, rfl, rfl, rfl, h3, r3⟩ := trodAll_cons r2
  obtain ⟨rfl, rfl, rfl⟩ := trodAll_nil r3
  obtain rfl : args = #[v0, v1, v2, v3] := by cases args; simp_all
  obtain ⟨rfl, rfl⟩ := trodVars_none hV
  obtain ⟨a0, rfl, rfl, rfl, w0⟩ := open_int Try.underlying3 (hval 0 3 v0 rfl rfl) h0
  obtain ⟨a1, rfl, rfl, rfl, w1⟩ := open_int Try.underlying3 (hval 1 3 v1 rfl rfl) h1
  obtain ⟨a2, rfl, rfl, rfl, w2⟩ := open_int Try.underlying3 (hval 2 3 v2 rfl rfl) h2
  obtain ⟨a3, rfl, rfl, rfl⟩ := open_bool Try.underlying4 (hval 3 4 v3 rfl rfl) h3
  clear hA0 hval0
  simp only [List.append_nil] at hW'
  refine (walk a0 a1 a2 a3 (bounds_i64 w0).1 (bounds_i64 w0).2 (bounds_i64 w1).1 (bounds_i64 w1).2 (bounds_i64 w2).1 (bounds_i64 w2).2 W).mono fun e W' ⟨he, bel⟩ => ?_
  subst he
  exact ⟨_, rfl, _, _, _, [], _, [], hW', trodAll_mk1 (shut_bool Try.underlying4 _), (trodAll_cons_mk (shut_int Try.underlying3 w0) (trodAll_cons_mk (shut_int Try.underlying3 w1) (trodAll_cons_mk (shut_int Try.underlying3 w2) (trodAll_cons_mk (shut_bool Try.underlying4 a3) trodAll_mk0)))), rfl, bel.frame _, fun h => by cases h⟩
theorem over : Rows.deciBoundsRow.holds Try.pinned (OpenSpec.ofChange Rows.deciBoundsSpec) :=
  OpenClaim.holds_of_wide 3 Try.f3 rfl rfl rfl rfl rfl rfl rfl ⟨rfl, rfl, rfl, rfl, rfl⟩ rfl rfl rfl rfl rfl (by kernel_rfl) Try.func3 (by kernel_rfl)
    (of_decide_eq_true (by kernel_rfl)) (by unfold Func.isWrapper; first | (rw [if_pos (by decide +kernel)]; kernel_rfl) | (rw [if_neg (by decide +kernel)]; exact ⟨rfl, rfl⟩))
    (fun os started H enc _ => lifted os started H enc)
theorem proved : Rows.DeciBoundsSaid := over
#print axioms proved
end Go.Proofs.Ytpojkpiadbpooaa.deciBounds
