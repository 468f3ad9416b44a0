/- The document's Parse of layer 2: what it returns, and that this is what package deci's Parse returns. -/
import Derived.Test.YtpojkpiadbpooaaRefDeci
namespace Go.Proofs.Ytpojkpiadbpooaa
open Go.RowKit

def signLen : List UInt8 → Nat
  | [] => 0
  | c :: _ => if c.toNat = 45 ∨ c.toNat = 43 then 1 else 0
theorem unsign_drop (l : List UInt8) : unsign l = l.drop (signLen l) := by
  cases l with
  | nil => rfl
  | cons c r => by_cases h : c.toNat = 45 ∨ c.toNat = 43 <;> simp [unsign, signLen, h]
/-- Whether a point stands at place p. -/
def pointAt (l : List UInt8) (p : Nat) : Bool := dotB (l.drop p)

theorem cut_mid (l : List UInt8) (k a : Nat) : ({ data := l.toArray } : ByteArray).extract k (k + a) = ⟨((l.drop k).take a).toArray⟩ := by
  apply ByteArray.ext; simp [List.extract_eq_take_drop]
set_option maxRecDepth 100000 in
set_option maxHeartbeats 2000000 in
theorem refDec_core (l W D : List UInt8) (k a b e : Nat) (pt m : Bool) (out : Option Int) (hl : l.length ≤ 1000) (hk : Hid (signLen l = k)) (k1 : k ≤ 1) (a1 : a ≤ 1000) (b1 : b ≤ 1000) (e1 : e ≤ 3000) (be : b ≤ e) (ka : k + a ≤ l.length)
    (HA : Hid (∀ w, Calls Try.prog 18 #[.string ⟨l.toArray⟩, .int .i64 k] w fun e w' => e = .returned (.int .i64 a) ∧ w = w'))
    (HB : Hid (pt = true → ∀ w, Calls Try.prog 18 #[.string ⟨l.toArray⟩, .int .i64 ((k : Int) + (a : Int) + 1)] w fun e w' => e = .returned (.int .i64 b) ∧ w = w'))
    (hpt : Hid (pointAt l (k + a) = pt)) (he : Hid (e = if pt = true then k + a + 1 + b else k + a)) (hb : Hid (pt = false → b = 0))
    (hW : Hid ((l.drop k).take a = W)) (hD : Hid ((l.drop (e - b)).take b = D)) (dW : Digs W) (dD : Digs D) (wa : a ≤ W.length) (aw : W.length ≤ a) (db : b ≤ D.length) (bd : D.length ≤ b) (hm : Hid (minus l = m))
    (HO : Hid (out = if a ≤ 6 ∧ b ≤ 6 ∧ a + b ≠ 0 ∧ e = l.length then some (signed m (val W * 1000000 + mil D)) else none)) (w : World) :
    Calls Try.prog 10 #[.string ⟨l.toArray⟩] w fun e w' => e = .returned (.tuple #[.int .i64 (out.getD 0), .bool out.isSome]) ∧ w = w' := by
  go_enter Try.func10, Try.ntmps10
  go_upto_region 2 with (fail)
  go_cut [23] (fun s wc => s = .bool (decide (signLen l = 1)) ∧ w = wc)
  case first =>
    rcases first_byte l with rfl | ⟨c, r, rfl⟩
    · go_wp2
      go_meet
      exact ⟨rfl, rfl⟩
    · have hb0 : (({ data := (c :: r).toArray } : ByteArray)[0]'(by show 0 < (c :: r).toArray.size; simp)) = c := rfl
      by_cases h43 : c.toNat = 43
      · have hc : ((c.toNat : Int) == 43) = true := by simp [h43]
        have h1 := Lib.hid (show decide (signLen (c :: r) = 1) = true by simp [signLen, h43])
        clear h43
        go_wp2
        go_meet
        exact ⟨by rw [h1.out], rfl⟩
      · have hc : ((c.toNat : Int) == 43) = false := by simp; omega
        by_cases h45 : c.toNat = 45
        · have hd : ((c.toNat : Int) == 45) = true := by simp [h45]
          have h1 := Lib.hid (show decide (signLen (c :: r) = 1) = true by simp [signLen, h45])
          clear h45 h43
          go_wp2
          go_meet
          exact ⟨by rw [h1.out], rfl⟩
        · have hd : ((c.toNat : Int) == 45) = false := by simp; omega
          have h1 := Lib.hid (show decide (signLen (c :: r) = 1) = false by simp [signLen, h43, h45])
          clear h45 h43
          go_wp2
          go_meet
          exact ⟨by rw [h1.out], rfl⟩
  case rest =>
    obtain ⟨rfl, rfl⟩ := hcut
    go_upto_if 23 with (fail)
    go_cut [4] (fun s wc => s = .int .i64 (k : Int) ∧ w = wc)
    case first =>
      by_cases h1 : signLen l = 1
      · have h2 : k = 1 := by rw [← hk.out, h1]
        have H2 := Lib.hid h2
        rw [decide_eq_true h1]
        clear h1 h2
        go_wp2
        go_meet
        exact ⟨by rw [H2.out]; rfl, rfl⟩
      · have h2 : k = 0 := by have := hk.out; omega
        have H2 := Lib.hid h2
        rw [decide_eq_false h1]
        clear h1 h2
        go_wp2
        go_meet
        exact ⟨by rw [H2.out]; rfl, rfl⟩
    case rest =>
      obtain ⟨rfl, rfl⟩ := hcut
      go_upto_region 7 with (go_at_call 18; ((with_reducible refine (HA.out _).mono ?_); rintro e w1 ⟨rfl, rfl⟩))
      go_cut [39] (fun s wc => s = .bool pt ∧ w = wc)
      case first =>
        by_cases hlt : k + a < l.length
        · have hbt := byteAt l (k + a) hlt
          by_cases h46 : (l[k + a]).toNat = 46
          · have hc : (((l[k + a]).toNat : Int) == 46) = true := by simp [h46]
            have h1 := Lib.hid (show pt = true by rw [← hpt.out, pointAt, List.drop_eq_getElem_cons hlt]; simp [dotB, h46])
            clear h46
            go_wp2
            go_meet
            exact ⟨by rw [h1.out], rfl⟩
          · have hc : (((l[k + a]).toNat : Int) == 46) = false := by simp; omega
            have h1 := Lib.hid (show pt = false by rw [← hpt.out, pointAt, List.drop_eq_getElem_cons hlt]; simp [dotB, h46])
            clear h46
            go_wp2
            go_meet
            exact ⟨by rw [h1.out], rfl⟩
        · have h1 := Lib.hid (show pt = false by rw [← hpt.out, pointAt, List.drop_eq_nil_of_le (by omega)]; rfl)
          go_wp2
          go_meet
          exact ⟨by rw [h1.out], rfl⟩
      case rest =>
        obtain ⟨rfl, rfl⟩ := hcut
        go_upto_if 39 with (fail)
        go_cut [6, 7] (fun s6 s7 wc => s6 = .int .i64 (e : Int) ∧ s7 = .int .i64 (b : Int) ∧ w = wc)
        case first =>
          cases pt
          · have h1 := Lib.hid (show e = k + a from he.out)
            have h2 := Lib.hid (hb.out rfl)
            clear HB he hb
            go_wp2
            go_meet
            exact ⟨by rw [h1.out]; go_num, by rw [h2.out]; rfl, rfl⟩
          · have h1 := Lib.hid (show e = k + a + 1 + b from he.out)
            have hB := HB.out rfl
            have HB' := Lib.hid hB
            clear hB HB he hb
            go_wp2_with (go_at_call 18; ((with_reducible refine (HB'.out _).mono ?_); rintro e w1 ⟨rfl, rfl⟩))
            go_meet
            exact ⟨by rw [h1.out]; go_num, rfl, rfl⟩
        case rest =>
          obtain ⟨rfl, rfl, rfl⟩ := hcut
          by_cases ga : a ≤ 6
          · by_cases gb : b ≤ 6
            · by_cases gz : a + b = 0
              · have hz : ((a : Int) + (b : Int) == 0) = true := by simp; omega
                have HN := Lib.hid (HO.out.trans (by rw [if_neg (fun h => h.2.2.1 gz)]))
                clear HO gz
                go_wp2
                go_ret2
                exact ⟨by rw [HN.out]; rfl, rfl⟩
              · have hz : ((a : Int) + (b : Int) == 0) = false := by simp; omega
                by_cases ge : e = l.length
                · have HN := Lib.hid (HO.out.trans (by rw [if_pos ⟨ga, gb, gz, ge⟩]))
                  have hne : ((e : Int) != (l.length : Int)) = false := by simp; omega
                  have hx1 : ({ data := l.toArray } : ByteArray).extract k (k + a) = ⟨W.toArray⟩ := by rw [← hW.out]; exact cut_mid l k a
                  have hx2 : ({ data := l.toArray } : ByteArray).extract (e - b) e = ⟨D.toArray⟩ := by rw [← hD.out]; have := cut_mid l (e - b) b; rwa [show e - b + b = e from by omega] at this
                  obtain ⟨v0, v1⟩ := val_six dW (by omega)
                  have el : e ≤ l.length := by omega
                  have gz' : 0 < l.length := by omega
                  obtain ⟨c, r, hcr⟩ : ∃ c r, l = c :: r := by
                    rcases first_byte l with h | h
                    · rw [h] at gz'; simp at gz'
                    · exact h
                  have hb0 : ({ data := l.toArray } : ByteArray)[0]'(by show 0 < l.toArray.size; simpa using gz') = c := by subst hcr; rfl
                  have hmc : ((c.toNat : Int) == 45) = m := by rw [← hm.out, hcr]; simp [minus]; exact Bool.eq_iff_iff.2 (by simp; omega)
                  have Hcr := Lib.hid hcr
                  clear HO ge gz hcr hk hpt he hb HA HB hW hD hm
                  go_wp2_with fail
                  refine (whole_any W dW (by omega) _).mono ?_; rintro e w1 ⟨rfl, rfl⟩
                  go_wp2_with fail
                  refine (whole_any D dD (by omega) _).mono ?_; rintro e w1 ⟨rfl, rfl⟩
                  go_wp2_with fail
                  go_loop [9, 10] (fun f i => ∃ j : Nat, j ≤ 6 ∧ b ≤ j ∧ i = .int .i64 j ∧ f = .int .i64 (tens (val D) (j - D.length))) (fun _ i => 6 - (intOf i).toNat)
                  case atStart => exact ⟨b, by omega, by omega, rfl, by rw [show b - D.length = 0 from by omega, tens_zero]⟩
                  case round =>
                    obtain ⟨j, h6, hj, rfl, rfl⟩ := hrel
                    obtain ⟨t0, t1⟩ := tens_six dD (show D.length ≤ j by omega) h6
                    by_cases hlt : j < 6
                    · have HS := Lib.hid (tens_succ (val D) (j - D.length))
                      go_wp2
                      go_round
                      case rel => exact ⟨j + 1, by omega, by omega, by go_num, by rw [show j + 1 - D.length = j - D.length + 1 from by omega, HS.out]; exact congrArg (Value.int .i64) (Int.mul_comm _ _)⟩
                      case measure => simp [intOf]; omega
                    · obtain rfl : j = 6 := by omega
                      have HM := Lib.hid (show tens (val D) (6 - D.length) = mil D from rfl)
                      cases m
                      · go_wp2
                        go_ret2
                        exact ⟨by rw [HN.out, ← HM.out]; rfl, rfl⟩
                      · go_wp2
                        go_ret2
                        exact ⟨by rw [HN.out, ← HM.out]; rfl, rfl⟩
                · have hne : ((e : Int) != (l.length : Int)) = true := by simp; omega
                  have HN := Lib.hid (HO.out.trans (by rw [if_neg (fun h => ge h.2.2.2)]))
                  clear HO ge gz
                  go_wp2
                  go_ret2
                  exact ⟨by rw [HN.out]; rfl, rfl⟩
            · have HN := Lib.hid (HO.out.trans (by rw [if_neg (fun h => gb h.2.1)]))
              clear HO
              go_wp2
              go_ret2
              exact ⟨by rw [HN.out]; rfl, rfl⟩
          · have HN := Lib.hid (HO.out.trans (by rw [if_neg (fun h => ga h.1)]))
            clear HO
            go_wp2
            go_ret2
            exact ⟨by rw [HN.out]; rfl, rfl⟩
end Go.Proofs.Ytpojkpiadbpooaa
