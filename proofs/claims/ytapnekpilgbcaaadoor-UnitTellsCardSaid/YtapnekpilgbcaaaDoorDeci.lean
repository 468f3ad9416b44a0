/- Contracts of package deci: what each of its functions returns. -/
import Derived.Test.YtapnekpilgbcaaaDoorProg
import Derived.Test.YtapnekpilgbcaaaDoorDeciMath
import Derived.Test.YtapnekpilgbcaaaDoorBase
import Derived.WalkKit
import Derived.WalkSpells
import Derived.WalkLawsBesides
import Derived.Lib.Hide
import Derived.Deep.QuietTactic
import Derived.BigQuiet
import Derived.Below
import Derived.Deep.DeepCutAuto
namespace Go.Proofs.YtapnekpilgbcaaaDoor
open Go.RowKit


theorem stop_lo {l : List UInt8} {k : Nat} (hs : Sofar l k) (hl : k < l.length) (hc : ((l[k]).toNat : Int) < 48) : run 6 l = k :=
  sofar_stop hs (.inr (.inr ⟨hl, decide_eq_false (by omega)⟩))
theorem stop_hi {l : List UInt8} {k : Nat} (hs : Sofar l k) (hl : k < l.length) (hc : 57 < ((l[k]).toNat : Int)) : run 6 l = k :=
  sofar_stop hs (.inr (.inr ⟨hl, decide_eq_false (by omega)⟩))
theorem stop_six {l : List UInt8} {k : Nat} (hs : Sofar l k) (hl : (6 : Int) ≤ k) : run 6 l = k := sofar_stop hs (.inl (by omega))
theorem stop_end {l : List UInt8} {k : Nat} (hs : Sofar l k) (hl : ¬ k < l.length) : run 6 l = k := sofar_stop hs (.inr (.inl hl))

set_option maxHeartbeats 400000 in
theorem splitDigits_any (l : List UInt8) (hl : l.length ≤ 100000) (w : World) :
    Calls Tryd.prog 36 #[.string ⟨l.toArray⟩] w fun e w' => e = .returned (.tuple #[.string ⟨(l.take (run 6 l)).toArray⟩, .string ⟨(l.drop (run 6 l)).toArray⟩]) ∧ Below w.heap.size w w' := by
  go_enter Tryd.func36, Tryd.ntmps36
  go_wp2
  go_loop [4] (fun i => ∃ k : Nat, k ≤ 6 ∧ k ≤ l.length ∧ i = .int .i64 k ∧ Sofar l k) (fun i => 6 - (intOf i).toNat)
  case atStart => exact ⟨0, by omega, by omega, rfl, sofar0 l⟩
  case round =>
    obtain ⟨k, h6, hk, rfl, hs⟩ := hrel
    have hb := byteAt l k
    go_wp2
    all_goals clear hb
    · go_round
      case rel => exact ⟨k + 1, by omega, by omega, by go_num, sofar_step hs (by omega) (by assumption) (dig_of (by omega))⟩
      case measure => simp [intOf]; omega
    all_goals
      obtain rfl : k = run 6 l := by first | exact (stop_hi hs ‹_› ‹_›).symm | exact (stop_lo hs ‹_› ‹_›).symm | exact (stop_six hs ‹_›).symm | exact (stop_end hs ‹_›).symm
      go_quiet (fail)
      go_wp2
      go_ret2
      exact ⟨ret_tup2 (congrArg Value.string (cut_front l _ hk)) (congrArg Value.string (cut_back l _ hk)), bel_drewN w _⟩

set_option maxHeartbeats 400000 in
theorem number_any (l : List UInt8) (hd : Digs l) (hl : l.length ≤ 6) (w : World) :
    Calls Tryd.prog 37 #[.string ⟨l.toArray⟩] w fun e w' => e = .returned (.int .i64 (val l)) ∧ w = w' := by
  go_enter Tryd.func37, Tryd.ntmps37
  go_wp2
  go_loop [3, 4] (fun n i => ∃ k : Nat, k ≤ l.length ∧ i = .int .i64 k ∧ n = .int .i64 (val (l.take k))) (fun _ i => l.length - (intOf i).toNat)
  case atStart => exact ⟨0, by omega, rfl, rfl⟩
  case round =>
    obtain ⟨k, hk, rfl, rfl⟩ := hrel
    have hb := byteAt l k
    obtain ⟨v0, v1⟩ := val_six (digs_take hd k) (by simp; omega)
    by_cases hlt : k < l.length
    · obtain ⟨d0, d1⟩ := digs_at hd hlt
      have HN := Lib.hid (val_next hlt)
      go_wp2
      go_round
      case rel => exact ⟨k + 1, by omega, by go_num, by rw [HN.out]; rfl⟩
      case measure => simp [intOf]; omega
    · go_wp2
      go_ret
      exact ⟨ret_int (by rw [List.take_of_length_le (by omega)]), rfl⟩

set_option maxHeartbeats 400000 in
theorem millionths_any (l : List UInt8) (hd : Digs l) (hl : l.length ≤ 6) (w : World) :
    Calls Tryd.prog 38 #[.string ⟨l.toArray⟩] w fun e w' => e = .returned (.int .i64 (mil l)) ∧ w = w' := by
  go_enter Tryd.func38, Tryd.ntmps38
  go_wp2_with (refine (number_any l hd hl _).mono ?_; rintro e w' ⟨rfl, rfl⟩)
  go_loop [3, 4] (fun n i => ∃ k : Nat, k ≤ 6 ∧ l.length ≤ k ∧ i = .int .i64 k ∧ n = .int .i64 (tens (val l) (k - l.length))) (fun _ i => 6 - (intOf i).toNat)
  case atStart => exact ⟨l.length, hl, Nat.le_refl _, rfl, by rw [Nat.sub_self, tens_zero]⟩
  case round =>
    obtain ⟨k, h6, hk, rfl, rfl⟩ := hrel
    obtain ⟨v0, v1⟩ := tens_six hd hk h6
    by_cases hlt : k < 6
    · have HN := Lib.hid (tens_succ (val l) (k - l.length))
      go_wp2
      go_round
      case rel => exact ⟨k + 1, by omega, by omega, by go_num, by rw [show k + 1 - l.length = k - l.length + 1 from by omega, HN.out]⟩
      case measure => simp [intOf]; omega
    · go_wp2
      go_ret
      exact ⟨ret_int (by unfold mil; rw [show k = 6 from by omega]), rfl⟩

def okB (n : Int) : Bool := decide (-1000000000000 < n ∧ n < 1000000000000)
theorem ok_any (n : Int) (w : World) :
    Calls Tryd.prog 26 #[.int .i64 n] w fun e w' => e = .returned (.bool (okB n)) ∧ w = w' := by
  by_cases h : -1000000000000 < n
  · by_cases k : n < 1000000000000
    · have H := Lib.hid (show okB n = true from decide_eq_true ⟨h, k⟩)
      go_enter Tryd.func26, Tryd.ntmps26
      go_wp2
      go_ret
      exact ⟨by rw [H.out]; rfl, rfl⟩
    · have H := Lib.hid (show okB n = false from decide_eq_false (by omega))
      go_enter Tryd.func26, Tryd.ntmps26
      go_wp2
      go_ret
      exact ⟨by rw [H.out]; rfl, rfl⟩
  · have H := Lib.hid (show okB n = false from decide_eq_false (by omega))
    go_enter Tryd.func26, Tryd.ntmps26
    go_wp2
    go_ret
    exact ⟨by rw [H.out]; rfl, rfl⟩


theorem unsign_len (l : List UInt8) : (unsign l).length ≤ l.length := by
  cases l with
  | nil => simp [unsign]
  | cons c r => by_cases h : c.toNat = 45 ∨ c.toNat = 43 <;> simp [unsign, h]
theorem decs_digs (l : List UInt8) : Digs (decs l) := by
  cases l with
  | nil => exact digs_nil
  | cons c r =>
    by_cases h : c.toNat = 46
    · simp only [decs, h, if_true]; exact run_digs 6 _
    · simp only [decs, h, if_false]; exact digs_nil
theorem decs_len (l : List UInt8) : (decs l).length ≤ 6 := by
  cases l with
  | nil => simp [decs]
  | cons c r =>
    by_cases h : c.toNat = 46
    · simp only [decs, h, if_true]; have := run_le 6 r; simp; omega
    · simp [decs, h]

/-- Whether a point stands in front. -/
def dotB : List UInt8 → Bool
  | [] => false
  | c :: _ => decide (c.toNat = 46)
theorem dotB_cases (R : List UInt8) : (dotB R = false ∧ left R = R ∧ decs R = []) ∨ ∃ c r, R = c :: r ∧ dotB (c :: r) = true ∧ left (c :: r) = r.drop (run 6 r) ∧ decs (c :: r) = r.take (run 6 r) := by
  cases R with
  | nil => exact .inl ⟨rfl, rfl, rfl⟩
  | cons c r =>
    by_cases h : c.toNat = 46
    · exact .inr ⟨c, r, rfl, by simp [dotB, h], by simp [left, h], by simp [decs, h]⟩
    · exact .inl ⟨by simp [dotB, h], by simp [left, h], by simp [decs, h]⟩
set_option maxHeartbeats 1000000 in
theorem parse_core (l u W R D E : List UInt8) (m : Bool) (out : Option Int) (hu : Hid (unsign l = u)) (hm : Hid (minus l = m)) (lu : u.length ≤ 1000)
    (HS : Hid (∀ w, Calls Tryd.prog 36 #[.string ⟨u.toArray⟩] w fun e w' => e = .returned (.tuple #[.string ⟨W.toArray⟩, .string ⟨R.toArray⟩]) ∧ Below w.heap.size w w'))
    (dW : Digs W) (lW : W.length ≤ 6) (lR : R.length ≤ 1000) (hD : Hid (decs R = D)) (hE : Hid (left R = E)) (dD : Digs D) (lD : D.length ≤ 6)
    (HO : Hid (out = (if E.length = 0 ∧ W.length + D.length ≠ 0 then some (signed m (val W * 1000000 + mil D)) else none))) (w : World) :
    Calls Tryd.prog 24 #[.string ⟨l.toArray⟩] w fun e w' => e = .returned (.tuple #[.int .i64 (out.getD 0), .bool out.isSome]) ∧ Below w.heap.size w w' := by
  go_enter Tryd.func24, Tryd.ntmps24
  go_upto_region 1 with (fail)
  go_cut [4] (fun s4 wc => s4 = .bool m ∧ w = wc)
  case first =>
    rcases first_byte l with rfl | ⟨c, r, rfl⟩
    · go_wp2
      go_meet
      exact ⟨by rw [← hm.out]; rfl, rfl⟩
    · have hb : (({ data := (c :: r).toArray } : ByteArray)[0]'(by show 0 < (c :: r).toArray.size; simp)) = c := rfl
      by_cases h45 : c.toNat = 45
      · have hc : ((c.toNat : Int) == 45) = true := by simp [h45]
        have h2 := Lib.hid (show minus (c :: r) = true by simp [minus, h45])
        clear h45
        go_wp2
        go_meet
        exact ⟨by rw [← hm.out, h2.out], rfl⟩
      · have hc : ((c.toNat : Int) == 45) = false := by simp; omega
        have h2 := Lib.hid (show minus (c :: r) = false by simp [minus, h45])
        clear h45
        go_wp2
        go_meet
        exact ⟨by rw [← hm.out, h2.out], rfl⟩
  case rest =>
    obtain ⟨rfl, rfl⟩ := hcut
    go_step; go_step
    go_cut [0] (fun s0 wc => s0 = .string ⟨u.toArray⟩ ∧ w = wc)
    case first =>
      rcases first_byte l with rfl | ⟨c, r, rfl⟩
      · go_wp2
        go_meet
        exact ⟨by rw [← hu.out]; rfl, rfl⟩
      · have hb : (({ data := (c :: r).toArray } : ByteArray)[0]'(by show 0 < (c :: r).toArray.size; simp)) = c := rfl
        have hx : ({ data := (c :: r).toArray } : ByteArray).extract 1 (r.length + 1) = ⟨r.toArray⟩ := cut_back (c :: r) 1 (by simp)
        by_cases h45 : c.toNat = 45
        · have hc : ((c.toNat : Int) == 45) = true := by simp [h45]
          have h1 := Lib.hid (show unsign (c :: r) = r by simp [unsign, h45])
          clear h45
          go_wp2
          go_meet
          exact ⟨by rw [← hu.out, h1.out], rfl⟩
        · by_cases h43 : c.toNat = 43
          · have hc : ((c.toNat : Int) == 45) = false := by simp [h43]
            have hd : ((c.toNat : Int) == 43) = true := by simp [h43]
            have h1 := Lib.hid (show unsign (c :: r) = r by simp [unsign, h43])
            clear h45 h43
            go_wp2
            go_meet
            exact ⟨by rw [← hu.out, h1.out], rfl⟩
          · have hc : ((c.toNat : Int) == 45) = false := by simp; omega
            have hd : ((c.toNat : Int) == 43) = false := by simp; omega
            have h1 := Lib.hid (show unsign (c :: r) = c :: r by simp [unsign, h43, h45])
            clear h45 h43
            go_wp2
            go_meet
            exact ⟨by rw [← hu.out, h1.out], rfl⟩
    case rest =>
      obtain ⟨rfl, rfl⟩ := hcut
      go_upto_region 6 with (go_at_call 36; ((with_reducible refine (HS.out _).mono ?_); rintro e w1 ⟨rfl, b1⟩))
      go_cut [41] (fun s wc => s = .bool (dotB R) ∧ w1 = wc)
      case first =>
        rcases first_byte R with rfl | ⟨c, r, rfl⟩
        · go_wp2
          go_meet
          exact ⟨rfl, rfl⟩
        · have hb : (({ data := (c :: r).toArray } : ByteArray)[0]'(by show 0 < (c :: r).toArray.size; simp)) = c := rfl
          by_cases h46 : c.toNat = 46
          · have hc : ((c.toNat : Int) == 46) = true := by simp [h46]
            have h2 := Lib.hid (show dotB (c :: r) = true by simp [dotB, h46])
            clear h46
            go_wp2
            go_meet
            exact ⟨by rw [h2.out], rfl⟩
          · have hc : ((c.toNat : Int) == 46) = false := by simp; omega
            have h2 := Lib.hid (show dotB (c :: r) = false by simp [dotB, h46])
            clear h46
            go_wp2
            go_meet
            exact ⟨by rw [h2.out], rfl⟩
      case rest =>
        obtain ⟨rfl, rfl⟩ := hcut
        go_upto_if 41 with (fail)
        go_cut [6, 7] (fun s6 s7 wc => s6 = .string ⟨E.toArray⟩ ∧ s7 = .string ⟨D.toArray⟩ ∧ Below w.heap.size w wc)
        case first =>
          rcases dotB_cases R with ⟨hd, h1, h2⟩ | ⟨c, r, rfl, hd, h1, h2⟩
          · have H1 := Lib.hid h1
            have H2 := Lib.hid h2
            clear h1 h2
            rw [hd]
            go_wp2
            go_meet
            exact ⟨by rw [← hE.out, H1.out], by rw [← hD.out, H2.out], b1⟩
          · have H1 := Lib.hid h1
            have H2 := Lib.hid h2
            clear h1 h2
            rw [hd]
            have hx : ({ data := (c :: r).toArray } : ByteArray).extract 1 (r.length + 1) = ⟨r.toArray⟩ := cut_back (c :: r) 1 (by simp)
            have HT := Lib.hid (splitDigits_any r (by simp at lR; omega))
            go_wp2_with (go_at_call 36; ((with_reducible refine (HT.out _).mono ?_); rintro e w2 ⟨rfl, b2⟩))
            go_meet
            exact ⟨by rw [← hE.out, H1.out], by rw [← hD.out, H2.out], bel_trans b1 b2⟩
        case rest =>
          obtain ⟨rfl, rfl, b3⟩ := hcut
          obtain ⟨v0, v1⟩ := val_six dW lW
          obtain ⟨d0, d1⟩ := mil_bd dD lD
          rcases first_byte E with rfl | ⟨c, r, rfl⟩
          · by_cases hz : W.length + D.length = 0
            · have hzb : (((W.length : Nat) : Int) + ((D.length : Nat) : Int) == 0) = true := by simp; omega
              have HN := Lib.hid (HO.out.trans (by rw [if_neg (fun h => h.2 hz)]))
              clear hz HO
              go_wp2
              go_ret2
              exact ⟨by rw [HN.out]; rfl, b3⟩
            · have hzb : (((W.length : Nat) : Int) + ((D.length : Nat) : Int) == 0) = false := by simp; omega
              have HN := Lib.hid (HO.out.trans (by rw [if_pos ⟨rfl, hz⟩]))
              clear hz HO
              cases m
              · go_wp2_with (first | (go_at_call 37; refine (number_any W dW lW _).mono ?_; rintro e w' ⟨rfl, rfl⟩) | (go_at_call 38; refine (millionths_any D dD lD _).mono ?_; rintro e w' ⟨rfl, rfl⟩))
                go_ret2
                exact ⟨by rw [HN.out]; rfl, b3⟩
              · go_wp2_with (first | (go_at_call 37; refine (number_any W dW lW _).mono ?_; rintro e w' ⟨rfl, rfl⟩) | (go_at_call 38; refine (millionths_any D dD lD _).mono ?_; rintro e w' ⟨rfl, rfl⟩))
                go_ret2
                exact ⟨by rw [HN.out]; rfl, b3⟩
          · have HN := Lib.hid (HO.out.trans (by rw [if_neg (by simp)]))
            clear HO
            go_wp2
            go_ret2
            exact ⟨by rw [HN.out]; rfl, b3⟩
theorem parse_any (l : List UInt8) (hl : l.length ≤ 1000) (w : World) :
    Calls Tryd.prog 24 #[.string ⟨l.toArray⟩] w fun e w' => e = .returned (.tuple #[.int .i64 ((parseO l).getD 0), .bool (parseO l).isSome]) ∧ Below w.heap.size w w' := by
  have hu := Nat.le_trans (unsign_len l) hl
  have h6 := run_le 6 (unsign l)
  refine parse_core l _ _ _ _ _ _ _ (Lib.hid rfl) (Lib.hid rfl) hu (Lib.hid (splitDigits_any _ (by omega))) (run_digs 6 _) (by simp; omega) (by simp; omega) (Lib.hid rfl) (Lib.hid rfl) (decs_digs _) (decs_len _) (Lib.hid ?_) w
  unfold parseO unsigned
  split <;> rfl
end Go.Proofs.YtapnekpilgbcaaaDoor
