/- Contracts of package unit's functions on digits: splitSign, fill, omit, write. -/
import Derived.Test.YtapnekpilgbcaaaDoorUnit
import Derived.Test.YtapnekpilgbcaaaDoorBytes
import Derived.Test.YtapnekpilgbcaaaDoorShelf
namespace Go.Proofs.YtapnekpilgbcaaaDoor
open Go.RowKit

theorem eq48 : (fun c : UInt8 => c == 48) = (fun c : UInt8 => decide (c.toNat = 48)) := by
  funext c
  by_cases h : c.toNat = 48
  · obtain rfl : c = 48 := UInt8.toNat_inj.1 h
    rfl
  · rw [decide_eq_false h]
    exact beq_eq_false_iff_ne.2 (fun e => h (by rw [e]; rfl))
theorem trimR_any (l : List UInt8) (hl : l.length ≤ 1000) (w : World) :
    Calls Tryd.prog 33 #[.string ⟨l.toArray⟩, .string ⟨#[48]⟩] w fun e w' => e = .returned (.string ⟨(bareL l).toArray⟩) ∧ w = w' := by
  have h := Tryd.strings_TrimRight_one ⟨l.toArray⟩ 48 (by decide) w (by rw [str_size]; omega)
  rw [show Lib.trimRightB (⟨l.toArray⟩ : ByteArray).data.toList 48 = bareL l by unfold Lib.trimRightB bareL; rw [eq48]] at h
  exact h.mono fun e w' hh => ⟨hh.1, hh.2.symm⟩
theorem trimL_any (l : List UInt8) (w : World) :
    Calls Tryd.prog 34 #[.string ⟨l.toArray⟩, .string ⟨#[48]⟩] w fun e w' => e = .returned (.string ⟨(leadL l).toArray⟩) ∧ w = w' := by
  have h := Tryd.strings_TrimLeft_one ⟨l.toArray⟩ 48 (by decide) w
  rw [show Lib.trimLeftB (⟨l.toArray⟩ : ByteArray).data.toList 48 = leadL l by unfold Lib.trimLeftB leadL; rw [eq48]] at h
  exact h.mono fun e w' hh => ⟨hh.1, hh.2.symm⟩
theorem trimR_is {l x : List UInt8} (h : bareL l = x) (hl : l.length ≤ 1000) (w : World) :
    Calls Tryd.prog 33 #[.string ⟨l.toArray⟩, .string ⟨#[48]⟩] w fun e w' => e = .returned (.string ⟨x.toArray⟩) ∧ w = w' := h ▸ trimR_any l hl w
theorem trimL_is {l x : List UInt8} (h : leadL l = x) (w : World) :
    Calls Tryd.prog 34 #[.string ⟨l.toArray⟩, .string ⟨#[48]⟩] w fun e w' => e = .returned (.string ⟨x.toArray⟩) ∧ w = w' := h ▸ trimL_any l w
theorem repeat_any (x : Int) (h0 : 0 ≤ x) (h1 : x ≤ 1000) (w : World) :
    Calls Tryd.prog 35 #[.string ⟨#[48]⟩, .int .i64 x] w fun e w' => e = .returned (.string ⟨(zeros x.toNat).toArray⟩) ∧ Below w.heap.size w w' := by
  obtain ⟨c, rfl⟩ := Int.eq_ofNat_of_zero_le h0
  have h := Tryd.strings_Repeat ⟨#[48]⟩ c w (by omega) (by show 1 * c ≤ _; omega)
  have e : Lib.repeatL (⟨#[48]⟩ : ByteArray).data.toList c = zeros c := by
    have := Lib.repeatL_replicate 48 1 c
    rw [Nat.mul_one] at this
    exact this
  rw [e] at h
  exact h

set_option maxHeartbeats 400000 in
theorem splitSign_any (l : List UInt8) (hl : l.length ≤ 100000) (w : World) :
    Calls Tryd.prog 22 #[.string ⟨l.toArray⟩] w fun e w' => e = .returned (.tuple #[.string ⟨(signL l).toArray⟩, .string ⟨(unsign l).toArray⟩]) ∧ Below w.heap.size w w' := by
  rcases first_byte l with rfl | ⟨c, r, rfl⟩
  · go_enter Tryd.func22, Tryd.ntmps22
    go_wp2
    go_ret2
    exact ⟨rfl, bel_refl w⟩
  · have hb : (({ data := (c :: r).toArray } : ByteArray)[0]'(by show 0 < (c :: r).toArray.size; simp)) = c := rfl
    have hx : ({ data := (c :: r).toArray } : ByteArray).extract 1 (r.length + 1) = ⟨r.toArray⟩ := cut_back (c :: r) 1 (by simp)
    have hy : ({ data := (c :: r).toArray } : ByteArray).extract 0 1 = ⟨[c].toArray⟩ := cut_front (c :: r) 1 (by simp)
    by_cases h45 : c.toNat = 45
    · have hc : ((c.toNat : Int) == 45) = true := by simp [h45]
      have hd : ((c.toNat : Int) == 43) = false := by simp [h45]
      have h1 := Lib.hid (show signL (c :: r) = [c] by simp [signL, h45])
      have h2 := Lib.hid (show unsign (c :: r) = r by simp [unsign, h45])
      clear h45
      go_enter Tryd.func22, Tryd.ntmps22
      go_wp2_with fail
      go_quiet (fail)
      go_wp2
      go_ret2
      exact ⟨by rw [h1.out, h2.out]; rfl, bel_drewN w _⟩
    · by_cases h43 : c.toNat = 43
      · have hc : ((c.toNat : Int) == 45) = false := by simp [h43]
        have hd : ((c.toNat : Int) == 43) = true := by simp [h43]
        have h1 := Lib.hid (show signL (c :: r) = [c] by simp [signL, h43])
        have h2 := Lib.hid (show unsign (c :: r) = r by simp [unsign, h43])
        clear h43 h45
        go_enter Tryd.func22, Tryd.ntmps22
        go_wp2_with fail
        go_quiet (fail)
        go_wp2
        go_ret2
        exact ⟨by rw [h1.out, h2.out]; rfl, bel_drewN w _⟩
      · have hc : ((c.toNat : Int) == 45) = false := by simp; omega
        have hd : ((c.toNat : Int) == 43) = false := by simp; omega
        have h1 := Lib.hid (show signL (c :: r) = [] by simp [signL, h43, h45])
        have h2 := Lib.hid (show unsign (c :: r) = c :: r by simp [unsign, h43, h45])
        clear h43 h45
        go_enter Tryd.func22, Tryd.ntmps22
        go_wp2
        go_ret2
        exact ⟨by rw [h1.out, h2.out]; rfl, bel_refl w⟩

set_option maxHeartbeats 400000 in
theorem fill_any (r : List UInt8) (u : Int) (a d : Nat) (t : Bool) (ha : a ≤ 6) (hd : d ≤ 6) (hr : r.length ≤ a + d) (w : World) :
    Calls Tryd.prog 23 #[.string ⟨r.toArray⟩, fmtV u a d t] w fun e w' => e = .returned (.string ⟨(fillL r (a + d) t).toArray⟩) ∧ Below w.heap.size w w' := by
  have HZ := Lib.hid (show zeros ((a : Int) + (d : Int) - (r.length : Int)).toNat = zeros (a + d - r.length) by congr 1; omega)
  have lz := zeros_len (a + d - r.length)
  have lz1 : (zeros (a + d - r.length)).length ≤ 12 := by omega
  clear lz
  cases t
  · go_enter Tryd.func23, Tryd.ntmps23
    go_wp2_with fail
    refine (repeat_any _ (by omega) (by omega) _).mono ?_; rintro e w1 ⟨rfl, b1⟩
    rw [HZ.out]
    have x3 : w1.cell? ⟨w.heap.size, 3, none⟩ = some (.bool false) := cell_later b1 (by simp)
    have hz1 := bel_more b1
    go_wp2
    go_ret
    exact ⟨congrArg (fun s => Ending.returned (Value.string s)) (str_app _ _), bel_trans (bel_alloc (bel_refl w) _) b1⟩
  · go_enter Tryd.func23, Tryd.ntmps23
    go_wp2_with fail
    refine (repeat_any _ (by omega) (by omega) _).mono ?_; rintro e w1 ⟨rfl, b1⟩
    rw [HZ.out]
    have x3 : w1.cell? ⟨w.heap.size, 3, none⟩ = some (.bool true) := cell_later b1 (by simp)
    have hz1 := bel_more b1
    go_wp2
    go_ret
    exact ⟨congrArg (fun s => Ending.returned (Value.string s)) (str_app _ _), bel_trans (bel_alloc (bel_refl w) _) b1⟩

set_option maxHeartbeats 400000 in
theorem omit_any (r : List UInt8) (u a d : Int) (t : Bool) (hr : r.length ≤ 1000) (w : World) :
    Calls Tryd.prog 21 #[.string ⟨r.toArray⟩, fmtV u a d t] w fun e w' => e = .returned (.string ⟨(orZero (omitX r t)).toArray⟩) ∧ Below w.heap.size w w' := by
  cases t
  · obtain ⟨x, hx⟩ : ∃ x, leadL r = x := ⟨_, rfl⟩
    have HX := Lib.hid (show omitX r false = x from hx)
    have HT := Lib.hid (fun w => trimL_is hx w)
    clear hx
    rcases first_byte x with rfl | ⟨c, s, rfl⟩
    · go_enter Tryd.func21, Tryd.ntmps21
      go_wp2_with (first
        | (go_at_call 33; ((with_reducible refine (HT.out _).mono ?_); rintro e w' ⟨rfl, rfl⟩))
        | (go_at_call 34; ((with_reducible refine (HT.out _).mono ?_); rintro e w' ⟨rfl, rfl⟩)))
      go_ret
      exact ⟨by rw [HX.out]; rfl, bel_alloc (bel_refl w) _⟩
    · have HE := Lib.hid (show orZero (c :: s) = c :: s from if_neg (by simp))
      go_enter Tryd.func21, Tryd.ntmps21
      go_wp2_with (first
        | (go_at_call 33; ((with_reducible refine (HT.out _).mono ?_); rintro e w' ⟨rfl, rfl⟩))
        | (go_at_call 34; ((with_reducible refine (HT.out _).mono ?_); rintro e w' ⟨rfl, rfl⟩)))
      go_ret
      exact ⟨by rw [HX.out, HE.out]; rfl, bel_alloc (bel_refl w) _⟩
  · obtain ⟨x, hx⟩ : ∃ x, bareL r = x := ⟨_, rfl⟩
    have HX := Lib.hid (show omitX r true = x from hx)
    have HT := Lib.hid (fun w => trimR_is hx hr w)
    clear hx
    rcases first_byte x with rfl | ⟨c, s, rfl⟩
    · go_enter Tryd.func21, Tryd.ntmps21
      go_wp2_with (first
        | (go_at_call 33; ((with_reducible refine (HT.out _).mono ?_); rintro e w' ⟨rfl, rfl⟩))
        | (go_at_call 34; ((with_reducible refine (HT.out _).mono ?_); rintro e w' ⟨rfl, rfl⟩)))
      go_ret
      exact ⟨by rw [HX.out]; rfl, bel_alloc (bel_refl w) _⟩
    · have HE := Lib.hid (show orZero (c :: s) = c :: s from if_neg (by simp))
      go_enter Tryd.func21, Tryd.ntmps21
      go_wp2_with (first
        | (go_at_call 33; ((with_reducible refine (HT.out _).mono ?_); rintro e w' ⟨rfl, rfl⟩))
        | (go_at_call 34; ((with_reducible refine (HT.out _).mono ?_); rintro e w' ⟨rfl, rfl⟩)))
      go_ret
      exact ⟨by rw [HX.out, HE.out]; rfl, bel_alloc (bel_refl w) _⟩
end Go.Proofs.YtapnekpilgbcaaaDoor
