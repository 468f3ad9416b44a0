/- Contracts of the document's answer for layer 2: what each of its functions returns. -/
import Derived.Test.YtapnekpilgbcaaaDoorDeci
import Derived.Test.YtapnekpilgbcaaaDoorDeciText
namespace Go.Proofs.YtapnekpilgbcaaaDoor
open Go.RowKit

theorem refOk_any (n : Int) (w : World) :
    Calls Tryd.prog 27 #[.int .i64 n] w fun e w' => e = .returned (.bool (okB n)) ∧ w = w' := by
  by_cases h : -1000000000000 < n
  · by_cases k : n < 1000000000000
    · have H := Lib.hid (show okB n = true from decide_eq_true ⟨h, k⟩)
      go_enter Tryd.func27, Tryd.ntmps27
      go_wp2
      go_ret
      exact ⟨by rw [H.out]; rfl, rfl⟩
    · have H := Lib.hid (show okB n = false from decide_eq_false (by omega))
      go_enter Tryd.func27, Tryd.ntmps27
      go_wp2
      go_ret
      exact ⟨by rw [H.out]; rfl, rfl⟩
  · have H := Lib.hid (show okB n = false from decide_eq_false (by omega))
    go_enter Tryd.func27, Tryd.ntmps27
    go_wp2
    go_ret
    exact ⟨by rw [H.out]; rfl, rfl⟩

set_option maxHeartbeats 400000 in
theorem whole_any (l : List UInt8) (hd : Digs l) (hl : l.length ≤ 18) (w : World) :
    Calls Tryd.prog 29 #[.string ⟨l.toArray⟩] w fun e w' => e = .returned (.int .i64 (val l)) ∧ w = w' := by
  go_enter Tryd.func29, Tryd.ntmps29
  go_wp2
  go_loop [3, 4] (fun n i => ∃ k : Nat, k ≤ l.length ∧ i = .int .i64 k ∧ n = .int .i64 (val (l.take k))) (fun _ i => l.length - (intOf i).toNat)
  case atStart => exact ⟨0, by omega, rfl, rfl⟩
  case round =>
    obtain ⟨k, hk, rfl, rfl⟩ := hrel
    have hb := byteAt l k
    by_cases hlt : k < l.length
    · obtain ⟨v0, v1⟩ := val_le (digs_take hd k) (k := 17) (by simp; omega)
      rw [show (10 : Int) ^ 17 = 100000000000000000 from by decide] at v1
      obtain ⟨d0, d1⟩ := digs_at hd hlt
      have HN := Lib.hid (val_next hlt)
      go_wp2
      go_round
      case rel => exact ⟨k + 1, by omega, by go_num, by rw [HN.out]; rfl⟩
      case measure => simp [intOf]; omega
    · go_wp2
      go_ret
      exact ⟨ret_int (by rw [List.take_of_length_le (by omega)]), rfl⟩

/-- The head of a count from place p on: so far j digits. -/
def SofarF (l : List UInt8) (p j : Nat) : Prop := runF (l.drop p) = j + runF (l.drop (p + j))
theorem sofarF0 (l : List UInt8) (p : Nat) : SofarF l p 0 := by unfold SofarF; simp
theorem sofarF_step {l : List UInt8} {p j : Nat} (h : SofarF l p j) (hl : p + j < l.length) (hd : dig l[p + j] = true) : SofarF l p (j + 1) := by
  unfold SofarF at *
  rw [h, List.drop_eq_getElem_cons hl]
  conv => lhs; rw [runF, if_pos hd]
  rw [Nat.add_assoc p j 1]; omega
theorem sofarF_end {l : List UInt8} {p j : Nat} (h : SofarF l p j) (hl : ¬ p + j < l.length) : runF (l.drop p) = j := by
  unfold SofarF at h
  rw [h, List.drop_eq_nil_of_le (by omega)]; rfl
theorem sofarF_no {l : List UInt8} {p j : Nat} (h : SofarF l p j) (hl : p + j < l.length) (hd : dig l[p + j] = false) : runF (l.drop p) = j := by
  unfold SofarF at h
  rw [h, List.drop_eq_getElem_cons hl, runF, if_neg (by rw [hd]; simp)]; rfl
theorem stopF_lo {l : List UInt8} {p j : Nat} (hs : SofarF l p j) (hl : p + j < l.length) (hc : ((l[p + j]).toNat : Int) < 48) : runF (l.drop p) = j :=
  sofarF_no hs hl (decide_eq_false (by omega))
theorem stopF_hi {l : List UInt8} {p j : Nat} (hs : SofarF l p j) (hl : p + j < l.length) (hc : 57 < ((l[p + j]).toNat : Int)) : runF (l.drop p) = j :=
  sofarF_no hs hl (decide_eq_false (by omega))

set_option maxHeartbeats 400000 in
theorem digits_any (l : List UInt8) (hl : l.length ≤ 100000) (p : Nat) (hp : p ≤ 100000) (w : World) :
    Calls Tryd.prog 28 #[.string ⟨l.toArray⟩, .int .i64 p] w fun e w' => e = .returned (.int .i64 (runF (l.drop p) : Nat)) ∧ w = w' := by
  go_enter Tryd.func28, Tryd.ntmps28
  go_wp2
  go_loop [5] (fun n => ∃ j : Nat, j ≤ l.length ∧ n = .int .i64 j ∧ SofarF l p j) (fun n => l.length - (intOf n).toNat)
  case atStart => exact ⟨0, by omega, rfl, sofarF0 l p⟩
  case round =>
    obtain ⟨j, hj, rfl, hs⟩ := hrel
    by_cases hlt : p + j < l.length
    · have hb := byteAt l (p + j) hlt
      go_wp2
      · go_round
        case rel => exact ⟨j + 1, by omega, by go_num, sofarF_step hs hlt (dig_of (by omega))⟩
        case measure => simp [intOf]; omega
      all_goals
        go_ret
        exact ⟨ret_int (by first | exact congrArg Nat.cast (stopF_hi hs hlt ‹_›).symm | exact congrArg Nat.cast (stopF_lo hs hlt ‹_›).symm), rfl⟩
    · go_wp2
      go_ret
      exact ⟨ret_int (congrArg Nat.cast (sofarF_end hs hlt).symm), rfl⟩

theorem ten_digits : ∀ q, q < 10 → ({ data := #[48, 49, 50, 51, 52, 53, 54, 55, 56, 57] } : ByteArray).extract q (q + 1) = ⟨[UInt8.ofNat (48 + q)].toArray⟩ := by
  decide +kernel
theorem ten_at (m : Nat) : ({ data := #[48, 49, 50, 51, 52, 53, 54, 55, 56, 57] } : ByteArray).extract (m % 10) (m % 10 + 1) = ⟨[d8 m].toArray⟩ := ten_digits _ (by omega)

theorem num_round {n k j m : Nat} (hW : m = n / 10 ^ j) (hg : 0 < m ∨ j < k) :
    j + 1 ≤ max k (ndig n) ∧ (({ data := #[d8 m] } : ByteArray) ++ ({ data := (pad j n).toArray } : ByteArray)) = ⟨(pad (j + 1) n).toArray⟩ ∧ m / 10 = n / 10 ^ (j + 1) := by
  refine ⟨num_more (by rw [← hW]; exact hg), ?_, by rw [hW, div_pow_succ]⟩
  rw [pad, ← hW]; exact str_app [d8 m] _
set_option maxHeartbeats 1000000 in
theorem num_any (n : Nat) (hn : n ≤ 9223372036854775807) (k : Nat) (hk : k ≤ 1000) (w : World) :
    Calls Tryd.prog 17 #[.int .i64 n, .int .i64 k] w fun e w' => e = .returned (.string ⟨(numL n k).toArray⟩) ∧ w = w' := by
  have hnd : ndig n ≤ 19 := ndig_le (by have : (10 : Nat) ^ 19 = 10000000000000000000 := by decide
                                        omega)
  go_enter Tryd.func17, Tryd.ntmps17
  go_wp2
  go_loop [0, 5, 6] (fun x s _ => ∃ j m : Nat, j ≤ max k (ndig n) ∧ m ≤ 9223372036854775807 ∧ x = .int .i64 m ∧ s = .string ⟨(pad j n).toArray⟩ ∧ Hid (m = n / 10 ^ j)) (fun _ s _ => 2000 - (match s with | .string b => b.size | _ => 0))
  case atStart => exact ⟨0, n, by omega, hn, rfl, rfl, Lib.hid (by simp)⟩
  case round =>
    obtain ⟨j, m, hj, hm, rfl, rfl, hW⟩ := hrel
    have hpl : (pad j n).length ≤ 1019 := by rw [pad_len]; omega
    have hpl2 : j ≤ (pad j n).length := by rw [pad_len]; omega
    have hpl3 : (pad j n).length ≤ j := by rw [pad_len]; omega
    have ht := ten_at m
    by_cases hg : 0 < m
    · go_wp2
      obtain ⟨r1, r2, r3⟩ := num_round hW.out (.inl hg)
      refine ⟨⟨j + 1, m / 10, r1, by omega, by go_num, by rw [r2], Lib.hid r3⟩, ?_⟩
      rw [r2]
      show 2000 - (_ : ByteArray).size < 2000 - (_ : ByteArray).size
      rw [str_size, str_size, pad_len, pad_len]; omega
    · by_cases hg2 : j < k
      · go_wp2
        obtain ⟨r1, r2, r3⟩ := num_round hW.out (.inr hg2)
        refine ⟨⟨j + 1, m / 10, r1, by omega, by go_num, by rw [r2], Lib.hid r3⟩, ?_⟩
        rw [r2]
        show 2000 - (_ : ByteArray).size < 2000 - (_ : ByteArray).size
        rw [str_size, str_size, pad_len, pad_len]; omega
      · go_wp2
        go_ret
        exact ⟨congrArg (fun l : List UInt8 => Ending.returned (Value.string ⟨l.toArray⟩)) (num_done hj (by rw [← hW.out]; exact hg) hg2), rfl⟩

set_option maxHeartbeats 400000 in
theorem bare_any (l : List UInt8) (hl : l.length ≤ 100000) (w : World) :
    Calls Tryd.prog 31 #[.string ⟨l.toArray⟩] w fun e w' => e = .returned (.string ⟨(bareL l).toArray⟩) ∧ w = w' := by
  go_enter Tryd.func31, Tryd.ntmps31
  go_wp2
  go_loop [0] (fun s => ∃ c : List UInt8, c.length ≤ 100000 ∧ s = .string ⟨c.toArray⟩ ∧ Hid (bareL l = bareL c)) (fun s => match s with | .string b => b.size | _ => 0)
  case atStart => exact ⟨l, hl, rfl, Lib.hid rfl⟩
  case round =>
    obtain ⟨c, hc, rfl, hW⟩ := hrel
    rcases nil_or_snoc c with rfl | ⟨i, x, rfl⟩
    · go_wp2
      go_ret
      exact ⟨by rw [hW.out]; rfl, rfl⟩
    · have hil : i.length ≤ 100000 := by simp at hc; omega
      have hb := byteAt (i ++ [x]) i.length (by simp)
      rw [show (i ++ [x])[i.length]'(by simp) = x from by simp] at hb
      by_cases hx : x.toNat = 48
      · have hxb : ((x.toNat : Int) == 48) = true := by simp [hx]
        have HS := Lib.hid (bare_step (l := i) hx)
        have hcut := cut_front (i ++ [x]) i.length (by simp)
        rw [List.take_left] at hcut
        clear hx
        go_wp2
        refine ⟨⟨i, hil, rfl, Lib.hid (by rw [hW.out, HS.out])⟩, ?_⟩
        show (_ : ByteArray).size < (_ : ByteArray).size
        rw [str_size, str_size]; simp
      · have hxb : ((x.toNat : Int) == 48) = false := by simp; omega
        have HS := Lib.hid (bare_stop (l := i) hx)
        clear hx
        go_wp2
        go_ret
        exact ⟨by rw [hW.out, HS.out]; rfl, rfl⟩

theorem num_int (x k : Int) (h0 : 0 ≤ x) (h1 : x ≤ 9223372036854775807) (k0 : 0 ≤ k) (k1 : k ≤ 1000) (w : World) :
    Calls Tryd.prog 17 #[.int .i64 x, .int .i64 k] w fun e w' => e = .returned (.string ⟨(numL x.toNat k.toNat).toArray⟩) ∧ w = w' := by
  obtain ⟨n, rfl⟩ := Int.eq_ofNat_of_zero_le h0
  obtain ⟨j, rfl⟩ := Int.eq_ofNat_of_zero_le k0
  exact num_any n (by omega) j (by omega) w
end Go.Proofs.YtapnekpilgbcaaaDoor
