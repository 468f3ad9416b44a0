/- Contracts of package deci's writing functions. -/
import Derived.Test.YtpojkpiadbpooaaDeci
import Derived.Test.YtpojkpiadbpooaaDeciText
import Derived.Laws.BytesArg
import Derived.KernelRfl
namespace Go.Proofs.Ytpojkpiadbpooaa
open Go.RowKit

theorem str_app (a b : List UInt8) : (({ data := a.toArray } : ByteArray) ++ ({ data := b.toArray } : ByteArray)) = ⟨(a ++ b).toArray⟩ := by
  apply ByteArray.ext; simp
/-- The cells that hold bytes. -/
def cellsB (l : List UInt8) : Array Value := (l.map fun c => Value.int .u8 (c.toNat : Int)).toArray
theorem cellsB_set (l : List UInt8) (i : Nat) (c : UInt8) : (cellsB l).setIfInBounds i (.int .u8 (c.toNat : Int)) = cellsB (l.set i c) := by
  unfold cellsB
  apply Array.ext_getElem?
  intro j
  simp only [List.setIfInBounds_toArray, List.getElem?_toArray, List.getElem?_set, List.getElem?_map, List.length_map]
  split
  · split <;> rfl
  · rfl
theorem cellsB_at {l : List UInt8} {i : Nat} (h : i < l.length) : (cellsB l)[i]? = some (.int .u8 (l[i].toNat : Int)) := by
  unfold cellsB; simp [h]

theorem six_len : Try.prog.arrayLen 38 = 6 := by kernel_rfl
theorem six_elem : Try.prog.elem 38 = 5 := by kernel_rfl
theorem six_under : Try.prog.underlying 38 = some (.array (Try.prog.arrayLen 38) (Try.prog.elem 38)) := by kernel_rfl
theorem byte_size (W : World) : (sizeOf 5).run Try.prog W = .ok 1 W := by kernel_rfl
theorem slice_tail (b k : Nat) (hk : k < 6) (W : World) :
    (Instr.sliceAt 38 (.pointer (some ⟨b, 0, none⟩)) (some (.int .i64 (k : Int))) none none).run Try.prog W = .ok (.slice (some ⟨b, k, none⟩) (6 - k) (6 - k)) W := by
  rw [run_sliceAt_array_l W 38 ⟨b, 0, none⟩ six_under .i64 k (by omega) (by rw [six_len]; omega), six_elem, byte_size, six_len]
  simp [slicedAt, Addr.add]
  rw [if_neg (by omega)]
  split <;> simp_all
theorem slice_head (b k : Nat) (hk : k ≤ 6) (W : World) :
    (Instr.sliceAt 38 (.pointer (some ⟨b, 0, none⟩)) none (some (.int .i64 (k : Int))) none).run Try.prog W = .ok (.slice (some ⟨b, 0, none⟩) k 6) W := by
  rw [run_sliceAt_array_h W 38 ⟨b, 0, none⟩ six_under .i64 k (by omega) (by rw [six_len]; omega), six_elem, byte_size, six_len]
  simp [slicedAt, Addr.add]
theorem to_string (b off len cap : Nat) (xs : List UInt8) (hlen : xs.length = len) (W : World)
    (hcell : ∀ i, i < len → W.cell? ⟨b, off + i, none⟩ = some (.int .u8 ((xs.getD i 0).toNat : Int))) :
    (convert 39 9 (.slice (some ⟨b, off, none⟩) len cap)).run Try.prog W = .ok (.string ⟨xs.toArray⟩) W := by
  have h := run_convert_bytes_arg (P := Try.prog) W 39 5 (by kernel_rfl) (by kernel_rfl) b off len cap (xs.map fun c => (c.toNat : Int)) (by simpa using hlen) (fun i hi => by
    rw [hcell i hi]
    simp [List.getD, List.getElem?_map, show i < xs.length by omega]) 9 (by kernel_rfl)
  rw [h]
  congr 2
  unfold strOfNums
  congr 1
  congr 1
  rw [List.map_map]
  conv => rhs; rw [← List.map_id xs]
  apply List.map_congr_left
  intro c _
  simp
/-- The state of an integer part that is written from its end: k bytes are free. -/
def Whole (n k m : Nat) (L : List UInt8) : Prop := k ≤ 6 ∧ 6 - k ≤ max 1 (ndig n) ∧ m = n / 10 ^ (6 - k) ∧ L = List.replicate k 0 ++ pad (6 - k) n
theorem whole0 (n : Nat) : Whole n 6 n [0, 0, 0, 0, 0, 0] := ⟨by omega, by omega, by simp, rfl⟩
theorem whole_free {n k m : Nat} {L : List UInt8} (h : Whole n k m L) (hn : ndig n ≤ 6) (hg : k = 6 ∨ 0 < m) : 0 < k := by
  obtain ⟨h6, h1, h2, h3⟩ := h
  rcases hg with hg | hg
  · omega
  · rcases Nat.eq_zero_or_pos k with h0 | h0
    · subst h0; rw [h2, ← ndig_iff] at hg; omega
    · exact h0
theorem whole_step {n i m : Nat} {L : List UInt8} (h : Whole n (i + 1) m L) (hg : i + 1 = 6 ∨ 0 < m) : Whole n i (m / 10) (L.set i (d8 m)) := by
  obtain ⟨h6, h1, h2, h3⟩ := h
  have e : 6 - i = 6 - (i + 1) + 1 := by omega
  refine ⟨by omega, ?_, ?_, ?_⟩
  · rcases hg with hg | hg
    · omega
    · rw [h2, ← ndig_iff] at hg; omega
  · rw [h2, e, div_pow_succ]
  · rw [h3, e, pad, ← h2, List.replicate_succ', List.append_assoc, List.set_append_right _ _ (by simp)]
    simp
theorem whole_end {n k m : Nat} {L : List UInt8} (h : Whole n k m L) (h6 : k ≠ 6) (hm : m = 0) : L.drop k = numL n 1 := by
  obtain ⟨_, h1, h2, h3⟩ := h
  rw [h3, List.drop_left' (by simp)]
  exact num_done h1 (by rw [← h2, hm]; omega) (by omega)
theorem digit_cell (m : Nat) : Value.int .u8 (48 + (m : Int) % 10) = Value.int .u8 ((d8 m).toNat : Int) := by rw [d8_nat]; congr 1
theorem drop_at {L : List UInt8} {k : Nat} (i : Nat) (h : k + i < L.length) : (cellsB L)[k + i]? = some (.int .u8 (((L.drop k).getD i 0).toNat : Int)) := by
  rw [cellsB_at h]
  simp [List.getD, List.getElem?_drop, List.getElem?_eq_getElem h]
theorem take_at {L : List UInt8} {k : Nat} (i : Nat) (hi : i < k) (h : i < L.length) : (cellsB L)[i]? = some (.int .u8 (((L.take k).getD i 0).toNat : Int)) := by
  rw [cellsB_at h]
  simp [List.getD, List.getElem?_take, hi, List.getElem?_eq_getElem h]

set_option maxHeartbeats 400000 in
theorem wholeText_any (n : Nat) (hn : n < 1000000) (w : World) :
    Calls Try.prog 20 #[.int .i64 n] w fun e w' => e = .returned (.string ⟨(numL n 1).toArray⟩) ∧ Below w.heap.size w w' := by
  have hnd : ndig n ≤ 6 := ndig_le hn
  go_enter Try.func20, Try.ntmps20
  go_wp2
  go_loopw [0, 4] (fun x s wr => ∃ (k m : Nat) (L : List UInt8), k ≤ 6 ∧ m < 1000000 ∧ 6 ≤ L.length ∧ L.length ≤ 6 ∧ x = .int .i64 m ∧ s = .int .i64 k ∧ wr = w.alloc (.cells (cellsB L) 38) ∧ Whole n k m L) (fun _ s _ => (intOf s).toNat)
  case atStart => exact ⟨6, n, [0, 0, 0, 0, 0, 0], by omega, hn, by simp, by simp, rfl, rfl, rfl, whole0 n⟩
  case round =>
    obtain ⟨k, m, L, hk, hm, hL1, hL2, rfl, rfl, rfl, hW⟩ := hrel
    by_cases hg : k = 6 ∨ 0 < m
    · have hp := whole_free hW hnd hg
      obtain ⟨i, rfl⟩ : ∃ i, k = i + 1 := ⟨k - 1, by omega⟩
      have hcell := cellsB_at (l := L) (i := i) (by omega)
      have hfin := whole_step hW hg
      have hcd := Lib.hid (digit_cell m)
      have hset := Lib.hid (cellsB_set L i (d8 m))
      clear hW
      by_cases hk6 : i = 5
      · subst hk6
        go_wp2
        refine ⟨⟨5, m / 10, L.set 5 (d8 m), by omega, by omega, by simpa using hL1, by simpa using hL2, by go_num, rfl, by rw [hcd.out, hset.out], hfin⟩, by simp [intOf]⟩
      · have hk6b : ((i : Int) + 1 == 6) = false := by simp; omega
        have hm0 : 0 < m := by omega
        clear hk6 hg
        go_wp2
        refine ⟨⟨i, m / 10, L.set i (d8 m), by omega, by omega, by simpa using hL1, by simpa using hL2, by go_num, by go_num, by rw [hcd.out, hset.out], hfin⟩, by simp [intOf]⟩
    · have hk6b : ((k : Int) == 6) = false := by simp; omega
      obtain rfl : m = 0 := by omega
      have hsl := slice_tail w.heap.size k (by omega)
      have hcv := to_string w.heap.size k (6 - k) (6 - k) (L.drop k) (by simp; omega) (w.alloc (.cells (cellsB L) 38)) (fun i hi => by
        rw [World.cell?_alloc_at _ _ _ _ rfl]; exact drop_at i (by omega))
      have hfin := Lib.hid (whole_end hW (by omega) rfl)
      clear hW hg
      go_wp2
      go_ret
      exact ⟨congrArg (fun l : List UInt8 => Ending.returned (Value.string ⟨l.toArray⟩)) hfin.out, bel_alloc (bel_refl w) _⟩

theorem digit_at (q : Nat) (z : Int) (h : q < 10) (hz : z = 48 + (q : Int)) : Value.int .u8 z = Value.int .u8 ((d8 q).toNat : Int) := by rw [d8_nat, hz]; congr 1; omega
/-- The state of decimals that are written from the front. -/
structure Decs (m j r u : Nat) (L : List UInt8) : Prop where
  front : Fronts m j
  rest : r = m % 10 ^ (6 - j)
  unit : u = 100000 / 10 ^ j
  cells : L = Go.Proofs.Ytpojkpiadbpooaa.front j m ++ List.replicate (6 - j) 0
theorem decs0 {m : Nat} (h : m < 1000000) : Decs m 0 m 100000 [0, 0, 0, 0, 0, 0] :=
  ⟨fronts0 m, (Nat.mod_eq_of_lt h).symm, by simp, rfl⟩
theorem unit_pow {j : Nat} (h : j < 6) : 100000 / 10 ^ j = 10 ^ (5 - j) := by
  have : j = 0 ∨ j = 1 ∨ j = 2 ∨ j = 3 ∨ j = 4 ∨ j = 5 := by omega
  rcases this with rfl | rfl | rfl | rfl | rfl | rfl <;> rfl
theorem decs_six {m j r u : Nat} {L : List UInt8} (h : Decs m j r u L) (hr : 0 < r) : j < 6 := fronts_six h.front (by rw [← h.rest]; exact hr)
theorem decs_lt {m j r u : Nat} {L : List UInt8} (h : Decs m j r u L) : r < 10 ^ (6 - j) := by rw [h.rest]; exact Nat.mod_lt _ (Nat.pow_pos (by omega))
theorem decs_step {m j r u : Nat} {L : List UInt8} (h : Decs m j r u L) (hr : 0 < r) : Decs m (j + 1) (r % u) (u / 10) (L.set j (d8 (r / u))) := by
  have h6 := decs_six h hr
  obtain ⟨h1, h2, h3, h4⟩ := h
  have hu : u = 10 ^ (5 - j) := by rw [h3, unit_pow h6]
  refine ⟨fronts_step h1 h6 (by rw [← h2]; exact hr), ?_, ?_, ?_⟩
  · rw [hu, h2, show 6 - j = (5 - j) + 1 from by omega, show 6 - (j + 1) = 5 - j from by omega, Nat.pow_succ, Nat.mod_mul_right_mod]
  · rw [h3, div_pow_succ]
  · rw [h4, front_succ m h6, hu, h2, List.set_append_right _ _ (by rw [front_len]; omega), front_len]
    rw [show 6 - j = (6 - (j + 1)) + 1 from by omega, List.replicate_succ]
    simp
theorem decs_end {m j r u : Nat} {L : List UInt8} (h : Decs m j r u L) (hr : r = 0) : L.take j = bareL (pad 6 m) := by
  obtain ⟨h1, h2, h3, h4⟩ := h
  rw [h4, List.take_left' (front_len j m)]
  exact fronts_stop h1 (by rw [← h2, hr])

set_option maxHeartbeats 1000000 in
theorem decimalsText_any (m : Nat) (hm : m < 1000000) (w : World) :
    Calls Try.prog 21 #[.int .i64 m] w fun e w' => e = .returned (.string ⟨(decT m).toArray⟩) ∧ Below w.heap.size w w' := by
  by_cases h0 : m = 0
  · subst h0
    go_enter Try.func21, Try.ntmps21
    go_wp2
    go_ret
    exact ⟨rfl, bel_refl w⟩
  · have h0b : ((m : Int) == 0) = false := by simp; omega
    have hdt := Lib.hid (show decT m = 46 :: bareL (pad 6 m) by unfold decT; rw [if_neg h0])
    go_enter Try.func21, Try.ntmps21
    go_wp2
    go_loopw [0, 4, 5] (fun x s v wr => ∃ (j r u : Nat) (L : List UInt8), j ≤ 6 ∧ r < 1000000 ∧ u ≤ 100000 ∧ 6 ≤ L.length ∧ L.length ≤ 6 ∧ x = .int .i64 r ∧ s = .int .i64 j ∧ v = .int .i64 u ∧ wr = w.alloc (.cells (cellsB L) 38) ∧ Decs m j r u L) (fun _ s _ _ => 6 - (intOf s).toNat)
    case atStart => exact ⟨0, m, 100000, [0, 0, 0, 0, 0, 0], by omega, hm, by omega, by simp, by simp, rfl, rfl, rfl, rfl, decs0 hm⟩
    case round =>
      obtain ⟨j, r, u, L, hj, hr, hu, hL1, hL2, rfl, rfl, rfl, rfl, hW⟩ := hrel
      by_cases hg : 0 < r
      · have h6 := decs_six hW hg
        have hlt := decs_lt hW
        have hun := hW.unit
        have hcell := cellsB_at (l := L) (i := j) (by omega)
        have hfin := decs_step hW hg
        have hset := Lib.hid (cellsB_set L j (d8 (r / u)))
        clear hW
        have hcs : j = 0 ∨ j = 1 ∨ j = 2 ∨ j = 3 ∨ j = 4 ∨ j = 5 := by omega
        rcases hcs with rfl | rfl | rfl | rfl | rfl | rfl
        all_goals
          simp only [Nat.reducePow, Nat.reduceDiv, Nat.reduceSub, Nat.reduceAdd, Nat.zero_add, Nat.sub_zero, Nat.div_one, Nat.pow_zero] at hun hlt hfin
          subst hun
          go_wp2
          refine ⟨⟨_, _, _, _, by omega, by omega, by omega, by simpa using hL1, by simpa using hL2, ?_, ?_, ?_, ?_, hfin⟩, by simp [intOf]⟩
          · exact congrArg (Value.int .i64) (by omega)
          · rfl
          · rfl
          · rw [← hset.out]
            exact congrArg (fun v => w.alloc (.cells ((cellsB L).setIfInBounds _ v) 38)) (digit_at _ _ (by omega) (by omega))
      · obtain rfl : r = 0 := by omega
        have hsl := slice_head w.heap.size j hj
        have hcv := to_string w.heap.size 0 j 6 (L.take j) (by simp; omega) (w.alloc (.cells (cellsB L) 38)) (fun i hi => by
          rw [World.cell?_alloc_at _ _ _ _ rfl, Nat.zero_add]; exact take_at i hi (by omega))
        have hfin := Lib.hid (decs_end hW rfl)
        clear hW hg
        go_wp2
        go_ret
        exact ⟨by rw [hdt.out, ← hfin.out]; exact congrArg (fun s => Ending.returned (Value.string s)) (str_app [46] _), bel_alloc (bel_refl w) _⟩

theorem wholeText_int (x : Int) (h0 : 0 ≤ x) (h1 : x < 1000000) (w : World) :
    Calls Try.prog 20 #[.int .i64 x] w fun e w' => e = .returned (.string ⟨(numL x.toNat 1).toArray⟩) ∧ Below w.heap.size w w' := by
  obtain ⟨n, rfl⟩ := Int.eq_ofNat_of_zero_le h0
  exact wholeText_any n (by omega) w
theorem decimalsText_int (x : Int) (h0 : 0 ≤ x) (h1 : x < 1000000) (w : World) :
    Calls Try.prog 21 #[.int .i64 x] w fun e w' => e = .returned (.string ⟨(decT x.toNat).toArray⟩) ∧ Below w.heap.size w w' := by
  obtain ⟨n, rfl⟩ := Int.eq_ofNat_of_zero_le h0
  exact decimalsText_any n (by omega) w
theorem numL_six {n : Nat} (h : n < 1000000) : (numL n 1).length ≤ 6 := by
  rw [numL_len]; have := ndig_le (k := 6) h; omega
theorem decT_seven (n : Nat) : (decT n).length ≤ 7 := by
  unfold decT; split
  · simp
  · have := bare_len (pad 6 n); rw [pad_len] at this; simp; omega

theorem text_neg {k : Int} (h0 : 0 < k) (h1 : k < 1000000000000) : textL (-k) = [45] ++ numL (k / 1000000).toNat 1 ++ decT (k % 1000000).toNat := by
  unfold textL sizeT
  rw [if_pos (by omega), if_pos (by omega), show (-k).natAbs / 1000000 = (k / 1000000).toNat from by omega, show (-k).natAbs % 1000000 = (k % 1000000).toNat from by omega]
  rfl
theorem text_pos {k : Int} (h0 : 0 ≤ k) (h1 : k < 1000000000000) : textL k = [] ++ numL (k / 1000000).toNat 1 ++ decT (k % 1000000).toNat := by
  unfold textL sizeT
  rw [if_pos (by omega), if_neg (by omega), show k.natAbs / 1000000 = (k / 1000000).toNat from by omega, show k.natAbs % 1000000 = (k % 1000000).toNat from by omega]
  rfl
theorem str_app3 (a b c : List UInt8) : (({ data := a.toArray } : ByteArray) ++ ({ data := b.toArray } : ByteArray)) ++ ({ data := c.toArray } : ByteArray) = ⟨(a ++ b ++ c).toArray⟩ := by
  rw [str_app, str_app]

set_option maxHeartbeats 1000000 in
theorem text_any (n : Int) (w : World) :
    Calls Try.prog 12 #[.int .i64 n] w fun e w' => e = .returned (.string ⟨(textL n).toArray⟩) ∧ Below w.heap.size w w' := by
  by_cases hok : -1000000000000 < n ∧ n < 1000000000000
  · have H := Lib.hid (show okB n = true from decide_eq_true hok)
    obtain ⟨k1, k2⟩ := hok
    by_cases hn : n < 0
    · obtain ⟨k, rfl⟩ : ∃ k : Int, n = -k := ⟨-n, by omega⟩
      have p1 : 0 < k := by omega
      have p2 : k < 1000000000000 := by omega
      have HT := Lib.hid (text_neg p1 p2)
      have l1 := numL_six (n := (k / 1000000).toNat) (by omega)
      have l2 := decT_seven (k % 1000000).toNat
      have hk : ∀ W : World, Calls Try.prog 8 #[.int .i64 (-k)] W fun e w' => e = .returned (.bool true) ∧ W = w' := fun W => by have := ok_any (-k) W; rw [H.out] at this; exact this
      have HK := Lib.hid hk
      clear k1 k2 hn hk
      go_enter Try.func12, Try.ntmps12
      go_wp2_with (first
        | (go_at_call 8; refine (HK.out _).mono ?_; rintro e w' ⟨rfl, rfl⟩)
        | (go_at_call 20; refine (wholeText_int _ (by omega) (by omega) _).mono ?_; rintro e w1 ⟨rfl, b1⟩)
        | (go_at_call 21; refine (decimalsText_int _ (by omega) (by omega) _).mono ?_; rintro e w2 ⟨rfl, b2⟩))
      go_ret
      exact ⟨by rw [HT.out]; exact congrArg (fun s => Ending.returned (Value.string s)) (str_app3 [45] _ _), bel_trans b1 b2⟩
    · have p1 : 0 ≤ n := by omega
      have HT := Lib.hid (text_pos p1 k2)
      have l1 := numL_six (n := (n / 1000000).toNat) (by omega)
      have l2 := decT_seven (n % 1000000).toNat
      have hk : ∀ W : World, Calls Try.prog 8 #[.int .i64 n] W fun e w' => e = .returned (.bool true) ∧ W = w' := fun W => by have := ok_any n W; rw [H.out] at this; exact this
      have HK := Lib.hid hk
      clear k1 hn hk
      go_enter Try.func12, Try.ntmps12
      go_wp2_with (first
        | (go_at_call 8; refine (HK.out _).mono ?_; rintro e w' ⟨rfl, rfl⟩)
        | (go_at_call 20; refine (wholeText_int _ (by omega) (by omega) _).mono ?_; rintro e w1 ⟨rfl, b1⟩)
        | (go_at_call 21; refine (decimalsText_int _ (by omega) (by omega) _).mono ?_; rintro e w2 ⟨rfl, b2⟩))
      go_ret
      exact ⟨by rw [HT.out]; exact congrArg (fun s => Ending.returned (Value.string s)) (str_app3 [] _ _), bel_trans b1 b2⟩
  · have H := Lib.hid (show okB n = false from decide_eq_false hok)
    have HT := Lib.hid (show textL n = [] by unfold textL; rw [if_neg hok])
    go_enter Try.func12, Try.ntmps12
    go_wp2_with (go_at_call 8; refine (ok_any _ _).mono ?_; rintro e w' ⟨rfl, rfl⟩; rw [H.out])
    go_ret
    exact ⟨by rw [HT.out]; rfl, bel_refl w⟩
end Go.Proofs.Ytpojkpiadbpooaa
