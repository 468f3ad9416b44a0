/- The document's Parse of layer 2 returns what package deci's Parse returns. -/
import Derived.Test.YtpojkpiadbpooaaRefDec
namespace Go.Proofs.Ytpojkpiadbpooaa
open Go.RowKit

theorem signLen_le (l : List UInt8) : signLen l ≤ 1 ∧ signLen l ≤ l.length := by
  cases l with
  | nil => simp [signLen]
  | cons c r => by_cases h : c.toNat = 45 ∨ c.toNat = 43 <;> simp [signLen, h]
theorem digits_at (l : List UInt8) (hl : l.length ≤ 1000) (x : Int) (p : Nat) (hx : x = (p : Int)) (hp : p ≤ 2000) (w : World) :
    Calls Try.prog 18 #[.string ⟨l.toArray⟩, .int .i64 x] w fun e w' => e = .returned (.int .i64 (runF (l.drop p) : Nat)) ∧ w = w' := by
  subst hx; exact digits_any l (by omega) p (by omega) w
theorem refDec_any (l : List UInt8) (hl : l.length ≤ 1000) (w : World) :
    Calls Try.prog 10 #[.string ⟨l.toArray⟩] w fun e w' => e = .returned (.tuple #[.int .i64 ((parseO l).getD 0), .bool (parseO l).isSome]) ∧ w = w' := by
  obtain ⟨s1, s2⟩ := signLen_le l
  have ra := runF_le (l.drop (signLen l))
  rw [List.length_drop] at ra
  have hp : parseO l = (unsignedF (l.drop (signLen l))).map (signed (minus l)) := by unfold parseO; rw [unsignedF_eq, unsign_drop]
  unfold unsignedF at hp
  rw [List.drop_drop] at hp
  have dW := runF_digs (l.drop (signLen l))
  generalize hk : signLen l = k at *
  generalize ha : runF (l.drop k) = a at *
  have HA := Lib.hid (fun w => ha ▸ digits_at l hl (k : Int) k rfl (by omega) w)
  by_cases hpt : pointAt l (k + a) = true
  · have hl1 : k + a < l.length := by
      rcases Nat.lt_or_ge (k + a) l.length with h | h
      · exact h
      · rw [pointAt, List.drop_eq_nil_of_le h] at hpt; cases hpt
    have hd := List.drop_eq_getElem_cons hl1
    rw [pointAt, hd] at hpt
    have h46 : (l[k + a]).toNat = 46 := of_decide_eq_true hpt
    have rb := runF_le (l.drop (k + a + 1))
    have dD := runF_digs (l.drop (k + a + 1))
    rw [List.length_drop] at rb
    simp only [hd, decsF, leftF, h46, if_true] at hp
    rw [decsF_len, List.length_drop, List.length_drop] at hp
    generalize hb : runF (l.drop (k + a + 1)) = b at *
    refine refDec_core l ((l.drop k).take a) ((l.drop (k + a + 1)).take b) k a b (k + a + 1 + b) true (minus l) (parseO l) hl (Lib.hid hk) s1 (by omega) (by omega) (by omega) (by omega) (by omega) HA
      (Lib.hid (fun _ w => hb ▸ digits_at l hl _ (k + a + 1) (by omega) (by omega) w)) (Lib.hid (by rw [pointAt, hd]; exact hpt)) (Lib.hid (by simp)) (Lib.hid (by simp)) (Lib.hid rfl)
      (Lib.hid (by rw [show k + a + 1 + b - b = k + a + 1 from by omega])) dW dD (by simp; omega) (by simp; omega) (by simp; omega) (by simp; omega) (Lib.hid rfl) (Lib.hid ?_) w
    rw [hp]
    split
    · rw [if_pos (by omega)]; rfl
    · rw [if_neg (by omega)]; rfl
  · have hpf : pointAt l (k + a) = false := by simpa using hpt
    have hdd : decsF (l.drop (k + a)) = [] ∧ leftF (l.drop (k + a)) = l.drop (k + a) := by
      cases hR : l.drop (k + a) with
      | nil => exact ⟨rfl, rfl⟩
      | cons c r =>
        rw [pointAt, hR] at hpf
        have h46 : ¬ c.toNat = 46 := of_decide_eq_false hpf
        simp [decsF, leftF, h46]
    rw [hdd.1, hdd.2, List.length_drop] at hp
    refine refDec_core l ((l.drop k).take a) [] k a 0 (k + a) false (minus l) (parseO l) hl (Lib.hid hk) s1 (by omega) (by omega) (by omega) (by omega) (by omega) HA
      (Lib.hid (by intro h; cases h)) (Lib.hid hpf) (Lib.hid (by simp)) (Lib.hid (by simp)) (Lib.hid rfl) (Lib.hid (by simp)) dW digs_nil (by simp; omega) (by simp; omega) (by simp) (by simp) (Lib.hid rfl) (Lib.hid ?_) w
    rw [hp]
    simp only [List.length_nil]
    split
    · rw [if_pos (by omega)]; rfl
    · rw [if_neg (by omega)]; rfl
end Go.Proofs.Ytpojkpiadbpooaa
