/- Contract of the laws' helper Tame of layer 6: contours of few points that are not too far, of some. -/
import Derived.Test.YtcpnfafhekgabaaOwnRows
import Derived.Test.YtcpnfafhekgabaaCloseN
namespace Go.Proofs.Ytcpnfafhekgabaa
open Go.RowKit

def tameP (small : Bool) (p : P2) : P2 := if small then ((p.1.tmod 536870913).tmod 21, (p.2.tmod 536870913).tmod 21) else (p.1.tmod 536870913, p.2.tmod 536870913)
def tameC (small : Bool) (c : List P2) : List P2 := (c.take 12).map (tameP small)
def tameL (small : Bool) (L : List (List P2)) : List (List P2) := (L.take 4).map (tameC small)
theorem own_base {w : World} {b b' : Nat} {e : TypeId} {s : Nat} {v : Value} {n : Nat} {xs : List Value} (h : w.ownsRow b e s v n xs) (k : b' ≤ b) : w.ownsRow b' e s v n xs := by
  refine ⟨h.1, ?_⟩
  rcases h.2 with hn | ⟨g, cap, cur, rfl, hb, rest⟩
  · exact .inl hn
  · exact .inr ⟨g, cap, cur, rfl, by omega, rest⟩
theorem pt_info : (Try.prog.info? 23).map (fun i => (i.zero, i.size, i.bytes)) = some (some (ptV 0 0), 2, 16) := by kernel_rfl
theorem pts_info : (Try.prog.info? 29).map (fun i => (i.zero, i.size, i.bytes)) = some (some (.slice none 0 0), 1, 24) := by kernel_rfl
theorem cell_two_new (w : World) (x y : Value) (t : TypeId) : ∀ j u, [x, y][j]? = some u → (w.alloc (.cells #[x, y] t)).cell? ((⟨w.heap.size, 0, none⟩ : Addr).add j) = some u := by
  intro j u hj
  match j, hj with
  | 0, hj => simp at hj; subst hj; simp [Addr.add]
  | 1, hj => simp at hj; subst hj; simp [Addr.add]
/-- The head of the outer round: what has been gathered. -/
def OutT (w : World) (small : Bool) (L : List (List P2)) (so sk : Value) (wr : World) : Prop :=
  ∃ (k : Nat) (w3 : World) (V : List Value), w3 = wr ∧ sk = .int .i64 k ∧ k ≤ L.length ∧ k ≤ 4 ∧ RowsV w3 w.heap.size 29 23 so ((L.take k).map (tameC small)) V ∧ Below w.heap.size w w3
/-- The head of the inner round. -/
def InT (w : World) (small : Bool) (C : List P2) (sc sj : Value) (wr : World) : Prop :=
  ∃ j : Nat, sj = .int .i64 j ∧ j ≤ C.length ∧ j ≤ 12 ∧ wr.ownsRow w.heap.size 23 2 sc j (cellsP ((C.take j).map (tameP small))) ∧ Below w.heap.size w wr
theorem take_next {α β : Type} (f : α → β) {c : List α} {j : Nat} (h : j < c.length) : (c.take (j + 1)).map f = (c.take j).map f ++ [f c[j]] := by
  rw [List.take_succ_eq_append_getElem h]; simp only [List.map_append, List.map_cons, List.map_nil]
theorem take_end {α : Type} {c : List α} {j m : Nat} (h : j ≤ c.length) (hm : j ≤ m) (he : ¬ j < c.length ∨ ¬ j < m) : c.take j = c.take m := by
  rcases he with h1 | h1
  · rw [List.take_of_length_le (by omega), List.take_of_length_le (by omega)]
  · rw [show j = m by omega]
theorem tame_len {small : Bool} {c : List P2} {j : Nat} (h : j ≤ c.length) : ((c.take j).map (tameP small)).length = j := by simp; omega
theorem own_form {w : World} {base : Nat} {e : TypeId} {s : Nat} {v : Value} {n : Nat} {xs : List Value} (h : w.ownsRow base e s v n xs) : ∃ (A : Option Addr) (cap : Nat), Value.slice A n cap = v := by
  rcases h.2 with ⟨rfl, rfl⟩ | ⟨g, cap, cur, rfl, _⟩
  · exact ⟨_, _, rfl⟩
  · exact ⟨_, _, rfl⟩
theorem pt_below {a b x y : Int} (h : a.tmod 536870913 = x) (k : b.tmod 536870913 = y) (w : World) :
    Calls Try.prog 8 #[ptV a b] w fun e w' => e = .returned (ptV x y) ∧ Below w.heap.size w w' := (pt_is h k w).mono fun _ _ k => ⟨k.1, k.2 ▸ bel_alloc (bel_alloc (bel_refl w) _) _⟩
theorem close_below {a b x y : Int} (h : a.tmod 21 = x) (g : b.tmod 21 = y) (w : World) :
    Calls Try.prog 9 #[ptV a b, .int .i64 20] w fun e w' => e = .returned (ptV x y) ∧ Below w.heap.size w w' := (closeN (n := 20) (by omega) (by omega) rfl h g w).mono fun _ _ k => ⟨k.1, k.2 ▸ bel_drew (bel_alloc (bel_alloc (bel_refl w) _) _)⟩
theorem RowsV.nil (w : World) (base : Nat) (e1 e0 : TypeId) : RowsV w base e1 e0 (.slice none 0 0) [] [] := ⟨rfl, World.ownsRow_nil _ _ _ _, fun r c h => by simp at h⟩
theorem RowsV.own_n {w : World} {base : Nat} {e1 e0 : TypeId} {v : Value} {T : List (List P2)} {V : List Value} {n : Nat} (h : RowsV w base e1 e0 v T V) (hn : T.length = n) : w.ownsRow base e1 1 v n V := hn ▸ h.own
theorem tameT_len {small : Bool} {L : List (List P2)} {k : Nat} (h : k ≤ L.length) : ((L.take k).map (tameC small)).length = k := by simp; omega
theorem tame_done {small : Bool} {w : World} {b b' : Nat} {e : TypeId} {v : Value} {C : List P2} {j : Nat} (h : w.ownsRow b e 2 v j (cellsP ((C.take j).map (tameP small)))) (hj : j ≤ C.length) (hm : j ≤ 12) (he : ¬ j < C.length ∨ ¬ j < 12) (hb : b' ≤ b) : w.ownsRow b' e 2 v (tameC small C).length (cellsP (tameC small C)) := by
  have e1 : tameC small C = (C.take j).map (tameP small) := by unfold tameC; rw [take_end hj hm he]
  rw [e1, tame_len hj]
  exact own_base h hb
theorem rows_at {w : World} {B : Nat} {A : Option Addr} {L : List (List P2)} (f : 0 < L.length → ∃ a, A = some a ∧ a.block < B ∧ ∀ r c, L[r]? = some c → ∃ u, w.cell? (a.add r) = some u ∧ PtsAt w B u c) {k : Nat} (h : k < L.length) :
    ∃ b o, A = some ⟨b, o, none⟩ ∧ b < B ∧ ∃ u, w.cell? ⟨b, o + k, none⟩ = some u ∧ PtsAt w B u L[k] := by
  rcases RowsAt.open_ (v := .slice A L.length 0) ⟨A, 0, rfl, f⟩ with ⟨rfl, _⟩ | ⟨b, o, cap, e, hb, _, hc⟩
  · simp at h
  · simp only [Value.slice.injEq] at e
    exact ⟨b, o, e.1, hb, hc k h⟩
theorem pts_at {w : World} {B : Nat} {A : Option Addr} {c : List P2} (f : 0 < c.length → ∃ a, A = some a ∧ a.block < B ∧ ∀ k p, c[k]? = some p → w.cell? (a.add (k * 2)) = some (.int .i64 p.1) ∧ w.cell? (a.add (k * 2 + 1)) = some (.int .i64 p.2)) {k : Nat} (h : k < c.length) :
    ∃ b o, A = some ⟨b, o, none⟩ ∧ b < B ∧ w.cell? ⟨b, o + k * 2, none⟩ = some (.int .i64 (ptN c k).1) ∧ w.cell? ⟨b, o + k * 2 + 1, none⟩ = some (.int .i64 (ptN c k).2) := by
  rcases PtsAt.open_ (v := .slice A c.length 0) ⟨A, 0, rfl, f⟩ with ⟨rfl, _⟩ | ⟨b, o, cap, e, hb, _, hc⟩
  · simp at h
  · simp only [Value.slice.injEq] at e
    exact ⟨b, o, e.1, hb, hc k h⟩

set_option maxRecDepth 100000 in
set_option maxHeartbeats 8000000 in
theorem tame_big {L : List (List P2)} {w : World} {v : Value} (hR : RowsAt w w.heap.size v L) :
    Calls Try.prog 14 #[v, .bool false] w fun e w' => ∃ u, e = .returned u ∧ RowsOwn w' w.heap.size 29 23 u (tameL false L) ∧ Below w.heap.size w w' := by
  obtain ⟨i0, hi0, hz0, hs0, hb0⟩ := info_parts pt_info
  obtain ⟨i1, hi1, hz1, hs1, hb1⟩ := info_parts pts_info
  have I0 := Lib.hid hi0
  have I1 := Lib.hid hi1
  have Z0 := Lib.hid hz0
  have Z1 := Lib.hid hz1
  have S0 := Lib.hid hs0
  have S1 := Lib.hid hs1
  have Y0 := Lib.hid hb0
  have Y1 := Lib.hid hb1
  clear hi0 hz0 hs0 hb0 hi1 hz1 hs1 hb1
  obtain ⟨LA, lcap, rfl, hrow⟩ := hR
  have HR := Lib.hid hrow
  clear hrow
  go_enter Try.func14, Try.ntmps14
  go_wp2_with fail
  go_loopw [5, 6] (fun s5 sk wr => OutT w false L s5 sk wr) (fun _ sk _ => L.length - (intOf sk).toNat)
  case atStart => exact ⟨0, w, [], rfl, rfl, Nat.zero_le _, by omega, RowsV.nil _ _ _ _, bel_refl w⟩
  case round =>
    obtain ⟨k, w3, V, rfl, rfl, hk, hk4, hV, hB⟩ := hrel
    obtain ⟨VA, ocap, rfl⟩ := own_form (hV.own_n (tameT_len hk))
    have O := Lib.hid hV
    have B := Lib.hid hB
    clear hV hB
    by_cases hlt : k < L.length
    · by_cases h4 : k < 4
      · obtain ⟨sb, so, rfl, hsb, u, hu, hp⟩ := rows_at HR.out hlt
        have HT := Lib.hid (take_next (tameC false) hlt)
        have hu := (B.out.cell (p := ⟨sb, so + k, none⟩) hsb).trans hu
        have hwB := B.out.size
        have hsb3 := Nat.lt_of_lt_of_le hsb hwB
        have h4i : decide ((k : Int) < 4) = true := decide_eq_true (by omega)
        generalize L[k] = C at *
        obtain ⟨A0, cap0, rfl, hpts⟩ := hp
        have HP := Lib.hid hpts
        clear hpts
        go_wp2_with fail
        go_loopw [7, 8] (fun sc sj w2 => InT w3 false C sc sj w2) (fun _ sj _ => C.length - (intOf sj).toNat)
        case atStart => exact ⟨0, rfl, Nat.zero_le _, by omega, World.ownsRow_nil _ _ _ _, bel_refl w3⟩
        case round =>
          obtain ⟨j, rfl, hj, hj12, hOw, hB2⟩ := hrel
          obtain ⟨A, vcap, rfl⟩ := own_form hOw
          have Ow := Lib.hid hOw
          have B2 := Lib.hid hB2
          clear hOw hB2
          have hu3 := (B2.out.cell (p := ⟨sb, so + k, none⟩) hsb3).trans hu
          clear hu
          by_cases hjl : j < C.length
          · by_cases hj2 : j < 12
            · have hpx := pts_at HP.out hjl
              obtain ⟨pb, po, rfl, hpb, e0, e1⟩ := hpx
              · have e0 := (B2.out.cell (p := ⟨pb, po + j * 2, none⟩) (Nat.lt_of_lt_of_le hpb hwB)).trans ((B.out.cell (p := ⟨pb, po + j * 2, none⟩) hpb).trans e0)
                have e1 := (B2.out.cell (p := ⟨pb, po + j * 2 + 1, none⟩) (Nat.lt_of_lt_of_le hpb hwB)).trans ((B.out.cell (p := ⟨pb, po + j * 2 + 1, none⟩) hpb).trans e1)
                have hs : cellsP ((C.take (j + 1)).map (tameP false)) = cellsP ((C.take j).map (tameP false)) ++ [.int .i64 (tameP false (ptN C j)).1, .int .i64 (tameP false (ptN C j)).2] := by
                  rw [take_next _ hjl, cellsP_snoc, ptN_at hjl]
                generalize ptN C j = p at *
                obtain ⟨x, y⟩ := p
                simp only [] at e0 e1
                obtain ⟨u, u0, u1, hu⟩ := tmod_at x 536870913 (by omega)
                obtain ⟨v, v0, v1, hv⟩ := tmod_at y 536870913 (by omega)
                have KP := Lib.hid (fun w => pt_below hu hv w)
                rw [show tameP false (x, y) = (u, v) from by unfold tameP; rw [if_neg (by decide)]; simp only []; rw [hu, hv]] at hs
                have HS := Lib.hid hs
                clear hs hu hv
                go_wp2_with fail
                refine (KP.out _).mono ?_; rintro e w4 ⟨rfl, b4⟩
                have OwN := Lib.hid (((own_later Ow.out b4).alloc (.cells #[.int .i64 u, .int .i64 v] 23)).alloc (.cells #[.int .i64 u, .int .i64 v] 23))
                have BN := Lib.hid (bel_alloc (bel_alloc (bel_trans B2.out b4) (.cells #[.int .i64 u, .int .i64 v] 23)) (.cells #[.int .i64 u, .int .i64 v] 23))
                have N4 := Lib.hid (cell_two_new (w4.alloc (.cells #[.int .i64 u, .int .i64 v] 23)) (.int .i64 u) (.int .i64 v) 23)
                clear b4
                go_wp2_with (at_builtin; refine wpList_append_own_at _ rfl (.tmp 44) (.tmp 46) 29 rfl w3.heap.size 23 i0 (ptV 0 0) 2 16 Try.underlying29 I0.out Z0.out S0.out Y0.out rfl (by decide) (.slice A j vcap) j (cellsP ((C.take j).map (tameP false))) rfl OwN.out ⟨w4.heap.size + 1, 0, none⟩ 1 1 [.int .i64 u, .int .i64 v] (by simp [go_sem]) rfl (by simpa using N4.out) (by simp [Value.oneCell']) (by unfold maxLen; omega) (by omega) BN.out.size ?_; intro v' w6 hown' hgrow _ _)
                have B6 := Lib.hid (BN.out.grown hgrow BN.out.size fun g hg => (OwN.out.lt g hg).1)
                rw [← HS.out] at hown'
                have Ow6 := Lib.hid hown'
                clear hgrow hown' e0 e1 hu3 OwN BN N4 Ow B2
                go_roundw
                case rel => exact ⟨j + 1, by go_num, by omega, by omega, Ow6.out, B6.out⟩
                case measure => simp [intOf]; omega
            · have Ow1 := (tame_done Ow.out hj hj12 (.inr hj2) hwB).alloc (.cells #[.slice A j vcap] 29)
              have HV := Lib.hid (O.out.later (bel_alloc B2.out (.cells #[.slice A j vcap] 29)))
              have Ow2 := Lib.hid Ow1
              have BN := Lib.hid (bel_alloc (bel_trans B.out B2.out) (.cells #[.slice A j vcap] 29))
              clear Ow1 Ow B2
              go_wp2_with (at_builtin; refine wpList_append_own_at _ rfl (.tmp 48) (.tmp 50) 30 rfl w.heap.size 29 i1 (.slice none 0 0) 1 24 Try.underlying30 I1.out Z1.out S1.out Y1.out rfl (by decide) (.slice VA k ocap) k V rfl (HV.out.own_n (tameT_len hk)) ⟨wr.heap.size, 0, none⟩ 1 1 [.slice A j vcap] (by simp [go_sem]) rfl (cell_one_new _ _ _) (by simp [Value.oneCell']) (by unfold maxLen; omega) (by omega) BN.out.size ?_; intro v' w6 hown' hgrow _ _)
              have B6 := Lib.hid (BN.out.grown hgrow BN.out.size fun g hg => (HV.out.own.lt g hg).1)
              have V6 := HV.out.push (by decide) Ow2.out hgrow (by rw [tameT_len hk]; exact hown')
              rw [← HT.out] at V6
              have V6 := Lib.hid V6
              clear hgrow hown' HV Ow2 BN O B
              go_roundw
              case rel => exact ⟨k + 1, w6, _, rfl, by go_num, by omega, by omega, V6.out, B6.out⟩
              case measure => simp [intOf]; omega
          · have Ow1 := (tame_done Ow.out hj hj12 (.inl hjl) hwB).alloc (.cells #[.slice A j vcap] 29)
            have HV := Lib.hid (O.out.later (bel_alloc B2.out (.cells #[.slice A j vcap] 29)))
            have Ow2 := Lib.hid Ow1
            have BN := Lib.hid (bel_alloc (bel_trans B.out B2.out) (.cells #[.slice A j vcap] 29))
            clear Ow1 Ow B2
            go_wp2_with (at_builtin; refine wpList_append_own_at _ rfl (.tmp 48) (.tmp 50) 30 rfl w.heap.size 29 i1 (.slice none 0 0) 1 24 Try.underlying30 I1.out Z1.out S1.out Y1.out rfl (by decide) (.slice VA k ocap) k V rfl (HV.out.own_n (tameT_len hk)) ⟨wr.heap.size, 0, none⟩ 1 1 [.slice A j vcap] (by simp [go_sem]) rfl (cell_one_new _ _ _) (by simp [Value.oneCell']) (by unfold maxLen; omega) (by omega) BN.out.size ?_; intro v' w6 hown' hgrow _ _)
            have B6 := Lib.hid (BN.out.grown hgrow BN.out.size fun g hg => (HV.out.own.lt g hg).1)
            have V6 := HV.out.push (by decide) Ow2.out hgrow (by rw [tameT_len hk]; exact hown')
            rw [← HT.out] at V6
            have V6 := Lib.hid V6
            clear hgrow hown' HV Ow2 BN O B
            go_roundw
            case rel => exact ⟨k + 1, w6, _, rfl, by go_num, by omega, by omega, V6.out, B6.out⟩
            case measure => simp [intOf]; omega
      · have V1 := O.out
        rw [take_end (m := 4) hk hk4 (.inr h4)] at V1
        have V2 := Lib.hid V1
        clear V1 O
        go_wp2
        exact bodyPost_ret (v := .slice VA k ocap) (by simp [results, Try.results14, go_sem]) rfl ⟨_, rfl, ⟨V, V2.out⟩, B.out⟩
    · have V1 := O.out
      rw [take_end (m := 4) hk hk4 (.inl hlt)] at V1
      have V2 := Lib.hid V1
      clear V1 O
      go_wp2
      exact bodyPost_ret (v := .slice VA k ocap) (by simp [results, Try.results14, go_sem]) rfl ⟨_, rfl, ⟨V, V2.out⟩, B.out⟩

set_option maxRecDepth 100000 in
set_option maxHeartbeats 8000000 in
theorem tame_small {L : List (List P2)} {w : World} {v : Value} (hR : RowsAt w w.heap.size v L) :
    Calls Try.prog 14 #[v, .bool true] w fun e w' => ∃ u, e = .returned u ∧ RowsOwn w' w.heap.size 29 23 u (tameL true L) ∧ Below w.heap.size w w' := by
  obtain ⟨i0, hi0, hz0, hs0, hb0⟩ := info_parts pt_info
  obtain ⟨i1, hi1, hz1, hs1, hb1⟩ := info_parts pts_info
  have I0 := Lib.hid hi0
  have I1 := Lib.hid hi1
  have Z0 := Lib.hid hz0
  have Z1 := Lib.hid hz1
  have S0 := Lib.hid hs0
  have S1 := Lib.hid hs1
  have Y0 := Lib.hid hb0
  have Y1 := Lib.hid hb1
  clear hi0 hz0 hs0 hb0 hi1 hz1 hs1 hb1
  obtain ⟨LA, lcap, rfl, hrow⟩ := hR
  have HR := Lib.hid hrow
  clear hrow
  go_enter Try.func14, Try.ntmps14
  go_wp2_with fail
  go_loopw [5, 6] (fun s5 sk wr => OutT w true L s5 sk wr) (fun _ sk _ => L.length - (intOf sk).toNat)
  case atStart => exact ⟨0, w, [], rfl, rfl, Nat.zero_le _, by omega, RowsV.nil _ _ _ _, bel_refl w⟩
  case round =>
    obtain ⟨k, w3, V, rfl, rfl, hk, hk4, hV, hB⟩ := hrel
    obtain ⟨VA, ocap, rfl⟩ := own_form (hV.own_n (tameT_len hk))
    have O := Lib.hid hV
    have B := Lib.hid hB
    clear hV hB
    by_cases hlt : k < L.length
    · by_cases h4 : k < 4
      · obtain ⟨sb, so, rfl, hsb, u, hu, hp⟩ := rows_at HR.out hlt
        have HT := Lib.hid (take_next (tameC true) hlt)
        have hu := (B.out.cell (p := ⟨sb, so + k, none⟩) hsb).trans hu
        have hwB := B.out.size
        have hsb3 := Nat.lt_of_lt_of_le hsb hwB
        have h4i : decide ((k : Int) < 4) = true := decide_eq_true (by omega)
        generalize L[k] = C at *
        obtain ⟨A0, cap0, rfl, hpts⟩ := hp
        have HP := Lib.hid hpts
        clear hpts
        go_wp2_with fail
        go_loopw [7, 8] (fun sc sj w2 => InT w3 true C sc sj w2) (fun _ sj _ => C.length - (intOf sj).toNat)
        case atStart => exact ⟨0, rfl, Nat.zero_le _, by omega, World.ownsRow_nil _ _ _ _, bel_refl w3⟩
        case round =>
          obtain ⟨j, rfl, hj, hj12, hOw, hB2⟩ := hrel
          obtain ⟨A, vcap, rfl⟩ := own_form hOw
          have Ow := Lib.hid hOw
          have B2 := Lib.hid hB2
          clear hOw hB2
          have hu3 := (B2.out.cell (p := ⟨sb, so + k, none⟩) hsb3).trans hu
          clear hu
          by_cases hjl : j < C.length
          · by_cases hj2 : j < 12
            · have hpx := pts_at HP.out hjl
              obtain ⟨pb, po, rfl, hpb, e0, e1⟩ := hpx
              · have e0 := (B2.out.cell (p := ⟨pb, po + j * 2, none⟩) (Nat.lt_of_lt_of_le hpb hwB)).trans ((B.out.cell (p := ⟨pb, po + j * 2, none⟩) hpb).trans e0)
                have e1 := (B2.out.cell (p := ⟨pb, po + j * 2 + 1, none⟩) (Nat.lt_of_lt_of_le hpb hwB)).trans ((B.out.cell (p := ⟨pb, po + j * 2 + 1, none⟩) hpb).trans e1)
                have hs : cellsP ((C.take (j + 1)).map (tameP true)) = cellsP ((C.take j).map (tameP true)) ++ [.int .i64 (tameP true (ptN C j)).1, .int .i64 (tameP true (ptN C j)).2] := by
                  rw [take_next _ hjl, cellsP_snoc, ptN_at hjl]
                generalize ptN C j = p at *
                obtain ⟨x, y⟩ := p
                simp only [] at e0 e1
                obtain ⟨u, u0, u1, hu⟩ := tmod_at x 536870913 (by omega)
                obtain ⟨v, v0, v1, hv⟩ := tmod_at y 536870913 (by omega)
                have KP := Lib.hid (fun w => pt_below hu hv w)
                obtain ⟨u2, u20, u21, hu2⟩ := tmod_at u 21 (by omega)
                obtain ⟨v2, v20, v21, hv2⟩ := tmod_at v 21 (by omega)
                have KC := Lib.hid (fun w => close_below hu2 hv2 w)
                rw [show tameP true (x, y) = (u2, v2) from by unfold tameP; rw [if_pos rfl]; simp only []; rw [hu, hv, hu2, hv2]] at hs
                have HS := Lib.hid hs
                clear hs hu hv hu2 hv2
                go_wp2_with fail
                refine (KP.out _).mono ?_; rintro e w4 ⟨rfl, b4⟩
                have Ow4 := Lib.hid ((own_later Ow.out b4).alloc (.cells #[.int .i64 u, .int .i64 v] 23))
                have B4 := Lib.hid (bel_alloc (bel_trans B2.out b4) (.cells #[.int .i64 u, .int .i64 v] 23))
                have Q4 := Lib.hid (ptIn_new w4 u v 23)
                have hg : ∀ g, Value.ownBlock (.slice A j vcap) = some g → g < w4.heap.size := fun g hg => Nat.lt_of_lt_of_le (Ow.out.lt g hg).2 b4.size
                have hw3 := Nat.le_trans B2.out.size b4.size
                have HG := Lib.hid hg
                have HW := Lib.hid hw3
                clear b4 hg hw3
                go_wp2_with fail
                refine (KC.out _).mono ?_; rintro e w5 ⟨rfl, b5⟩
                have Q5 := Lib.hid (Q4.out.later b5)
                have OwN := Lib.hid ((own_below (own_later Ow4.out b5) (((Below.refl w4.heap.size w5).setCell (p := ⟨w4.heap.size, 0, none⟩) (Nat.le_refl _) (.int .i64 u2)).setCell (p := ⟨w4.heap.size, 1, none⟩) (Nat.le_refl _) (.int .i64 v2)) HG.out).alloc (.cells #[.int .i64 u2, .int .i64 v2] 23))
                have BN := Lib.hid (bel_alloc (bel_set (bel_set (bel_trans B4.out b5) HW.out 0 (.int .i64 u2)) HW.out 1 (.int .i64 v2)) (.cells #[.int .i64 u2, .int .i64 v2] 23))
                have N4 := Lib.hid (cell_two_new ((w5.setCell ⟨w4.heap.size, 0, none⟩ (.int .i64 u2)).setCell ⟨w4.heap.size, 1, none⟩ (.int .i64 v2)) (.int .i64 u2) (.int .i64 v2) 23)
                clear b5 Ow4 B4 Q4
                obtain ⟨⟨i0', i1', il⟩, fr⟩ := Q5.out
                go_wp2_with (at_builtin; refine wpList_append_own_at _ rfl (.tmp 44) (.tmp 46) 29 rfl w3.heap.size 23 i0 (ptV 0 0) 2 16 Try.underlying29 I0.out Z0.out S0.out Y0.out rfl (by decide) (.slice A j vcap) j (cellsP ((C.take j).map (tameP true))) rfl OwN.out ⟨w5.heap.size, 0, none⟩ 1 1 [.int .i64 u2, .int .i64 v2] (by simp [go_sem]) rfl (by simpa using N4.out) (by simp [Value.oneCell']) (by unfold maxLen; omega) (by omega) BN.out.size ?_; intro v' w6 hown' hgrow _ _)
                have B6 := Lib.hid (BN.out.grown hgrow BN.out.size fun g hg => (OwN.out.lt g hg).1)
                rw [← HS.out] at hown'
                have Ow6 := Lib.hid hown'
                clear hgrow hown' e0 e1 hu3 OwN BN N4 Ow B2
                go_roundw
                case rel => exact ⟨j + 1, by go_num, by omega, by omega, Ow6.out, B6.out⟩
                case measure => simp [intOf]; omega
            · have Ow1 := (tame_done Ow.out hj hj12 (.inr hj2) hwB).alloc (.cells #[.slice A j vcap] 29)
              have HV := Lib.hid (O.out.later (bel_alloc B2.out (.cells #[.slice A j vcap] 29)))
              have Ow2 := Lib.hid Ow1
              have BN := Lib.hid (bel_alloc (bel_trans B.out B2.out) (.cells #[.slice A j vcap] 29))
              clear Ow1 Ow B2
              go_wp2_with (at_builtin; refine wpList_append_own_at _ rfl (.tmp 48) (.tmp 50) 30 rfl w.heap.size 29 i1 (.slice none 0 0) 1 24 Try.underlying30 I1.out Z1.out S1.out Y1.out rfl (by decide) (.slice VA k ocap) k V rfl (HV.out.own_n (tameT_len hk)) ⟨wr.heap.size, 0, none⟩ 1 1 [.slice A j vcap] (by simp [go_sem]) rfl (cell_one_new _ _ _) (by simp [Value.oneCell']) (by unfold maxLen; omega) (by omega) BN.out.size ?_; intro v' w6 hown' hgrow _ _)
              have B6 := Lib.hid (BN.out.grown hgrow BN.out.size fun g hg => (HV.out.own.lt g hg).1)
              have V6 := HV.out.push (by decide) Ow2.out hgrow (by rw [tameT_len hk]; exact hown')
              rw [← HT.out] at V6
              have V6 := Lib.hid V6
              clear hgrow hown' HV Ow2 BN O B
              go_roundw
              case rel => exact ⟨k + 1, w6, _, rfl, by go_num, by omega, by omega, V6.out, B6.out⟩
              case measure => simp [intOf]; omega
          · have Ow1 := (tame_done Ow.out hj hj12 (.inl hjl) hwB).alloc (.cells #[.slice A j vcap] 29)
            have HV := Lib.hid (O.out.later (bel_alloc B2.out (.cells #[.slice A j vcap] 29)))
            have Ow2 := Lib.hid Ow1
            have BN := Lib.hid (bel_alloc (bel_trans B.out B2.out) (.cells #[.slice A j vcap] 29))
            clear Ow1 Ow B2
            go_wp2_with (at_builtin; refine wpList_append_own_at _ rfl (.tmp 48) (.tmp 50) 30 rfl w.heap.size 29 i1 (.slice none 0 0) 1 24 Try.underlying30 I1.out Z1.out S1.out Y1.out rfl (by decide) (.slice VA k ocap) k V rfl (HV.out.own_n (tameT_len hk)) ⟨wr.heap.size, 0, none⟩ 1 1 [.slice A j vcap] (by simp [go_sem]) rfl (cell_one_new _ _ _) (by simp [Value.oneCell']) (by unfold maxLen; omega) (by omega) BN.out.size ?_; intro v' w6 hown' hgrow _ _)
            have B6 := Lib.hid (BN.out.grown hgrow BN.out.size fun g hg => (HV.out.own.lt g hg).1)
            have V6 := HV.out.push (by decide) Ow2.out hgrow (by rw [tameT_len hk]; exact hown')
            rw [← HT.out] at V6
            have V6 := Lib.hid V6
            clear hgrow hown' HV Ow2 BN O B
            go_roundw
            case rel => exact ⟨k + 1, w6, _, rfl, by go_num, by omega, by omega, V6.out, B6.out⟩
            case measure => simp [intOf]; omega
      · have V1 := O.out
        rw [take_end (m := 4) hk hk4 (.inr h4)] at V1
        have V2 := Lib.hid V1
        clear V1 O
        go_wp2
        exact bodyPost_ret (v := .slice VA k ocap) (by simp [results, Try.results14, go_sem]) rfl ⟨_, rfl, ⟨V, V2.out⟩, B.out⟩
    · have V1 := O.out
      rw [take_end (m := 4) hk hk4 (.inl hlt)] at V1
      have V2 := Lib.hid V1
      clear V1 O
      go_wp2
      exact bodyPost_ret (v := .slice VA k ocap) (by simp [results, Try.results14, go_sem]) rfl ⟨_, rfl, ⟨V, V2.out⟩, B.out⟩

theorem tame_at (small : Bool) {L : List (List P2)} {w : World} {v : Value} (hR : RowsAt w w.heap.size v L) :
    Calls Try.prog 14 #[v, .bool small] w fun e w' => ∃ u, e = .returned u ∧ RowsOwn w' w.heap.size 29 23 u (tameL small L) ∧ Below w.heap.size w w' := by
  cases small
  · exact tame_big hR
  · exact tame_small hR
theorem tameP_in (small : Bool) (p : P2) : (-536870912 ≤ (tameP small p).1 ∧ (tameP small p).1 ≤ 536870912) ∧ -536870912 ≤ (tameP small p).2 ∧ (tameP small p).2 ≤ 536870912 := by
  have h1 := tmod_in p.1 536870913 (by omega)
  have h2 := tmod_in p.2 536870913 (by omega)
  have h3 := tmod_in (p.1.tmod 536870913) 21 (by omega)
  have h4 := tmod_in (p.2.tmod 536870913) 21 (by omega)
  unfold tameP
  split <;> simp only [] <;> omega
theorem tameP_near (p : P2) : (-20 ≤ (tameP true p).1 ∧ (tameP true p).1 ≤ 20) ∧ -20 ≤ (tameP true p).2 ∧ (tameP true p).2 ≤ 20 := by
  have h3 := tmod_in (p.1.tmod 536870913) 21 (by omega)
  have h4 := tmod_in (p.2.tmod 536870913) 21 (by omega)
  unfold tameP
  rw [if_pos rfl]
  simp only []
  omega
theorem tame_rows (small : Bool) (L : List (List P2)) : (tameL small L).length ≤ 4 ∧ ∀ c ∈ tameL small L, c.length ≤ 12 ∧ ∀ p ∈ c, ∃ q, p = tameP small q := by
  refine ⟨by unfold tameL; rw [List.length_map, List.length_take]; omega, fun c hc => ?_⟩
  obtain ⟨d, _, rfl⟩ := List.mem_map.1 hc
  refine ⟨by unfold tameC; rw [List.length_map, List.length_take]; omega, fun p hp => ?_⟩
  obtain ⟨q, _, rfl⟩ := List.mem_map.1 hp
  exact ⟨q, rfl⟩
theorem tame_fine (small : Bool) (L : List (List P2)) : Fine (tameL small L) := by
  obtain ⟨h1, h2⟩ := tame_rows small L
  refine ⟨by omega, fun c hc => by have := (h2 c hc).1; omega, fun c hc p hp => ?_⟩
  obtain ⟨q, rfl⟩ := (h2 c hc).2 p hp
  exact tameP_in small q
end Go.Proofs.Ytcpnfafhekgabaa
