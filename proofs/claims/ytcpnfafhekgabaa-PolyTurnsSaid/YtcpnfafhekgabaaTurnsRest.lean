/- Towards PolyTurns: the loops. -/
import Derived.Test.YtcpnfafhekgabaaTurnsEnd
namespace Go.Proofs.Ytcpnfafhekgabaa.polyTurns
open Go.ChangeShapes Go.WideShapes Go.ChangeAt Go.RowKit Go.Joins
open Go.Sort (grow)

set_option maxRecDepth 100000 in
set_option maxHeartbeats 32000000 in
theorem restThm (fr a b c d x y s t : Int) (j : Nat) (hj : j ≤ 255) (hfr : bits .and .i64 fr 255 = (j : Int)) (T : List (List P2)) (ha : -19 ≤ a ∧ a ≤ c ∧ c ≤ 26) (hb : -19 ≤ b ∧ b ≤ d ∧ d ≤ 26) (hx : -20 ≤ x ∧ x ≤ 20 ∧ -20 ≤ y ∧ y ≤ 20) (hs : -100000000 ≤ s ∧ s ≤ 100000000 ∧ -100000000 ≤ t ∧ t ≤ 100000000)
    (hTl : T.length ≤ 4) (hF : Fine T) (hrw : T.length ≤ 4 ∧ ∀ c ∈ T, c.length ≤ 12 ∧ ∀ p ∈ c, ∃ q, p = tameP true q) (near : ∀ c ∈ T, ∀ p ∈ c, (-20 ≤ p.1 ∧ p.1 ≤ 20) ∧ -20 ≤ p.2 ∧ p.2 ≤ 20)
    (w wc : World) (z0 c0 c2 c3 c4 c6 c8 c11 c12 c13 c14 c15 c16 c17 c18 c19 c20 c21 c22 c23 c24 c25 c26 c27 c28 c29 c30 c31 c32 c33 c34 c35 c36 c37 c38 c39 c40 c41 c42 c43 c44 c45 c46 c47 c48 c49 c50 c51 c52 c53 c54 c55 c56 c57 c58 c59 c60 c61 c62 c63 c64 c65 c66 c67 c68 c69 c70 c71 c72 c73 c74 c75 c76 c77 c78 c79 c80 c81 c82 c83 c84 c85 c86 c87 c88 c89 c90 c91 c92 c93 c94 c95 c96 c97 c98 c99 c100 c101 c102 c103 c104 c105 c106 c107 c108 c109 c110 c111 c112 c113 c114 c115 c116 c117 c118 c119 c120 c121 c122 c123 c124 c125 c126 c127 c128 c129 c130 c131 c132 c133 c134 c135 c136 c137 c138 c139 c140 c141 c142 c143 c144 c145 c146 c147 c148 c149 c150 c151 c152 c153 c154 c155 c156 c157 c158 c159 c160 c161 c162 c163 c164 c165 c166 c167 c168 c169 c170 c171 c172 c173 c174 c175 c176 c177 c178 c179 c180 c181 c182 c183 c184 c185 c186 c187 c188 c189 c190 c191 c192 c193 c194 c195 c196 c197 c198 c199 c200 c201 c202 c203 c204 c205 c206 c207 c208 c209 c210 c211 c212 c213 c214 c215 c216 c217 c218 c219 c220 c221 c222 c223 c224 c225 c226 c227 c228 c229 : Value) (h3 : c3 = .int .i64 fr) (hF0 : BPP w.heap.size a b c d x y s t wc) (hR0 : RowsAt wc wc.heap.size z0 T) (hB0 : Below w.heap.size w wc) : Code.wp Try.prog restCode (bodyPost Try.prog Try.f6 fun e w' => e = .returned (.bool true) ∧ Below w.heap.size w w') ⟨(c0 :: z0 :: c2 :: c3 :: c4 :: (.pointer (some ⟨w.heap.size, 0, none⟩)) :: c6 :: (.pointer (some ⟨w.heap.size + 1, 0, none⟩)) :: c8 :: (.pointer (some ⟨w.heap.size + 1 + 1, 0, none⟩)) :: (.bool false) :: c11 :: c12 :: c13 :: c14 :: c15 :: c16 :: c17 :: c18 :: c19 :: c20 :: c21 :: c22 :: c23 :: c24 :: c25 :: c26 :: c27 :: c28 :: c29 :: c30 :: c31 :: c32 :: c33 :: c34 :: c35 :: c36 :: c37 :: c38 :: c39 :: c40 :: c41 :: c42 :: c43 :: c44 :: c45 :: c46 :: c47 :: c48 :: c49 :: c50 :: c51 :: c52 :: c53 :: c54 :: c55 :: c56 :: c57 :: c58 :: c59 :: c60 :: c61 :: c62 :: c63 :: c64 :: c65 :: c66 :: c67 :: c68 :: c69 :: c70 :: c71 :: c72 :: c73 :: c74 :: c75 :: c76 :: c77 :: c78 :: c79 :: c80 :: c81 :: c82 :: c83 :: c84 :: c85 :: c86 :: c87 :: c88 :: c89 :: c90 :: c91 :: c92 :: c93 :: c94 :: c95 :: c96 :: c97 :: c98 :: c99 :: c100 :: c101 :: c102 :: c103 :: c104 :: c105 :: c106 :: c107 :: c108 :: c109 :: c110 :: c111 :: c112 :: c113 :: c114 :: c115 :: c116 :: c117 :: c118 :: c119 :: c120 :: c121 :: c122 :: c123 :: c124 :: c125 :: c126 :: c127 :: c128 :: c129 :: c130 :: c131 :: c132 :: c133 :: c134 :: c135 :: c136 :: c137 :: c138 :: c139 :: c140 :: c141 :: c142 :: c143 :: c144 :: c145 :: c146 :: c147 :: c148 :: c149 :: c150 :: c151 :: c152 :: c153 :: c154 :: c155 :: c156 :: c157 :: c158 :: c159 :: c160 :: c161 :: c162 :: c163 :: c164 :: c165 :: c166 :: c167 :: c168 :: c169 :: c170 :: c171 :: c172 :: c173 :: c174 :: c175 :: c176 :: c177 :: c178 :: c179 :: c180 :: c181 :: c182 :: c183 :: c184 :: c185 :: c186 :: c187 :: c188 :: c189 :: c190 :: c191 :: c192 :: c193 :: c194 :: c195 :: c196 :: c197 :: c198 :: c199 :: c200 :: c201 :: c202 :: c203 :: c204 :: c205 :: c206 :: c207 :: c208 :: c209 :: c210 :: c211 :: c212 :: c213 :: c214 :: c215 :: c216 :: c217 :: c218 :: c219 :: c220 :: c221 :: c222 :: c223 :: c224 :: c225 :: c226 :: c227 :: c228 :: c229 :: []).toArray, []⟩ wc := by
  subst h3
  have HF := Lib.hid hF
  have HRW := Lib.hid hrw
  have NEAR := Lib.hid near
  have HFR := Lib.hid hfr
  have F := Lib.hid hF0
  have R := Lib.hid hR0
  have B := Lib.hid hB0
  clear hF hrw near hfr hF0 hR0 hB0
  obtain ⟨i0, hi0, hz0, hs0, hb0⟩ := info_parts pt_info
  obtain ⟨i1, hi1, hz1, hs1, hb1⟩ := info_parts pts_info
  have I0 := Lib.hid hi0
  have I1 := Lib.hid hi1
  have Z0 := Lib.hid hz0
  have Z1 := Lib.hid hz1
  have S0 := Lib.hid hs0
  have S1 := Lib.hid hs1
  have Y0 := Lib.hid hb0
  have Y1 := Lib.hid hb1
  clear hi0 hz0 hs0 hb0 hi1 hz1 hs1 hb1
  obtain ⟨ZA, zcap, rfl, hrow⟩ := R.out
  have HR := Lib.hid hrow
  clear hrow
  have hbw := B.out.size
  conv => arg 2; whnf
  go_wp2_with fail
  go_loopw [11, 12, 13, 14, 15] (fun s11 s12 s13 s14 si wr => OutU wc T j s t s11 s12 s13 s14 si wr) (fun _ _ _ _ si _ => (intOf si + 1).toNat)
  case atStart => exact ⟨T.length, wc, [], [], [], [], rfl, by go_num, Nat.le_refl _, by rw [Nat.sub_self]; exact Grp.nil4 _ _ _ _, ⟨by rw [back_end]; exact Each.nil _ _ _, by rw [back_end]; exact Each.nil _ _ _, by rw [back_end]; exact Each.nil _ _ _, by rw [back_end]; exact Each.nil _ _ _⟩, bel_refl wc⟩
  case round =>
    obtain ⟨m, w3, V1, V2, V3, V4, rfl, rfl, hm, hG, hE, hB3⟩ := hrel
    obtain ⟨⟨OA, ocap, rfl⟩, ⟨OB, pcap, rfl⟩, ⟨OC, qcap, rfl⟩, ⟨OD, rcap, rfl⟩⟩ := grp_forms hG
    have G := Lib.hid hG
    have E := Lib.hid hE
    have B3 := Lib.hid hB3
    clear hG hE hB3
    rcases Nat.eq_zero_or_pos m with h0 | h0
    · subst h0
      have hGe := G.out
      have r1 := E.out.1.rows (hGe.1 _ (m1 _ _ _ _))
      have r2 := E.out.2.1.rows (hGe.1 _ (m2 _ _ _ _))
      have r3 := E.out.2.2.1.rows (hGe.1 _ (m3 _ _ _ _))
      have r4 := E.out.2.2.2.rows (hGe.1 _ (m4 _ _ _ _))
      have rT := R.out.on B3.out
      have F4 := F.out.later B3.out
      have B4 := bel_trans B.out B3.out
      have END := Lib.hid (fun v1 v2 v3 v4 c0 c2 c3 c4 c6 c8 c15 c16 c17 c18 c19 c20 c21 c22 c23 c24 c25 c26 c27 c28 c29 c30 c31 c32 c33 c34 c35 c36 c37 c38 c39 c40 c41 c42 c43 c44 c45 c46 c47 c48 c49 c50 c51 c52 c53 c54 c55 c56 c57 c58 c59 c60 c61 c62 c63 c64 c65 c66 c67 c68 c69 c70 c71 c72 c73 c74 c75 c76 c77 c78 c79 c80 c81 c82 c83 c84 c85 c86 c87 c88 c89 c90 c91 c92 c93 c94 c95 c96 c97 c98 c99 c100 c101 c102 c103 c104 c105 c106 c107 c108 c109 c110 c111 c112 c113 c114 c115 c116 c117 c118 c119 c120 c121 c122 c123 c124 c125 c126 c127 c128 c129 c130 c131 c132 c133 c134 c135 c136 c137 c138 c139 c140 c141 c142 c143 c144 c145 c146 c147 c148 c149 c150 c151 c152 c153 c154 c155 c156 c157 c158 c159 c160 c161 c162 c163 c164 c165 c166 c167 c168 c169 c170 c171 c172 c173 c174 c175 c176 c177 c178 c179 c180 c181 c182 c183 c184 c185 c186 c187 c188 c189 c190 c191 c192 c193 c194 c195 c196 c197 c198 c199 c200 c201 c202 c203 c204 c205 c206 c207 c208 c209 c210 c211 c212 c213 c214 c215 c216 c217 c218 c219 c220 c221 c222 c223 c224 c225 c226 c227 c228 c229 (e1 : v1 = _) (e2 : v2 = _) (e3 : v3 = _) (e4 : v4 = _) => endThm a b c d x y s t j T ha hb hx hs hTl HF.out HRW.out NEAR.out w w3 (.slice ZA T.length zcap) v1 v2 v3 v4 c0 c2 c3 c4 c6 c8 c15 c16 c17 c18 c19 c20 c21 c22 c23 c24 c25 c26 c27 c28 c29 c30 c31 c32 c33 c34 c35 c36 c37 c38 c39 c40 c41 c42 c43 c44 c45 c46 c47 c48 c49 c50 c51 c52 c53 c54 c55 c56 c57 c58 c59 c60 c61 c62 c63 c64 c65 c66 c67 c68 c69 c70 c71 c72 c73 c74 c75 c76 c77 c78 c79 c80 c81 c82 c83 c84 c85 c86 c87 c88 c89 c90 c91 c92 c93 c94 c95 c96 c97 c98 c99 c100 c101 c102 c103 c104 c105 c106 c107 c108 c109 c110 c111 c112 c113 c114 c115 c116 c117 c118 c119 c120 c121 c122 c123 c124 c125 c126 c127 c128 c129 c130 c131 c132 c133 c134 c135 c136 c137 c138 c139 c140 c141 c142 c143 c144 c145 c146 c147 c148 c149 c150 c151 c152 c153 c154 c155 c156 c157 c158 c159 c160 c161 c162 c163 c164 c165 c166 c167 c168 c169 c170 c171 c172 c173 c174 c175 c176 c177 c178 c179 c180 c181 c182 c183 c184 c185 c186 c187 c188 c189 c190 c191 c192 c193 c194 c195 c196 c197 c198 c199 c200 c201 c202 c203 c204 c205 c206 c207 c208 c209 c210 c211 c212 c213 c214 c215 c216 c217 c218 c219 c220 c221 c222 c223 c224 c225 c226 c227 c228 c229 (e1 ▸ r1) (e2 ▸ r2) (e3 ▸ r3) (e4 ▸ r4) rT F4 B4)
      clear hGe r1 r2 r3 r4 rT F4 B4
      repeat (first | exact END.out _ _ _ _ _ _ _ _ _ _ _ _ _ _ _ _ _ _ _ _ _ _ _ _ _ _ _ _ _ _ _ _ _ _ _ _ _ _ _ _ _ _ _ _ _ _ _ _ _ _ _ _ _ _ _ _ _ _ _ _ _ _ _ _ _ _ _ _ _ _ _ _ _ _ _ _ _ _ _ _ _ _ _ _ _ _ _ _ _ _ _ _ _ _ _ _ _ _ _ _ _ _ _ _ _ _ _ _ _ _ _ _ _ _ _ _ _ _ _ _ _ _ _ _ _ _ _ _ _ _ _ _ _ _ _ _ _ _ _ _ _ _ _ _ _ _ _ _ _ _ _ _ _ _ _ _ _ _ _ _ _ _ _ _ _ _ _ _ _ _ _ _ _ _ _ _ _ _ _ _ _ _ _ _ _ _ _ _ _ _ _ _ _ _ _ _ _ _ _ _ _ _ _ _ _ _ _ _ _ _ _ _ _ _ _ _ _ _ _ _ _ _ _ _ _ rfl rfl rfl rfl | go_step)
    · obtain ⟨i, rfl⟩ : ∃ i, i + 1 = m := ⟨m - 1, by omega⟩
      have hi : i < T.length := by omega
      have hii : ((i + 1 : Nat) : Int) - 1 = (i : Int) := by omega
      obtain ⟨sb, so, rfl, hsb, u, hu, hp⟩ := rows_at HR.out hi
      have hu := (B3.out.cell (p := ⟨sb, so + i, none⟩) hsb).trans hu
      have hsb3 := Nat.lt_of_lt_of_le hsb B3.out.size
      have HN := Lib.hid (NEAR.out _ (List.getElem_mem hi))
      have HCl := (HRW.out.2 _ (List.getElem_mem hi)).1
      have T1 := Lib.hid (back_step (rot j) T hi)
      have T2 := Lib.hid (back_step (mvC j s t) T hi)
      have T3 := Lib.hid (back_step (tuC j) T hi)
      have T4 := Lib.hid (back_step List.reverse T hi)
      generalize T[i] = C at *
      obtain ⟨A0, cap0, rfl, hpts⟩ := hp
      have HP := Lib.hid hpts
      clear hpts
      rw [hii]
      go_wp2_with fail
      go_loopw [16, 17, 18, 19, 21] (fun s16 s17 s18 s19 sk wr => InU w3 C j s t s16 s17 s18 s19 sk wr) (fun _ _ _ _ sk _ => C.length - (intOf sk).toNat)
      case atStart => exact ⟨0, rfl, Nat.zero_le _, Grp.nil4 _ _ _ _, bel_refl w3⟩
      case round =>
        obtain ⟨k, rfl, hk, hG2, hB4⟩ := hrel
        obtain ⟨⟨CA, ac, rfl⟩, ⟨CB, bc, rfl⟩, ⟨CC, cc, rfl⟩, ⟨CD, dc, rfl⟩⟩ := grp_forms hG2
        have G2 := Lib.hid hG2
        have B4 := Lib.hid hB4
        clear hG2 hB4
        have hu3 := (B4.out.cell (p := ⟨sb, so + i, none⟩) hsb3).trans hu
        clear hu
        by_cases hkl : k < C.length
        · obtain ⟨pb, po, rfl, hpb, hcells⟩ := pts_all HP.out (by omega)
          have hpb3 : pb < w3.heap.size := Nat.lt_of_lt_of_le hpb B3.out.size
          obtain ⟨n, hn, hnl⟩ : ∃ n : Nat, (k + j) % C.length = n ∧ n < C.length := ⟨_, rfl, Nat.mod_lt _ (by omega)⟩
          obtain ⟨r, hr⟩ : ∃ r : Nat, C.length - 1 - k = r := ⟨_, rfl⟩
          have hrl : r < C.length := by omega
          have hri : (C.length : Int) - 1 - (k : Int) = (r : Int) := by omega
          have HS1 := cells_rot id j C hkl
          have HS2 := cells_rot (mvP s t) j C hkl
          have HS3 := cells_rot tuP j C hkl
          have HS4 := cells_back C hkl
          rw [hn] at HS1 HS2 HS3
          rw [hr] at HS4
          obtain ⟨q0, q1⟩ := hcells n hnl
          obtain ⟨r0, r1⟩ := hcells r hrl
          have q0 := (B4.out.cell (p := ⟨pb, po + n * 2, none⟩) hpb3).trans ((B3.out.cell (p := ⟨pb, po + n * 2, none⟩) hpb).trans q0)
          have q1 := (B4.out.cell (p := ⟨pb, po + n * 2 + 1, none⟩) hpb3).trans ((B3.out.cell (p := ⟨pb, po + n * 2 + 1, none⟩) hpb).trans q1)
          have r0 := (B3.out.cell (p := ⟨pb, po + r * 2, none⟩) hpb).trans r0
          have r1 := (B3.out.cell (p := ⟨pb, po + r * 2 + 1, none⟩) hpb).trans r1
          obtain ⟨⟨qa, qb⟩, qc, qd⟩ := show (-20 ≤ (ptN C n).1 ∧ (ptN C n).1 ≤ 20) ∧ -20 ≤ (ptN C n).2 ∧ (ptN C n).2 ≤ 20 by rw [ptN_at hnl]; exact HN.out _ (List.getElem_mem hnl)
          clear hcells
          generalize ptN C n = pq at *
          generalize ptN C r = pr at *
          obtain ⟨qx, qy⟩ := pq
          obtain ⟨rx, ry⟩ := pr
          simp only [id, mvP, tuP] at q0 q1 r0 r1 qa qb qc qd HS1 HS2 HS3 HS4
          have HS1 := Lib.hid HS1
          have HS2 := Lib.hid HS2
          have HS3 := Lib.hid HS3
          have HS4 := Lib.hid HS4
          have R0 := Lib.hid r0
          have R1 := Lib.hid r1
          have HU := Lib.hid hu3
          have U3 := Lib.hid hu
          clear r0 r1 hu
          have F3 := Lib.hid (F.out.later B3.out)
          obtain ⟨hv1, hv2, hv3, hv4⟩ := grp_lt G2.out
          have HV1 := Lib.hid hv1
          have HV2 := Lib.hid hv2
          have HV3 := Lib.hid hv3
          have HV4 := Lib.hid hv4
          clear hv1 hv2 hv3 hv4
          have hfr := HFR.out
          have hw1 : IntKind.i64.wrap ((k : Int) + (j : Int)) = (k : Int) + (j : Int) := IntWalk.i64_in _ (by omega)
          have hm1 : ((k : Int) + (j : Int)).tmod (C.length : Int) = (n : Int) := by
            rw [Int.tmod_eq_emod_of_nonneg (by omega), ← hn]; simp
          have hm2 : ((k : Int) + (j : Int)) % (C.length : Int) = (n : Int) := by rw [← hn]; simp
          have hcz : ¬ (C.length : Int) = 0 := by omega
          have j1 : (0 : Int) ≤ (n : Int) := by omega
          have j2 : (n : Int) < (C.length : Int) := by omega
          have j3 : (0 : Int) ≤ (i : Int) := by omega
          have j4 : (i : Int) < (T.length : Int) := by omega
          have k4 : k < 12 := by omega
          have hpbr : pb < wr.heap.size := Nat.lt_of_lt_of_le hpb3 B4.out.size
          have hsbr : sb < wr.heap.size := Nat.lt_of_lt_of_le hsb3 B4.out.size
          have hCn : ¬ C = [] := by rintro rfl; simp at hkl
          clear hn hr
          go_upto_region 11 with (fail)
          go_region
          have K5 := Lib.hid (show Keeps w3 wr.heap.size qx qy (wr.alloc (.cells #[.int .i64 qx, .int .i64 qy] 23)).drew from ⟨(ptAt_new wr qx qy _).drew, bel_drew (bel_alloc B4.out _)⟩)
          have G5 := Lib.hid (G2.out.later (bel_drew (bel_alloc (bel_refl wr) (.cells #[.int .i64 qx, .int .i64 qy] 23))))
          clear q0 q1 hu3 hfr hw1 hm1 hm2 hcz j1 j2 j3 j4 G2 B4
          go_upto_region 12 with (fail)
          generalize (wr.alloc (.cells #[.int .i64 qx, .int .i64 qy] 23)).drew = w5 at *
          obtain ⟨c0, c1, cl⟩ := K5.out.q
          have GA5 := Lib.hid (G5.out.later (bel_alloc (bel_refl w5) (.cells #[.int .i64 (qx), .int .i64 (qy)] 23)))
          have KA5 := Lib.hid (K5.out.alloc (.cells #[.int .i64 (qx), .int .i64 (qy)] 23))
          go_upto_region 13 with (at_builtin; refine wpList_append_own_at _ rfl (.tmp 64) (.tmp 66) 29 rfl w3.heap.size 23 i0 (ptV 0 0) 2 16 Try.underlying29 I0.out Z0.out S0.out Y0.out rfl (by decide) (.slice CA k ac) k (cellsP (((rot j C).take k).map id)) rfl GA5.out.head ⟨w5.heap.size, 0, none⟩ 1 1 [.int .i64 (qx), .int .i64 (qy)] (by simp [go_sem]) rfl (cell_two_new w5 (.int .i64 (qx)) (.int .i64 (qy)) 23) (by simp [Value.oneCell']) (by unfold maxLen; omega) (by omega) KA5.out.b.size ?_; intro v1 w6 ho hg _ hat)
          rw [← HS1.out] at ho
          have G6 := Lib.hid (GA5.out.step ho hg hat)
          have K6 := Lib.hid (KA5.out.grown GA5.out.head HV1.out hg)
          clear ho hg hat GA5 KA5 G5 K5
          clear c0 c1 cl
          obtain ⟨c0, c1, cl⟩ := K6.out.q
          have F6 := Lib.hid (F3.out.later K6.out.b)
          obtain ⟨_, _, ⟨⟨l0, l1, ll⟩, fl⟩⟩ := F6.out
          have GA6 := Lib.hid (G6.out.later (bel_alloc (bel_refl w6) (.cells #[.int .i64 (qx + s), .int .i64 (qy + t)] 23)))
          have KA6 := Lib.hid (K6.out.alloc (.cells #[.int .i64 (qx + s), .int .i64 (qy + t)] 23))
          go_upto_region 14 with (at_builtin; refine wpList_append_own_at _ rfl (.tmp 68) (.tmp 80) 29 rfl w3.heap.size 23 i0 (ptV 0 0) 2 16 Try.underlying29 I0.out Z0.out S0.out Y0.out rfl (by decide) (.slice CB k bc) k (cellsP (((rot j C).take k).map (mvP s t))) rfl GA6.out.head ⟨w6.heap.size, 0, none⟩ 1 1 [.int .i64 (qx + s), .int .i64 (qy + t)] (by simp [go_sem]) rfl (cell_two_new w6 (.int .i64 (qx + s)) (.int .i64 (qy + t)) 23) (by simp [Value.oneCell']) (by unfold maxLen; omega) (by omega) KA6.out.b.size ?_; intro v2 w7 ho hg _ hat)
          rw [← HS2.out] at ho
          have G7 := Lib.hid (GA6.out.step ho hg hat)
          have K7 := Lib.hid (KA6.out.grown GA6.out.head HV2.out hg)
          clear ho hg hat GA6 KA6 G6 K6
          clear c0 c1 cl l0 l1 ll fl F6
          obtain ⟨c0, c1, cl⟩ := K7.out.q
          have GA7 := Lib.hid (G7.out.later (bel_alloc (bel_refl w7) (.cells #[.int .i64 (-qy), .int .i64 (qx)] 23)))
          have KA7 := Lib.hid (K7.out.alloc (.cells #[.int .i64 (-qy), .int .i64 (qx)] 23))
          go_upto_region 15 with (at_builtin; refine wpList_append_own_at _ rfl (.tmp 82) (.tmp 89) 29 rfl w3.heap.size 23 i0 (ptV 0 0) 2 16 Try.underlying29 I0.out Z0.out S0.out Y0.out rfl (by decide) (.slice CC k cc) k (cellsP (((rot j C).take k).map tuP)) rfl GA7.out.head ⟨w7.heap.size, 0, none⟩ 1 1 [.int .i64 (-qy), .int .i64 (qx)] (by simp [go_sem]) rfl (cell_two_new w7 (.int .i64 (-qy)) (.int .i64 (qx)) 23) (by simp [Value.oneCell']) (by unfold maxLen; omega) (by omega) KA7.out.b.size ?_; intro v3 w8 ho hg _ hat)
          rw [← HS3.out] at ho
          have G8 := Lib.hid (GA7.out.step ho hg hat)
          have K8 := Lib.hid (KA7.out.grown GA7.out.head HV3.out hg)
          clear ho hg hat GA7 KA7 G7 K7
          clear c0 c1 cl
          have hu8 := (K8.out.b.cell (p := ⟨sb, so + i, none⟩) hsb3).trans ((B3.out.cell (p := ⟨sb, so + i, none⟩) hsb).trans U3.out)
          have r0 := (K8.out.b.cell (p := ⟨pb, po + r * 2, none⟩) hpb3).trans R0.out
          have r1 := (K8.out.b.cell (p := ⟨pb, po + r * 2 + 1, none⟩) hpb3).trans R1.out
          have GA8 := Lib.hid (G8.out.later (bel_alloc (bel_refl w8) (.cells #[.int .i64 (rx), .int .i64 (ry)] 23)))
          have KA8 := Lib.hid (K8.out.alloc (.cells #[.int .i64 (rx), .int .i64 (ry)] 23))
          go_wp2_with (at_builtin; refine wpList_append_own_at _ rfl (.tmp 91) (.tmp 102) 29 rfl w3.heap.size 23 i0 (ptV 0 0) 2 16 Try.underlying29 I0.out Z0.out S0.out Y0.out rfl (by decide) (.slice CD k dc) k (cellsP (C.reverse.take k)) rfl GA8.out.head ⟨w8.heap.size, 0, none⟩ 1 1 [.int .i64 (rx), .int .i64 (ry)] (by simp [go_sem]) rfl (cell_two_new w8 (.int .i64 (rx)) (.int .i64 (ry)) 23) (by simp [Value.oneCell']) (by unfold maxLen; omega) (by omega) KA8.out.b.size ?_; intro v4 w9 ho hg _ hat)
          rw [← HS4.out] at ho
          have G9 := Lib.hid (GA8.out.step ho hg hat)
          have K9 := Lib.hid (KA8.out.grown GA8.out.head HV4.out hg)
          clear ho hg hat GA8 KA8 G8 K8
          clear hu8 r0 r1
          have B9 := Lib.hid K9.out.b
          go_roundw
          case rel => exact ⟨k + 1, by go_num, by omega, G9.out, B9.out⟩
          case measure => simp [intOf]; omega
        · obtain rfl : k = C.length := by omega
          have K4 : Bag wr wc.heap.size 23 [(back (rot j) T (i + 1), V1), (back (mvC j s t) T (i + 1), V2), (back (tuC j) T (i + 1), V3), (back List.reverse T (i + 1), V4)] [(.slice CA C.length ac, rot j C), (.slice CB C.length bc, mvC j s t C), (.slice CC C.length cc, tuC j C), (.slice CD C.length dc, C.reverse)] := by
            refine ⟨fun x hx => ?_, inner_done G2.out B3.out.size⟩
            simp only [List.mem_cons, List.not_mem_nil, or_false] at hx
            rcases hx with rfl | rfl | rfl | rfl
            · exact E.out.1.later B4.out
            · exact E.out.2.1.later B4.out
            · exact E.out.2.2.1.later B4.out
            · exact E.out.2.2.2.later B4.out
          have B5 := Lib.hid (bel_trans B3.out B4.out)
          have G5 := Lib.hid (G.out.later B4.out)
          have GA5 := Lib.hid (G5.out.later (bel_alloc (bel_refl wr) (.cells #[.slice CA C.length ac] 29)))
          have KA5 := Lib.hid (K4.later (bel_alloc (bel_refl wr) (.cells #[.slice CA C.length ac] 29)))
          have BA5 := Lib.hid (bel_alloc B5.out (.cells #[.slice CA C.length ac] 29))
          clear K4 G5 B5 G2 hu3
          go_wp2_with (first
            | (at_builtin; refine wpList_append_own_at _ rfl (.tmp 104) (.tmp 106) 30 rfl wc.heap.size 29 i1 (.slice none 0 0) 1 24 Try.underlying30 I1.out Z1.out S1.out Y1.out rfl (by decide) (.slice OA (T.length - (i + 1)) ocap) (T.length - (i + 1)) V1 rfl GA5.out.head ⟨wr.heap.size, 0, none⟩ 1 1 [.slice CA C.length ac] (by simp [go_sem]) rfl (cell_one_new _ _ _) (by simp [Value.oneCell']) (by unfold maxLen; omega) (by omega) BA5.out.size ?_; intro v1 w6 ho hg _ hat; rw [show T.length - (i + 1) + 1 = T.length - i by omega] at ho; have G6 := Lib.hid (GA5.out.step ho hg hat); have K6 := Lib.hid (KA5.out.kept (by decide) GA5.out.head hg); have B6 := Lib.hid (BA5.out.grown hg BA5.out.size fun g hg' => (GA5.out.head.lt g hg').1); clear ho hg hat; have GA6 := Lib.hid (G6.out.later (bel_alloc (bel_refl w6) (.cells #[.slice CB C.length bc] 29))); have KA6 := Lib.hid (K6.out.later (bel_alloc (bel_refl w6) (.cells #[.slice CB C.length bc] 29))); have BA6 := Lib.hid (bel_alloc B6.out (.cells #[.slice CB C.length bc] 29)))
            | (at_builtin; refine wpList_append_own_at _ rfl (.tmp 108) (.tmp 110) 30 rfl wc.heap.size 29 i1 (.slice none 0 0) 1 24 Try.underlying30 I1.out Z1.out S1.out Y1.out rfl (by decide) (.slice OB (T.length - (i + 1)) pcap) (T.length - (i + 1)) V2 rfl GA6.out.head ⟨w6.heap.size, 0, none⟩ 1 1 [.slice CB C.length bc] (by simp [go_sem]) rfl (cell_one_new _ _ _) (by simp [Value.oneCell']) (by unfold maxLen; omega) (by omega) BA6.out.size ?_; intro v2 w7 ho hg _ hat; rw [show T.length - (i + 1) + 1 = T.length - i by omega] at ho; have G7 := Lib.hid (GA6.out.step ho hg hat); have K7 := Lib.hid (KA6.out.kept (by decide) GA6.out.head hg); have B7 := Lib.hid (BA6.out.grown hg BA6.out.size fun g hg' => (GA6.out.head.lt g hg').1); clear ho hg hat; have GA7 := Lib.hid (G7.out.later (bel_alloc (bel_refl w7) (.cells #[.slice CC C.length cc] 29))); have KA7 := Lib.hid (K7.out.later (bel_alloc (bel_refl w7) (.cells #[.slice CC C.length cc] 29))); have BA7 := Lib.hid (bel_alloc B7.out (.cells #[.slice CC C.length cc] 29)))
            | (at_builtin; refine wpList_append_own_at _ rfl (.tmp 112) (.tmp 114) 30 rfl wc.heap.size 29 i1 (.slice none 0 0) 1 24 Try.underlying30 I1.out Z1.out S1.out Y1.out rfl (by decide) (.slice OC (T.length - (i + 1)) qcap) (T.length - (i + 1)) V3 rfl GA7.out.head ⟨w7.heap.size, 0, none⟩ 1 1 [.slice CC C.length cc] (by simp [go_sem]) rfl (cell_one_new _ _ _) (by simp [Value.oneCell']) (by unfold maxLen; omega) (by omega) BA7.out.size ?_; intro v3 w8 ho hg _ hat; rw [show T.length - (i + 1) + 1 = T.length - i by omega] at ho; have G8 := Lib.hid (GA7.out.step ho hg hat); have K8 := Lib.hid (KA7.out.kept (by decide) GA7.out.head hg); have B8 := Lib.hid (BA7.out.grown hg BA7.out.size fun g hg' => (GA7.out.head.lt g hg').1); clear ho hg hat; have GA8 := Lib.hid (G8.out.later (bel_alloc (bel_refl w8) (.cells #[.slice CD C.length dc] 29))); have KA8 := Lib.hid (K8.out.later (bel_alloc (bel_refl w8) (.cells #[.slice CD C.length dc] 29))); have BA8 := Lib.hid (bel_alloc B8.out (.cells #[.slice CD C.length dc] 29)))
            | (at_builtin; refine wpList_append_own_at _ rfl (.tmp 116) (.tmp 118) 30 rfl wc.heap.size 29 i1 (.slice none 0 0) 1 24 Try.underlying30 I1.out Z1.out S1.out Y1.out rfl (by decide) (.slice OD (T.length - (i + 1)) rcap) (T.length - (i + 1)) V4 rfl GA8.out.head ⟨w8.heap.size, 0, none⟩ 1 1 [.slice CD C.length dc] (by simp [go_sem]) rfl (cell_one_new _ _ _) (by simp [Value.oneCell']) (by unfold maxLen; omega) (by omega) BA8.out.size ?_; intro v4 w9 ho hg _ hat; rw [show T.length - (i + 1) + 1 = T.length - i by omega] at ho; have G9 := Lib.hid (GA8.out.step ho hg hat); have K9 := Lib.hid (KA8.out.kept (by decide) GA8.out.head hg); have B9 := Lib.hid (BA8.out.grown hg BA8.out.size fun g hg' => (GA8.out.head.lt g hg').1); clear ho hg hat))
          have E9 : Each w9 wc.heap.size 23 (back (rot j) T i) (V1 ++ [.slice CA C.length ac]) ∧ Each w9 wc.heap.size 23 (back (mvC j s t) T i) (V2 ++ [.slice CB C.length bc]) ∧ Each w9 wc.heap.size 23 (back (tuC j) T i) (V3 ++ [.slice CC C.length cc]) ∧ Each w9 wc.heap.size 23 (back List.reverse T i) (V4 ++ [.slice CD C.length dc]) := by
            rw [T1.out, T2.out, T3.out, T4.out]
            exact ⟨(K9.out.each _ (m1 _ _ _ _)).push (K9.out.own _ (m1 _ _ _ _)), (K9.out.each _ (m2 _ _ _ _)).push (K9.out.own _ (m2 _ _ _ _)), (K9.out.each _ (m3 _ _ _ _)).push (K9.out.own _ (m3 _ _ _ _)), (K9.out.each _ (m4 _ _ _ _)).push (K9.out.own _ (m4 _ _ _ _))⟩
          have E9 := Lib.hid E9
          go_roundw
          case rel => exact ⟨i, w9, _, _, _, _, rfl, rfl, by omega, G9.out, E9.out, B9.out⟩
          case measure => simp [intOf]
end Go.Proofs.Ytcpnfafhekgabaa.polyTurns
