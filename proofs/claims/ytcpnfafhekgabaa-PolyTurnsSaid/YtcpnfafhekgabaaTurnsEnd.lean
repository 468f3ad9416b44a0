/- Towards PolyTurns: what stands behind the loops. -/
import Derived.Test.YtcpnfafhekgabaaTurnsBase
namespace Go.Proofs.Ytcpnfafhekgabaa.polyTurns
open Go.ChangeShapes Go.WideShapes Go.ChangeAt Go.RowKit Go.Joins
open Go.Sort (grow)

set_option maxRecDepth 100000 in
set_option maxHeartbeats 32000000 in
theorem endThm (a b c d x y s t : Int) (j : Nat) (T : List (List P2)) (ha : -19 ≤ a ∧ a ≤ c ∧ c ≤ 26) (hb : -19 ≤ b ∧ b ≤ d ∧ d ≤ 26) (hx : -20 ≤ x ∧ x ≤ 20 ∧ -20 ≤ y ∧ y ≤ 20) (hs : -100000000 ≤ s ∧ s ≤ 100000000 ∧ -100000000 ≤ t ∧ t ≤ 100000000)
    (hTl : T.length ≤ 4) (hF : Fine T) (hrw : T.length ≤ 4 ∧ ∀ c ∈ T, c.length ≤ 12 ∧ ∀ p ∈ c, ∃ q, p = tameP true q) (near : ∀ c ∈ T, ∀ p ∈ c, (-20 ≤ p.1 ∧ p.1 ≤ 20) ∧ -20 ≤ p.2 ∧ p.2 ≤ 20)
    (w w3 : World) (z0 z1 z2 z3 z4 c0 c2 c3 c4 c6 c8 c15 c16 c17 c18 c19 c20 c21 c22 c23 c24 c25 c26 c27 c28 c29 c30 c31 c32 c33 c34 c35 c36 c37 c38 c39 c40 c41 c42 c43 c44 c45 c46 c47 c48 c49 c50 c51 c52 c53 c54 c55 c56 c57 c58 c59 c60 c61 c62 c63 c64 c65 c66 c67 c68 c69 c70 c71 c72 c73 c74 c75 c76 c77 c78 c79 c80 c81 c82 c83 c84 c85 c86 c87 c88 c89 c90 c91 c92 c93 c94 c95 c96 c97 c98 c99 c100 c101 c102 c103 c104 c105 c106 c107 c108 c109 c110 c111 c112 c113 c114 c115 c116 c117 c118 c119 c120 c121 c122 c123 c124 c125 c126 c127 c128 c129 c130 c131 c132 c133 c134 c135 c136 c137 c138 c139 c140 c141 c142 c143 c144 c145 c146 c147 c148 c149 c150 c151 c152 c153 c154 c155 c156 c157 c158 c159 c160 c161 c162 c163 c164 c165 c166 c167 c168 c169 c170 c171 c172 c173 c174 c175 c176 c177 c178 c179 c180 c181 c182 c183 c184 c185 c186 c187 c188 c189 c190 c191 c192 c193 c194 c195 c196 c197 c198 c199 c200 c201 c202 c203 c204 c205 c206 c207 c208 c209 c210 c211 c212 c213 c214 c215 c216 c217 c218 c219 c220 c221 c222 c223 c224 c225 c226 c227 c228 c229 : Value) (hr1 : RowsAt w3 w3.heap.size z1 (back (rot j) T 0)) (hr2 : RowsAt w3 w3.heap.size z2 (back (mvC j s t) T 0)) (hr3 : RowsAt w3 w3.heap.size z3 (back (tuC j) T 0)) (hr4 : RowsAt w3 w3.heap.size z4 (back List.reverse T 0)) (hrT : RowsAt w3 w3.heap.size z0 T)
    (hF4 : BPP w.heap.size a b c d x y s t w3) (hB4 : Below w.heap.size w w3) : Code.wp Try.prog endCode (bodyPost Try.prog Try.f6 fun e w' => e = .returned (.bool true) ∧ Below w.heap.size w w') ⟨(c0 :: z0 :: c2 :: c3 :: c4 :: (.pointer (some ⟨w.heap.size, 0, none⟩)) :: c6 :: (.pointer (some ⟨w.heap.size + 1, 0, none⟩)) :: c8 :: (.pointer (some ⟨w.heap.size + 1 + 1, 0, none⟩)) :: (.bool false) :: z1 :: z2 :: z3 :: z4 :: c15 :: c16 :: c17 :: c18 :: c19 :: c20 :: c21 :: c22 :: c23 :: c24 :: c25 :: c26 :: c27 :: c28 :: c29 :: c30 :: c31 :: c32 :: c33 :: c34 :: c35 :: c36 :: c37 :: c38 :: c39 :: c40 :: c41 :: c42 :: c43 :: c44 :: c45 :: c46 :: c47 :: c48 :: c49 :: c50 :: c51 :: c52 :: c53 :: c54 :: c55 :: c56 :: c57 :: c58 :: c59 :: c60 :: c61 :: c62 :: c63 :: c64 :: c65 :: c66 :: c67 :: c68 :: c69 :: c70 :: c71 :: c72 :: c73 :: c74 :: c75 :: c76 :: c77 :: c78 :: c79 :: c80 :: c81 :: c82 :: c83 :: c84 :: c85 :: c86 :: c87 :: c88 :: c89 :: c90 :: c91 :: c92 :: c93 :: c94 :: c95 :: c96 :: c97 :: c98 :: c99 :: c100 :: c101 :: c102 :: c103 :: c104 :: c105 :: c106 :: c107 :: c108 :: c109 :: c110 :: c111 :: c112 :: c113 :: c114 :: c115 :: c116 :: c117 :: c118 :: c119 :: c120 :: c121 :: c122 :: c123 :: c124 :: c125 :: c126 :: c127 :: c128 :: c129 :: c130 :: c131 :: c132 :: c133 :: c134 :: c135 :: c136 :: c137 :: c138 :: c139 :: c140 :: c141 :: c142 :: c143 :: c144 :: c145 :: c146 :: c147 :: c148 :: c149 :: c150 :: c151 :: c152 :: c153 :: c154 :: c155 :: c156 :: c157 :: c158 :: c159 :: c160 :: c161 :: c162 :: c163 :: c164 :: c165 :: c166 :: c167 :: c168 :: c169 :: c170 :: c171 :: c172 :: c173 :: c174 :: c175 :: c176 :: c177 :: c178 :: c179 :: c180 :: c181 :: c182 :: c183 :: c184 :: c185 :: c186 :: c187 :: c188 :: c189 :: c190 :: c191 :: c192 :: c193 :: c194 :: c195 :: c196 :: c197 :: c198 :: c199 :: c200 :: c201 :: c202 :: c203 :: c204 :: c205 :: c206 :: c207 :: c208 :: c209 :: c210 :: c211 :: c212 :: c213 :: c214 :: c215 :: c216 :: c217 :: c218 :: c219 :: c220 :: c221 :: c222 :: c223 :: c224 :: c225 :: c226 :: c227 :: c228 :: c229 :: []).toArray, []⟩ w3 := by
  have r1 := Lib.hid hr1
  have r2 := Lib.hid hr2
  have r3 := Lib.hid hr3
  have r4 := Lib.hid hr4
  have rT := Lib.hid hrT
  have F4 := Lib.hid hF4
  have B4 := Lib.hid hB4
  have HF := Lib.hid hF
  have HRW := Lib.hid hrw
  have NEAR := Lib.hid near
  clear hr1 hr2 hr3 hr4 hrT hF4 hB4 hF hrw near
  conv => arg 2; whnf
  obtain ⟨κ, hκ⟩ : ∃ k, clsE (edgesL T) a b c d = k := ⟨_, rfl⟩
  obtain ⟨η, hη⟩ : ∃ h, hasE (edgesL T) (x, y) = h := ⟨_, rfl⟩
  have FO := Lib.hid (fine_back (f := rot j) hTl (fun c hc => by rw [rot_length]; exact (HRW.out.2 c hc).1) (fun c hc p hp => by have := NEAR.out c hc p (mem_rot hp); omega))
  have FM := Lib.hid (fine_back (f := mvC j s t) hTl (fun c hc => by unfold mvC; rw [List.length_map, rot_length]; exact (HRW.out.2 c hc).1) (fun c hc p hp => by
    obtain ⟨q, hq, rfl⟩ := List.mem_map.1 hp
    have := NEAR.out c hc q (mem_rot hq)
    unfold mvP; simp only []; omega))
  have FT := Lib.hid (fine_back (f := tuC j) hTl (fun c hc => by unfold tuC; rw [List.length_map, rot_length]; exact (HRW.out.2 c hc).1) (fun c hc p hp => by
    obtain ⟨q, hq, rfl⟩ := List.mem_map.1 hp
    have := NEAR.out c hc q (mem_rot hq)
    unfold tuP; simp only []; omega))
  have FB := Lib.hid (fine_back (f := List.reverse) hTl (fun c hc => by rw [List.length_reverse]; exact (HRW.out.2 c hc).1) (fun c hc p hp => by have := NEAR.out c hc p (List.mem_reverse.1 hp); omega))
  have KC := Lib.hid (fun w v (hR : RowsAt w w.heap.size v T) => class_is HF.out hκ (by omega) ha.2.1 (by omega) (by omega) hb.2.1 (by omega) hR)
  have KH := Lib.hid (fun w v (hR : RowsAt w w.heap.size v T) => polyHas_is HF.out hη (by omega) (by omega) (by omega) (by omega) hR)
  have K1 := Lib.hid (fun w v (hR : RowsAt w w.heap.size v (back (rot j) T 0)) => class_is FO.out ((cls_other j T a b c d).trans hκ) (by omega) ha.2.1 (by omega) (by omega) hb.2.1 (by omega) hR)
  have K2 := Lib.hid (fun w v (hR : RowsAt w w.heap.size v (back (rot j) T 0)) => polyHas_is FO.out ((has_other j T (x, y)).trans hη) (by omega) (by omega) (by omega) (by omega) hR)
  have K3 := Lib.hid (fun w v (hR : RowsAt w w.heap.size v (back List.reverse T 0)) => class_is FB.out ((cls_back T a b c d).trans hκ) (by omega) ha.2.1 (by omega) (by omega) hb.2.1 (by omega) hR)
  have K4 := Lib.hid (fun w v (hR : RowsAt w w.heap.size v (back List.reverse T 0)) => polyHas_is FB.out ((has_back T (x, y)).trans hη) (by omega) (by omega) (by omega) (by omega) hR)
  have K5 := Lib.hid (fun w v (hR : RowsAt w w.heap.size v (back (mvC j s t) T 0)) => class_is FM.out ((cls_moved j T s t a b c d).trans hκ) (by omega) (by omega) (by omega) (by omega) (by omega) (by omega) hR)
  have K6 := Lib.hid (fun w v (hR : RowsAt w w.heap.size v (back (mvC j s t) T 0)) => polyHas_is (x := x + s) (y := y + t) FM.out ((has_moved j T s t (x, y)).trans hη) (by omega) (by omega) (by omega) (by omega) hR)
  have K7 := Lib.hid (fun w v (hR : RowsAt w w.heap.size v (back (tuC j) T 0)) => class_is FT.out ((cls_turned j T ha.2.1 hb.2.1).trans hκ) (by omega) (by omega) (by omega) (by omega) (by omega) (by omega) hR)
  have K8 := Lib.hid (fun w v (hR : RowsAt w w.heap.size v (back (tuC j) T 0)) => polyHas_is (x := -y) (y := x) FT.out ((has_turned j T (x, y)).trans hη) (by omega) (by omega) (by omega) (by omega) hR)
  clear hκ hη
  obtain ⟨⟨⟨i0, i1, i2, i3, il⟩, fi⟩, ⟨⟨j0, j1, jl⟩, fj⟩, ⟨⟨l0, l1, ll⟩, fl⟩⟩ := F4.out
  go_upto_region 17 with (fail)
  have i0 := cell_regrown i0
  have i1 := cell_regrown i1
  have i2 := cell_regrown i2
  have i3 := cell_regrown i3
  have j0 := cell_regrown j0
  have j1 := cell_regrown j1
  have D1 := Lib.hid (fun p : Regrown => Calls.regrown_of (KC.out _ _ (rT.out.on (below_regrown w3 p.d p.os))))
  have D2 := Lib.hid (fun p : Regrown => Calls.regrown_of (KH.out _ _ (rT.out.on (below_regrown w3 p.d p.os))))
  refine wp_region_quiet_below (by kernel_rfl) (by kernel_rfl) ?_
  repeat (go_big_quiet_step (first | with_reducible exact D1.out _ | with_reducible exact D2.out _))
  refine wpQuiet_nil ?_
  intro _ hw'
  obtain ⟨⟨dr, osr⟩, hw''⟩ := hw'
  subst hw''
  have zz := below_regrown w3 dr osr
  have F5 := Lib.hid (F4.out.later zz)
  have B5 := Lib.hid (bel_trans B4.out zz)
  have R1 := Lib.hid (r1.out.on zz)
  have R2 := Lib.hid (r2.out.on zz)
  have R3 := Lib.hid (r3.out.on zz)
  have R4 := Lib.hid (r4.out.on zz)
  clear i0 i1 i2 i3 il fi j0 j1 jl fj l0 l1 ll fl r1 r2 r3 r4 rT F4 B4 zz D1 D2 KC KH
  generalize grow (redrawn w3 dr) osr = w4 at *
  have H0 := Lib.hid (show Fnl w.heap.size w4.heap.size a b c d x y s t _ _ _ _ (back (rot j) T 0) (back (mvC j s t) T 0) (back (tuC j) T 0) (back List.reverse T 0) w ((w4.alloc (.cells #[.int .i64 (a + s), .int .i64 (b + t), .int .i64 (c + s), .int .i64 (d + t)] 33)).alloc (.cells #[.int .i64 (-d), .int .i64 a, .int .i64 (-b), .int .i64 c] 33)) from by
    have z := bel_alloc (bel_alloc (bel_refl w4) (.cells #[.int .i64 (a + s), .int .i64 (b + t), .int .i64 (c + s), .int .i64 (d + t)] 33)) (.cells #[.int .i64 (-d), .int .i64 a, .int .i64 (-b), .int .i64 c] 33)
    have u := boxAt_new (w4.alloc (.cells #[.int .i64 (a + s), .int .i64 (b + t), .int .i64 (c + s), .int .i64 (d + t)] 33)) (-d) a (-b) c 33
    rw [show (w4.alloc (.cells #[.int .i64 (a + s), .int .i64 (b + t), .int .i64 (c + s), .int .i64 (d + t)] 33)).heap.size = w4.heap.size + 1 by simp] at u
    exact ⟨F5.out.later z, (boxAt_new w4 (a + s) (b + t) (c + s) (d + t) 33).alloc _, u, R1.out.on z, R2.out.on z, R3.out.on z, R4.out.on z, bel_trans B5.out z⟩)
  obtain ⟨⟨⟨i0, i1, i2, i3, il⟩, fi⟩, ⟨⟨j0, j1, jl⟩, fj⟩, ⟨⟨l0, l1, ll⟩, fl⟩⟩ := F5.out
  go_upto_region 20 with (fail)
  clear i0 i1 i2 i3 il fi j0 j1 jl fj l0 l1 ll fl F5 B5 R1 R2 R3 R4
  generalize w4.heap.size = M at *
  generalize (w4.alloc (.cells #[.int .i64 (a + s), .int .i64 (b + t), .int .i64 (c + s), .int .i64 (d + t)] 33)).alloc (.cells #[.int .i64 (-d), .int .i64 a, .int .i64 (-b), .int .i64 c] 33) = g0 at *
  obtain ⟨⟨⟨i0, i1, i2, i3, il⟩, fi⟩, ⟨⟨j0, j1, jl⟩, fj⟩, ⟨⟨l0, l1, ll⟩, fl⟩⟩ := H0.out.f
  have L := Lib.hid (K1.out _ _ H0.out.r1)
  go_wp2_with fail
  refine L.out.mono ?_; rintro e g1 ⟨rfl, bb⟩
  have H1 := Lib.hid (H0.out.later bb)
  clear i0 i1 i2 i3 il fi j0 j1 jl fj l0 l1 ll fl bb L K1 H0
  obtain ⟨⟨⟨i0, i1, i2, i3, il⟩, fi⟩, ⟨⟨j0, j1, jl⟩, fj⟩, ⟨⟨l0, l1, ll⟩, fl⟩⟩ := H1.out.f
  have L := Lib.hid (K2.out _ _ H1.out.r1)
  go_wp2_with fail
  refine L.out.mono ?_; rintro e g2 ⟨rfl, bb⟩
  have H2 := Lib.hid (H1.out.later bb)
  clear i0 i1 i2 i3 il fi j0 j1 jl fj l0 l1 ll fl bb L K2 H1
  obtain ⟨⟨⟨i0, i1, i2, i3, il⟩, fi⟩, ⟨⟨j0, j1, jl⟩, fj⟩, ⟨⟨l0, l1, ll⟩, fl⟩⟩ := H2.out.f
  have L := Lib.hid (K3.out _ _ H2.out.r4)
  go_wp2_with fail
  refine L.out.mono ?_; rintro e g3 ⟨rfl, bb⟩
  have H3 := Lib.hid (H2.out.later bb)
  clear i0 i1 i2 i3 il fi j0 j1 jl fj l0 l1 ll fl bb L K3 H2
  obtain ⟨⟨⟨i0, i1, i2, i3, il⟩, fi⟩, ⟨⟨j0, j1, jl⟩, fj⟩, ⟨⟨l0, l1, ll⟩, fl⟩⟩ := H3.out.f
  have L := Lib.hid (K4.out _ _ H3.out.r4)
  go_wp2_with fail
  refine L.out.mono ?_; rintro e g4 ⟨rfl, bb⟩
  have H4 := Lib.hid (H3.out.later bb)
  clear i0 i1 i2 i3 il fi j0 j1 jl fj l0 l1 ll fl bb L K4 H3
  obtain ⟨⟨⟨i0, i1, i2, i3, il⟩, fi⟩, ⟨⟨j0, j1, jl⟩, fj⟩, ⟨⟨l0, l1, ll⟩, fl⟩⟩ := H4.out.f
  obtain ⟨n0, n1, n2, n3, nl⟩ := H4.out.m
  have L := Lib.hid (K5.out _ _ H4.out.r2)
  go_wp2_with fail
  refine L.out.mono ?_; rintro e g5 ⟨rfl, bb⟩
  have H5 := Lib.hid (H4.out.later bb)
  clear i0 i1 i2 i3 il fi j0 j1 jl fj l0 l1 ll fl n0 n1 n2 n3 nl bb L K5 H4
  obtain ⟨⟨⟨i0, i1, i2, i3, il⟩, fi⟩, ⟨⟨j0, j1, jl⟩, fj⟩, ⟨⟨l0, l1, ll⟩, fl⟩⟩ := H5.out.f
  have L := Lib.hid (K6.out _ _ H5.out.r2)
  go_wp2_with fail
  refine L.out.mono ?_; rintro e g6 ⟨rfl, bb⟩
  have H6 := Lib.hid (H5.out.later bb)
  clear i0 i1 i2 i3 il fi j0 j1 jl fj l0 l1 ll fl bb L K6 H5
  obtain ⟨⟨⟨i0, i1, i2, i3, il⟩, fi⟩, ⟨⟨j0, j1, jl⟩, fj⟩, ⟨⟨l0, l1, ll⟩, fl⟩⟩ := H6.out.f
  obtain ⟨n0, n1, n2, n3, nl⟩ := H6.out.u
  have L := Lib.hid (K7.out _ _ H6.out.r3)
  go_wp2_with fail
  refine L.out.mono ?_; rintro e g7 ⟨rfl, bb⟩
  have H7 := Lib.hid (H6.out.later bb)
  clear i0 i1 i2 i3 il fi j0 j1 jl fj l0 l1 ll fl n0 n1 n2 n3 nl bb L K7 H6
  obtain ⟨⟨⟨i0, i1, i2, i3, il⟩, fi⟩, ⟨⟨j0, j1, jl⟩, fj⟩, ⟨⟨l0, l1, ll⟩, fl⟩⟩ := H7.out.f
  have L := Lib.hid (K8.out _ _ H7.out.r3)
  go_wp2_with fail
  refine L.out.mono ?_; rintro e g8 ⟨rfl, bb⟩
  have H8 := Lib.hid (H7.out.later bb)
  clear i0 i1 i2 i3 il fi j0 j1 jl fj l0 l1 ll fl bb L K8 H7
  have AW := Lib.hid (awake_any g8)
  go_wp2_with fail
  refine AW.out.mono ?_; rintro e g9 ⟨rfl, bb⟩
  go_wp2
  go_ret
  exact ⟨rfl, bel_trans H8.out.b bb⟩
end Go.Proofs.Ytcpnfafhekgabaa.polyTurns
