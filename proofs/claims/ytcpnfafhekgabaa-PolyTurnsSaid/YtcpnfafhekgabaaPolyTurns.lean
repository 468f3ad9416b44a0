/- Points and classes hang on no way in which contours are told, nor on where they are, how they are mirrored and turned: for every list of contours, box, point and move that the law makes of any numbers of 64 bits. No condition. -/
import Derived.Test.YtcpnfafhekgabaaRows
import Derived.Test.YtcpnfafhekgabaaTurnsRest
namespace Go.Proofs.Ytcpnfafhekgabaa.polyTurns
open Go.ChangeShapes Go.WideShapes Go.ChangeAt Go.RowKit Go.Joins
open Go.Sort (grow)

set_option maxRecDepth 100000 in
set_option maxHeartbeats 32000000 in
theorem core (b0 b1 b2 b3 e0 e1 f0 f1 fr : Int) (a b c d x y s t : Int) (j : Nat) (hj : j ≤ 255) (hfr : bits .and .i64 fr 255 = (j : Int))
    (ha : -19 ≤ a ∧ a ≤ c ∧ c ≤ 26) (hb : -19 ≤ b ∧ b ≤ d ∧ d ≤ 26) (hx : -20 ≤ x ∧ x ≤ 20 ∧ -20 ≤ y ∧ y ≤ 20) (hs : -100000000 ≤ s ∧ s ≤ 100000000 ∧ -100000000 ≤ t ∧ t ≤ 100000000)
    (X1 : ∀ w, Calls Try.prog 15 #[boxV b0 b1 b2 b3] w fun e w' => e = .returned (boxV a b c d) ∧ Below w.heap.size w w')
    (X2 : ∀ w, Calls Try.prog 9 #[ptV e0 e1, .int .i64 20] w fun e w' => e = .returned (ptV x y) ∧ Below w.heap.size w w')
    (X3 : ∀ w, Calls Try.prog 9 #[ptV f0 f1, .int .i64 100000000] w fun e w' => e = .returned (ptV s t) ∧ Below w.heap.size w w')
    (v : Value) (L : List (List P2)) (w : World) (hR : RowsAt w w.heap.size v L) :
    Calls Try.prog 6 #[boxV b0 b1 b2 b3, v, ptV e0 e1, .int .i64 fr, ptV f0 f1] w fun e w' => e = .returned (.bool true) ∧ Below w.heap.size w w' := by
  have HX1 := Lib.hid X1
  have HX2 := Lib.hid X2
  have HX3 := Lib.hid X3
  have RR := Lib.hid hR
  have F0 := bpp_new w b0 b1 b2 b3 e0 e1 f0 f1 33 23
  have B0 := bel_newBPP w b0 b1 b2 b3 e0 e1 f0 f1 33 23
  unfold newBPP at F0 B0
  have F0 := Lib.hid F0
  have B0 := Lib.hid B0
  have HFR := Lib.hid hfr
  obtain ⟨LA, lcap, rfl, _⟩ := RR.out
  clear X1 X2 X3 hR hfr
  go_enter Try.func6, Try.ntmps6
  go_upto_region 1 with (fail)
  generalize (((w.alloc (.cells #[.int .i64 b0, .int .i64 b1, .int .i64 b2, .int .i64 b3] 33)).alloc (.cells #[.int .i64 e0, .int .i64 e1] 23)).alloc (.cells #[.int .i64 f0, .int .i64 f1] 23)) = V at *
  go_cut [1] (fun s1 wc => Mid w (tameL true L) a b c d x y s t s1 wc)
  case first =>
    have KT := Lib.hid (fun w' (h : Below w.heap.size w w') => tame_at true (RR.out.on h))
    obtain ⟨⟨⟨i0, i1, i2, i3, il⟩, fi⟩, ⟨⟨j0, j1, jl⟩, fj⟩, ⟨⟨l0, l1, ll⟩, fl⟩⟩ := F0.out
    go_region_with (first
      | (go_at_call 15; ((with_reducible refine (HX1.out _).mono ?_); rintro e wA ⟨rfl, bA⟩; have FA := Lib.hid ((F0.out.later (bel_drew (bel_refl V))).later bA); obtain ⟨⟨⟨iA0, iA1, iA2, iA3, iAl⟩, fAi⟩, ⟨⟨jA0, jA1, jAl⟩, fAj⟩, ⟨⟨lA0, lA1, lAl⟩, fAl⟩⟩ := FA.out))
      | (go_at_call 9; ((with_reducible refine (HX2.out _).mono ?_); rintro e wB ⟨rfl, bB⟩; have FB := Lib.hid (FA.out.later bB); obtain ⟨⟨⟨iB0, iB1, iB2, iB3, iBl⟩, fBi⟩, ⟨⟨jB0, jB1, jBl⟩, fBj⟩, ⟨⟨lB0, lB1, lBl⟩, fBl⟩⟩ := FB.out))
      | (go_at_call 14; ((with_reducible refine (KT.out _ (bel_trans (bel_trans (bel_drew B0.out) bA) bB)).mono ?_); rintro e wC ⟨z, rfl, hz, bC⟩; have FC := Lib.hid (FB.out.later bC); obtain ⟨⟨⟨iC0, iC1, iC2, iC3, iCl⟩, fCi⟩, ⟨⟨jC0, jC1, jCl⟩, fCj⟩, ⟨⟨lC0, lC1, lCl⟩, fCl⟩⟩ := FC.out))
      | (go_at_call 9; ((with_reducible refine (HX3.out _).mono ?_); rintro e wD ⟨rfl, bD⟩; have FD := Lib.hid (FC.out.later bD); obtain ⟨⟨⟨iD0, iD1, iD2, iD3, iDl⟩, fDi⟩, ⟨⟨jD0, jD1, jDl⟩, fDj⟩, ⟨⟨lD0, lD1, lDl⟩, fDl⟩⟩ := FD.out)))
    all_goals go_wp2_with fail
    all_goals go_meet
    all_goals exact ⟨z, rfl, FD.out.stored a b c d x y s t, (rows_set3 (hz.later bD) FB.out.b.at_.lt FB.out.c.at_.lt FB.out.p.at_.lt a b c d x y s t).rows, bel_bpp (bel_trans (bel_trans (bel_trans (bel_trans (bel_drew B0.out) bA) bB) bC) bD) (Nat.le_refl _) a b c d x y s t⟩
  case rest =>
    obtain ⟨_, rfl, hF, hR, hB⟩ := hcut
    clear F0 B0 HX1 HX2 HX3
    have REST := Lib.hid (fun c0 c2 c3 c4 c6 c8 c11 c12 c13 c14 c15 c16 c17 c18 c19 c20 c21 c22 c23 c24 c25 c26 c27 c28 c29 c30 c31 c32 c33 c34 c35 c36 c37 c38 c39 c40 c41 c42 c43 c44 c45 c46 c47 c48 c49 c50 c51 c52 c53 c54 c55 c56 c57 c58 c59 c60 c61 c62 c63 c64 c65 c66 c67 c68 c69 c70 c71 c72 c73 c74 c75 c76 c77 c78 c79 c80 c81 c82 c83 c84 c85 c86 c87 c88 c89 c90 c91 c92 c93 c94 c95 c96 c97 c98 c99 c100 c101 c102 c103 c104 c105 c106 c107 c108 c109 c110 c111 c112 c113 c114 c115 c116 c117 c118 c119 c120 c121 c122 c123 c124 c125 c126 c127 c128 c129 c130 c131 c132 c133 c134 c135 c136 c137 c138 c139 c140 c141 c142 c143 c144 c145 c146 c147 c148 c149 c150 c151 c152 c153 c154 c155 c156 c157 c158 c159 c160 c161 c162 c163 c164 c165 c166 c167 c168 c169 c170 c171 c172 c173 c174 c175 c176 c177 c178 c179 c180 c181 c182 c183 c184 c185 c186 c187 c188 c189 c190 c191 c192 c193 c194 c195 c196 c197 c198 c199 c200 c201 c202 c203 c204 c205 c206 c207 c208 c209 c210 c211 c212 c213 c214 c215 c216 c217 c218 c219 c220 c221 c222 c223 c224 c225 c226 c227 c228 c229 (h3 : c3 = .int .i64 fr) => restThm fr a b c d x y s t j hj HFR.out (tameL true L) ha hb hx hs (tame_rows true L).1 (tame_fine true L) (tame_rows true L) (tame_near L) w wc _ c0 c2 c3 c4 c6 c8 c11 c12 c13 c14 c15 c16 c17 c18 c19 c20 c21 c22 c23 c24 c25 c26 c27 c28 c29 c30 c31 c32 c33 c34 c35 c36 c37 c38 c39 c40 c41 c42 c43 c44 c45 c46 c47 c48 c49 c50 c51 c52 c53 c54 c55 c56 c57 c58 c59 c60 c61 c62 c63 c64 c65 c66 c67 c68 c69 c70 c71 c72 c73 c74 c75 c76 c77 c78 c79 c80 c81 c82 c83 c84 c85 c86 c87 c88 c89 c90 c91 c92 c93 c94 c95 c96 c97 c98 c99 c100 c101 c102 c103 c104 c105 c106 c107 c108 c109 c110 c111 c112 c113 c114 c115 c116 c117 c118 c119 c120 c121 c122 c123 c124 c125 c126 c127 c128 c129 c130 c131 c132 c133 c134 c135 c136 c137 c138 c139 c140 c141 c142 c143 c144 c145 c146 c147 c148 c149 c150 c151 c152 c153 c154 c155 c156 c157 c158 c159 c160 c161 c162 c163 c164 c165 c166 c167 c168 c169 c170 c171 c172 c173 c174 c175 c176 c177 c178 c179 c180 c181 c182 c183 c184 c185 c186 c187 c188 c189 c190 c191 c192 c193 c194 c195 c196 c197 c198 c199 c200 c201 c202 c203 c204 c205 c206 c207 c208 c209 c210 c211 c212 c213 c214 c215 c216 c217 c218 c219 c220 c221 c222 c223 c224 c225 c226 c227 c228 c229 h3 hF hR hB)
    clear hF hR hB
    repeat (first | exact REST.out _ _ _ _ _ _ _ _ _ _ _ _ _ _ _ _ _ _ _ _ _ _ _ _ _ _ _ _ _ _ _ _ _ _ _ _ _ _ _ _ _ _ _ _ _ _ _ _ _ _ _ _ _ _ _ _ _ _ _ _ _ _ _ _ _ _ _ _ _ _ _ _ _ _ _ _ _ _ _ _ _ _ _ _ _ _ _ _ _ _ _ _ _ _ _ _ _ _ _ _ _ _ _ _ _ _ _ _ _ _ _ _ _ _ _ _ _ _ _ _ _ _ _ _ _ _ _ _ _ _ _ _ _ _ _ _ _ _ _ _ _ _ _ _ _ _ _ _ _ _ _ _ _ _ _ _ _ _ _ _ _ _ _ _ _ _ _ _ _ _ _ _ _ _ _ _ _ _ _ _ _ _ _ _ _ _ _ _ _ _ _ _ _ _ _ _ _ _ _ _ _ _ _ _ _ _ _ _ _ _ _ _ _ _ _ _ _ _ _ _ _ _ _ _ _ rfl | go_step)

theorem walk (b0 b1 b2 b3 : Int) (v : Value) (L : List (List P2)) (e0 e1 fr f0 f1 : Int) (_ : -9223372036854775808 ≤ b0) (_ : b0 ≤ 9223372036854775807) (_ : -9223372036854775808 ≤ b1) (_ : b1 ≤ 9223372036854775807) (_ : -9223372036854775808 ≤ b2) (_ : b2 ≤ 9223372036854775807) (_ : -9223372036854775808 ≤ b3) (_ : b3 ≤ 9223372036854775807) (_ : -9223372036854775808 ≤ e0) (_ : e0 ≤ 9223372036854775807) (_ : -9223372036854775808 ≤ e1) (_ : e1 ≤ 9223372036854775807) (_ : -9223372036854775808 ≤ fr) (_ : fr ≤ 9223372036854775807) (_ : -9223372036854775808 ≤ f0) (_ : f0 ≤ 9223372036854775807) (_ : -9223372036854775808 ≤ f1) (_ : f1 ≤ 9223372036854775807) (w : World) (hR : RowsAt w w.heap.size v L) :
    Calls Try.prog 6 #[boxV b0 b1 b2 b3, v, ptV e0 e1, .int .i64 fr, ptV f0 f1] w fun e w' => e = .returned (.bool true) ∧ Below w.heap.size w w' := by
  obtain ⟨a, b, c, d, g1, g2, X1⟩ := small_form b0 b1 b2 b3
  obtain ⟨x, x0, x1, ex⟩ := tmod_at e0 21 (by omega)
  obtain ⟨y, y0, y1, ey⟩ := tmod_at e1 21 (by omega)
  obtain ⟨s, s0, s1, es⟩ := tmod_at f0 100000001 (by omega)
  obtain ⟨t, t0, t1, et⟩ := tmod_at f1 100000001 (by omega)
  obtain ⟨j, hj, hfr⟩ := mask_255 fr
  exact core b0 b1 b2 b3 e0 e1 f0 f1 fr a b c d x y s t j hj hfr (by omega) (by omega) (by omega) (by omega) X1 (fun w => close_below ex ey w) (fun w => close_far es et w) v L w hR

theorem own : ownKnob Try.prog.godebug = none := by kernel_rfl
theorem laidOut : laidOutB Try.prog = true := by kernel_rfl
set_option maxRecDepth 100000 in
set_option maxHeartbeats 4000000 in
theorem lifted (os : Os) (started : os.Started) (H : Type) (enc : TypeId × Value → H) :
    ReturnsInHanded {} Try.checked os 6 .any (Rows.polyTurnsSpec.pre6 enc Try.prog Try.f6 Rows.polyTurnsRow.domain false) (Rows.polyTurnsSpec.post enc Try.prog Try.f6 false true false false) := by
  refine returnsInHanded_of_change (C := Try.checked) own started (by kernel_rfl) Try.func6
    (ChangeSpec.witness6 (enc := enc) (C := Try.checked) false ⟨#[], #[.agg #[.int .i64 0, .int .i64 0, .int .i64 0, .int .i64 0], .slice none 0 0, .agg #[.int .i64 0, .int .i64 0], .int .i64 0, .agg #[.int .i64 0, .int .i64 0]], []⟩ 8 (by kernel_rfl) (by kernel_rfl) (by kernel_rfl) (by kernel_rfl)) ?_
  intro W base args ds gs before hval0 hW _ _
  have hval : ∀ (j : Nat) t v, Try.f6.params[j]? = some t → args[j]? = some v → Value.okWide Try.prog W .any base t v := hval0
  have hW' := hW
  obtain ⟨p, q, hA0, hV, rfl, hfz, hnd⟩ := hW
  have hA : DataW.TrodAll enc Try.prog W 0 (fun _ => true) true Try.f6.params.toList args.toList ds p := hA0
  rw [Try.params6] at hA hval
  obtain ⟨v0, vs0, d0, ds0, p0, q0, hargs, rfl, rfl, h0, r0⟩ := trodAll_cons hA
  obtain ⟨v1, vs1, d1, ds1, p1, q1, rfl, rfl, rfl, h1, r1⟩ := trodAll_cons r0
  obtain ⟨v2, vs2, d2, ds2, p2, q2, rfl, rfl, rfl, h2, r2⟩ := trodAll_cons r1
  obtain ⟨v3, vs3, d3, ds3, p3, q3, rfl, rfl, rfl, h3, r3⟩ := trodAll_cons r2
  obtain ⟨v4, vs4, d4, ds4, p4, q4, rfl, rfl, rfl, h4, r4⟩ := trodAll_cons r3
  obtain ⟨rfl, rfl, rfl⟩ := trodAll_nil r4
  obtain rfl : args = #[v0, v1, v2, v3, v4] := by cases args; simp_all
  obtain ⟨rfl, rfl⟩ := trodVars_none hV
  obtain ⟨c0_0, c0_1, c0_2, c0_3, y0_0, y0_1, y0_2, y0_3, m0, rfl, rfl, rfl, k0_0, k0_1, k0_2, k0_3⟩ := open_agg4 Try.underlying33 (by kernel_rfl) (by kernel_rfl) (hval 0 33 v0 rfl rfl) h0
  obtain ⟨a0_0, ea0_0, rfl, wa0_0⟩ := DataW.trod_int Try.underlying2 k0_0
  simp at ea0_0; subst ea0_0
  obtain ⟨a0_1, ea0_1, rfl, wa0_1⟩ := DataW.trod_int Try.underlying2 k0_1
  simp at ea0_1; subst ea0_1
  obtain ⟨a0_2, ea0_2, rfl, wa0_2⟩ := DataW.trod_int Try.underlying2 k0_2
  simp at ea0_2; subst ea0_2
  obtain ⟨a0_3, ea0_3, rfl, wa0_3⟩ := DataW.trod_int Try.underlying2 k0_3
  simp at ea0_3; subst ea0_3
  obtain ⟨ra1, rl1, rc1, rfl⟩ := okWide_slice Try.underlying30 (hval 1 30 v1 rfl rfl)
  have hk1 := h1
  obtain ⟨fu1, hf1⟩ := h1
  obtain ⟨L1, hR1, _⟩ := open_rows (v := .slice ra1 rl1 rc1) Try.underlying30 Try.underlying29 Try.underlying23 (by kernel_rfl) (by kernel_rfl) (by kernel_rfl) Try.underlying2 Try.underlying2 hf1
  obtain ⟨c2_0, c2_1, y2_0, y2_1, m2, rfl, rfl, rfl, k2_0, k2_1⟩ := open_agg2 Try.underlying23 (by kernel_rfl) (by kernel_rfl) (hval 2 23 v2 rfl rfl) h2
  obtain ⟨a2_0, ea2_0, rfl, wa2_0⟩ := DataW.trod_int Try.underlying2 k2_0
  simp at ea2_0; subst ea2_0
  obtain ⟨a2_1, ea2_1, rfl, wa2_1⟩ := DataW.trod_int Try.underlying2 k2_1
  simp at ea2_1; subst ea2_1
  obtain ⟨a3, rfl, rfl, rfl, w3⟩ := open_int Try.underlying3 (hval 3 3 v3 rfl rfl) h3
  obtain ⟨c4_0, c4_1, y4_0, y4_1, m4, rfl, rfl, rfl, k4_0, k4_1⟩ := open_agg2 Try.underlying23 (by kernel_rfl) (by kernel_rfl) (hval 4 23 v4 rfl rfl) h4
  obtain ⟨a4_0, ea4_0, rfl, wa4_0⟩ := DataW.trod_int Try.underlying2 k4_0
  simp at ea4_0; subst ea4_0
  obtain ⟨a4_1, ea4_1, rfl, wa4_1⟩ := DataW.trod_int Try.underlying2 k4_1
  simp at ea4_1; subst ea4_1
  have s0 : ∀ (W' : World) (sp : Nat → Bool), DataW.Trod enc Try.prog W' 0 sp true 33 (.agg #[.int .i64 a0_0, .int .i64 a0_1, .int .i64 a0_2, .int .i64 a0_3]) (.agg [.lit (.int .i64 a0_0), .lit (.int .i64 a0_1), .lit (.int .i64 a0_2), .lit (.int .i64 a0_3)]) [] := fun W' sp =>
    shut_agg4 (y0 := (.lit (.int .i64 a0_0), [])) (y1 := (.lit (.int .i64 a0_1), [])) (y2 := (.lit (.int .i64 a0_2), [])) (y3 := (.lit (.int .i64 a0_3), [])) Try.underlying33 (by kernel_rfl) (by kernel_rfl) ⟨1, by simp [DataW.trod, Try.underlying2, wa0_0]⟩ ⟨1, by simp [DataW.trod, Try.underlying2, wa0_1]⟩ ⟨1, by simp [DataW.trod, Try.underlying2, wa0_2]⟩ ⟨1, by simp [DataW.trod, Try.underlying2, wa0_3]⟩
  have s2 : ∀ (W' : World) (sp : Nat → Bool), DataW.Trod enc Try.prog W' 0 sp true 23 (.agg #[.int .i64 a2_0, .int .i64 a2_1]) (.agg [.lit (.int .i64 a2_0), .lit (.int .i64 a2_1)]) [] := fun W' sp =>
    shut_agg2 (y0 := (.lit (.int .i64 a2_0), [])) (y1 := (.lit (.int .i64 a2_1), [])) Try.underlying23 (by kernel_rfl) (by kernel_rfl) ⟨1, by simp [DataW.trod, Try.underlying2, wa2_0]⟩ ⟨1, by simp [DataW.trod, Try.underlying2, wa2_1]⟩
  have s4 : ∀ (W' : World) (sp : Nat → Bool), DataW.Trod enc Try.prog W' 0 sp true 23 (.agg #[.int .i64 a4_0, .int .i64 a4_1]) (.agg [.lit (.int .i64 a4_0), .lit (.int .i64 a4_1)]) [] := fun W' sp =>
    shut_agg2 (y0 := (.lit (.int .i64 a4_0), [])) (y1 := (.lit (.int .i64 a4_1), [])) Try.underlying23 (by kernel_rfl) (by kernel_rfl) ⟨1, by simp [DataW.trod, Try.underlying2, wa4_0]⟩ ⟨1, by simp [DataW.trod, Try.underlying2, wa4_1]⟩
  clear hA0 hval0
  simp only [List.append_nil, List.nil_append] at hW'
  have hlt1 : ∀ x ∈ p1, x.block < W.heap.size := fun x hx => hW'.lt x (by simp [hx])
  refine (walk a0_0 a0_1 a0_2 a0_3 (.slice ra1 rl1 rc1) L1 a2_0 a2_1 a3 a4_0 a4_1 (bounds_i64 wa0_0).1 (bounds_i64 wa0_0).2 (bounds_i64 wa0_1).1 (bounds_i64 wa0_1).2 (bounds_i64 wa0_2).1 (bounds_i64 wa0_2).2 (bounds_i64 wa0_3).1 (bounds_i64 wa0_3).2 (bounds_i64 wa2_0).1 (bounds_i64 wa2_0).2 (bounds_i64 wa2_1).1 (bounds_i64 wa2_1).2 (bounds_i64 w3).1 (bounds_i64 w3).2 (bounds_i64 wa4_0).1 (bounds_i64 wa4_0).2 (bounds_i64 wa4_1).1 (bounds_i64 wa4_1).2 W hR1).mono fun e W' ⟨he, bel⟩ => ?_
  subst he
  have hargs := (trodAll_cons_mk (s0 _ _) (trodAll_cons_mk (Below.trod laidOut (by kernel_rfl) (of_decide_eq_true (by kernel_rfl)) hk1 bel hlt1) (trodAll_cons_mk (s2 _ _) (trodAll_cons_mk (shut_int Try.underlying3 w3) (trodAll_cons_mk (s4 _ _) trodAll_mk0)))))
  simp only [List.append_nil, List.nil_append] at hargs
  exact ⟨_, rfl, _, _, _, [], _, [], hW', trodAll_mk1 (shut_bool Try.underlying4 _), hargs, rfl, bel.frame _, fun h => by cases h⟩
theorem over : Rows.polyTurnsRow.holds Try.pinned (OpenSpec.ofChange Rows.polyTurnsSpec) :=
  OpenClaim.holds_of_wide 6 Try.f6 rfl rfl rfl rfl rfl rfl rfl ⟨rfl, rfl, rfl, rfl, rfl⟩ rfl rfl rfl rfl rfl (by kernel_rfl) Try.func6 (by kernel_rfl)
    (of_decide_eq_true (by kernel_rfl)) (by unfold Func.isWrapper; first | (rw [if_pos (by decide +kernel)]; kernel_rfl) | (rw [if_neg (by decide +kernel)]; exact ⟨rfl, rfl⟩))
    (fun os started H enc _ => lifted os started H enc)
theorem proved : Rows.PolyTurnsSaid := over
#print axioms proved
end Go.Proofs.Ytcpnfafhekgabaa.polyTurns
