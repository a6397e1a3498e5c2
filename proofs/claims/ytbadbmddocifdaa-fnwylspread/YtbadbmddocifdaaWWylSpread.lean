/-
  The walk of FnWylSpread: whatever the code, it comes out true, and nothing that was there is turned.
-/
import Derived.Test.YtbadbmddocifdaaGaz
namespace Go.Proofs.Ytbadbmddocifdaa
open Go.RowKit
set_option linter.unusedVariables false
set_option maxRecDepth 100000 in
set_option maxHeartbeats 8000000 in
theorem walk_FnWylSpread (w : World) (a0 : Option Addr) (len0 cap0 : Nat) (s0 : Src w a0 len0 cap0) (a1 : Option Addr) (len1 cap1 : Nat) (s1 : Src w a1 len1 cap1) :
    Calls Try.prog 4 #[.slice a0 len0 cap0, .slice a1 len1 cap1] w fun e w' => e = .returned (.bool true) ∧ Below w.heap.size w w' := by
  by_cases c0 : (1048576 : Int) < (len0 : Int)
  · go_enter Try.func4, Try.ntmps4
    go_wp2
    go_ret
    exact ⟨rfl, Below.refl _ _⟩
  by_cases c1 : (1048576 : Int) < (len1 : Int)
  · go_enter Try.func4, Try.ntmps4
    go_wp2
    go_ret
    exact ⟨rfl, Below.refl _ _⟩
  go_enter Try.func4, Try.ntmps4
  go_wp2_with fail
  refine (drawWylMul w a0 len0 cap0 s0).mono ?_
  rintro e wd ⟨da, dca, A, db, dcb, B, rfl, hA, hB, hlA, hlB, hbd⟩
  have HA0 := Hid.mk' hA
  have HB0 := Hid.mk' hB
  have Z0 := Hid.mk' hbd
  have S1 := Hid.mk' (s1.below hbd)
  clear hA hB hbd s0 s1
  go_wp2_with fail
  refine (drawWylMul wd a1 len1 cap1 S1.out).mono ?_
  rintro e we ⟨dc, dcc, C, dd, dcd, D, rfl, hC, hD, hlC, hlD, hbe⟩
  have HC0 := Hid.mk' hC
  clear hC hD S1
  have H1 := Hid.mk' (HA0.out.below hbe)
  clear HA0
  have H2 := Hid.mk' (HB0.out.below hbe)
  clear HB0
  have Z3 := Hid.mk' (bel_next Z0.out hbe)
  clear Z0
  clear hbe
  rcases wmV_if A B with h1 | ⟨P, h1⟩
  · go_wp2_with fail
    refine (wmI_L H1.out H2.out).mono ?_
    rw [h1]
    rintro e w4 ⟨a5, c6, rfl, b7, r8⟩
    have H9 := Hid.mk' (H1.out.below b7)
    clear H1
    have H10 := Hid.mk' (H2.out.below b7)
    clear H2
    have H11 := Hid.mk' (HC0.out.below b7)
    clear HC0
    have Z12 := Hid.mk' (bel_next Z3.out b7)
    clear Z3
    have H13 : Hid (RL w4 a5 c6 []) := r8
    clear r8
    clear b7
    go_wp2_with fail
    refine (wmS_L H9.out H10.out).mono ?_
    rw [h1]
    rintro e w14 ⟨a15, c16, rfl, b17, r18⟩
    have H19 := Hid.mk' (H9.out.below b17)
    clear H9
    have H20 := Hid.mk' (H10.out.below b17)
    clear H10
    have H21 := Hid.mk' (H11.out.below b17)
    clear H11
    have H22 := Hid.mk' (H13.out.below b17)
    clear H13
    have Z23 := Hid.mk' (bel_next Z12.out b17)
    clear Z12
    have H24 : Hid (RL w14 a15 c16 []) := r18
    clear r18
    clear b17
    go_wp2_with fail
    refine (he_L H22.out H24.out).mono ?_
    rw [sq_same]
    rintro e w25 ⟨rfl, b26⟩
    have H27 := Hid.mk' (H19.out.below b26)
    clear H19
    have H28 := Hid.mk' (H20.out.below b26)
    clear H20
    have H29 := Hid.mk' (H21.out.below b26)
    clear H21
    have H30 := Hid.mk' (H22.out.below b26)
    clear H22
    have H31 := Hid.mk' (H24.out.below b26)
    clear H24
    have Z32 := Hid.mk' (bel_next Z23.out b26)
    clear Z23
    clear b26
    rcases addV_if B C with hS | ⟨S, hS⟩
    · go_wp2_with fail
      refine (addI_L H28.out H29.out).mono ?_
      rw [hS]
      rintro e w33 ⟨a34, c35, rfl, b36, r37⟩
      have H38 := Hid.mk' (H27.out.below b36)
      clear H27
      have H39 := Hid.mk' (H28.out.below b36)
      clear H28
      have H40 := Hid.mk' (H29.out.below b36)
      clear H29
      have H41 := Hid.mk' (H30.out.below b36)
      clear H30
      have H42 := Hid.mk' (H31.out.below b36)
      clear H31
      have Z43 := Hid.mk' (bel_next Z32.out b36)
      clear Z32
      have H44 : Hid (RL w33 a34 c35 []) := r37
      clear r37
      clear b36
      go_wp2_with fail
      refine (heOk_L _ ).mono ?_
      rintro e w45 ⟨rfl, b46⟩
      have H47 := Hid.mk' (H38.out.below b46)
      clear H38
      have H48 := Hid.mk' (H39.out.below b46)
      clear H39
      have H49 := Hid.mk' (H40.out.below b46)
      clear H40
      have H50 := Hid.mk' (H41.out.below b46)
      clear H41
      have H51 := Hid.mk' (H42.out.below b46)
      clear H42
      have H52 := Hid.mk' (H44.out.below b46)
      clear H44
      have Z53 := Hid.mk' (bel_next Z43.out b46)
      clear Z43
      clear b46
      go_wp2
      go_ret
      exact ⟨rfl, Z53.out⟩
    · go_wp2_with fail
      refine (addI_L H28.out H29.out).mono ?_
      rw [hS]
      rintro e w54 ⟨a55, c56, rfl, b57, r58⟩
      have H59 := Hid.mk' (H27.out.below b57)
      clear H27
      have H60 := Hid.mk' (H28.out.below b57)
      clear H28
      have H61 := Hid.mk' (H29.out.below b57)
      clear H29
      have H62 := Hid.mk' (H30.out.below b57)
      clear H30
      have H63 := Hid.mk' (H31.out.below b57)
      clear H31
      have Z64 := Hid.mk' (bel_next Z32.out b57)
      clear Z32
      have H65 : Hid (RL w54 a55 c56 S) := r58
      clear r58
      clear b57
      go_wp2_with fail
      refine (heOk_L _ ).mono ?_
      rintro e w66 ⟨rfl, b67⟩
      have H68 := Hid.mk' (H59.out.below b67)
      clear H59
      have H69 := Hid.mk' (H60.out.below b67)
      clear H60
      have H70 := Hid.mk' (H61.out.below b67)
      clear H61
      have H71 := Hid.mk' (H62.out.below b67)
      clear H62
      have H72 := Hid.mk' (H63.out.below b67)
      clear H63
      have H73 := Hid.mk' (H65.out.below b67)
      clear H65
      have Z74 := Hid.mk' (bel_next Z64.out b67)
      clear Z64
      clear b67
      go_wp2
      go_ret
      exact ⟨rfl, Z74.out⟩
  · go_wp2_with fail
    refine (wmI_L H1.out H2.out).mono ?_
    rw [h1]
    rintro e w75 ⟨a76, c77, rfl, b78, r79⟩
    have H80 := Hid.mk' (H1.out.below b78)
    clear H1
    have H81 := Hid.mk' (H2.out.below b78)
    clear H2
    have H82 := Hid.mk' (HC0.out.below b78)
    clear HC0
    have Z83 := Hid.mk' (bel_next Z3.out b78)
    clear Z3
    have H84 : Hid (RL w75 a76 c77 P) := r79
    clear r79
    clear b78
    go_wp2_with fail
    refine (wmS_L H80.out H81.out).mono ?_
    rw [h1]
    rintro e w85 ⟨a86, c87, rfl, b88, r89⟩
    have H90 := Hid.mk' (H80.out.below b88)
    clear H80
    have H91 := Hid.mk' (H81.out.below b88)
    clear H81
    have H92 := Hid.mk' (H82.out.below b88)
    clear H82
    have H93 := Hid.mk' (H84.out.below b88)
    clear H84
    have Z94 := Hid.mk' (bel_next Z83.out b88)
    clear Z83
    have H95 : Hid (RL w85 a86 c87 P) := r89
    clear r89
    clear b88
    go_wp2_with fail
    refine (he_L H93.out H95.out).mono ?_
    rw [sq_same]
    rintro e w96 ⟨rfl, b97⟩
    have H98 := Hid.mk' (H90.out.below b97)
    clear H90
    have H99 := Hid.mk' (H91.out.below b97)
    clear H91
    have H100 := Hid.mk' (H92.out.below b97)
    clear H92
    have H101 := Hid.mk' (H93.out.below b97)
    clear H93
    have H102 := Hid.mk' (H95.out.below b97)
    clear H95
    have Z103 := Hid.mk' (bel_next Z94.out b97)
    clear Z94
    clear b97
    rcases addV_if B C with hS | ⟨S, hS⟩
    · go_wp2_with fail
      refine (addI_L H99.out H100.out).mono ?_
      rw [hS]
      rintro e w104 ⟨a105, c106, rfl, b107, r108⟩
      have H109 := Hid.mk' (H98.out.below b107)
      clear H98
      have H110 := Hid.mk' (H99.out.below b107)
      clear H99
      have H111 := Hid.mk' (H100.out.below b107)
      clear H100
      have H112 := Hid.mk' (H101.out.below b107)
      clear H101
      have H113 := Hid.mk' (H102.out.below b107)
      clear H102
      have Z114 := Hid.mk' (bel_next Z103.out b107)
      clear Z103
      have H115 : Hid (RL w104 a105 c106 []) := r108
      clear r108
      clear b107
      go_wp2_with fail
      refine (heOk_L _ ).mono ?_
      rintro e w116 ⟨rfl, b117⟩
      have H118 := Hid.mk' (H109.out.below b117)
      clear H109
      have H119 := Hid.mk' (H110.out.below b117)
      clear H110
      have H120 := Hid.mk' (H111.out.below b117)
      clear H111
      have H121 := Hid.mk' (H112.out.below b117)
      clear H112
      have H122 := Hid.mk' (H113.out.below b117)
      clear H113
      have H123 := Hid.mk' (H115.out.below b117)
      clear H115
      have Z124 := Hid.mk' (bel_next Z114.out b117)
      clear Z114
      clear b117
      go_wp2
      go_ret
      exact ⟨rfl, Z124.out⟩
    · go_wp2_with fail
      refine (addI_L H99.out H100.out).mono ?_
      rw [hS]
      rintro e w125 ⟨a126, c127, rfl, b128, r129⟩
      have H130 := Hid.mk' (H98.out.below b128)
      clear H98
      have H131 := Hid.mk' (H99.out.below b128)
      clear H99
      have H132 := Hid.mk' (H100.out.below b128)
      clear H100
      have H133 := Hid.mk' (H101.out.below b128)
      clear H101
      have H134 := Hid.mk' (H102.out.below b128)
      clear H102
      have Z135 := Hid.mk' (bel_next Z103.out b128)
      clear Z103
      have H136 : Hid (RL w125 a126 c127 S) := r129
      clear r129
      clear b128
      have e3 := wm_sc (c := 7) (by omega) (by omega) h1
      have e4 : scV 7 A = scL 7 A := scV_is (by omega) (by omega) (wm_args h1).1
      have e5 : scV 7 P = scL 7 P := scV_is (by omega) (by omega) (wm_ok h1)
      obtain ⟨YY, o1, k1⟩ : ∃ L o, wmV A C = (L, o) := ⟨_, _, rfl⟩
      go_wp2_with fail
      refine (wmI_L H130.out H132.out).mono ?_
      rw [k1]
      rintro e w137 ⟨a138, c139, rfl, b140, r141⟩
      have H142 := Hid.mk' (H130.out.below b140)
      clear H130
      have H143 := Hid.mk' (H131.out.below b140)
      clear H131
      have H144 := Hid.mk' (H132.out.below b140)
      clear H132
      have H145 := Hid.mk' (H133.out.below b140)
      clear H133
      have H146 := Hid.mk' (H134.out.below b140)
      clear H134
      have H147 := Hid.mk' (H136.out.below b140)
      clear H136
      have Z148 := Hid.mk' (bel_next Z135.out b140)
      clear Z135
      have H149 : Hid (RL w137 a138 c139 YY) := r141
      clear r141
      clear b140
      obtain ⟨UU, o2, k2⟩ : ∃ L o, wmV A S = (L, o) := ⟨_, _, rfl⟩
      go_wp2_with fail
      refine (wmI_L H142.out H147.out).mono ?_
      rw [k2]
      rintro e w150 ⟨a151, c152, rfl, b153, r154⟩
      have H155 := Hid.mk' (H142.out.below b153)
      clear H142
      have H156 := Hid.mk' (H143.out.below b153)
      clear H143
      have H157 := Hid.mk' (H144.out.below b153)
      clear H144
      have H158 := Hid.mk' (H145.out.below b153)
      clear H145
      have H159 := Hid.mk' (H146.out.below b153)
      clear H146
      have H160 := Hid.mk' (H147.out.below b153)
      clear H147
      have H161 := Hid.mk' (H149.out.below b153)
      clear H149
      have Z162 := Hid.mk' (bel_next Z148.out b153)
      clear Z148
      have H163 : Hid (RL w150 a151 c152 UU) := r154
      clear r154
      clear b153
      obtain ⟨VV, o3, k3⟩ : ∃ L o, wmV S A = (L, o) := ⟨_, _, rfl⟩
      go_wp2_with fail
      refine (wmI_L H160.out H155.out).mono ?_
      rw [k3]
      rintro e w164 ⟨a165, c166, rfl, b167, r168⟩
      have H169 := Hid.mk' (H155.out.below b167)
      clear H155
      have H170 := Hid.mk' (H156.out.below b167)
      clear H156
      have H171 := Hid.mk' (H157.out.below b167)
      clear H157
      have H172 := Hid.mk' (H158.out.below b167)
      clear H158
      have H173 := Hid.mk' (H159.out.below b167)
      clear H159
      have H174 := Hid.mk' (H160.out.below b167)
      clear H160
      have H175 := Hid.mk' (H161.out.below b167)
      clear H161
      have H176 := Hid.mk' (H163.out.below b167)
      clear H163
      have Z177 := Hid.mk' (bel_next Z162.out b167)
      clear Z162
      have H178 : Hid (RL w164 a165 c166 VV) := r168
      clear r168
      clear b167
      obtain ⟨WW, o4, k4⟩ : ∃ L o, wmV B A = (L, o) := ⟨_, _, rfl⟩
      go_wp2_with fail
      refine (wmI_L H170.out H169.out).mono ?_
      rw [k4]
      rintro e w179 ⟨a180, c181, rfl, b182, r183⟩
      have H184 := Hid.mk' (H169.out.below b182)
      clear H169
      have H185 := Hid.mk' (H170.out.below b182)
      clear H170
      have H186 := Hid.mk' (H171.out.below b182)
      clear H171
      have H187 := Hid.mk' (H172.out.below b182)
      clear H172
      have H188 := Hid.mk' (H173.out.below b182)
      clear H173
      have H189 := Hid.mk' (H174.out.below b182)
      clear H174
      have H190 := Hid.mk' (H175.out.below b182)
      clear H175
      have H191 := Hid.mk' (H176.out.below b182)
      clear H176
      have H192 := Hid.mk' (H178.out.below b182)
      clear H178
      have Z193 := Hid.mk' (bel_next Z177.out b182)
      clear Z177
      have H194 : Hid (RL w179 a180 c181 WW) := r183
      clear r183
      clear b182
      obtain ⟨ZZ, o5, k5⟩ : ∃ L o, wmV C A = (L, o) := ⟨_, _, rfl⟩
      go_wp2_with fail
      refine (wmI_L H186.out H184.out).mono ?_
      rw [k5]
      rintro e w195 ⟨a196, c197, rfl, b198, r199⟩
      have H200 := Hid.mk' (H184.out.below b198)
      clear H184
      have H201 := Hid.mk' (H185.out.below b198)
      clear H185
      have H202 := Hid.mk' (H186.out.below b198)
      clear H186
      have H203 := Hid.mk' (H187.out.below b198)
      clear H187
      have H204 := Hid.mk' (H188.out.below b198)
      clear H188
      have H205 := Hid.mk' (H189.out.below b198)
      clear H189
      have H206 := Hid.mk' (H190.out.below b198)
      clear H190
      have H207 := Hid.mk' (H191.out.below b198)
      clear H191
      have H208 := Hid.mk' (H192.out.below b198)
      clear H192
      have H209 := Hid.mk' (H194.out.below b198)
      clear H194
      have Z210 := Hid.mk' (bel_next Z193.out b198)
      clear Z193
      have H211 : Hid (RL w195 a196 c197 ZZ) := r199
      clear r199
      clear b198
      cases o1
      · cases o3
        · go_wp2_with fail
          refine (scI_L 7 H200.out).mono ?_
          rw [e4]
          rintro e w212 ⟨a213, c214, rfl, b215, r216⟩
          have H217 := Hid.mk' (H200.out.below b215)
          clear H200
          have H218 := Hid.mk' (H201.out.below b215)
          clear H201
          have H219 := Hid.mk' (H202.out.below b215)
          clear H202
          have H220 := Hid.mk' (H203.out.below b215)
          clear H203
          have H221 := Hid.mk' (H204.out.below b215)
          clear H204
          have H222 := Hid.mk' (H205.out.below b215)
          clear H205
          have H223 := Hid.mk' (H206.out.below b215)
          clear H206
          have H224 := Hid.mk' (H207.out.below b215)
          clear H207
          have H225 := Hid.mk' (H208.out.below b215)
          clear H208
          have H226 := Hid.mk' (H209.out.below b215)
          clear H209
          have H227 := Hid.mk' (H211.out.below b215)
          clear H211
          have Z228 := Hid.mk' (bel_next Z210.out b215)
          clear Z210
          have H229 : Hid (RL w212 a213 c214 (scL 7 A)) := r216
          clear r216
          clear b215
          go_wp2_with fail
          refine (wmI_L H229.out H218.out).mono ?_
          rw [e3]
          rintro e w230 ⟨a231, c232, rfl, b233, r234⟩
          have H235 := Hid.mk' (H217.out.below b233)
          clear H217
          have H236 := Hid.mk' (H218.out.below b233)
          clear H218
          have H237 := Hid.mk' (H219.out.below b233)
          clear H219
          have H238 := Hid.mk' (H220.out.below b233)
          clear H220
          have H239 := Hid.mk' (H221.out.below b233)
          clear H221
          have H240 := Hid.mk' (H222.out.below b233)
          clear H222
          have H241 := Hid.mk' (H223.out.below b233)
          clear H223
          have H242 := Hid.mk' (H224.out.below b233)
          clear H224
          have H243 := Hid.mk' (H225.out.below b233)
          clear H225
          have H244 := Hid.mk' (H226.out.below b233)
          clear H226
          have H245 := Hid.mk' (H227.out.below b233)
          clear H227
          have H246 := Hid.mk' (H229.out.below b233)
          clear H229
          have Z247 := Hid.mk' (bel_next Z228.out b233)
          clear Z228
          have H248 : Hid (RL w230 a231 c232 (scL 7 P)) := r234
          clear r234
          clear b233
          go_wp2_with fail
          refine (scI_L 7 H238.out).mono ?_
          rw [e5]
          rintro e w249 ⟨a250, c251, rfl, b252, r253⟩
          have H254 := Hid.mk' (H235.out.below b252)
          clear H235
          have H255 := Hid.mk' (H236.out.below b252)
          clear H236
          have H256 := Hid.mk' (H237.out.below b252)
          clear H237
          have H257 := Hid.mk' (H238.out.below b252)
          clear H238
          have H258 := Hid.mk' (H239.out.below b252)
          clear H239
          have H259 := Hid.mk' (H240.out.below b252)
          clear H240
          have H260 := Hid.mk' (H241.out.below b252)
          clear H241
          have H261 := Hid.mk' (H242.out.below b252)
          clear H242
          have H262 := Hid.mk' (H243.out.below b252)
          clear H243
          have H263 := Hid.mk' (H244.out.below b252)
          clear H244
          have H264 := Hid.mk' (H245.out.below b252)
          clear H245
          have H265 := Hid.mk' (H246.out.below b252)
          clear H246
          have H266 := Hid.mk' (H248.out.below b252)
          clear H248
          have Z267 := Hid.mk' (bel_next Z247.out b252)
          clear Z247
          have H268 : Hid (RL w249 a250 c251 (scL 7 P)) := r253
          clear r253
          clear b252
          go_wp2_with fail
          refine (he_L H266.out H268.out).mono ?_
          rw [sq_same]
          rintro e w269 ⟨rfl, b270⟩
          have H271 := Hid.mk' (H254.out.below b270)
          clear H254
          have H272 := Hid.mk' (H255.out.below b270)
          clear H255
          have H273 := Hid.mk' (H256.out.below b270)
          clear H256
          have H274 := Hid.mk' (H257.out.below b270)
          clear H257
          have H275 := Hid.mk' (H258.out.below b270)
          clear H258
          have H276 := Hid.mk' (H259.out.below b270)
          clear H259
          have H277 := Hid.mk' (H260.out.below b270)
          clear H260
          have H278 := Hid.mk' (H261.out.below b270)
          clear H261
          have H279 := Hid.mk' (H262.out.below b270)
          clear H262
          have H280 := Hid.mk' (H263.out.below b270)
          clear H263
          have H281 := Hid.mk' (H264.out.below b270)
          clear H264
          have H282 := Hid.mk' (H265.out.below b270)
          clear H265
          have H283 := Hid.mk' (H266.out.below b270)
          clear H266
          have H284 := Hid.mk' (H268.out.below b270)
          clear H268
          have Z285 := Hid.mk' (bel_next Z267.out b270)
          clear Z267
          clear b270
          go_wp2_with fail
          refine (heOk_L _ ).mono ?_
          rintro e w286 ⟨rfl, b287⟩
          have H288 := Hid.mk' (H271.out.below b287)
          clear H271
          have H289 := Hid.mk' (H272.out.below b287)
          clear H272
          have H290 := Hid.mk' (H273.out.below b287)
          clear H273
          have H291 := Hid.mk' (H274.out.below b287)
          clear H274
          have H292 := Hid.mk' (H275.out.below b287)
          clear H275
          have H293 := Hid.mk' (H276.out.below b287)
          clear H276
          have H294 := Hid.mk' (H277.out.below b287)
          clear H277
          have H295 := Hid.mk' (H278.out.below b287)
          clear H278
          have H296 := Hid.mk' (H279.out.below b287)
          clear H279
          have H297 := Hid.mk' (H280.out.below b287)
          clear H280
          have H298 := Hid.mk' (H281.out.below b287)
          clear H281
          have H299 := Hid.mk' (H282.out.below b287)
          clear H282
          have H300 := Hid.mk' (H283.out.below b287)
          clear H283
          have H301 := Hid.mk' (H284.out.below b287)
          clear H284
          have Z302 := Hid.mk' (bel_next Z285.out b287)
          clear Z285
          clear b287
          go_wp2
          go_ret
          exact ⟨rfl, Z302.out⟩
        · cases o4
          · go_wp2_with fail
            refine (scI_L 7 H200.out).mono ?_
            rw [e4]
            rintro e w303 ⟨a304, c305, rfl, b306, r307⟩
            have H308 := Hid.mk' (H200.out.below b306)
            clear H200
            have H309 := Hid.mk' (H201.out.below b306)
            clear H201
            have H310 := Hid.mk' (H202.out.below b306)
            clear H202
            have H311 := Hid.mk' (H203.out.below b306)
            clear H203
            have H312 := Hid.mk' (H204.out.below b306)
            clear H204
            have H313 := Hid.mk' (H205.out.below b306)
            clear H205
            have H314 := Hid.mk' (H206.out.below b306)
            clear H206
            have H315 := Hid.mk' (H207.out.below b306)
            clear H207
            have H316 := Hid.mk' (H208.out.below b306)
            clear H208
            have H317 := Hid.mk' (H209.out.below b306)
            clear H209
            have H318 := Hid.mk' (H211.out.below b306)
            clear H211
            have Z319 := Hid.mk' (bel_next Z210.out b306)
            clear Z210
            have H320 : Hid (RL w303 a304 c305 (scL 7 A)) := r307
            clear r307
            clear b306
            go_wp2_with fail
            refine (wmI_L H320.out H309.out).mono ?_
            rw [e3]
            rintro e w321 ⟨a322, c323, rfl, b324, r325⟩
            have H326 := Hid.mk' (H308.out.below b324)
            clear H308
            have H327 := Hid.mk' (H309.out.below b324)
            clear H309
            have H328 := Hid.mk' (H310.out.below b324)
            clear H310
            have H329 := Hid.mk' (H311.out.below b324)
            clear H311
            have H330 := Hid.mk' (H312.out.below b324)
            clear H312
            have H331 := Hid.mk' (H313.out.below b324)
            clear H313
            have H332 := Hid.mk' (H314.out.below b324)
            clear H314
            have H333 := Hid.mk' (H315.out.below b324)
            clear H315
            have H334 := Hid.mk' (H316.out.below b324)
            clear H316
            have H335 := Hid.mk' (H317.out.below b324)
            clear H317
            have H336 := Hid.mk' (H318.out.below b324)
            clear H318
            have H337 := Hid.mk' (H320.out.below b324)
            clear H320
            have Z338 := Hid.mk' (bel_next Z319.out b324)
            clear Z319
            have H339 : Hid (RL w321 a322 c323 (scL 7 P)) := r325
            clear r325
            clear b324
            go_wp2_with fail
            refine (scI_L 7 H329.out).mono ?_
            rw [e5]
            rintro e w340 ⟨a341, c342, rfl, b343, r344⟩
            have H345 := Hid.mk' (H326.out.below b343)
            clear H326
            have H346 := Hid.mk' (H327.out.below b343)
            clear H327
            have H347 := Hid.mk' (H328.out.below b343)
            clear H328
            have H348 := Hid.mk' (H329.out.below b343)
            clear H329
            have H349 := Hid.mk' (H330.out.below b343)
            clear H330
            have H350 := Hid.mk' (H331.out.below b343)
            clear H331
            have H351 := Hid.mk' (H332.out.below b343)
            clear H332
            have H352 := Hid.mk' (H333.out.below b343)
            clear H333
            have H353 := Hid.mk' (H334.out.below b343)
            clear H334
            have H354 := Hid.mk' (H335.out.below b343)
            clear H335
            have H355 := Hid.mk' (H336.out.below b343)
            clear H336
            have H356 := Hid.mk' (H337.out.below b343)
            clear H337
            have H357 := Hid.mk' (H339.out.below b343)
            clear H339
            have Z358 := Hid.mk' (bel_next Z338.out b343)
            clear Z338
            have H359 : Hid (RL w340 a341 c342 (scL 7 P)) := r344
            clear r344
            clear b343
            go_wp2_with fail
            refine (he_L H357.out H359.out).mono ?_
            rw [sq_same]
            rintro e w360 ⟨rfl, b361⟩
            have H362 := Hid.mk' (H345.out.below b361)
            clear H345
            have H363 := Hid.mk' (H346.out.below b361)
            clear H346
            have H364 := Hid.mk' (H347.out.below b361)
            clear H347
            have H365 := Hid.mk' (H348.out.below b361)
            clear H348
            have H366 := Hid.mk' (H349.out.below b361)
            clear H349
            have H367 := Hid.mk' (H350.out.below b361)
            clear H350
            have H368 := Hid.mk' (H351.out.below b361)
            clear H351
            have H369 := Hid.mk' (H352.out.below b361)
            clear H352
            have H370 := Hid.mk' (H353.out.below b361)
            clear H353
            have H371 := Hid.mk' (H354.out.below b361)
            clear H354
            have H372 := Hid.mk' (H355.out.below b361)
            clear H355
            have H373 := Hid.mk' (H356.out.below b361)
            clear H356
            have H374 := Hid.mk' (H357.out.below b361)
            clear H357
            have H375 := Hid.mk' (H359.out.below b361)
            clear H359
            have Z376 := Hid.mk' (bel_next Z358.out b361)
            clear Z358
            clear b361
            go_wp2_with fail
            refine (heOk_L _ ).mono ?_
            rintro e w377 ⟨rfl, b378⟩
            have H379 := Hid.mk' (H362.out.below b378)
            clear H362
            have H380 := Hid.mk' (H363.out.below b378)
            clear H363
            have H381 := Hid.mk' (H364.out.below b378)
            clear H364
            have H382 := Hid.mk' (H365.out.below b378)
            clear H365
            have H383 := Hid.mk' (H366.out.below b378)
            clear H366
            have H384 := Hid.mk' (H367.out.below b378)
            clear H367
            have H385 := Hid.mk' (H368.out.below b378)
            clear H368
            have H386 := Hid.mk' (H369.out.below b378)
            clear H369
            have H387 := Hid.mk' (H370.out.below b378)
            clear H370
            have H388 := Hid.mk' (H371.out.below b378)
            clear H371
            have H389 := Hid.mk' (H372.out.below b378)
            clear H372
            have H390 := Hid.mk' (H373.out.below b378)
            clear H373
            have H391 := Hid.mk' (H374.out.below b378)
            clear H374
            have H392 := Hid.mk' (H375.out.below b378)
            clear H375
            have Z393 := Hid.mk' (bel_next Z376.out b378)
            clear Z376
            clear b378
            go_wp2
            go_ret
            exact ⟨rfl, Z393.out⟩
          · cases o5
            · go_wp2_with fail
              refine (scI_L 7 H200.out).mono ?_
              rw [e4]
              rintro e w394 ⟨a395, c396, rfl, b397, r398⟩
              have H399 := Hid.mk' (H200.out.below b397)
              clear H200
              have H400 := Hid.mk' (H201.out.below b397)
              clear H201
              have H401 := Hid.mk' (H202.out.below b397)
              clear H202
              have H402 := Hid.mk' (H203.out.below b397)
              clear H203
              have H403 := Hid.mk' (H204.out.below b397)
              clear H204
              have H404 := Hid.mk' (H205.out.below b397)
              clear H205
              have H405 := Hid.mk' (H206.out.below b397)
              clear H206
              have H406 := Hid.mk' (H207.out.below b397)
              clear H207
              have H407 := Hid.mk' (H208.out.below b397)
              clear H208
              have H408 := Hid.mk' (H209.out.below b397)
              clear H209
              have H409 := Hid.mk' (H211.out.below b397)
              clear H211
              have Z410 := Hid.mk' (bel_next Z210.out b397)
              clear Z210
              have H411 : Hid (RL w394 a395 c396 (scL 7 A)) := r398
              clear r398
              clear b397
              go_wp2_with fail
              refine (wmI_L H411.out H400.out).mono ?_
              rw [e3]
              rintro e w412 ⟨a413, c414, rfl, b415, r416⟩
              have H417 := Hid.mk' (H399.out.below b415)
              clear H399
              have H418 := Hid.mk' (H400.out.below b415)
              clear H400
              have H419 := Hid.mk' (H401.out.below b415)
              clear H401
              have H420 := Hid.mk' (H402.out.below b415)
              clear H402
              have H421 := Hid.mk' (H403.out.below b415)
              clear H403
              have H422 := Hid.mk' (H404.out.below b415)
              clear H404
              have H423 := Hid.mk' (H405.out.below b415)
              clear H405
              have H424 := Hid.mk' (H406.out.below b415)
              clear H406
              have H425 := Hid.mk' (H407.out.below b415)
              clear H407
              have H426 := Hid.mk' (H408.out.below b415)
              clear H408
              have H427 := Hid.mk' (H409.out.below b415)
              clear H409
              have H428 := Hid.mk' (H411.out.below b415)
              clear H411
              have Z429 := Hid.mk' (bel_next Z410.out b415)
              clear Z410
              have H430 : Hid (RL w412 a413 c414 (scL 7 P)) := r416
              clear r416
              clear b415
              go_wp2_with fail
              refine (scI_L 7 H420.out).mono ?_
              rw [e5]
              rintro e w431 ⟨a432, c433, rfl, b434, r435⟩
              have H436 := Hid.mk' (H417.out.below b434)
              clear H417
              have H437 := Hid.mk' (H418.out.below b434)
              clear H418
              have H438 := Hid.mk' (H419.out.below b434)
              clear H419
              have H439 := Hid.mk' (H420.out.below b434)
              clear H420
              have H440 := Hid.mk' (H421.out.below b434)
              clear H421
              have H441 := Hid.mk' (H422.out.below b434)
              clear H422
              have H442 := Hid.mk' (H423.out.below b434)
              clear H423
              have H443 := Hid.mk' (H424.out.below b434)
              clear H424
              have H444 := Hid.mk' (H425.out.below b434)
              clear H425
              have H445 := Hid.mk' (H426.out.below b434)
              clear H426
              have H446 := Hid.mk' (H427.out.below b434)
              clear H427
              have H447 := Hid.mk' (H428.out.below b434)
              clear H428
              have H448 := Hid.mk' (H430.out.below b434)
              clear H430
              have Z449 := Hid.mk' (bel_next Z429.out b434)
              clear Z429
              have H450 : Hid (RL w431 a432 c433 (scL 7 P)) := r435
              clear r435
              clear b434
              go_wp2_with fail
              refine (he_L H448.out H450.out).mono ?_
              rw [sq_same]
              rintro e w451 ⟨rfl, b452⟩
              have H453 := Hid.mk' (H436.out.below b452)
              clear H436
              have H454 := Hid.mk' (H437.out.below b452)
              clear H437
              have H455 := Hid.mk' (H438.out.below b452)
              clear H438
              have H456 := Hid.mk' (H439.out.below b452)
              clear H439
              have H457 := Hid.mk' (H440.out.below b452)
              clear H440
              have H458 := Hid.mk' (H441.out.below b452)
              clear H441
              have H459 := Hid.mk' (H442.out.below b452)
              clear H442
              have H460 := Hid.mk' (H443.out.below b452)
              clear H443
              have H461 := Hid.mk' (H444.out.below b452)
              clear H444
              have H462 := Hid.mk' (H445.out.below b452)
              clear H445
              have H463 := Hid.mk' (H446.out.below b452)
              clear H446
              have H464 := Hid.mk' (H447.out.below b452)
              clear H447
              have H465 := Hid.mk' (H448.out.below b452)
              clear H448
              have H466 := Hid.mk' (H450.out.below b452)
              clear H450
              have Z467 := Hid.mk' (bel_next Z449.out b452)
              clear Z449
              clear b452
              go_wp2_with fail
              refine (heOk_L _ ).mono ?_
              rintro e w468 ⟨rfl, b469⟩
              have H470 := Hid.mk' (H453.out.below b469)
              clear H453
              have H471 := Hid.mk' (H454.out.below b469)
              clear H454
              have H472 := Hid.mk' (H455.out.below b469)
              clear H455
              have H473 := Hid.mk' (H456.out.below b469)
              clear H456
              have H474 := Hid.mk' (H457.out.below b469)
              clear H457
              have H475 := Hid.mk' (H458.out.below b469)
              clear H458
              have H476 := Hid.mk' (H459.out.below b469)
              clear H459
              have H477 := Hid.mk' (H460.out.below b469)
              clear H460
              have H478 := Hid.mk' (H461.out.below b469)
              clear H461
              have H479 := Hid.mk' (H462.out.below b469)
              clear H462
              have H480 := Hid.mk' (H463.out.below b469)
              clear H463
              have H481 := Hid.mk' (H464.out.below b469)
              clear H464
              have H482 := Hid.mk' (H465.out.below b469)
              clear H465
              have H483 := Hid.mk' (H466.out.below b469)
              clear H466
              have Z484 := Hid.mk' (bel_next Z467.out b469)
              clear Z467
              clear b469
              go_wp2
              go_ret
              exact ⟨rfl, Z484.out⟩
            · have e2 := wm_right hS k4 k5 k3
              go_wp2_with fail
              refine (addI_L H209.out H211.out).mono ?_
              rw [e2]
              rintro e w485 ⟨a486, c487, rfl, b488, r489⟩
              have H490 := Hid.mk' (H200.out.below b488)
              clear H200
              have H491 := Hid.mk' (H201.out.below b488)
              clear H201
              have H492 := Hid.mk' (H202.out.below b488)
              clear H202
              have H493 := Hid.mk' (H203.out.below b488)
              clear H203
              have H494 := Hid.mk' (H204.out.below b488)
              clear H204
              have H495 := Hid.mk' (H205.out.below b488)
              clear H205
              have H496 := Hid.mk' (H206.out.below b488)
              clear H206
              have H497 := Hid.mk' (H207.out.below b488)
              clear H207
              have H498 := Hid.mk' (H208.out.below b488)
              clear H208
              have H499 := Hid.mk' (H209.out.below b488)
              clear H209
              have H500 := Hid.mk' (H211.out.below b488)
              clear H211
              have Z501 := Hid.mk' (bel_next Z210.out b488)
              clear Z210
              have H502 : Hid (RL w485 a486 c487 VV) := r489
              clear r489
              clear b488
              go_wp2_with fail
              refine (he_L H498.out H502.out).mono ?_
              rw [sq_same]
              rintro e w503 ⟨rfl, b504⟩
              have H505 := Hid.mk' (H490.out.below b504)
              clear H490
              have H506 := Hid.mk' (H491.out.below b504)
              clear H491
              have H507 := Hid.mk' (H492.out.below b504)
              clear H492
              have H508 := Hid.mk' (H493.out.below b504)
              clear H493
              have H509 := Hid.mk' (H494.out.below b504)
              clear H494
              have H510 := Hid.mk' (H495.out.below b504)
              clear H495
              have H511 := Hid.mk' (H496.out.below b504)
              clear H496
              have H512 := Hid.mk' (H497.out.below b504)
              clear H497
              have H513 := Hid.mk' (H498.out.below b504)
              clear H498
              have H514 := Hid.mk' (H499.out.below b504)
              clear H499
              have H515 := Hid.mk' (H500.out.below b504)
              clear H500
              have H516 := Hid.mk' (H502.out.below b504)
              clear H502
              have Z517 := Hid.mk' (bel_next Z501.out b504)
              clear Z501
              clear b504
              go_wp2_with fail
              refine (scI_L 7 H505.out).mono ?_
              rw [e4]
              rintro e w518 ⟨a519, c520, rfl, b521, r522⟩
              have H523 := Hid.mk' (H505.out.below b521)
              clear H505
              have H524 := Hid.mk' (H506.out.below b521)
              clear H506
              have H525 := Hid.mk' (H507.out.below b521)
              clear H507
              have H526 := Hid.mk' (H508.out.below b521)
              clear H508
              have H527 := Hid.mk' (H509.out.below b521)
              clear H509
              have H528 := Hid.mk' (H510.out.below b521)
              clear H510
              have H529 := Hid.mk' (H511.out.below b521)
              clear H511
              have H530 := Hid.mk' (H512.out.below b521)
              clear H512
              have H531 := Hid.mk' (H513.out.below b521)
              clear H513
              have H532 := Hid.mk' (H514.out.below b521)
              clear H514
              have H533 := Hid.mk' (H515.out.below b521)
              clear H515
              have H534 := Hid.mk' (H516.out.below b521)
              clear H516
              have Z535 := Hid.mk' (bel_next Z517.out b521)
              clear Z517
              have H536 : Hid (RL w518 a519 c520 (scL 7 A)) := r522
              clear r522
              clear b521
              go_wp2_with fail
              refine (wmI_L H536.out H524.out).mono ?_
              rw [e3]
              rintro e w537 ⟨a538, c539, rfl, b540, r541⟩
              have H542 := Hid.mk' (H523.out.below b540)
              clear H523
              have H543 := Hid.mk' (H524.out.below b540)
              clear H524
              have H544 := Hid.mk' (H525.out.below b540)
              clear H525
              have H545 := Hid.mk' (H526.out.below b540)
              clear H526
              have H546 := Hid.mk' (H527.out.below b540)
              clear H527
              have H547 := Hid.mk' (H528.out.below b540)
              clear H528
              have H548 := Hid.mk' (H529.out.below b540)
              clear H529
              have H549 := Hid.mk' (H530.out.below b540)
              clear H530
              have H550 := Hid.mk' (H531.out.below b540)
              clear H531
              have H551 := Hid.mk' (H532.out.below b540)
              clear H532
              have H552 := Hid.mk' (H533.out.below b540)
              clear H533
              have H553 := Hid.mk' (H534.out.below b540)
              clear H534
              have H554 := Hid.mk' (H536.out.below b540)
              clear H536
              have Z555 := Hid.mk' (bel_next Z535.out b540)
              clear Z535
              have H556 : Hid (RL w537 a538 c539 (scL 7 P)) := r541
              clear r541
              clear b540
              go_wp2_with fail
              refine (scI_L 7 H545.out).mono ?_
              rw [e5]
              rintro e w557 ⟨a558, c559, rfl, b560, r561⟩
              have H562 := Hid.mk' (H542.out.below b560)
              clear H542
              have H563 := Hid.mk' (H543.out.below b560)
              clear H543
              have H564 := Hid.mk' (H544.out.below b560)
              clear H544
              have H565 := Hid.mk' (H545.out.below b560)
              clear H545
              have H566 := Hid.mk' (H546.out.below b560)
              clear H546
              have H567 := Hid.mk' (H547.out.below b560)
              clear H547
              have H568 := Hid.mk' (H548.out.below b560)
              clear H548
              have H569 := Hid.mk' (H549.out.below b560)
              clear H549
              have H570 := Hid.mk' (H550.out.below b560)
              clear H550
              have H571 := Hid.mk' (H551.out.below b560)
              clear H551
              have H572 := Hid.mk' (H552.out.below b560)
              clear H552
              have H573 := Hid.mk' (H553.out.below b560)
              clear H553
              have H574 := Hid.mk' (H554.out.below b560)
              clear H554
              have H575 := Hid.mk' (H556.out.below b560)
              clear H556
              have Z576 := Hid.mk' (bel_next Z555.out b560)
              clear Z555
              have H577 : Hid (RL w557 a558 c559 (scL 7 P)) := r561
              clear r561
              clear b560
              go_wp2_with fail
              refine (he_L H575.out H577.out).mono ?_
              rw [sq_same]
              rintro e w578 ⟨rfl, b579⟩
              have H580 := Hid.mk' (H562.out.below b579)
              clear H562
              have H581 := Hid.mk' (H563.out.below b579)
              clear H563
              have H582 := Hid.mk' (H564.out.below b579)
              clear H564
              have H583 := Hid.mk' (H565.out.below b579)
              clear H565
              have H584 := Hid.mk' (H566.out.below b579)
              clear H566
              have H585 := Hid.mk' (H567.out.below b579)
              clear H567
              have H586 := Hid.mk' (H568.out.below b579)
              clear H568
              have H587 := Hid.mk' (H569.out.below b579)
              clear H569
              have H588 := Hid.mk' (H570.out.below b579)
              clear H570
              have H589 := Hid.mk' (H571.out.below b579)
              clear H571
              have H590 := Hid.mk' (H572.out.below b579)
              clear H572
              have H591 := Hid.mk' (H573.out.below b579)
              clear H573
              have H592 := Hid.mk' (H574.out.below b579)
              clear H574
              have H593 := Hid.mk' (H575.out.below b579)
              clear H575
              have H594 := Hid.mk' (H577.out.below b579)
              clear H577
              have Z595 := Hid.mk' (bel_next Z576.out b579)
              clear Z576
              clear b579
              go_wp2_with fail
              refine (heOk_L _ ).mono ?_
              rintro e w596 ⟨rfl, b597⟩
              have H598 := Hid.mk' (H580.out.below b597)
              clear H580
              have H599 := Hid.mk' (H581.out.below b597)
              clear H581
              have H600 := Hid.mk' (H582.out.below b597)
              clear H582
              have H601 := Hid.mk' (H583.out.below b597)
              clear H583
              have H602 := Hid.mk' (H584.out.below b597)
              clear H584
              have H603 := Hid.mk' (H585.out.below b597)
              clear H585
              have H604 := Hid.mk' (H586.out.below b597)
              clear H586
              have H605 := Hid.mk' (H587.out.below b597)
              clear H587
              have H606 := Hid.mk' (H588.out.below b597)
              clear H588
              have H607 := Hid.mk' (H589.out.below b597)
              clear H589
              have H608 := Hid.mk' (H590.out.below b597)
              clear H590
              have H609 := Hid.mk' (H591.out.below b597)
              clear H591
              have H610 := Hid.mk' (H592.out.below b597)
              clear H592
              have H611 := Hid.mk' (H593.out.below b597)
              clear H593
              have H612 := Hid.mk' (H594.out.below b597)
              clear H594
              have Z613 := Hid.mk' (bel_next Z595.out b597)
              clear Z595
              clear b597
              go_wp2
              go_ret
              exact ⟨rfl, Z613.out⟩
      · cases o2
        · cases o3
          · go_wp2_with fail
            refine (scI_L 7 H200.out).mono ?_
            rw [e4]
            rintro e w614 ⟨a615, c616, rfl, b617, r618⟩
            have H619 := Hid.mk' (H200.out.below b617)
            clear H200
            have H620 := Hid.mk' (H201.out.below b617)
            clear H201
            have H621 := Hid.mk' (H202.out.below b617)
            clear H202
            have H622 := Hid.mk' (H203.out.below b617)
            clear H203
            have H623 := Hid.mk' (H204.out.below b617)
            clear H204
            have H624 := Hid.mk' (H205.out.below b617)
            clear H205
            have H625 := Hid.mk' (H206.out.below b617)
            clear H206
            have H626 := Hid.mk' (H207.out.below b617)
            clear H207
            have H627 := Hid.mk' (H208.out.below b617)
            clear H208
            have H628 := Hid.mk' (H209.out.below b617)
            clear H209
            have H629 := Hid.mk' (H211.out.below b617)
            clear H211
            have Z630 := Hid.mk' (bel_next Z210.out b617)
            clear Z210
            have H631 : Hid (RL w614 a615 c616 (scL 7 A)) := r618
            clear r618
            clear b617
            go_wp2_with fail
            refine (wmI_L H631.out H620.out).mono ?_
            rw [e3]
            rintro e w632 ⟨a633, c634, rfl, b635, r636⟩
            have H637 := Hid.mk' (H619.out.below b635)
            clear H619
            have H638 := Hid.mk' (H620.out.below b635)
            clear H620
            have H639 := Hid.mk' (H621.out.below b635)
            clear H621
            have H640 := Hid.mk' (H622.out.below b635)
            clear H622
            have H641 := Hid.mk' (H623.out.below b635)
            clear H623
            have H642 := Hid.mk' (H624.out.below b635)
            clear H624
            have H643 := Hid.mk' (H625.out.below b635)
            clear H625
            have H644 := Hid.mk' (H626.out.below b635)
            clear H626
            have H645 := Hid.mk' (H627.out.below b635)
            clear H627
            have H646 := Hid.mk' (H628.out.below b635)
            clear H628
            have H647 := Hid.mk' (H629.out.below b635)
            clear H629
            have H648 := Hid.mk' (H631.out.below b635)
            clear H631
            have Z649 := Hid.mk' (bel_next Z630.out b635)
            clear Z630
            have H650 : Hid (RL w632 a633 c634 (scL 7 P)) := r636
            clear r636
            clear b635
            go_wp2_with fail
            refine (scI_L 7 H640.out).mono ?_
            rw [e5]
            rintro e w651 ⟨a652, c653, rfl, b654, r655⟩
            have H656 := Hid.mk' (H637.out.below b654)
            clear H637
            have H657 := Hid.mk' (H638.out.below b654)
            clear H638
            have H658 := Hid.mk' (H639.out.below b654)
            clear H639
            have H659 := Hid.mk' (H640.out.below b654)
            clear H640
            have H660 := Hid.mk' (H641.out.below b654)
            clear H641
            have H661 := Hid.mk' (H642.out.below b654)
            clear H642
            have H662 := Hid.mk' (H643.out.below b654)
            clear H643
            have H663 := Hid.mk' (H644.out.below b654)
            clear H644
            have H664 := Hid.mk' (H645.out.below b654)
            clear H645
            have H665 := Hid.mk' (H646.out.below b654)
            clear H646
            have H666 := Hid.mk' (H647.out.below b654)
            clear H647
            have H667 := Hid.mk' (H648.out.below b654)
            clear H648
            have H668 := Hid.mk' (H650.out.below b654)
            clear H650
            have Z669 := Hid.mk' (bel_next Z649.out b654)
            clear Z649
            have H670 : Hid (RL w651 a652 c653 (scL 7 P)) := r655
            clear r655
            clear b654
            go_wp2_with fail
            refine (he_L H668.out H670.out).mono ?_
            rw [sq_same]
            rintro e w671 ⟨rfl, b672⟩
            have H673 := Hid.mk' (H656.out.below b672)
            clear H656
            have H674 := Hid.mk' (H657.out.below b672)
            clear H657
            have H675 := Hid.mk' (H658.out.below b672)
            clear H658
            have H676 := Hid.mk' (H659.out.below b672)
            clear H659
            have H677 := Hid.mk' (H660.out.below b672)
            clear H660
            have H678 := Hid.mk' (H661.out.below b672)
            clear H661
            have H679 := Hid.mk' (H662.out.below b672)
            clear H662
            have H680 := Hid.mk' (H663.out.below b672)
            clear H663
            have H681 := Hid.mk' (H664.out.below b672)
            clear H664
            have H682 := Hid.mk' (H665.out.below b672)
            clear H665
            have H683 := Hid.mk' (H666.out.below b672)
            clear H666
            have H684 := Hid.mk' (H667.out.below b672)
            clear H667
            have H685 := Hid.mk' (H668.out.below b672)
            clear H668
            have H686 := Hid.mk' (H670.out.below b672)
            clear H670
            have Z687 := Hid.mk' (bel_next Z669.out b672)
            clear Z669
            clear b672
            go_wp2_with fail
            refine (heOk_L _ ).mono ?_
            rintro e w688 ⟨rfl, b689⟩
            have H690 := Hid.mk' (H673.out.below b689)
            clear H673
            have H691 := Hid.mk' (H674.out.below b689)
            clear H674
            have H692 := Hid.mk' (H675.out.below b689)
            clear H675
            have H693 := Hid.mk' (H676.out.below b689)
            clear H676
            have H694 := Hid.mk' (H677.out.below b689)
            clear H677
            have H695 := Hid.mk' (H678.out.below b689)
            clear H678
            have H696 := Hid.mk' (H679.out.below b689)
            clear H679
            have H697 := Hid.mk' (H680.out.below b689)
            clear H680
            have H698 := Hid.mk' (H681.out.below b689)
            clear H681
            have H699 := Hid.mk' (H682.out.below b689)
            clear H682
            have H700 := Hid.mk' (H683.out.below b689)
            clear H683
            have H701 := Hid.mk' (H684.out.below b689)
            clear H684
            have H702 := Hid.mk' (H685.out.below b689)
            clear H685
            have H703 := Hid.mk' (H686.out.below b689)
            clear H686
            have Z704 := Hid.mk' (bel_next Z687.out b689)
            clear Z687
            clear b689
            go_wp2
            go_ret
            exact ⟨rfl, Z704.out⟩
          · cases o4
            · go_wp2_with fail
              refine (scI_L 7 H200.out).mono ?_
              rw [e4]
              rintro e w705 ⟨a706, c707, rfl, b708, r709⟩
              have H710 := Hid.mk' (H200.out.below b708)
              clear H200
              have H711 := Hid.mk' (H201.out.below b708)
              clear H201
              have H712 := Hid.mk' (H202.out.below b708)
              clear H202
              have H713 := Hid.mk' (H203.out.below b708)
              clear H203
              have H714 := Hid.mk' (H204.out.below b708)
              clear H204
              have H715 := Hid.mk' (H205.out.below b708)
              clear H205
              have H716 := Hid.mk' (H206.out.below b708)
              clear H206
              have H717 := Hid.mk' (H207.out.below b708)
              clear H207
              have H718 := Hid.mk' (H208.out.below b708)
              clear H208
              have H719 := Hid.mk' (H209.out.below b708)
              clear H209
              have H720 := Hid.mk' (H211.out.below b708)
              clear H211
              have Z721 := Hid.mk' (bel_next Z210.out b708)
              clear Z210
              have H722 : Hid (RL w705 a706 c707 (scL 7 A)) := r709
              clear r709
              clear b708
              go_wp2_with fail
              refine (wmI_L H722.out H711.out).mono ?_
              rw [e3]
              rintro e w723 ⟨a724, c725, rfl, b726, r727⟩
              have H728 := Hid.mk' (H710.out.below b726)
              clear H710
              have H729 := Hid.mk' (H711.out.below b726)
              clear H711
              have H730 := Hid.mk' (H712.out.below b726)
              clear H712
              have H731 := Hid.mk' (H713.out.below b726)
              clear H713
              have H732 := Hid.mk' (H714.out.below b726)
              clear H714
              have H733 := Hid.mk' (H715.out.below b726)
              clear H715
              have H734 := Hid.mk' (H716.out.below b726)
              clear H716
              have H735 := Hid.mk' (H717.out.below b726)
              clear H717
              have H736 := Hid.mk' (H718.out.below b726)
              clear H718
              have H737 := Hid.mk' (H719.out.below b726)
              clear H719
              have H738 := Hid.mk' (H720.out.below b726)
              clear H720
              have H739 := Hid.mk' (H722.out.below b726)
              clear H722
              have Z740 := Hid.mk' (bel_next Z721.out b726)
              clear Z721
              have H741 : Hid (RL w723 a724 c725 (scL 7 P)) := r727
              clear r727
              clear b726
              go_wp2_with fail
              refine (scI_L 7 H731.out).mono ?_
              rw [e5]
              rintro e w742 ⟨a743, c744, rfl, b745, r746⟩
              have H747 := Hid.mk' (H728.out.below b745)
              clear H728
              have H748 := Hid.mk' (H729.out.below b745)
              clear H729
              have H749 := Hid.mk' (H730.out.below b745)
              clear H730
              have H750 := Hid.mk' (H731.out.below b745)
              clear H731
              have H751 := Hid.mk' (H732.out.below b745)
              clear H732
              have H752 := Hid.mk' (H733.out.below b745)
              clear H733
              have H753 := Hid.mk' (H734.out.below b745)
              clear H734
              have H754 := Hid.mk' (H735.out.below b745)
              clear H735
              have H755 := Hid.mk' (H736.out.below b745)
              clear H736
              have H756 := Hid.mk' (H737.out.below b745)
              clear H737
              have H757 := Hid.mk' (H738.out.below b745)
              clear H738
              have H758 := Hid.mk' (H739.out.below b745)
              clear H739
              have H759 := Hid.mk' (H741.out.below b745)
              clear H741
              have Z760 := Hid.mk' (bel_next Z740.out b745)
              clear Z740
              have H761 : Hid (RL w742 a743 c744 (scL 7 P)) := r746
              clear r746
              clear b745
              go_wp2_with fail
              refine (he_L H759.out H761.out).mono ?_
              rw [sq_same]
              rintro e w762 ⟨rfl, b763⟩
              have H764 := Hid.mk' (H747.out.below b763)
              clear H747
              have H765 := Hid.mk' (H748.out.below b763)
              clear H748
              have H766 := Hid.mk' (H749.out.below b763)
              clear H749
              have H767 := Hid.mk' (H750.out.below b763)
              clear H750
              have H768 := Hid.mk' (H751.out.below b763)
              clear H751
              have H769 := Hid.mk' (H752.out.below b763)
              clear H752
              have H770 := Hid.mk' (H753.out.below b763)
              clear H753
              have H771 := Hid.mk' (H754.out.below b763)
              clear H754
              have H772 := Hid.mk' (H755.out.below b763)
              clear H755
              have H773 := Hid.mk' (H756.out.below b763)
              clear H756
              have H774 := Hid.mk' (H757.out.below b763)
              clear H757
              have H775 := Hid.mk' (H758.out.below b763)
              clear H758
              have H776 := Hid.mk' (H759.out.below b763)
              clear H759
              have H777 := Hid.mk' (H761.out.below b763)
              clear H761
              have Z778 := Hid.mk' (bel_next Z760.out b763)
              clear Z760
              clear b763
              go_wp2_with fail
              refine (heOk_L _ ).mono ?_
              rintro e w779 ⟨rfl, b780⟩
              have H781 := Hid.mk' (H764.out.below b780)
              clear H764
              have H782 := Hid.mk' (H765.out.below b780)
              clear H765
              have H783 := Hid.mk' (H766.out.below b780)
              clear H766
              have H784 := Hid.mk' (H767.out.below b780)
              clear H767
              have H785 := Hid.mk' (H768.out.below b780)
              clear H768
              have H786 := Hid.mk' (H769.out.below b780)
              clear H769
              have H787 := Hid.mk' (H770.out.below b780)
              clear H770
              have H788 := Hid.mk' (H771.out.below b780)
              clear H771
              have H789 := Hid.mk' (H772.out.below b780)
              clear H772
              have H790 := Hid.mk' (H773.out.below b780)
              clear H773
              have H791 := Hid.mk' (H774.out.below b780)
              clear H774
              have H792 := Hid.mk' (H775.out.below b780)
              clear H775
              have H793 := Hid.mk' (H776.out.below b780)
              clear H776
              have H794 := Hid.mk' (H777.out.below b780)
              clear H777
              have Z795 := Hid.mk' (bel_next Z778.out b780)
              clear Z778
              clear b780
              go_wp2
              go_ret
              exact ⟨rfl, Z795.out⟩
            · cases o5
              · go_wp2_with fail
                refine (scI_L 7 H200.out).mono ?_
                rw [e4]
                rintro e w796 ⟨a797, c798, rfl, b799, r800⟩
                have H801 := Hid.mk' (H200.out.below b799)
                clear H200
                have H802 := Hid.mk' (H201.out.below b799)
                clear H201
                have H803 := Hid.mk' (H202.out.below b799)
                clear H202
                have H804 := Hid.mk' (H203.out.below b799)
                clear H203
                have H805 := Hid.mk' (H204.out.below b799)
                clear H204
                have H806 := Hid.mk' (H205.out.below b799)
                clear H205
                have H807 := Hid.mk' (H206.out.below b799)
                clear H206
                have H808 := Hid.mk' (H207.out.below b799)
                clear H207
                have H809 := Hid.mk' (H208.out.below b799)
                clear H208
                have H810 := Hid.mk' (H209.out.below b799)
                clear H209
                have H811 := Hid.mk' (H211.out.below b799)
                clear H211
                have Z812 := Hid.mk' (bel_next Z210.out b799)
                clear Z210
                have H813 : Hid (RL w796 a797 c798 (scL 7 A)) := r800
                clear r800
                clear b799
                go_wp2_with fail
                refine (wmI_L H813.out H802.out).mono ?_
                rw [e3]
                rintro e w814 ⟨a815, c816, rfl, b817, r818⟩
                have H819 := Hid.mk' (H801.out.below b817)
                clear H801
                have H820 := Hid.mk' (H802.out.below b817)
                clear H802
                have H821 := Hid.mk' (H803.out.below b817)
                clear H803
                have H822 := Hid.mk' (H804.out.below b817)
                clear H804
                have H823 := Hid.mk' (H805.out.below b817)
                clear H805
                have H824 := Hid.mk' (H806.out.below b817)
                clear H806
                have H825 := Hid.mk' (H807.out.below b817)
                clear H807
                have H826 := Hid.mk' (H808.out.below b817)
                clear H808
                have H827 := Hid.mk' (H809.out.below b817)
                clear H809
                have H828 := Hid.mk' (H810.out.below b817)
                clear H810
                have H829 := Hid.mk' (H811.out.below b817)
                clear H811
                have H830 := Hid.mk' (H813.out.below b817)
                clear H813
                have Z831 := Hid.mk' (bel_next Z812.out b817)
                clear Z812
                have H832 : Hid (RL w814 a815 c816 (scL 7 P)) := r818
                clear r818
                clear b817
                go_wp2_with fail
                refine (scI_L 7 H822.out).mono ?_
                rw [e5]
                rintro e w833 ⟨a834, c835, rfl, b836, r837⟩
                have H838 := Hid.mk' (H819.out.below b836)
                clear H819
                have H839 := Hid.mk' (H820.out.below b836)
                clear H820
                have H840 := Hid.mk' (H821.out.below b836)
                clear H821
                have H841 := Hid.mk' (H822.out.below b836)
                clear H822
                have H842 := Hid.mk' (H823.out.below b836)
                clear H823
                have H843 := Hid.mk' (H824.out.below b836)
                clear H824
                have H844 := Hid.mk' (H825.out.below b836)
                clear H825
                have H845 := Hid.mk' (H826.out.below b836)
                clear H826
                have H846 := Hid.mk' (H827.out.below b836)
                clear H827
                have H847 := Hid.mk' (H828.out.below b836)
                clear H828
                have H848 := Hid.mk' (H829.out.below b836)
                clear H829
                have H849 := Hid.mk' (H830.out.below b836)
                clear H830
                have H850 := Hid.mk' (H832.out.below b836)
                clear H832
                have Z851 := Hid.mk' (bel_next Z831.out b836)
                clear Z831
                have H852 : Hid (RL w833 a834 c835 (scL 7 P)) := r837
                clear r837
                clear b836
                go_wp2_with fail
                refine (he_L H850.out H852.out).mono ?_
                rw [sq_same]
                rintro e w853 ⟨rfl, b854⟩
                have H855 := Hid.mk' (H838.out.below b854)
                clear H838
                have H856 := Hid.mk' (H839.out.below b854)
                clear H839
                have H857 := Hid.mk' (H840.out.below b854)
                clear H840
                have H858 := Hid.mk' (H841.out.below b854)
                clear H841
                have H859 := Hid.mk' (H842.out.below b854)
                clear H842
                have H860 := Hid.mk' (H843.out.below b854)
                clear H843
                have H861 := Hid.mk' (H844.out.below b854)
                clear H844
                have H862 := Hid.mk' (H845.out.below b854)
                clear H845
                have H863 := Hid.mk' (H846.out.below b854)
                clear H846
                have H864 := Hid.mk' (H847.out.below b854)
                clear H847
                have H865 := Hid.mk' (H848.out.below b854)
                clear H848
                have H866 := Hid.mk' (H849.out.below b854)
                clear H849
                have H867 := Hid.mk' (H850.out.below b854)
                clear H850
                have H868 := Hid.mk' (H852.out.below b854)
                clear H852
                have Z869 := Hid.mk' (bel_next Z851.out b854)
                clear Z851
                clear b854
                go_wp2_with fail
                refine (heOk_L _ ).mono ?_
                rintro e w870 ⟨rfl, b871⟩
                have H872 := Hid.mk' (H855.out.below b871)
                clear H855
                have H873 := Hid.mk' (H856.out.below b871)
                clear H856
                have H874 := Hid.mk' (H857.out.below b871)
                clear H857
                have H875 := Hid.mk' (H858.out.below b871)
                clear H858
                have H876 := Hid.mk' (H859.out.below b871)
                clear H859
                have H877 := Hid.mk' (H860.out.below b871)
                clear H860
                have H878 := Hid.mk' (H861.out.below b871)
                clear H861
                have H879 := Hid.mk' (H862.out.below b871)
                clear H862
                have H880 := Hid.mk' (H863.out.below b871)
                clear H863
                have H881 := Hid.mk' (H864.out.below b871)
                clear H864
                have H882 := Hid.mk' (H865.out.below b871)
                clear H865
                have H883 := Hid.mk' (H866.out.below b871)
                clear H866
                have H884 := Hid.mk' (H867.out.below b871)
                clear H867
                have H885 := Hid.mk' (H868.out.below b871)
                clear H868
                have Z886 := Hid.mk' (bel_next Z869.out b871)
                clear Z869
                clear b871
                go_wp2
                go_ret
                exact ⟨rfl, Z886.out⟩
              · have e2 := wm_right hS k4 k5 k3
                go_wp2_with fail
                refine (addI_L H209.out H211.out).mono ?_
                rw [e2]
                rintro e w887 ⟨a888, c889, rfl, b890, r891⟩
                have H892 := Hid.mk' (H200.out.below b890)
                clear H200
                have H893 := Hid.mk' (H201.out.below b890)
                clear H201
                have H894 := Hid.mk' (H202.out.below b890)
                clear H202
                have H895 := Hid.mk' (H203.out.below b890)
                clear H203
                have H896 := Hid.mk' (H204.out.below b890)
                clear H204
                have H897 := Hid.mk' (H205.out.below b890)
                clear H205
                have H898 := Hid.mk' (H206.out.below b890)
                clear H206
                have H899 := Hid.mk' (H207.out.below b890)
                clear H207
                have H900 := Hid.mk' (H208.out.below b890)
                clear H208
                have H901 := Hid.mk' (H209.out.below b890)
                clear H209
                have H902 := Hid.mk' (H211.out.below b890)
                clear H211
                have Z903 := Hid.mk' (bel_next Z210.out b890)
                clear Z210
                have H904 : Hid (RL w887 a888 c889 VV) := r891
                clear r891
                clear b890
                go_wp2_with fail
                refine (he_L H900.out H904.out).mono ?_
                rw [sq_same]
                rintro e w905 ⟨rfl, b906⟩
                have H907 := Hid.mk' (H892.out.below b906)
                clear H892
                have H908 := Hid.mk' (H893.out.below b906)
                clear H893
                have H909 := Hid.mk' (H894.out.below b906)
                clear H894
                have H910 := Hid.mk' (H895.out.below b906)
                clear H895
                have H911 := Hid.mk' (H896.out.below b906)
                clear H896
                have H912 := Hid.mk' (H897.out.below b906)
                clear H897
                have H913 := Hid.mk' (H898.out.below b906)
                clear H898
                have H914 := Hid.mk' (H899.out.below b906)
                clear H899
                have H915 := Hid.mk' (H900.out.below b906)
                clear H900
                have H916 := Hid.mk' (H901.out.below b906)
                clear H901
                have H917 := Hid.mk' (H902.out.below b906)
                clear H902
                have H918 := Hid.mk' (H904.out.below b906)
                clear H904
                have Z919 := Hid.mk' (bel_next Z903.out b906)
                clear Z903
                clear b906
                go_wp2_with fail
                refine (scI_L 7 H907.out).mono ?_
                rw [e4]
                rintro e w920 ⟨a921, c922, rfl, b923, r924⟩
                have H925 := Hid.mk' (H907.out.below b923)
                clear H907
                have H926 := Hid.mk' (H908.out.below b923)
                clear H908
                have H927 := Hid.mk' (H909.out.below b923)
                clear H909
                have H928 := Hid.mk' (H910.out.below b923)
                clear H910
                have H929 := Hid.mk' (H911.out.below b923)
                clear H911
                have H930 := Hid.mk' (H912.out.below b923)
                clear H912
                have H931 := Hid.mk' (H913.out.below b923)
                clear H913
                have H932 := Hid.mk' (H914.out.below b923)
                clear H914
                have H933 := Hid.mk' (H915.out.below b923)
                clear H915
                have H934 := Hid.mk' (H916.out.below b923)
                clear H916
                have H935 := Hid.mk' (H917.out.below b923)
                clear H917
                have H936 := Hid.mk' (H918.out.below b923)
                clear H918
                have Z937 := Hid.mk' (bel_next Z919.out b923)
                clear Z919
                have H938 : Hid (RL w920 a921 c922 (scL 7 A)) := r924
                clear r924
                clear b923
                go_wp2_with fail
                refine (wmI_L H938.out H926.out).mono ?_
                rw [e3]
                rintro e w939 ⟨a940, c941, rfl, b942, r943⟩
                have H944 := Hid.mk' (H925.out.below b942)
                clear H925
                have H945 := Hid.mk' (H926.out.below b942)
                clear H926
                have H946 := Hid.mk' (H927.out.below b942)
                clear H927
                have H947 := Hid.mk' (H928.out.below b942)
                clear H928
                have H948 := Hid.mk' (H929.out.below b942)
                clear H929
                have H949 := Hid.mk' (H930.out.below b942)
                clear H930
                have H950 := Hid.mk' (H931.out.below b942)
                clear H931
                have H951 := Hid.mk' (H932.out.below b942)
                clear H932
                have H952 := Hid.mk' (H933.out.below b942)
                clear H933
                have H953 := Hid.mk' (H934.out.below b942)
                clear H934
                have H954 := Hid.mk' (H935.out.below b942)
                clear H935
                have H955 := Hid.mk' (H936.out.below b942)
                clear H936
                have H956 := Hid.mk' (H938.out.below b942)
                clear H938
                have Z957 := Hid.mk' (bel_next Z937.out b942)
                clear Z937
                have H958 : Hid (RL w939 a940 c941 (scL 7 P)) := r943
                clear r943
                clear b942
                go_wp2_with fail
                refine (scI_L 7 H947.out).mono ?_
                rw [e5]
                rintro e w959 ⟨a960, c961, rfl, b962, r963⟩
                have H964 := Hid.mk' (H944.out.below b962)
                clear H944
                have H965 := Hid.mk' (H945.out.below b962)
                clear H945
                have H966 := Hid.mk' (H946.out.below b962)
                clear H946
                have H967 := Hid.mk' (H947.out.below b962)
                clear H947
                have H968 := Hid.mk' (H948.out.below b962)
                clear H948
                have H969 := Hid.mk' (H949.out.below b962)
                clear H949
                have H970 := Hid.mk' (H950.out.below b962)
                clear H950
                have H971 := Hid.mk' (H951.out.below b962)
                clear H951
                have H972 := Hid.mk' (H952.out.below b962)
                clear H952
                have H973 := Hid.mk' (H953.out.below b962)
                clear H953
                have H974 := Hid.mk' (H954.out.below b962)
                clear H954
                have H975 := Hid.mk' (H955.out.below b962)
                clear H955
                have H976 := Hid.mk' (H956.out.below b962)
                clear H956
                have H977 := Hid.mk' (H958.out.below b962)
                clear H958
                have Z978 := Hid.mk' (bel_next Z957.out b962)
                clear Z957
                have H979 : Hid (RL w959 a960 c961 (scL 7 P)) := r963
                clear r963
                clear b962
                go_wp2_with fail
                refine (he_L H977.out H979.out).mono ?_
                rw [sq_same]
                rintro e w980 ⟨rfl, b981⟩
                have H982 := Hid.mk' (H964.out.below b981)
                clear H964
                have H983 := Hid.mk' (H965.out.below b981)
                clear H965
                have H984 := Hid.mk' (H966.out.below b981)
                clear H966
                have H985 := Hid.mk' (H967.out.below b981)
                clear H967
                have H986 := Hid.mk' (H968.out.below b981)
                clear H968
                have H987 := Hid.mk' (H969.out.below b981)
                clear H969
                have H988 := Hid.mk' (H970.out.below b981)
                clear H970
                have H989 := Hid.mk' (H971.out.below b981)
                clear H971
                have H990 := Hid.mk' (H972.out.below b981)
                clear H972
                have H991 := Hid.mk' (H973.out.below b981)
                clear H973
                have H992 := Hid.mk' (H974.out.below b981)
                clear H974
                have H993 := Hid.mk' (H975.out.below b981)
                clear H975
                have H994 := Hid.mk' (H976.out.below b981)
                clear H976
                have H995 := Hid.mk' (H977.out.below b981)
                clear H977
                have H996 := Hid.mk' (H979.out.below b981)
                clear H979
                have Z997 := Hid.mk' (bel_next Z978.out b981)
                clear Z978
                clear b981
                go_wp2_with fail
                refine (heOk_L _ ).mono ?_
                rintro e w998 ⟨rfl, b999⟩
                have H1000 := Hid.mk' (H982.out.below b999)
                clear H982
                have H1001 := Hid.mk' (H983.out.below b999)
                clear H983
                have H1002 := Hid.mk' (H984.out.below b999)
                clear H984
                have H1003 := Hid.mk' (H985.out.below b999)
                clear H985
                have H1004 := Hid.mk' (H986.out.below b999)
                clear H986
                have H1005 := Hid.mk' (H987.out.below b999)
                clear H987
                have H1006 := Hid.mk' (H988.out.below b999)
                clear H988
                have H1007 := Hid.mk' (H989.out.below b999)
                clear H989
                have H1008 := Hid.mk' (H990.out.below b999)
                clear H990
                have H1009 := Hid.mk' (H991.out.below b999)
                clear H991
                have H1010 := Hid.mk' (H992.out.below b999)
                clear H992
                have H1011 := Hid.mk' (H993.out.below b999)
                clear H993
                have H1012 := Hid.mk' (H994.out.below b999)
                clear H994
                have H1013 := Hid.mk' (H995.out.below b999)
                clear H995
                have H1014 := Hid.mk' (H996.out.below b999)
                clear H996
                have Z1015 := Hid.mk' (bel_next Z997.out b999)
                clear Z997
                clear b999
                go_wp2
                go_ret
                exact ⟨rfl, Z1015.out⟩
        · have e1 := wm_left hS h1 k1 k2
          go_wp2_with fail
          refine (addI_L H203.out H206.out).mono ?_
          rw [e1]
          rintro e w1016 ⟨a1017, c1018, rfl, b1019, r1020⟩
          have H1021 := Hid.mk' (H200.out.below b1019)
          clear H200
          have H1022 := Hid.mk' (H201.out.below b1019)
          clear H201
          have H1023 := Hid.mk' (H202.out.below b1019)
          clear H202
          have H1024 := Hid.mk' (H203.out.below b1019)
          clear H203
          have H1025 := Hid.mk' (H204.out.below b1019)
          clear H204
          have H1026 := Hid.mk' (H205.out.below b1019)
          clear H205
          have H1027 := Hid.mk' (H206.out.below b1019)
          clear H206
          have H1028 := Hid.mk' (H207.out.below b1019)
          clear H207
          have H1029 := Hid.mk' (H208.out.below b1019)
          clear H208
          have H1030 := Hid.mk' (H209.out.below b1019)
          clear H209
          have H1031 := Hid.mk' (H211.out.below b1019)
          clear H211
          have Z1032 := Hid.mk' (bel_next Z210.out b1019)
          clear Z210
          have H1033 : Hid (RL w1016 a1017 c1018 UU) := r1020
          clear r1020
          clear b1019
          go_wp2_with fail
          refine (he_L H1028.out H1033.out).mono ?_
          rw [sq_same]
          rintro e w1034 ⟨rfl, b1035⟩
          have H1036 := Hid.mk' (H1021.out.below b1035)
          clear H1021
          have H1037 := Hid.mk' (H1022.out.below b1035)
          clear H1022
          have H1038 := Hid.mk' (H1023.out.below b1035)
          clear H1023
          have H1039 := Hid.mk' (H1024.out.below b1035)
          clear H1024
          have H1040 := Hid.mk' (H1025.out.below b1035)
          clear H1025
          have H1041 := Hid.mk' (H1026.out.below b1035)
          clear H1026
          have H1042 := Hid.mk' (H1027.out.below b1035)
          clear H1027
          have H1043 := Hid.mk' (H1028.out.below b1035)
          clear H1028
          have H1044 := Hid.mk' (H1029.out.below b1035)
          clear H1029
          have H1045 := Hid.mk' (H1030.out.below b1035)
          clear H1030
          have H1046 := Hid.mk' (H1031.out.below b1035)
          clear H1031
          have H1047 := Hid.mk' (H1033.out.below b1035)
          clear H1033
          have Z1048 := Hid.mk' (bel_next Z1032.out b1035)
          clear Z1032
          clear b1035
          cases o3
          · go_wp2_with fail
            refine (scI_L 7 H1036.out).mono ?_
            rw [e4]
            rintro e w1049 ⟨a1050, c1051, rfl, b1052, r1053⟩
            have H1054 := Hid.mk' (H1036.out.below b1052)
            clear H1036
            have H1055 := Hid.mk' (H1037.out.below b1052)
            clear H1037
            have H1056 := Hid.mk' (H1038.out.below b1052)
            clear H1038
            have H1057 := Hid.mk' (H1039.out.below b1052)
            clear H1039
            have H1058 := Hid.mk' (H1040.out.below b1052)
            clear H1040
            have H1059 := Hid.mk' (H1041.out.below b1052)
            clear H1041
            have H1060 := Hid.mk' (H1042.out.below b1052)
            clear H1042
            have H1061 := Hid.mk' (H1043.out.below b1052)
            clear H1043
            have H1062 := Hid.mk' (H1044.out.below b1052)
            clear H1044
            have H1063 := Hid.mk' (H1045.out.below b1052)
            clear H1045
            have H1064 := Hid.mk' (H1046.out.below b1052)
            clear H1046
            have H1065 := Hid.mk' (H1047.out.below b1052)
            clear H1047
            have Z1066 := Hid.mk' (bel_next Z1048.out b1052)
            clear Z1048
            have H1067 : Hid (RL w1049 a1050 c1051 (scL 7 A)) := r1053
            clear r1053
            clear b1052
            go_wp2_with fail
            refine (wmI_L H1067.out H1055.out).mono ?_
            rw [e3]
            rintro e w1068 ⟨a1069, c1070, rfl, b1071, r1072⟩
            have H1073 := Hid.mk' (H1054.out.below b1071)
            clear H1054
            have H1074 := Hid.mk' (H1055.out.below b1071)
            clear H1055
            have H1075 := Hid.mk' (H1056.out.below b1071)
            clear H1056
            have H1076 := Hid.mk' (H1057.out.below b1071)
            clear H1057
            have H1077 := Hid.mk' (H1058.out.below b1071)
            clear H1058
            have H1078 := Hid.mk' (H1059.out.below b1071)
            clear H1059
            have H1079 := Hid.mk' (H1060.out.below b1071)
            clear H1060
            have H1080 := Hid.mk' (H1061.out.below b1071)
            clear H1061
            have H1081 := Hid.mk' (H1062.out.below b1071)
            clear H1062
            have H1082 := Hid.mk' (H1063.out.below b1071)
            clear H1063
            have H1083 := Hid.mk' (H1064.out.below b1071)
            clear H1064
            have H1084 := Hid.mk' (H1065.out.below b1071)
            clear H1065
            have H1085 := Hid.mk' (H1067.out.below b1071)
            clear H1067
            have Z1086 := Hid.mk' (bel_next Z1066.out b1071)
            clear Z1066
            have H1087 : Hid (RL w1068 a1069 c1070 (scL 7 P)) := r1072
            clear r1072
            clear b1071
            go_wp2_with fail
            refine (scI_L 7 H1076.out).mono ?_
            rw [e5]
            rintro e w1088 ⟨a1089, c1090, rfl, b1091, r1092⟩
            have H1093 := Hid.mk' (H1073.out.below b1091)
            clear H1073
            have H1094 := Hid.mk' (H1074.out.below b1091)
            clear H1074
            have H1095 := Hid.mk' (H1075.out.below b1091)
            clear H1075
            have H1096 := Hid.mk' (H1076.out.below b1091)
            clear H1076
            have H1097 := Hid.mk' (H1077.out.below b1091)
            clear H1077
            have H1098 := Hid.mk' (H1078.out.below b1091)
            clear H1078
            have H1099 := Hid.mk' (H1079.out.below b1091)
            clear H1079
            have H1100 := Hid.mk' (H1080.out.below b1091)
            clear H1080
            have H1101 := Hid.mk' (H1081.out.below b1091)
            clear H1081
            have H1102 := Hid.mk' (H1082.out.below b1091)
            clear H1082
            have H1103 := Hid.mk' (H1083.out.below b1091)
            clear H1083
            have H1104 := Hid.mk' (H1084.out.below b1091)
            clear H1084
            have H1105 := Hid.mk' (H1085.out.below b1091)
            clear H1085
            have H1106 := Hid.mk' (H1087.out.below b1091)
            clear H1087
            have Z1107 := Hid.mk' (bel_next Z1086.out b1091)
            clear Z1086
            have H1108 : Hid (RL w1088 a1089 c1090 (scL 7 P)) := r1092
            clear r1092
            clear b1091
            go_wp2_with fail
            refine (he_L H1106.out H1108.out).mono ?_
            rw [sq_same]
            rintro e w1109 ⟨rfl, b1110⟩
            have H1111 := Hid.mk' (H1093.out.below b1110)
            clear H1093
            have H1112 := Hid.mk' (H1094.out.below b1110)
            clear H1094
            have H1113 := Hid.mk' (H1095.out.below b1110)
            clear H1095
            have H1114 := Hid.mk' (H1096.out.below b1110)
            clear H1096
            have H1115 := Hid.mk' (H1097.out.below b1110)
            clear H1097
            have H1116 := Hid.mk' (H1098.out.below b1110)
            clear H1098
            have H1117 := Hid.mk' (H1099.out.below b1110)
            clear H1099
            have H1118 := Hid.mk' (H1100.out.below b1110)
            clear H1100
            have H1119 := Hid.mk' (H1101.out.below b1110)
            clear H1101
            have H1120 := Hid.mk' (H1102.out.below b1110)
            clear H1102
            have H1121 := Hid.mk' (H1103.out.below b1110)
            clear H1103
            have H1122 := Hid.mk' (H1104.out.below b1110)
            clear H1104
            have H1123 := Hid.mk' (H1105.out.below b1110)
            clear H1105
            have H1124 := Hid.mk' (H1106.out.below b1110)
            clear H1106
            have H1125 := Hid.mk' (H1108.out.below b1110)
            clear H1108
            have Z1126 := Hid.mk' (bel_next Z1107.out b1110)
            clear Z1107
            clear b1110
            go_wp2_with fail
            refine (heOk_L _ ).mono ?_
            rintro e w1127 ⟨rfl, b1128⟩
            have H1129 := Hid.mk' (H1111.out.below b1128)
            clear H1111
            have H1130 := Hid.mk' (H1112.out.below b1128)
            clear H1112
            have H1131 := Hid.mk' (H1113.out.below b1128)
            clear H1113
            have H1132 := Hid.mk' (H1114.out.below b1128)
            clear H1114
            have H1133 := Hid.mk' (H1115.out.below b1128)
            clear H1115
            have H1134 := Hid.mk' (H1116.out.below b1128)
            clear H1116
            have H1135 := Hid.mk' (H1117.out.below b1128)
            clear H1117
            have H1136 := Hid.mk' (H1118.out.below b1128)
            clear H1118
            have H1137 := Hid.mk' (H1119.out.below b1128)
            clear H1119
            have H1138 := Hid.mk' (H1120.out.below b1128)
            clear H1120
            have H1139 := Hid.mk' (H1121.out.below b1128)
            clear H1121
            have H1140 := Hid.mk' (H1122.out.below b1128)
            clear H1122
            have H1141 := Hid.mk' (H1123.out.below b1128)
            clear H1123
            have H1142 := Hid.mk' (H1124.out.below b1128)
            clear H1124
            have H1143 := Hid.mk' (H1125.out.below b1128)
            clear H1125
            have Z1144 := Hid.mk' (bel_next Z1126.out b1128)
            clear Z1126
            clear b1128
            go_wp2
            go_ret
            exact ⟨rfl, Z1144.out⟩
          · cases o4
            · go_wp2_with fail
              refine (scI_L 7 H1036.out).mono ?_
              rw [e4]
              rintro e w1145 ⟨a1146, c1147, rfl, b1148, r1149⟩
              have H1150 := Hid.mk' (H1036.out.below b1148)
              clear H1036
              have H1151 := Hid.mk' (H1037.out.below b1148)
              clear H1037
              have H1152 := Hid.mk' (H1038.out.below b1148)
              clear H1038
              have H1153 := Hid.mk' (H1039.out.below b1148)
              clear H1039
              have H1154 := Hid.mk' (H1040.out.below b1148)
              clear H1040
              have H1155 := Hid.mk' (H1041.out.below b1148)
              clear H1041
              have H1156 := Hid.mk' (H1042.out.below b1148)
              clear H1042
              have H1157 := Hid.mk' (H1043.out.below b1148)
              clear H1043
              have H1158 := Hid.mk' (H1044.out.below b1148)
              clear H1044
              have H1159 := Hid.mk' (H1045.out.below b1148)
              clear H1045
              have H1160 := Hid.mk' (H1046.out.below b1148)
              clear H1046
              have H1161 := Hid.mk' (H1047.out.below b1148)
              clear H1047
              have Z1162 := Hid.mk' (bel_next Z1048.out b1148)
              clear Z1048
              have H1163 : Hid (RL w1145 a1146 c1147 (scL 7 A)) := r1149
              clear r1149
              clear b1148
              go_wp2_with fail
              refine (wmI_L H1163.out H1151.out).mono ?_
              rw [e3]
              rintro e w1164 ⟨a1165, c1166, rfl, b1167, r1168⟩
              have H1169 := Hid.mk' (H1150.out.below b1167)
              clear H1150
              have H1170 := Hid.mk' (H1151.out.below b1167)
              clear H1151
              have H1171 := Hid.mk' (H1152.out.below b1167)
              clear H1152
              have H1172 := Hid.mk' (H1153.out.below b1167)
              clear H1153
              have H1173 := Hid.mk' (H1154.out.below b1167)
              clear H1154
              have H1174 := Hid.mk' (H1155.out.below b1167)
              clear H1155
              have H1175 := Hid.mk' (H1156.out.below b1167)
              clear H1156
              have H1176 := Hid.mk' (H1157.out.below b1167)
              clear H1157
              have H1177 := Hid.mk' (H1158.out.below b1167)
              clear H1158
              have H1178 := Hid.mk' (H1159.out.below b1167)
              clear H1159
              have H1179 := Hid.mk' (H1160.out.below b1167)
              clear H1160
              have H1180 := Hid.mk' (H1161.out.below b1167)
              clear H1161
              have H1181 := Hid.mk' (H1163.out.below b1167)
              clear H1163
              have Z1182 := Hid.mk' (bel_next Z1162.out b1167)
              clear Z1162
              have H1183 : Hid (RL w1164 a1165 c1166 (scL 7 P)) := r1168
              clear r1168
              clear b1167
              go_wp2_with fail
              refine (scI_L 7 H1172.out).mono ?_
              rw [e5]
              rintro e w1184 ⟨a1185, c1186, rfl, b1187, r1188⟩
              have H1189 := Hid.mk' (H1169.out.below b1187)
              clear H1169
              have H1190 := Hid.mk' (H1170.out.below b1187)
              clear H1170
              have H1191 := Hid.mk' (H1171.out.below b1187)
              clear H1171
              have H1192 := Hid.mk' (H1172.out.below b1187)
              clear H1172
              have H1193 := Hid.mk' (H1173.out.below b1187)
              clear H1173
              have H1194 := Hid.mk' (H1174.out.below b1187)
              clear H1174
              have H1195 := Hid.mk' (H1175.out.below b1187)
              clear H1175
              have H1196 := Hid.mk' (H1176.out.below b1187)
              clear H1176
              have H1197 := Hid.mk' (H1177.out.below b1187)
              clear H1177
              have H1198 := Hid.mk' (H1178.out.below b1187)
              clear H1178
              have H1199 := Hid.mk' (H1179.out.below b1187)
              clear H1179
              have H1200 := Hid.mk' (H1180.out.below b1187)
              clear H1180
              have H1201 := Hid.mk' (H1181.out.below b1187)
              clear H1181
              have H1202 := Hid.mk' (H1183.out.below b1187)
              clear H1183
              have Z1203 := Hid.mk' (bel_next Z1182.out b1187)
              clear Z1182
              have H1204 : Hid (RL w1184 a1185 c1186 (scL 7 P)) := r1188
              clear r1188
              clear b1187
              go_wp2_with fail
              refine (he_L H1202.out H1204.out).mono ?_
              rw [sq_same]
              rintro e w1205 ⟨rfl, b1206⟩
              have H1207 := Hid.mk' (H1189.out.below b1206)
              clear H1189
              have H1208 := Hid.mk' (H1190.out.below b1206)
              clear H1190
              have H1209 := Hid.mk' (H1191.out.below b1206)
              clear H1191
              have H1210 := Hid.mk' (H1192.out.below b1206)
              clear H1192
              have H1211 := Hid.mk' (H1193.out.below b1206)
              clear H1193
              have H1212 := Hid.mk' (H1194.out.below b1206)
              clear H1194
              have H1213 := Hid.mk' (H1195.out.below b1206)
              clear H1195
              have H1214 := Hid.mk' (H1196.out.below b1206)
              clear H1196
              have H1215 := Hid.mk' (H1197.out.below b1206)
              clear H1197
              have H1216 := Hid.mk' (H1198.out.below b1206)
              clear H1198
              have H1217 := Hid.mk' (H1199.out.below b1206)
              clear H1199
              have H1218 := Hid.mk' (H1200.out.below b1206)
              clear H1200
              have H1219 := Hid.mk' (H1201.out.below b1206)
              clear H1201
              have H1220 := Hid.mk' (H1202.out.below b1206)
              clear H1202
              have H1221 := Hid.mk' (H1204.out.below b1206)
              clear H1204
              have Z1222 := Hid.mk' (bel_next Z1203.out b1206)
              clear Z1203
              clear b1206
              go_wp2_with fail
              refine (heOk_L _ ).mono ?_
              rintro e w1223 ⟨rfl, b1224⟩
              have H1225 := Hid.mk' (H1207.out.below b1224)
              clear H1207
              have H1226 := Hid.mk' (H1208.out.below b1224)
              clear H1208
              have H1227 := Hid.mk' (H1209.out.below b1224)
              clear H1209
              have H1228 := Hid.mk' (H1210.out.below b1224)
              clear H1210
              have H1229 := Hid.mk' (H1211.out.below b1224)
              clear H1211
              have H1230 := Hid.mk' (H1212.out.below b1224)
              clear H1212
              have H1231 := Hid.mk' (H1213.out.below b1224)
              clear H1213
              have H1232 := Hid.mk' (H1214.out.below b1224)
              clear H1214
              have H1233 := Hid.mk' (H1215.out.below b1224)
              clear H1215
              have H1234 := Hid.mk' (H1216.out.below b1224)
              clear H1216
              have H1235 := Hid.mk' (H1217.out.below b1224)
              clear H1217
              have H1236 := Hid.mk' (H1218.out.below b1224)
              clear H1218
              have H1237 := Hid.mk' (H1219.out.below b1224)
              clear H1219
              have H1238 := Hid.mk' (H1220.out.below b1224)
              clear H1220
              have H1239 := Hid.mk' (H1221.out.below b1224)
              clear H1221
              have Z1240 := Hid.mk' (bel_next Z1222.out b1224)
              clear Z1222
              clear b1224
              go_wp2
              go_ret
              exact ⟨rfl, Z1240.out⟩
            · cases o5
              · go_wp2_with fail
                refine (scI_L 7 H1036.out).mono ?_
                rw [e4]
                rintro e w1241 ⟨a1242, c1243, rfl, b1244, r1245⟩
                have H1246 := Hid.mk' (H1036.out.below b1244)
                clear H1036
                have H1247 := Hid.mk' (H1037.out.below b1244)
                clear H1037
                have H1248 := Hid.mk' (H1038.out.below b1244)
                clear H1038
                have H1249 := Hid.mk' (H1039.out.below b1244)
                clear H1039
                have H1250 := Hid.mk' (H1040.out.below b1244)
                clear H1040
                have H1251 := Hid.mk' (H1041.out.below b1244)
                clear H1041
                have H1252 := Hid.mk' (H1042.out.below b1244)
                clear H1042
                have H1253 := Hid.mk' (H1043.out.below b1244)
                clear H1043
                have H1254 := Hid.mk' (H1044.out.below b1244)
                clear H1044
                have H1255 := Hid.mk' (H1045.out.below b1244)
                clear H1045
                have H1256 := Hid.mk' (H1046.out.below b1244)
                clear H1046
                have H1257 := Hid.mk' (H1047.out.below b1244)
                clear H1047
                have Z1258 := Hid.mk' (bel_next Z1048.out b1244)
                clear Z1048
                have H1259 : Hid (RL w1241 a1242 c1243 (scL 7 A)) := r1245
                clear r1245
                clear b1244
                go_wp2_with fail
                refine (wmI_L H1259.out H1247.out).mono ?_
                rw [e3]
                rintro e w1260 ⟨a1261, c1262, rfl, b1263, r1264⟩
                have H1265 := Hid.mk' (H1246.out.below b1263)
                clear H1246
                have H1266 := Hid.mk' (H1247.out.below b1263)
                clear H1247
                have H1267 := Hid.mk' (H1248.out.below b1263)
                clear H1248
                have H1268 := Hid.mk' (H1249.out.below b1263)
                clear H1249
                have H1269 := Hid.mk' (H1250.out.below b1263)
                clear H1250
                have H1270 := Hid.mk' (H1251.out.below b1263)
                clear H1251
                have H1271 := Hid.mk' (H1252.out.below b1263)
                clear H1252
                have H1272 := Hid.mk' (H1253.out.below b1263)
                clear H1253
                have H1273 := Hid.mk' (H1254.out.below b1263)
                clear H1254
                have H1274 := Hid.mk' (H1255.out.below b1263)
                clear H1255
                have H1275 := Hid.mk' (H1256.out.below b1263)
                clear H1256
                have H1276 := Hid.mk' (H1257.out.below b1263)
                clear H1257
                have H1277 := Hid.mk' (H1259.out.below b1263)
                clear H1259
                have Z1278 := Hid.mk' (bel_next Z1258.out b1263)
                clear Z1258
                have H1279 : Hid (RL w1260 a1261 c1262 (scL 7 P)) := r1264
                clear r1264
                clear b1263
                go_wp2_with fail
                refine (scI_L 7 H1268.out).mono ?_
                rw [e5]
                rintro e w1280 ⟨a1281, c1282, rfl, b1283, r1284⟩
                have H1285 := Hid.mk' (H1265.out.below b1283)
                clear H1265
                have H1286 := Hid.mk' (H1266.out.below b1283)
                clear H1266
                have H1287 := Hid.mk' (H1267.out.below b1283)
                clear H1267
                have H1288 := Hid.mk' (H1268.out.below b1283)
                clear H1268
                have H1289 := Hid.mk' (H1269.out.below b1283)
                clear H1269
                have H1290 := Hid.mk' (H1270.out.below b1283)
                clear H1270
                have H1291 := Hid.mk' (H1271.out.below b1283)
                clear H1271
                have H1292 := Hid.mk' (H1272.out.below b1283)
                clear H1272
                have H1293 := Hid.mk' (H1273.out.below b1283)
                clear H1273
                have H1294 := Hid.mk' (H1274.out.below b1283)
                clear H1274
                have H1295 := Hid.mk' (H1275.out.below b1283)
                clear H1275
                have H1296 := Hid.mk' (H1276.out.below b1283)
                clear H1276
                have H1297 := Hid.mk' (H1277.out.below b1283)
                clear H1277
                have H1298 := Hid.mk' (H1279.out.below b1283)
                clear H1279
                have Z1299 := Hid.mk' (bel_next Z1278.out b1283)
                clear Z1278
                have H1300 : Hid (RL w1280 a1281 c1282 (scL 7 P)) := r1284
                clear r1284
                clear b1283
                go_wp2_with fail
                refine (he_L H1298.out H1300.out).mono ?_
                rw [sq_same]
                rintro e w1301 ⟨rfl, b1302⟩
                have H1303 := Hid.mk' (H1285.out.below b1302)
                clear H1285
                have H1304 := Hid.mk' (H1286.out.below b1302)
                clear H1286
                have H1305 := Hid.mk' (H1287.out.below b1302)
                clear H1287
                have H1306 := Hid.mk' (H1288.out.below b1302)
                clear H1288
                have H1307 := Hid.mk' (H1289.out.below b1302)
                clear H1289
                have H1308 := Hid.mk' (H1290.out.below b1302)
                clear H1290
                have H1309 := Hid.mk' (H1291.out.below b1302)
                clear H1291
                have H1310 := Hid.mk' (H1292.out.below b1302)
                clear H1292
                have H1311 := Hid.mk' (H1293.out.below b1302)
                clear H1293
                have H1312 := Hid.mk' (H1294.out.below b1302)
                clear H1294
                have H1313 := Hid.mk' (H1295.out.below b1302)
                clear H1295
                have H1314 := Hid.mk' (H1296.out.below b1302)
                clear H1296
                have H1315 := Hid.mk' (H1297.out.below b1302)
                clear H1297
                have H1316 := Hid.mk' (H1298.out.below b1302)
                clear H1298
                have H1317 := Hid.mk' (H1300.out.below b1302)
                clear H1300
                have Z1318 := Hid.mk' (bel_next Z1299.out b1302)
                clear Z1299
                clear b1302
                go_wp2_with fail
                refine (heOk_L _ ).mono ?_
                rintro e w1319 ⟨rfl, b1320⟩
                have H1321 := Hid.mk' (H1303.out.below b1320)
                clear H1303
                have H1322 := Hid.mk' (H1304.out.below b1320)
                clear H1304
                have H1323 := Hid.mk' (H1305.out.below b1320)
                clear H1305
                have H1324 := Hid.mk' (H1306.out.below b1320)
                clear H1306
                have H1325 := Hid.mk' (H1307.out.below b1320)
                clear H1307
                have H1326 := Hid.mk' (H1308.out.below b1320)
                clear H1308
                have H1327 := Hid.mk' (H1309.out.below b1320)
                clear H1309
                have H1328 := Hid.mk' (H1310.out.below b1320)
                clear H1310
                have H1329 := Hid.mk' (H1311.out.below b1320)
                clear H1311
                have H1330 := Hid.mk' (H1312.out.below b1320)
                clear H1312
                have H1331 := Hid.mk' (H1313.out.below b1320)
                clear H1313
                have H1332 := Hid.mk' (H1314.out.below b1320)
                clear H1314
                have H1333 := Hid.mk' (H1315.out.below b1320)
                clear H1315
                have H1334 := Hid.mk' (H1316.out.below b1320)
                clear H1316
                have H1335 := Hid.mk' (H1317.out.below b1320)
                clear H1317
                have Z1336 := Hid.mk' (bel_next Z1318.out b1320)
                clear Z1318
                clear b1320
                go_wp2
                go_ret
                exact ⟨rfl, Z1336.out⟩
              · have e2 := wm_right hS k4 k5 k3
                go_wp2_with fail
                refine (addI_L H1045.out H1046.out).mono ?_
                rw [e2]
                rintro e w1337 ⟨a1338, c1339, rfl, b1340, r1341⟩
                have H1342 := Hid.mk' (H1036.out.below b1340)
                clear H1036
                have H1343 := Hid.mk' (H1037.out.below b1340)
                clear H1037
                have H1344 := Hid.mk' (H1038.out.below b1340)
                clear H1038
                have H1345 := Hid.mk' (H1039.out.below b1340)
                clear H1039
                have H1346 := Hid.mk' (H1040.out.below b1340)
                clear H1040
                have H1347 := Hid.mk' (H1041.out.below b1340)
                clear H1041
                have H1348 := Hid.mk' (H1042.out.below b1340)
                clear H1042
                have H1349 := Hid.mk' (H1043.out.below b1340)
                clear H1043
                have H1350 := Hid.mk' (H1044.out.below b1340)
                clear H1044
                have H1351 := Hid.mk' (H1045.out.below b1340)
                clear H1045
                have H1352 := Hid.mk' (H1046.out.below b1340)
                clear H1046
                have H1353 := Hid.mk' (H1047.out.below b1340)
                clear H1047
                have Z1354 := Hid.mk' (bel_next Z1048.out b1340)
                clear Z1048
                have H1355 : Hid (RL w1337 a1338 c1339 VV) := r1341
                clear r1341
                clear b1340
                go_wp2_with fail
                refine (he_L H1350.out H1355.out).mono ?_
                rw [sq_same]
                rintro e w1356 ⟨rfl, b1357⟩
                have H1358 := Hid.mk' (H1342.out.below b1357)
                clear H1342
                have H1359 := Hid.mk' (H1343.out.below b1357)
                clear H1343
                have H1360 := Hid.mk' (H1344.out.below b1357)
                clear H1344
                have H1361 := Hid.mk' (H1345.out.below b1357)
                clear H1345
                have H1362 := Hid.mk' (H1346.out.below b1357)
                clear H1346
                have H1363 := Hid.mk' (H1347.out.below b1357)
                clear H1347
                have H1364 := Hid.mk' (H1348.out.below b1357)
                clear H1348
                have H1365 := Hid.mk' (H1349.out.below b1357)
                clear H1349
                have H1366 := Hid.mk' (H1350.out.below b1357)
                clear H1350
                have H1367 := Hid.mk' (H1351.out.below b1357)
                clear H1351
                have H1368 := Hid.mk' (H1352.out.below b1357)
                clear H1352
                have H1369 := Hid.mk' (H1353.out.below b1357)
                clear H1353
                have H1370 := Hid.mk' (H1355.out.below b1357)
                clear H1355
                have Z1371 := Hid.mk' (bel_next Z1354.out b1357)
                clear Z1354
                clear b1357
                go_wp2_with fail
                refine (scI_L 7 H1358.out).mono ?_
                rw [e4]
                rintro e w1372 ⟨a1373, c1374, rfl, b1375, r1376⟩
                have H1377 := Hid.mk' (H1358.out.below b1375)
                clear H1358
                have H1378 := Hid.mk' (H1359.out.below b1375)
                clear H1359
                have H1379 := Hid.mk' (H1360.out.below b1375)
                clear H1360
                have H1380 := Hid.mk' (H1361.out.below b1375)
                clear H1361
                have H1381 := Hid.mk' (H1362.out.below b1375)
                clear H1362
                have H1382 := Hid.mk' (H1363.out.below b1375)
                clear H1363
                have H1383 := Hid.mk' (H1364.out.below b1375)
                clear H1364
                have H1384 := Hid.mk' (H1365.out.below b1375)
                clear H1365
                have H1385 := Hid.mk' (H1366.out.below b1375)
                clear H1366
                have H1386 := Hid.mk' (H1367.out.below b1375)
                clear H1367
                have H1387 := Hid.mk' (H1368.out.below b1375)
                clear H1368
                have H1388 := Hid.mk' (H1369.out.below b1375)
                clear H1369
                have H1389 := Hid.mk' (H1370.out.below b1375)
                clear H1370
                have Z1390 := Hid.mk' (bel_next Z1371.out b1375)
                clear Z1371
                have H1391 : Hid (RL w1372 a1373 c1374 (scL 7 A)) := r1376
                clear r1376
                clear b1375
                go_wp2_with fail
                refine (wmI_L H1391.out H1378.out).mono ?_
                rw [e3]
                rintro e w1392 ⟨a1393, c1394, rfl, b1395, r1396⟩
                have H1397 := Hid.mk' (H1377.out.below b1395)
                clear H1377
                have H1398 := Hid.mk' (H1378.out.below b1395)
                clear H1378
                have H1399 := Hid.mk' (H1379.out.below b1395)
                clear H1379
                have H1400 := Hid.mk' (H1380.out.below b1395)
                clear H1380
                have H1401 := Hid.mk' (H1381.out.below b1395)
                clear H1381
                have H1402 := Hid.mk' (H1382.out.below b1395)
                clear H1382
                have H1403 := Hid.mk' (H1383.out.below b1395)
                clear H1383
                have H1404 := Hid.mk' (H1384.out.below b1395)
                clear H1384
                have H1405 := Hid.mk' (H1385.out.below b1395)
                clear H1385
                have H1406 := Hid.mk' (H1386.out.below b1395)
                clear H1386
                have H1407 := Hid.mk' (H1387.out.below b1395)
                clear H1387
                have H1408 := Hid.mk' (H1388.out.below b1395)
                clear H1388
                have H1409 := Hid.mk' (H1389.out.below b1395)
                clear H1389
                have H1410 := Hid.mk' (H1391.out.below b1395)
                clear H1391
                have Z1411 := Hid.mk' (bel_next Z1390.out b1395)
                clear Z1390
                have H1412 : Hid (RL w1392 a1393 c1394 (scL 7 P)) := r1396
                clear r1396
                clear b1395
                go_wp2_with fail
                refine (scI_L 7 H1400.out).mono ?_
                rw [e5]
                rintro e w1413 ⟨a1414, c1415, rfl, b1416, r1417⟩
                have H1418 := Hid.mk' (H1397.out.below b1416)
                clear H1397
                have H1419 := Hid.mk' (H1398.out.below b1416)
                clear H1398
                have H1420 := Hid.mk' (H1399.out.below b1416)
                clear H1399
                have H1421 := Hid.mk' (H1400.out.below b1416)
                clear H1400
                have H1422 := Hid.mk' (H1401.out.below b1416)
                clear H1401
                have H1423 := Hid.mk' (H1402.out.below b1416)
                clear H1402
                have H1424 := Hid.mk' (H1403.out.below b1416)
                clear H1403
                have H1425 := Hid.mk' (H1404.out.below b1416)
                clear H1404
                have H1426 := Hid.mk' (H1405.out.below b1416)
                clear H1405
                have H1427 := Hid.mk' (H1406.out.below b1416)
                clear H1406
                have H1428 := Hid.mk' (H1407.out.below b1416)
                clear H1407
                have H1429 := Hid.mk' (H1408.out.below b1416)
                clear H1408
                have H1430 := Hid.mk' (H1409.out.below b1416)
                clear H1409
                have H1431 := Hid.mk' (H1410.out.below b1416)
                clear H1410
                have H1432 := Hid.mk' (H1412.out.below b1416)
                clear H1412
                have Z1433 := Hid.mk' (bel_next Z1411.out b1416)
                clear Z1411
                have H1434 : Hid (RL w1413 a1414 c1415 (scL 7 P)) := r1417
                clear r1417
                clear b1416
                go_wp2_with fail
                refine (he_L H1432.out H1434.out).mono ?_
                rw [sq_same]
                rintro e w1435 ⟨rfl, b1436⟩
                have H1437 := Hid.mk' (H1418.out.below b1436)
                clear H1418
                have H1438 := Hid.mk' (H1419.out.below b1436)
                clear H1419
                have H1439 := Hid.mk' (H1420.out.below b1436)
                clear H1420
                have H1440 := Hid.mk' (H1421.out.below b1436)
                clear H1421
                have H1441 := Hid.mk' (H1422.out.below b1436)
                clear H1422
                have H1442 := Hid.mk' (H1423.out.below b1436)
                clear H1423
                have H1443 := Hid.mk' (H1424.out.below b1436)
                clear H1424
                have H1444 := Hid.mk' (H1425.out.below b1436)
                clear H1425
                have H1445 := Hid.mk' (H1426.out.below b1436)
                clear H1426
                have H1446 := Hid.mk' (H1427.out.below b1436)
                clear H1427
                have H1447 := Hid.mk' (H1428.out.below b1436)
                clear H1428
                have H1448 := Hid.mk' (H1429.out.below b1436)
                clear H1429
                have H1449 := Hid.mk' (H1430.out.below b1436)
                clear H1430
                have H1450 := Hid.mk' (H1431.out.below b1436)
                clear H1431
                have H1451 := Hid.mk' (H1432.out.below b1436)
                clear H1432
                have H1452 := Hid.mk' (H1434.out.below b1436)
                clear H1434
                have Z1453 := Hid.mk' (bel_next Z1433.out b1436)
                clear Z1433
                clear b1436
                go_wp2_with fail
                refine (heOk_L _ ).mono ?_
                rintro e w1454 ⟨rfl, b1455⟩
                have H1456 := Hid.mk' (H1437.out.below b1455)
                clear H1437
                have H1457 := Hid.mk' (H1438.out.below b1455)
                clear H1438
                have H1458 := Hid.mk' (H1439.out.below b1455)
                clear H1439
                have H1459 := Hid.mk' (H1440.out.below b1455)
                clear H1440
                have H1460 := Hid.mk' (H1441.out.below b1455)
                clear H1441
                have H1461 := Hid.mk' (H1442.out.below b1455)
                clear H1442
                have H1462 := Hid.mk' (H1443.out.below b1455)
                clear H1443
                have H1463 := Hid.mk' (H1444.out.below b1455)
                clear H1444
                have H1464 := Hid.mk' (H1445.out.below b1455)
                clear H1445
                have H1465 := Hid.mk' (H1446.out.below b1455)
                clear H1446
                have H1466 := Hid.mk' (H1447.out.below b1455)
                clear H1447
                have H1467 := Hid.mk' (H1448.out.below b1455)
                clear H1448
                have H1468 := Hid.mk' (H1449.out.below b1455)
                clear H1449
                have H1469 := Hid.mk' (H1450.out.below b1455)
                clear H1450
                have H1470 := Hid.mk' (H1451.out.below b1455)
                clear H1451
                have H1471 := Hid.mk' (H1452.out.below b1455)
                clear H1452
                have Z1472 := Hid.mk' (bel_next Z1453.out b1455)
                clear Z1453
                clear b1455
                go_wp2
                go_ret
                exact ⟨rfl, Z1472.out⟩
end Go.Proofs.Ytbadbmddocifdaa
