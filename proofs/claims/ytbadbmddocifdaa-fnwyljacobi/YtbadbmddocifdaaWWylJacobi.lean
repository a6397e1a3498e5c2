/-
  The walk of FnWylJacobi: whatever the code, it comes out true, and nothing that was there is turned.
-/
import Derived.Test.YtbadbmddocifdaaGaz
namespace Go.Proofs.Ytbadbmddocifdaa
open Go.RowKit
set_option linter.unusedVariables false
set_option maxRecDepth 100000 in
set_option maxHeartbeats 8000000 in
theorem walk_FnWylJacobi (w : World) (a0 : Option Addr) (len0 cap0 : Nat) (s0 : Src w a0 len0 cap0) (a1 : Option Addr) (len1 cap1 : Nat) (s1 : Src w a1 len1 cap1) :
    Calls Try.prog 7 #[.slice a0 len0 cap0, .slice a1 len1 cap1] w fun e w' => e = .returned (.bool true) ∧ Below w.heap.size w w' := by
  by_cases c0 : (1048576 : Int) < (len0 : Int)
  · go_enter Try.func7, Try.ntmps7
    go_wp2
    go_ret
    exact ⟨rfl, Below.refl _ _⟩
  by_cases c1 : (1048576 : Int) < (len1 : Int)
  · go_enter Try.func7, Try.ntmps7
    go_wp2
    go_ret
    exact ⟨rfl, Below.refl _ _⟩
  go_enter Try.func7, Try.ntmps7
  go_wp2_with fail
  refine (drawWylApart w a0 len0 cap0 s0).mono ?_
  rintro e wd ⟨da, dca, A, db, dcb, B, rfl, hA, hB, hlA, hlB, hbd⟩
  have HA0 := Hid.mk' hA
  have HB0 := Hid.mk' hB
  have Z0 := Hid.mk' hbd
  have S1 := Hid.mk' (s1.below hbd)
  clear hA hB hbd s0 s1
  go_wp2_with fail
  refine (drawWylMul wd a1 len1 cap1 S1.out).mono ?_
  rintro e we ⟨dc, dcc, C, dd, dcd, D, rfl, hC, hD, hlC, hlD, hbe⟩
  have HC0 := Hid.mk' hC
  clear hC hD S1
  have H1 := Hid.mk' (HA0.out.below hbe)
  clear HA0
  have H2 := Hid.mk' (HB0.out.below hbe)
  clear HB0
  have Z3 := Hid.mk' (bel_next Z0.out hbe)
  clear Z0
  clear hbe
  rcases apV_if A B with h1 | ⟨AB, h1⟩
  · go_wp2_with fail
    refine (apI_L H1.out H2.out).mono ?_
    rw [h1]
    rintro e w4 ⟨a5, c6, rfl, b7, r8⟩
    have H9 := Hid.mk' (H1.out.below b7)
    clear H1
    have H10 := Hid.mk' (H2.out.below b7)
    clear H2
    have H11 := Hid.mk' (HC0.out.below b7)
    clear HC0
    have Z12 := Hid.mk' (bel_next Z3.out b7)
    clear Z3
    have H13 : Hid (RL w4 a5 c6 []) := r8
    clear r8
    clear b7
    go_wp2_with fail
    refine (apS_L H9.out H10.out).mono ?_
    rw [h1]
    rintro e w14 ⟨a15, c16, rfl, b17, r18⟩
    have H19 := Hid.mk' (H9.out.below b17)
    clear H9
    have H20 := Hid.mk' (H10.out.below b17)
    clear H10
    have H21 := Hid.mk' (H11.out.below b17)
    clear H11
    have H22 := Hid.mk' (H13.out.below b17)
    clear H13
    have Z23 := Hid.mk' (bel_next Z12.out b17)
    clear Z12
    have H24 : Hid (RL w14 a15 c16 []) := r18
    clear r18
    clear b17
    go_wp2_with fail
    refine (he_L H22.out H24.out).mono ?_
    rw [sq_same]
    rintro e w25 ⟨rfl, b26⟩
    have H27 := Hid.mk' (H19.out.below b26)
    clear H19
    have H28 := Hid.mk' (H20.out.below b26)
    clear H20
    have H29 := Hid.mk' (H21.out.below b26)
    clear H21
    have H30 := Hid.mk' (H22.out.below b26)
    clear H22
    have H31 := Hid.mk' (H24.out.below b26)
    clear H24
    have Z32 := Hid.mk' (bel_next Z23.out b26)
    clear Z23
    clear b26
    rcases apV_if B C with h2 | ⟨BC, h2⟩
    · go_wp2_with fail
      refine (apI_L H28.out H29.out).mono ?_
      rw [h2]
      rintro e w33 ⟨a34, c35, rfl, b36, r37⟩
      have H38 := Hid.mk' (H27.out.below b36)
      clear H27
      have H39 := Hid.mk' (H28.out.below b36)
      clear H28
      have H40 := Hid.mk' (H29.out.below b36)
      clear H29
      have H41 := Hid.mk' (H30.out.below b36)
      clear H30
      have H42 := Hid.mk' (H31.out.below b36)
      clear H31
      have Z43 := Hid.mk' (bel_next Z32.out b36)
      clear Z32
      have H44 : Hid (RL w33 a34 c35 []) := r37
      clear r37
      clear b36
      rcases apV_if C A with h3 | ⟨CA, h3⟩
      · go_wp2_with fail
        refine (apI_L H40.out H38.out).mono ?_
        rw [h3]
        rintro e w45 ⟨a46, c47, rfl, b48, r49⟩
        have H50 := Hid.mk' (H38.out.below b48)
        clear H38
        have H51 := Hid.mk' (H39.out.below b48)
        clear H39
        have H52 := Hid.mk' (H40.out.below b48)
        clear H40
        have H53 := Hid.mk' (H41.out.below b48)
        clear H41
        have H54 := Hid.mk' (H42.out.below b48)
        clear H42
        have H55 := Hid.mk' (H44.out.below b48)
        clear H44
        have Z56 := Hid.mk' (bel_next Z43.out b48)
        clear Z43
        have H57 : Hid (RL w45 a46 c47 []) := r49
        clear r49
        clear b48
        go_wp2_with fail
        refine (heOk_L _ ).mono ?_
        rintro e w58 ⟨rfl, b59⟩
        have H60 := Hid.mk' (H50.out.below b59)
        clear H50
        have H61 := Hid.mk' (H51.out.below b59)
        clear H51
        have H62 := Hid.mk' (H52.out.below b59)
        clear H52
        have H63 := Hid.mk' (H53.out.below b59)
        clear H53
        have H64 := Hid.mk' (H54.out.below b59)
        clear H54
        have H65 := Hid.mk' (H55.out.below b59)
        clear H55
        have H66 := Hid.mk' (H57.out.below b59)
        clear H57
        have Z67 := Hid.mk' (bel_next Z56.out b59)
        clear Z56
        clear b59
        go_wp2
        go_ret
        exact ⟨rfl, Z67.out⟩
      · go_wp2_with fail
        refine (apI_L H40.out H38.out).mono ?_
        rw [h3]
        rintro e w68 ⟨a69, c70, rfl, b71, r72⟩
        have H73 := Hid.mk' (H38.out.below b71)
        clear H38
        have H74 := Hid.mk' (H39.out.below b71)
        clear H39
        have H75 := Hid.mk' (H40.out.below b71)
        clear H40
        have H76 := Hid.mk' (H41.out.below b71)
        clear H41
        have H77 := Hid.mk' (H42.out.below b71)
        clear H42
        have H78 := Hid.mk' (H44.out.below b71)
        clear H44
        have Z79 := Hid.mk' (bel_next Z43.out b71)
        clear Z43
        have H80 : Hid (RL w68 a69 c70 CA) := r72
        clear r72
        clear b71
        go_wp2_with fail
        refine (heOk_L _ ).mono ?_
        rintro e w81 ⟨rfl, b82⟩
        have H83 := Hid.mk' (H73.out.below b82)
        clear H73
        have H84 := Hid.mk' (H74.out.below b82)
        clear H74
        have H85 := Hid.mk' (H75.out.below b82)
        clear H75
        have H86 := Hid.mk' (H76.out.below b82)
        clear H76
        have H87 := Hid.mk' (H77.out.below b82)
        clear H77
        have H88 := Hid.mk' (H78.out.below b82)
        clear H78
        have H89 := Hid.mk' (H80.out.below b82)
        clear H80
        have Z90 := Hid.mk' (bel_next Z79.out b82)
        clear Z79
        clear b82
        go_wp2
        go_ret
        exact ⟨rfl, Z90.out⟩
    · go_wp2_with fail
      refine (apI_L H28.out H29.out).mono ?_
      rw [h2]
      rintro e w91 ⟨a92, c93, rfl, b94, r95⟩
      have H96 := Hid.mk' (H27.out.below b94)
      clear H27
      have H97 := Hid.mk' (H28.out.below b94)
      clear H28
      have H98 := Hid.mk' (H29.out.below b94)
      clear H29
      have H99 := Hid.mk' (H30.out.below b94)
      clear H30
      have H100 := Hid.mk' (H31.out.below b94)
      clear H31
      have Z101 := Hid.mk' (bel_next Z32.out b94)
      clear Z32
      have H102 : Hid (RL w91 a92 c93 BC) := r95
      clear r95
      clear b94
      rcases apV_if C A with h3 | ⟨CA, h3⟩
      · go_wp2_with fail
        refine (apI_L H98.out H96.out).mono ?_
        rw [h3]
        rintro e w103 ⟨a104, c105, rfl, b106, r107⟩
        have H108 := Hid.mk' (H96.out.below b106)
        clear H96
        have H109 := Hid.mk' (H97.out.below b106)
        clear H97
        have H110 := Hid.mk' (H98.out.below b106)
        clear H98
        have H111 := Hid.mk' (H99.out.below b106)
        clear H99
        have H112 := Hid.mk' (H100.out.below b106)
        clear H100
        have H113 := Hid.mk' (H102.out.below b106)
        clear H102
        have Z114 := Hid.mk' (bel_next Z101.out b106)
        clear Z101
        have H115 : Hid (RL w103 a104 c105 []) := r107
        clear r107
        clear b106
        go_wp2_with fail
        refine (heOk_L _ ).mono ?_
        rintro e w116 ⟨rfl, b117⟩
        have H118 := Hid.mk' (H108.out.below b117)
        clear H108
        have H119 := Hid.mk' (H109.out.below b117)
        clear H109
        have H120 := Hid.mk' (H110.out.below b117)
        clear H110
        have H121 := Hid.mk' (H111.out.below b117)
        clear H111
        have H122 := Hid.mk' (H112.out.below b117)
        clear H112
        have H123 := Hid.mk' (H113.out.below b117)
        clear H113
        have H124 := Hid.mk' (H115.out.below b117)
        clear H115
        have Z125 := Hid.mk' (bel_next Z114.out b117)
        clear Z114
        clear b117
        go_wp2
        go_ret
        exact ⟨rfl, Z125.out⟩
      · go_wp2_with fail
        refine (apI_L H98.out H96.out).mono ?_
        rw [h3]
        rintro e w126 ⟨a127, c128, rfl, b129, r130⟩
        have H131 := Hid.mk' (H96.out.below b129)
        clear H96
        have H132 := Hid.mk' (H97.out.below b129)
        clear H97
        have H133 := Hid.mk' (H98.out.below b129)
        clear H98
        have H134 := Hid.mk' (H99.out.below b129)
        clear H99
        have H135 := Hid.mk' (H100.out.below b129)
        clear H100
        have H136 := Hid.mk' (H102.out.below b129)
        clear H102
        have Z137 := Hid.mk' (bel_next Z101.out b129)
        clear Z101
        have H138 : Hid (RL w126 a127 c128 CA) := r130
        clear r130
        clear b129
        go_wp2_with fail
        refine (heOk_L _ ).mono ?_
        rintro e w139 ⟨rfl, b140⟩
        have H141 := Hid.mk' (H131.out.below b140)
        clear H131
        have H142 := Hid.mk' (H132.out.below b140)
        clear H132
        have H143 := Hid.mk' (H133.out.below b140)
        clear H133
        have H144 := Hid.mk' (H134.out.below b140)
        clear H134
        have H145 := Hid.mk' (H135.out.below b140)
        clear H135
        have H146 := Hid.mk' (H136.out.below b140)
        clear H136
        have H147 := Hid.mk' (H138.out.below b140)
        clear H138
        have Z148 := Hid.mk' (bel_next Z137.out b140)
        clear Z137
        clear b140
        go_wp2
        go_ret
        exact ⟨rfl, Z148.out⟩
  · go_wp2_with fail
    refine (apI_L H1.out H2.out).mono ?_
    rw [h1]
    rintro e w149 ⟨a150, c151, rfl, b152, r153⟩
    have H154 := Hid.mk' (H1.out.below b152)
    clear H1
    have H155 := Hid.mk' (H2.out.below b152)
    clear H2
    have H156 := Hid.mk' (HC0.out.below b152)
    clear HC0
    have Z157 := Hid.mk' (bel_next Z3.out b152)
    clear Z3
    have H158 : Hid (RL w149 a150 c151 AB) := r153
    clear r153
    clear b152
    go_wp2_with fail
    refine (apS_L H154.out H155.out).mono ?_
    rw [h1]
    rintro e w159 ⟨a160, c161, rfl, b162, r163⟩
    have H164 := Hid.mk' (H154.out.below b162)
    clear H154
    have H165 := Hid.mk' (H155.out.below b162)
    clear H155
    have H166 := Hid.mk' (H156.out.below b162)
    clear H156
    have H167 := Hid.mk' (H158.out.below b162)
    clear H158
    have Z168 := Hid.mk' (bel_next Z157.out b162)
    clear Z157
    have H169 : Hid (RL w159 a160 c161 AB) := r163
    clear r163
    clear b162
    go_wp2_with fail
    refine (he_L H167.out H169.out).mono ?_
    rw [sq_same]
    rintro e w170 ⟨rfl, b171⟩
    have H172 := Hid.mk' (H164.out.below b171)
    clear H164
    have H173 := Hid.mk' (H165.out.below b171)
    clear H165
    have H174 := Hid.mk' (H166.out.below b171)
    clear H166
    have H175 := Hid.mk' (H167.out.below b171)
    clear H167
    have H176 := Hid.mk' (H169.out.below b171)
    clear H169
    have Z177 := Hid.mk' (bel_next Z168.out b171)
    clear Z168
    clear b171
    rcases apV_if B C with h2 | ⟨BC, h2⟩
    · go_wp2_with fail
      refine (apI_L H173.out H174.out).mono ?_
      rw [h2]
      rintro e w178 ⟨a179, c180, rfl, b181, r182⟩
      have H183 := Hid.mk' (H172.out.below b181)
      clear H172
      have H184 := Hid.mk' (H173.out.below b181)
      clear H173
      have H185 := Hid.mk' (H174.out.below b181)
      clear H174
      have H186 := Hid.mk' (H175.out.below b181)
      clear H175
      have H187 := Hid.mk' (H176.out.below b181)
      clear H176
      have Z188 := Hid.mk' (bel_next Z177.out b181)
      clear Z177
      have H189 : Hid (RL w178 a179 c180 []) := r182
      clear r182
      clear b181
      rcases apV_if C A with h3 | ⟨CA, h3⟩
      · go_wp2_with fail
        refine (apI_L H185.out H183.out).mono ?_
        rw [h3]
        rintro e w190 ⟨a191, c192, rfl, b193, r194⟩
        have H195 := Hid.mk' (H183.out.below b193)
        clear H183
        have H196 := Hid.mk' (H184.out.below b193)
        clear H184
        have H197 := Hid.mk' (H185.out.below b193)
        clear H185
        have H198 := Hid.mk' (H186.out.below b193)
        clear H186
        have H199 := Hid.mk' (H187.out.below b193)
        clear H187
        have H200 := Hid.mk' (H189.out.below b193)
        clear H189
        have Z201 := Hid.mk' (bel_next Z188.out b193)
        clear Z188
        have H202 : Hid (RL w190 a191 c192 []) := r194
        clear r194
        clear b193
        go_wp2_with fail
        refine (heOk_L _ ).mono ?_
        rintro e w203 ⟨rfl, b204⟩
        have H205 := Hid.mk' (H195.out.below b204)
        clear H195
        have H206 := Hid.mk' (H196.out.below b204)
        clear H196
        have H207 := Hid.mk' (H197.out.below b204)
        clear H197
        have H208 := Hid.mk' (H198.out.below b204)
        clear H198
        have H209 := Hid.mk' (H199.out.below b204)
        clear H199
        have H210 := Hid.mk' (H200.out.below b204)
        clear H200
        have H211 := Hid.mk' (H202.out.below b204)
        clear H202
        have Z212 := Hid.mk' (bel_next Z201.out b204)
        clear Z201
        clear b204
        go_wp2
        go_ret
        exact ⟨rfl, Z212.out⟩
      · go_wp2_with fail
        refine (apI_L H185.out H183.out).mono ?_
        rw [h3]
        rintro e w213 ⟨a214, c215, rfl, b216, r217⟩
        have H218 := Hid.mk' (H183.out.below b216)
        clear H183
        have H219 := Hid.mk' (H184.out.below b216)
        clear H184
        have H220 := Hid.mk' (H185.out.below b216)
        clear H185
        have H221 := Hid.mk' (H186.out.below b216)
        clear H186
        have H222 := Hid.mk' (H187.out.below b216)
        clear H187
        have H223 := Hid.mk' (H189.out.below b216)
        clear H189
        have Z224 := Hid.mk' (bel_next Z188.out b216)
        clear Z188
        have H225 : Hid (RL w213 a214 c215 CA) := r217
        clear r217
        clear b216
        go_wp2_with fail
        refine (heOk_L _ ).mono ?_
        rintro e w226 ⟨rfl, b227⟩
        have H228 := Hid.mk' (H218.out.below b227)
        clear H218
        have H229 := Hid.mk' (H219.out.below b227)
        clear H219
        have H230 := Hid.mk' (H220.out.below b227)
        clear H220
        have H231 := Hid.mk' (H221.out.below b227)
        clear H221
        have H232 := Hid.mk' (H222.out.below b227)
        clear H222
        have H233 := Hid.mk' (H223.out.below b227)
        clear H223
        have H234 := Hid.mk' (H225.out.below b227)
        clear H225
        have Z235 := Hid.mk' (bel_next Z224.out b227)
        clear Z224
        clear b227
        go_wp2
        go_ret
        exact ⟨rfl, Z235.out⟩
    · go_wp2_with fail
      refine (apI_L H173.out H174.out).mono ?_
      rw [h2]
      rintro e w236 ⟨a237, c238, rfl, b239, r240⟩
      have H241 := Hid.mk' (H172.out.below b239)
      clear H172
      have H242 := Hid.mk' (H173.out.below b239)
      clear H173
      have H243 := Hid.mk' (H174.out.below b239)
      clear H174
      have H244 := Hid.mk' (H175.out.below b239)
      clear H175
      have H245 := Hid.mk' (H176.out.below b239)
      clear H176
      have Z246 := Hid.mk' (bel_next Z177.out b239)
      clear Z177
      have H247 : Hid (RL w236 a237 c238 BC) := r240
      clear r240
      clear b239
      rcases apV_if C A with h3 | ⟨CA, h3⟩
      · go_wp2_with fail
        refine (apI_L H243.out H241.out).mono ?_
        rw [h3]
        rintro e w248 ⟨a249, c250, rfl, b251, r252⟩
        have H253 := Hid.mk' (H241.out.below b251)
        clear H241
        have H254 := Hid.mk' (H242.out.below b251)
        clear H242
        have H255 := Hid.mk' (H243.out.below b251)
        clear H243
        have H256 := Hid.mk' (H244.out.below b251)
        clear H244
        have H257 := Hid.mk' (H245.out.below b251)
        clear H245
        have H258 := Hid.mk' (H247.out.below b251)
        clear H247
        have Z259 := Hid.mk' (bel_next Z246.out b251)
        clear Z246
        have H260 : Hid (RL w248 a249 c250 []) := r252
        clear r252
        clear b251
        go_wp2_with fail
        refine (heOk_L _ ).mono ?_
        rintro e w261 ⟨rfl, b262⟩
        have H263 := Hid.mk' (H253.out.below b262)
        clear H253
        have H264 := Hid.mk' (H254.out.below b262)
        clear H254
        have H265 := Hid.mk' (H255.out.below b262)
        clear H255
        have H266 := Hid.mk' (H256.out.below b262)
        clear H256
        have H267 := Hid.mk' (H257.out.below b262)
        clear H257
        have H268 := Hid.mk' (H258.out.below b262)
        clear H258
        have H269 := Hid.mk' (H260.out.below b262)
        clear H260
        have Z270 := Hid.mk' (bel_next Z259.out b262)
        clear Z259
        clear b262
        go_wp2
        go_ret
        exact ⟨rfl, Z270.out⟩
      · go_wp2_with fail
        refine (apI_L H243.out H241.out).mono ?_
        rw [h3]
        rintro e w271 ⟨a272, c273, rfl, b274, r275⟩
        have H276 := Hid.mk' (H241.out.below b274)
        clear H241
        have H277 := Hid.mk' (H242.out.below b274)
        clear H242
        have H278 := Hid.mk' (H243.out.below b274)
        clear H243
        have H279 := Hid.mk' (H244.out.below b274)
        clear H244
        have H280 := Hid.mk' (H245.out.below b274)
        clear H245
        have H281 := Hid.mk' (H247.out.below b274)
        clear H247
        have Z282 := Hid.mk' (bel_next Z246.out b274)
        clear Z246
        have H283 : Hid (RL w271 a272 c273 CA) := r275
        clear r275
        clear b274
        rcases apV_if A BC with h4 | ⟨XX, h4⟩
        · go_wp2_with fail
          refine (apI_L H276.out H281.out).mono ?_
          rw [h4]
          rintro e w284 ⟨a285, c286, rfl, b287, r288⟩
          have H289 := Hid.mk' (H276.out.below b287)
          clear H276
          have H290 := Hid.mk' (H277.out.below b287)
          clear H277
          have H291 := Hid.mk' (H278.out.below b287)
          clear H278
          have H292 := Hid.mk' (H279.out.below b287)
          clear H279
          have H293 := Hid.mk' (H280.out.below b287)
          clear H280
          have H294 := Hid.mk' (H281.out.below b287)
          clear H281
          have H295 := Hid.mk' (H283.out.below b287)
          clear H283
          have Z296 := Hid.mk' (bel_next Z282.out b287)
          clear Z282
          have H297 : Hid (RL w284 a285 c286 []) := r288
          clear r288
          clear b287
          rcases apV_if B CA with h5 | ⟨YY, h5⟩
          · go_wp2_with fail
            refine (apI_L H290.out H295.out).mono ?_
            rw [h5]
            rintro e w298 ⟨a299, c300, rfl, b301, r302⟩
            have H303 := Hid.mk' (H289.out.below b301)
            clear H289
            have H304 := Hid.mk' (H290.out.below b301)
            clear H290
            have H305 := Hid.mk' (H291.out.below b301)
            clear H291
            have H306 := Hid.mk' (H292.out.below b301)
            clear H292
            have H307 := Hid.mk' (H293.out.below b301)
            clear H293
            have H308 := Hid.mk' (H294.out.below b301)
            clear H294
            have H309 := Hid.mk' (H295.out.below b301)
            clear H295
            have H310 := Hid.mk' (H297.out.below b301)
            clear H297
            have Z311 := Hid.mk' (bel_next Z296.out b301)
            clear Z296
            have H312 : Hid (RL w298 a299 c300 []) := r302
            clear r302
            clear b301
            rcases apV_if C AB with h6 | ⟨ZZ, h6⟩
            · go_wp2_with fail
              refine (apI_L H305.out H306.out).mono ?_
              rw [h6]
              rintro e w313 ⟨a314, c315, rfl, b316, r317⟩
              have H318 := Hid.mk' (H303.out.below b316)
              clear H303
              have H319 := Hid.mk' (H304.out.below b316)
              clear H304
              have H320 := Hid.mk' (H305.out.below b316)
              clear H305
              have H321 := Hid.mk' (H306.out.below b316)
              clear H306
              have H322 := Hid.mk' (H307.out.below b316)
              clear H307
              have H323 := Hid.mk' (H308.out.below b316)
              clear H308
              have H324 := Hid.mk' (H309.out.below b316)
              clear H309
              have H325 := Hid.mk' (H310.out.below b316)
              clear H310
              have H326 := Hid.mk' (H312.out.below b316)
              clear H312
              have Z327 := Hid.mk' (bel_next Z311.out b316)
              clear Z311
              have H328 : Hid (RL w313 a314 c315 []) := r317
              clear r317
              clear b316
              go_wp2_with fail
              refine (addI_L H325.out H326.out).mono ?_
              rintro e w329 ⟨a330, c331, rfl, b332, r333⟩
              have H334 := Hid.mk' (H318.out.below b332)
              clear H318
              have H335 := Hid.mk' (H319.out.below b332)
              clear H319
              have H336 := Hid.mk' (H320.out.below b332)
              clear H320
              have H337 := Hid.mk' (H321.out.below b332)
              clear H321
              have H338 := Hid.mk' (H322.out.below b332)
              clear H322
              have H339 := Hid.mk' (H323.out.below b332)
              clear H323
              have H340 := Hid.mk' (H324.out.below b332)
              clear H324
              have H341 := Hid.mk' (H325.out.below b332)
              clear H325
              have H342 := Hid.mk' (H326.out.below b332)
              clear H326
              have H343 := Hid.mk' (H328.out.below b332)
              clear H328
              have Z344 := Hid.mk' (bel_next Z327.out b332)
              clear Z327
              have H345 : Hid (RL w329 a330 c331 (addV [] []).1) := r333
              clear r333
              clear b332
              go_wp2_with fail
              refine (addI_L H345.out H343.out).mono ?_
              rintro e w346 ⟨a347, c348, rfl, b349, r350⟩
              have H351 := Hid.mk' (H334.out.below b349)
              clear H334
              have H352 := Hid.mk' (H335.out.below b349)
              clear H335
              have H353 := Hid.mk' (H336.out.below b349)
              clear H336
              have H354 := Hid.mk' (H337.out.below b349)
              clear H337
              have H355 := Hid.mk' (H338.out.below b349)
              clear H338
              have H356 := Hid.mk' (H339.out.below b349)
              clear H339
              have H357 := Hid.mk' (H340.out.below b349)
              clear H340
              have H358 := Hid.mk' (H341.out.below b349)
              clear H341
              have H359 := Hid.mk' (H342.out.below b349)
              clear H342
              have H360 := Hid.mk' (H343.out.below b349)
              clear H343
              have H361 := Hid.mk' (H345.out.below b349)
              clear H345
              have Z362 := Hid.mk' (bel_next Z344.out b349)
              clear Z344
              have H363 : Hid (RL w346 a347 c348 (addV (addV [] []).1 []).1) := r350
              clear r350
              clear b349
              go_wp2_with fail
              refine (heOk_L _ ).mono ?_
              rintro e w364 ⟨rfl, b365⟩
              have H366 := Hid.mk' (H351.out.below b365)
              clear H351
              have H367 := Hid.mk' (H352.out.below b365)
              clear H352
              have H368 := Hid.mk' (H353.out.below b365)
              clear H353
              have H369 := Hid.mk' (H354.out.below b365)
              clear H354
              have H370 := Hid.mk' (H355.out.below b365)
              clear H355
              have H371 := Hid.mk' (H356.out.below b365)
              clear H356
              have H372 := Hid.mk' (H357.out.below b365)
              clear H357
              have H373 := Hid.mk' (H358.out.below b365)
              clear H358
              have H374 := Hid.mk' (H359.out.below b365)
              clear H359
              have H375 := Hid.mk' (H360.out.below b365)
              clear H360
              have H376 := Hid.mk' (H361.out.below b365)
              clear H361
              have H377 := Hid.mk' (H363.out.below b365)
              clear H363
              have Z378 := Hid.mk' (bel_next Z362.out b365)
              clear Z362
              clear b365
              go_wp2
              go_ret
              exact ⟨rfl, Z378.out⟩
            · go_wp2_with fail
              refine (apI_L H305.out H306.out).mono ?_
              rw [h6]
              rintro e w379 ⟨a380, c381, rfl, b382, r383⟩
              have H384 := Hid.mk' (H303.out.below b382)
              clear H303
              have H385 := Hid.mk' (H304.out.below b382)
              clear H304
              have H386 := Hid.mk' (H305.out.below b382)
              clear H305
              have H387 := Hid.mk' (H306.out.below b382)
              clear H306
              have H388 := Hid.mk' (H307.out.below b382)
              clear H307
              have H389 := Hid.mk' (H308.out.below b382)
              clear H308
              have H390 := Hid.mk' (H309.out.below b382)
              clear H309
              have H391 := Hid.mk' (H310.out.below b382)
              clear H310
              have H392 := Hid.mk' (H312.out.below b382)
              clear H312
              have Z393 := Hid.mk' (bel_next Z311.out b382)
              clear Z311
              have H394 : Hid (RL w379 a380 c381 ZZ) := r383
              clear r383
              clear b382
              go_wp2_with fail
              refine (addI_L H391.out H392.out).mono ?_
              rintro e w395 ⟨a396, c397, rfl, b398, r399⟩
              have H400 := Hid.mk' (H384.out.below b398)
              clear H384
              have H401 := Hid.mk' (H385.out.below b398)
              clear H385
              have H402 := Hid.mk' (H386.out.below b398)
              clear H386
              have H403 := Hid.mk' (H387.out.below b398)
              clear H387
              have H404 := Hid.mk' (H388.out.below b398)
              clear H388
              have H405 := Hid.mk' (H389.out.below b398)
              clear H389
              have H406 := Hid.mk' (H390.out.below b398)
              clear H390
              have H407 := Hid.mk' (H391.out.below b398)
              clear H391
              have H408 := Hid.mk' (H392.out.below b398)
              clear H392
              have H409 := Hid.mk' (H394.out.below b398)
              clear H394
              have Z410 := Hid.mk' (bel_next Z393.out b398)
              clear Z393
              have H411 : Hid (RL w395 a396 c397 (addV [] []).1) := r399
              clear r399
              clear b398
              go_wp2_with fail
              refine (addI_L H411.out H409.out).mono ?_
              rintro e w412 ⟨a413, c414, rfl, b415, r416⟩
              have H417 := Hid.mk' (H400.out.below b415)
              clear H400
              have H418 := Hid.mk' (H401.out.below b415)
              clear H401
              have H419 := Hid.mk' (H402.out.below b415)
              clear H402
              have H420 := Hid.mk' (H403.out.below b415)
              clear H403
              have H421 := Hid.mk' (H404.out.below b415)
              clear H404
              have H422 := Hid.mk' (H405.out.below b415)
              clear H405
              have H423 := Hid.mk' (H406.out.below b415)
              clear H406
              have H424 := Hid.mk' (H407.out.below b415)
              clear H407
              have H425 := Hid.mk' (H408.out.below b415)
              clear H408
              have H426 := Hid.mk' (H409.out.below b415)
              clear H409
              have H427 := Hid.mk' (H411.out.below b415)
              clear H411
              have Z428 := Hid.mk' (bel_next Z410.out b415)
              clear Z410
              have H429 : Hid (RL w412 a413 c414 (addV (addV [] []).1 ZZ).1) := r416
              clear r416
              clear b415
              go_wp2_with fail
              refine (heOk_L _ ).mono ?_
              rintro e w430 ⟨rfl, b431⟩
              have H432 := Hid.mk' (H417.out.below b431)
              clear H417
              have H433 := Hid.mk' (H418.out.below b431)
              clear H418
              have H434 := Hid.mk' (H419.out.below b431)
              clear H419
              have H435 := Hid.mk' (H420.out.below b431)
              clear H420
              have H436 := Hid.mk' (H421.out.below b431)
              clear H421
              have H437 := Hid.mk' (H422.out.below b431)
              clear H422
              have H438 := Hid.mk' (H423.out.below b431)
              clear H423
              have H439 := Hid.mk' (H424.out.below b431)
              clear H424
              have H440 := Hid.mk' (H425.out.below b431)
              clear H425
              have H441 := Hid.mk' (H426.out.below b431)
              clear H426
              have H442 := Hid.mk' (H427.out.below b431)
              clear H427
              have H443 := Hid.mk' (H429.out.below b431)
              clear H429
              have Z444 := Hid.mk' (bel_next Z428.out b431)
              clear Z428
              clear b431
              go_wp2
              go_ret
              exact ⟨rfl, Z444.out⟩
          · go_wp2_with fail
            refine (apI_L H290.out H295.out).mono ?_
            rw [h5]
            rintro e w445 ⟨a446, c447, rfl, b448, r449⟩
            have H450 := Hid.mk' (H289.out.below b448)
            clear H289
            have H451 := Hid.mk' (H290.out.below b448)
            clear H290
            have H452 := Hid.mk' (H291.out.below b448)
            clear H291
            have H453 := Hid.mk' (H292.out.below b448)
            clear H292
            have H454 := Hid.mk' (H293.out.below b448)
            clear H293
            have H455 := Hid.mk' (H294.out.below b448)
            clear H294
            have H456 := Hid.mk' (H295.out.below b448)
            clear H295
            have H457 := Hid.mk' (H297.out.below b448)
            clear H297
            have Z458 := Hid.mk' (bel_next Z296.out b448)
            clear Z296
            have H459 : Hid (RL w445 a446 c447 YY) := r449
            clear r449
            clear b448
            rcases apV_if C AB with h6 | ⟨ZZ, h6⟩
            · go_wp2_with fail
              refine (apI_L H452.out H453.out).mono ?_
              rw [h6]
              rintro e w460 ⟨a461, c462, rfl, b463, r464⟩
              have H465 := Hid.mk' (H450.out.below b463)
              clear H450
              have H466 := Hid.mk' (H451.out.below b463)
              clear H451
              have H467 := Hid.mk' (H452.out.below b463)
              clear H452
              have H468 := Hid.mk' (H453.out.below b463)
              clear H453
              have H469 := Hid.mk' (H454.out.below b463)
              clear H454
              have H470 := Hid.mk' (H455.out.below b463)
              clear H455
              have H471 := Hid.mk' (H456.out.below b463)
              clear H456
              have H472 := Hid.mk' (H457.out.below b463)
              clear H457
              have H473 := Hid.mk' (H459.out.below b463)
              clear H459
              have Z474 := Hid.mk' (bel_next Z458.out b463)
              clear Z458
              have H475 : Hid (RL w460 a461 c462 []) := r464
              clear r464
              clear b463
              go_wp2_with fail
              refine (addI_L H472.out H473.out).mono ?_
              rintro e w476 ⟨a477, c478, rfl, b479, r480⟩
              have H481 := Hid.mk' (H465.out.below b479)
              clear H465
              have H482 := Hid.mk' (H466.out.below b479)
              clear H466
              have H483 := Hid.mk' (H467.out.below b479)
              clear H467
              have H484 := Hid.mk' (H468.out.below b479)
              clear H468
              have H485 := Hid.mk' (H469.out.below b479)
              clear H469
              have H486 := Hid.mk' (H470.out.below b479)
              clear H470
              have H487 := Hid.mk' (H471.out.below b479)
              clear H471
              have H488 := Hid.mk' (H472.out.below b479)
              clear H472
              have H489 := Hid.mk' (H473.out.below b479)
              clear H473
              have H490 := Hid.mk' (H475.out.below b479)
              clear H475
              have Z491 := Hid.mk' (bel_next Z474.out b479)
              clear Z474
              have H492 : Hid (RL w476 a477 c478 (addV [] YY).1) := r480
              clear r480
              clear b479
              go_wp2_with fail
              refine (addI_L H492.out H490.out).mono ?_
              rintro e w493 ⟨a494, c495, rfl, b496, r497⟩
              have H498 := Hid.mk' (H481.out.below b496)
              clear H481
              have H499 := Hid.mk' (H482.out.below b496)
              clear H482
              have H500 := Hid.mk' (H483.out.below b496)
              clear H483
              have H501 := Hid.mk' (H484.out.below b496)
              clear H484
              have H502 := Hid.mk' (H485.out.below b496)
              clear H485
              have H503 := Hid.mk' (H486.out.below b496)
              clear H486
              have H504 := Hid.mk' (H487.out.below b496)
              clear H487
              have H505 := Hid.mk' (H488.out.below b496)
              clear H488
              have H506 := Hid.mk' (H489.out.below b496)
              clear H489
              have H507 := Hid.mk' (H490.out.below b496)
              clear H490
              have H508 := Hid.mk' (H492.out.below b496)
              clear H492
              have Z509 := Hid.mk' (bel_next Z491.out b496)
              clear Z491
              have H510 : Hid (RL w493 a494 c495 (addV (addV [] YY).1 []).1) := r497
              clear r497
              clear b496
              go_wp2_with fail
              refine (heOk_L _ ).mono ?_
              rintro e w511 ⟨rfl, b512⟩
              have H513 := Hid.mk' (H498.out.below b512)
              clear H498
              have H514 := Hid.mk' (H499.out.below b512)
              clear H499
              have H515 := Hid.mk' (H500.out.below b512)
              clear H500
              have H516 := Hid.mk' (H501.out.below b512)
              clear H501
              have H517 := Hid.mk' (H502.out.below b512)
              clear H502
              have H518 := Hid.mk' (H503.out.below b512)
              clear H503
              have H519 := Hid.mk' (H504.out.below b512)
              clear H504
              have H520 := Hid.mk' (H505.out.below b512)
              clear H505
              have H521 := Hid.mk' (H506.out.below b512)
              clear H506
              have H522 := Hid.mk' (H507.out.below b512)
              clear H507
              have H523 := Hid.mk' (H508.out.below b512)
              clear H508
              have H524 := Hid.mk' (H510.out.below b512)
              clear H510
              have Z525 := Hid.mk' (bel_next Z509.out b512)
              clear Z509
              clear b512
              go_wp2
              go_ret
              exact ⟨rfl, Z525.out⟩
            · go_wp2_with fail
              refine (apI_L H452.out H453.out).mono ?_
              rw [h6]
              rintro e w526 ⟨a527, c528, rfl, b529, r530⟩
              have H531 := Hid.mk' (H450.out.below b529)
              clear H450
              have H532 := Hid.mk' (H451.out.below b529)
              clear H451
              have H533 := Hid.mk' (H452.out.below b529)
              clear H452
              have H534 := Hid.mk' (H453.out.below b529)
              clear H453
              have H535 := Hid.mk' (H454.out.below b529)
              clear H454
              have H536 := Hid.mk' (H455.out.below b529)
              clear H455
              have H537 := Hid.mk' (H456.out.below b529)
              clear H456
              have H538 := Hid.mk' (H457.out.below b529)
              clear H457
              have H539 := Hid.mk' (H459.out.below b529)
              clear H459
              have Z540 := Hid.mk' (bel_next Z458.out b529)
              clear Z458
              have H541 : Hid (RL w526 a527 c528 ZZ) := r530
              clear r530
              clear b529
              go_wp2_with fail
              refine (addI_L H538.out H539.out).mono ?_
              rintro e w542 ⟨a543, c544, rfl, b545, r546⟩
              have H547 := Hid.mk' (H531.out.below b545)
              clear H531
              have H548 := Hid.mk' (H532.out.below b545)
              clear H532
              have H549 := Hid.mk' (H533.out.below b545)
              clear H533
              have H550 := Hid.mk' (H534.out.below b545)
              clear H534
              have H551 := Hid.mk' (H535.out.below b545)
              clear H535
              have H552 := Hid.mk' (H536.out.below b545)
              clear H536
              have H553 := Hid.mk' (H537.out.below b545)
              clear H537
              have H554 := Hid.mk' (H538.out.below b545)
              clear H538
              have H555 := Hid.mk' (H539.out.below b545)
              clear H539
              have H556 := Hid.mk' (H541.out.below b545)
              clear H541
              have Z557 := Hid.mk' (bel_next Z540.out b545)
              clear Z540
              have H558 : Hid (RL w542 a543 c544 (addV [] YY).1) := r546
              clear r546
              clear b545
              go_wp2_with fail
              refine (addI_L H558.out H556.out).mono ?_
              rintro e w559 ⟨a560, c561, rfl, b562, r563⟩
              have H564 := Hid.mk' (H547.out.below b562)
              clear H547
              have H565 := Hid.mk' (H548.out.below b562)
              clear H548
              have H566 := Hid.mk' (H549.out.below b562)
              clear H549
              have H567 := Hid.mk' (H550.out.below b562)
              clear H550
              have H568 := Hid.mk' (H551.out.below b562)
              clear H551
              have H569 := Hid.mk' (H552.out.below b562)
              clear H552
              have H570 := Hid.mk' (H553.out.below b562)
              clear H553
              have H571 := Hid.mk' (H554.out.below b562)
              clear H554
              have H572 := Hid.mk' (H555.out.below b562)
              clear H555
              have H573 := Hid.mk' (H556.out.below b562)
              clear H556
              have H574 := Hid.mk' (H558.out.below b562)
              clear H558
              have Z575 := Hid.mk' (bel_next Z557.out b562)
              clear Z557
              have H576 : Hid (RL w559 a560 c561 (addV (addV [] YY).1 ZZ).1) := r563
              clear r563
              clear b562
              go_wp2_with fail
              refine (heOk_L _ ).mono ?_
              rintro e w577 ⟨rfl, b578⟩
              have H579 := Hid.mk' (H564.out.below b578)
              clear H564
              have H580 := Hid.mk' (H565.out.below b578)
              clear H565
              have H581 := Hid.mk' (H566.out.below b578)
              clear H566
              have H582 := Hid.mk' (H567.out.below b578)
              clear H567
              have H583 := Hid.mk' (H568.out.below b578)
              clear H568
              have H584 := Hid.mk' (H569.out.below b578)
              clear H569
              have H585 := Hid.mk' (H570.out.below b578)
              clear H570
              have H586 := Hid.mk' (H571.out.below b578)
              clear H571
              have H587 := Hid.mk' (H572.out.below b578)
              clear H572
              have H588 := Hid.mk' (H573.out.below b578)
              clear H573
              have H589 := Hid.mk' (H574.out.below b578)
              clear H574
              have H590 := Hid.mk' (H576.out.below b578)
              clear H576
              have Z591 := Hid.mk' (bel_next Z575.out b578)
              clear Z575
              clear b578
              go_wp2
              go_ret
              exact ⟨rfl, Z591.out⟩
        · go_wp2_with fail
          refine (apI_L H276.out H281.out).mono ?_
          rw [h4]
          rintro e w592 ⟨a593, c594, rfl, b595, r596⟩
          have H597 := Hid.mk' (H276.out.below b595)
          clear H276
          have H598 := Hid.mk' (H277.out.below b595)
          clear H277
          have H599 := Hid.mk' (H278.out.below b595)
          clear H278
          have H600 := Hid.mk' (H279.out.below b595)
          clear H279
          have H601 := Hid.mk' (H280.out.below b595)
          clear H280
          have H602 := Hid.mk' (H281.out.below b595)
          clear H281
          have H603 := Hid.mk' (H283.out.below b595)
          clear H283
          have Z604 := Hid.mk' (bel_next Z282.out b595)
          clear Z282
          have H605 : Hid (RL w592 a593 c594 XX) := r596
          clear r596
          clear b595
          rcases apV_if B CA with h5 | ⟨YY, h5⟩
          · go_wp2_with fail
            refine (apI_L H598.out H603.out).mono ?_
            rw [h5]
            rintro e w606 ⟨a607, c608, rfl, b609, r610⟩
            have H611 := Hid.mk' (H597.out.below b609)
            clear H597
            have H612 := Hid.mk' (H598.out.below b609)
            clear H598
            have H613 := Hid.mk' (H599.out.below b609)
            clear H599
            have H614 := Hid.mk' (H600.out.below b609)
            clear H600
            have H615 := Hid.mk' (H601.out.below b609)
            clear H601
            have H616 := Hid.mk' (H602.out.below b609)
            clear H602
            have H617 := Hid.mk' (H603.out.below b609)
            clear H603
            have H618 := Hid.mk' (H605.out.below b609)
            clear H605
            have Z619 := Hid.mk' (bel_next Z604.out b609)
            clear Z604
            have H620 : Hid (RL w606 a607 c608 []) := r610
            clear r610
            clear b609
            rcases apV_if C AB with h6 | ⟨ZZ, h6⟩
            · go_wp2_with fail
              refine (apI_L H613.out H614.out).mono ?_
              rw [h6]
              rintro e w621 ⟨a622, c623, rfl, b624, r625⟩
              have H626 := Hid.mk' (H611.out.below b624)
              clear H611
              have H627 := Hid.mk' (H612.out.below b624)
              clear H612
              have H628 := Hid.mk' (H613.out.below b624)
              clear H613
              have H629 := Hid.mk' (H614.out.below b624)
              clear H614
              have H630 := Hid.mk' (H615.out.below b624)
              clear H615
              have H631 := Hid.mk' (H616.out.below b624)
              clear H616
              have H632 := Hid.mk' (H617.out.below b624)
              clear H617
              have H633 := Hid.mk' (H618.out.below b624)
              clear H618
              have H634 := Hid.mk' (H620.out.below b624)
              clear H620
              have Z635 := Hid.mk' (bel_next Z619.out b624)
              clear Z619
              have H636 : Hid (RL w621 a622 c623 []) := r625
              clear r625
              clear b624
              go_wp2_with fail
              refine (addI_L H633.out H634.out).mono ?_
              rintro e w637 ⟨a638, c639, rfl, b640, r641⟩
              have H642 := Hid.mk' (H626.out.below b640)
              clear H626
              have H643 := Hid.mk' (H627.out.below b640)
              clear H627
              have H644 := Hid.mk' (H628.out.below b640)
              clear H628
              have H645 := Hid.mk' (H629.out.below b640)
              clear H629
              have H646 := Hid.mk' (H630.out.below b640)
              clear H630
              have H647 := Hid.mk' (H631.out.below b640)
              clear H631
              have H648 := Hid.mk' (H632.out.below b640)
              clear H632
              have H649 := Hid.mk' (H633.out.below b640)
              clear H633
              have H650 := Hid.mk' (H634.out.below b640)
              clear H634
              have H651 := Hid.mk' (H636.out.below b640)
              clear H636
              have Z652 := Hid.mk' (bel_next Z635.out b640)
              clear Z635
              have H653 : Hid (RL w637 a638 c639 (addV XX []).1) := r641
              clear r641
              clear b640
              go_wp2_with fail
              refine (addI_L H653.out H651.out).mono ?_
              rintro e w654 ⟨a655, c656, rfl, b657, r658⟩
              have H659 := Hid.mk' (H642.out.below b657)
              clear H642
              have H660 := Hid.mk' (H643.out.below b657)
              clear H643
              have H661 := Hid.mk' (H644.out.below b657)
              clear H644
              have H662 := Hid.mk' (H645.out.below b657)
              clear H645
              have H663 := Hid.mk' (H646.out.below b657)
              clear H646
              have H664 := Hid.mk' (H647.out.below b657)
              clear H647
              have H665 := Hid.mk' (H648.out.below b657)
              clear H648
              have H666 := Hid.mk' (H649.out.below b657)
              clear H649
              have H667 := Hid.mk' (H650.out.below b657)
              clear H650
              have H668 := Hid.mk' (H651.out.below b657)
              clear H651
              have H669 := Hid.mk' (H653.out.below b657)
              clear H653
              have Z670 := Hid.mk' (bel_next Z652.out b657)
              clear Z652
              have H671 : Hid (RL w654 a655 c656 (addV (addV XX []).1 []).1) := r658
              clear r658
              clear b657
              go_wp2_with fail
              refine (heOk_L _ ).mono ?_
              rintro e w672 ⟨rfl, b673⟩
              have H674 := Hid.mk' (H659.out.below b673)
              clear H659
              have H675 := Hid.mk' (H660.out.below b673)
              clear H660
              have H676 := Hid.mk' (H661.out.below b673)
              clear H661
              have H677 := Hid.mk' (H662.out.below b673)
              clear H662
              have H678 := Hid.mk' (H663.out.below b673)
              clear H663
              have H679 := Hid.mk' (H664.out.below b673)
              clear H664
              have H680 := Hid.mk' (H665.out.below b673)
              clear H665
              have H681 := Hid.mk' (H666.out.below b673)
              clear H666
              have H682 := Hid.mk' (H667.out.below b673)
              clear H667
              have H683 := Hid.mk' (H668.out.below b673)
              clear H668
              have H684 := Hid.mk' (H669.out.below b673)
              clear H669
              have H685 := Hid.mk' (H671.out.below b673)
              clear H671
              have Z686 := Hid.mk' (bel_next Z670.out b673)
              clear Z670
              clear b673
              go_wp2
              go_ret
              exact ⟨rfl, Z686.out⟩
            · go_wp2_with fail
              refine (apI_L H613.out H614.out).mono ?_
              rw [h6]
              rintro e w687 ⟨a688, c689, rfl, b690, r691⟩
              have H692 := Hid.mk' (H611.out.below b690)
              clear H611
              have H693 := Hid.mk' (H612.out.below b690)
              clear H612
              have H694 := Hid.mk' (H613.out.below b690)
              clear H613
              have H695 := Hid.mk' (H614.out.below b690)
              clear H614
              have H696 := Hid.mk' (H615.out.below b690)
              clear H615
              have H697 := Hid.mk' (H616.out.below b690)
              clear H616
              have H698 := Hid.mk' (H617.out.below b690)
              clear H617
              have H699 := Hid.mk' (H618.out.below b690)
              clear H618
              have H700 := Hid.mk' (H620.out.below b690)
              clear H620
              have Z701 := Hid.mk' (bel_next Z619.out b690)
              clear Z619
              have H702 : Hid (RL w687 a688 c689 ZZ) := r691
              clear r691
              clear b690
              go_wp2_with fail
              refine (addI_L H699.out H700.out).mono ?_
              rintro e w703 ⟨a704, c705, rfl, b706, r707⟩
              have H708 := Hid.mk' (H692.out.below b706)
              clear H692
              have H709 := Hid.mk' (H693.out.below b706)
              clear H693
              have H710 := Hid.mk' (H694.out.below b706)
              clear H694
              have H711 := Hid.mk' (H695.out.below b706)
              clear H695
              have H712 := Hid.mk' (H696.out.below b706)
              clear H696
              have H713 := Hid.mk' (H697.out.below b706)
              clear H697
              have H714 := Hid.mk' (H698.out.below b706)
              clear H698
              have H715 := Hid.mk' (H699.out.below b706)
              clear H699
              have H716 := Hid.mk' (H700.out.below b706)
              clear H700
              have H717 := Hid.mk' (H702.out.below b706)
              clear H702
              have Z718 := Hid.mk' (bel_next Z701.out b706)
              clear Z701
              have H719 : Hid (RL w703 a704 c705 (addV XX []).1) := r707
              clear r707
              clear b706
              go_wp2_with fail
              refine (addI_L H719.out H717.out).mono ?_
              rintro e w720 ⟨a721, c722, rfl, b723, r724⟩
              have H725 := Hid.mk' (H708.out.below b723)
              clear H708
              have H726 := Hid.mk' (H709.out.below b723)
              clear H709
              have H727 := Hid.mk' (H710.out.below b723)
              clear H710
              have H728 := Hid.mk' (H711.out.below b723)
              clear H711
              have H729 := Hid.mk' (H712.out.below b723)
              clear H712
              have H730 := Hid.mk' (H713.out.below b723)
              clear H713
              have H731 := Hid.mk' (H714.out.below b723)
              clear H714
              have H732 := Hid.mk' (H715.out.below b723)
              clear H715
              have H733 := Hid.mk' (H716.out.below b723)
              clear H716
              have H734 := Hid.mk' (H717.out.below b723)
              clear H717
              have H735 := Hid.mk' (H719.out.below b723)
              clear H719
              have Z736 := Hid.mk' (bel_next Z718.out b723)
              clear Z718
              have H737 : Hid (RL w720 a721 c722 (addV (addV XX []).1 ZZ).1) := r724
              clear r724
              clear b723
              go_wp2_with fail
              refine (heOk_L _ ).mono ?_
              rintro e w738 ⟨rfl, b739⟩
              have H740 := Hid.mk' (H725.out.below b739)
              clear H725
              have H741 := Hid.mk' (H726.out.below b739)
              clear H726
              have H742 := Hid.mk' (H727.out.below b739)
              clear H727
              have H743 := Hid.mk' (H728.out.below b739)
              clear H728
              have H744 := Hid.mk' (H729.out.below b739)
              clear H729
              have H745 := Hid.mk' (H730.out.below b739)
              clear H730
              have H746 := Hid.mk' (H731.out.below b739)
              clear H731
              have H747 := Hid.mk' (H732.out.below b739)
              clear H732
              have H748 := Hid.mk' (H733.out.below b739)
              clear H733
              have H749 := Hid.mk' (H734.out.below b739)
              clear H734
              have H750 := Hid.mk' (H735.out.below b739)
              clear H735
              have H751 := Hid.mk' (H737.out.below b739)
              clear H737
              have Z752 := Hid.mk' (bel_next Z736.out b739)
              clear Z736
              clear b739
              go_wp2
              go_ret
              exact ⟨rfl, Z752.out⟩
          · go_wp2_with fail
            refine (apI_L H598.out H603.out).mono ?_
            rw [h5]
            rintro e w753 ⟨a754, c755, rfl, b756, r757⟩
            have H758 := Hid.mk' (H597.out.below b756)
            clear H597
            have H759 := Hid.mk' (H598.out.below b756)
            clear H598
            have H760 := Hid.mk' (H599.out.below b756)
            clear H599
            have H761 := Hid.mk' (H600.out.below b756)
            clear H600
            have H762 := Hid.mk' (H601.out.below b756)
            clear H601
            have H763 := Hid.mk' (H602.out.below b756)
            clear H602
            have H764 := Hid.mk' (H603.out.below b756)
            clear H603
            have H765 := Hid.mk' (H605.out.below b756)
            clear H605
            have Z766 := Hid.mk' (bel_next Z604.out b756)
            clear Z604
            have H767 : Hid (RL w753 a754 c755 YY) := r757
            clear r757
            clear b756
            rcases apV_if C AB with h6 | ⟨ZZ, h6⟩
            · go_wp2_with fail
              refine (apI_L H760.out H761.out).mono ?_
              rw [h6]
              rintro e w768 ⟨a769, c770, rfl, b771, r772⟩
              have H773 := Hid.mk' (H758.out.below b771)
              clear H758
              have H774 := Hid.mk' (H759.out.below b771)
              clear H759
              have H775 := Hid.mk' (H760.out.below b771)
              clear H760
              have H776 := Hid.mk' (H761.out.below b771)
              clear H761
              have H777 := Hid.mk' (H762.out.below b771)
              clear H762
              have H778 := Hid.mk' (H763.out.below b771)
              clear H763
              have H779 := Hid.mk' (H764.out.below b771)
              clear H764
              have H780 := Hid.mk' (H765.out.below b771)
              clear H765
              have H781 := Hid.mk' (H767.out.below b771)
              clear H767
              have Z782 := Hid.mk' (bel_next Z766.out b771)
              clear Z766
              have H783 : Hid (RL w768 a769 c770 []) := r772
              clear r772
              clear b771
              go_wp2_with fail
              refine (addI_L H780.out H781.out).mono ?_
              rintro e w784 ⟨a785, c786, rfl, b787, r788⟩
              have H789 := Hid.mk' (H773.out.below b787)
              clear H773
              have H790 := Hid.mk' (H774.out.below b787)
              clear H774
              have H791 := Hid.mk' (H775.out.below b787)
              clear H775
              have H792 := Hid.mk' (H776.out.below b787)
              clear H776
              have H793 := Hid.mk' (H777.out.below b787)
              clear H777
              have H794 := Hid.mk' (H778.out.below b787)
              clear H778
              have H795 := Hid.mk' (H779.out.below b787)
              clear H779
              have H796 := Hid.mk' (H780.out.below b787)
              clear H780
              have H797 := Hid.mk' (H781.out.below b787)
              clear H781
              have H798 := Hid.mk' (H783.out.below b787)
              clear H783
              have Z799 := Hid.mk' (bel_next Z782.out b787)
              clear Z782
              have H800 : Hid (RL w784 a785 c786 (addV XX YY).1) := r788
              clear r788
              clear b787
              go_wp2_with fail
              refine (addI_L H800.out H798.out).mono ?_
              rintro e w801 ⟨a802, c803, rfl, b804, r805⟩
              have H806 := Hid.mk' (H789.out.below b804)
              clear H789
              have H807 := Hid.mk' (H790.out.below b804)
              clear H790
              have H808 := Hid.mk' (H791.out.below b804)
              clear H791
              have H809 := Hid.mk' (H792.out.below b804)
              clear H792
              have H810 := Hid.mk' (H793.out.below b804)
              clear H793
              have H811 := Hid.mk' (H794.out.below b804)
              clear H794
              have H812 := Hid.mk' (H795.out.below b804)
              clear H795
              have H813 := Hid.mk' (H796.out.below b804)
              clear H796
              have H814 := Hid.mk' (H797.out.below b804)
              clear H797
              have H815 := Hid.mk' (H798.out.below b804)
              clear H798
              have H816 := Hid.mk' (H800.out.below b804)
              clear H800
              have Z817 := Hid.mk' (bel_next Z799.out b804)
              clear Z799
              have H818 : Hid (RL w801 a802 c803 (addV (addV XX YY).1 []).1) := r805
              clear r805
              clear b804
              go_wp2_with fail
              refine (heOk_L _ ).mono ?_
              rintro e w819 ⟨rfl, b820⟩
              have H821 := Hid.mk' (H806.out.below b820)
              clear H806
              have H822 := Hid.mk' (H807.out.below b820)
              clear H807
              have H823 := Hid.mk' (H808.out.below b820)
              clear H808
              have H824 := Hid.mk' (H809.out.below b820)
              clear H809
              have H825 := Hid.mk' (H810.out.below b820)
              clear H810
              have H826 := Hid.mk' (H811.out.below b820)
              clear H811
              have H827 := Hid.mk' (H812.out.below b820)
              clear H812
              have H828 := Hid.mk' (H813.out.below b820)
              clear H813
              have H829 := Hid.mk' (H814.out.below b820)
              clear H814
              have H830 := Hid.mk' (H815.out.below b820)
              clear H815
              have H831 := Hid.mk' (H816.out.below b820)
              clear H816
              have H832 := Hid.mk' (H818.out.below b820)
              clear H818
              have Z833 := Hid.mk' (bel_next Z817.out b820)
              clear Z817
              clear b820
              go_wp2
              go_ret
              exact ⟨rfl, Z833.out⟩
            · go_wp2_with fail
              refine (apI_L H760.out H761.out).mono ?_
              rw [h6]
              rintro e w834 ⟨a835, c836, rfl, b837, r838⟩
              have H839 := Hid.mk' (H758.out.below b837)
              clear H758
              have H840 := Hid.mk' (H759.out.below b837)
              clear H759
              have H841 := Hid.mk' (H760.out.below b837)
              clear H760
              have H842 := Hid.mk' (H761.out.below b837)
              clear H761
              have H843 := Hid.mk' (H762.out.below b837)
              clear H762
              have H844 := Hid.mk' (H763.out.below b837)
              clear H763
              have H845 := Hid.mk' (H764.out.below b837)
              clear H764
              have H846 := Hid.mk' (H765.out.below b837)
              clear H765
              have H847 := Hid.mk' (H767.out.below b837)
              clear H767
              have Z848 := Hid.mk' (bel_next Z766.out b837)
              clear Z766
              have H849 : Hid (RL w834 a835 c836 ZZ) := r838
              clear r838
              clear b837
              have e7 := ap_jacobi h1 h2 h3 h4 h5 h6
              obtain ⟨e8, e9⟩ := e7
              go_wp2_with fail
              refine (addI_L H846.out H847.out).mono ?_
              rw [e8]
              rintro e w850 ⟨a851, c852, rfl, b853, r854⟩
              have H855 := Hid.mk' (H839.out.below b853)
              clear H839
              have H856 := Hid.mk' (H840.out.below b853)
              clear H840
              have H857 := Hid.mk' (H841.out.below b853)
              clear H841
              have H858 := Hid.mk' (H842.out.below b853)
              clear H842
              have H859 := Hid.mk' (H843.out.below b853)
              clear H843
              have H860 := Hid.mk' (H844.out.below b853)
              clear H844
              have H861 := Hid.mk' (H845.out.below b853)
              clear H845
              have H862 := Hid.mk' (H846.out.below b853)
              clear H846
              have H863 := Hid.mk' (H847.out.below b853)
              clear H847
              have H864 := Hid.mk' (H849.out.below b853)
              clear H849
              have Z865 := Hid.mk' (bel_next Z848.out b853)
              clear Z848
              have H866 : Hid (RL w850 a851 c852 (scL 100 ZZ)) := r854
              clear r854
              clear b853
              go_wp2_with fail
              refine (addI_L H866.out H864.out).mono ?_
              rw [e9]
              rintro e w867 ⟨a868, c869, rfl, b870, r871⟩
              have H872 := Hid.mk' (H855.out.below b870)
              clear H855
              have H873 := Hid.mk' (H856.out.below b870)
              clear H856
              have H874 := Hid.mk' (H857.out.below b870)
              clear H857
              have H875 := Hid.mk' (H858.out.below b870)
              clear H858
              have H876 := Hid.mk' (H859.out.below b870)
              clear H859
              have H877 := Hid.mk' (H860.out.below b870)
              clear H860
              have H878 := Hid.mk' (H861.out.below b870)
              clear H861
              have H879 := Hid.mk' (H862.out.below b870)
              clear H862
              have H880 := Hid.mk' (H863.out.below b870)
              clear H863
              have H881 := Hid.mk' (H864.out.below b870)
              clear H864
              have H882 := Hid.mk' (H866.out.below b870)
              clear H866
              have Z883 := Hid.mk' (bel_next Z865.out b870)
              clear Z865
              have H884 : Hid (RL w867 a868 c869 []) := r871
              clear r871
              clear b870
              go_wp2_with fail
              refine (heOk_L _ ).mono ?_
              rintro e w885 ⟨rfl, b886⟩
              have H887 := Hid.mk' (H872.out.below b886)
              clear H872
              have H888 := Hid.mk' (H873.out.below b886)
              clear H873
              have H889 := Hid.mk' (H874.out.below b886)
              clear H874
              have H890 := Hid.mk' (H875.out.below b886)
              clear H875
              have H891 := Hid.mk' (H876.out.below b886)
              clear H876
              have H892 := Hid.mk' (H877.out.below b886)
              clear H877
              have H893 := Hid.mk' (H878.out.below b886)
              clear H878
              have H894 := Hid.mk' (H879.out.below b886)
              clear H879
              have H895 := Hid.mk' (H880.out.below b886)
              clear H880
              have H896 := Hid.mk' (H881.out.below b886)
              clear H881
              have H897 := Hid.mk' (H882.out.below b886)
              clear H882
              have H898 := Hid.mk' (H884.out.below b886)
              clear H884
              have Z899 := Hid.mk' (bel_next Z883.out b886)
              clear Z883
              clear b886
              go_wp2
              go_ret
              exact ⟨rfl, Z899.out⟩
end Go.Proofs.Ytbadbmddocifdaa
