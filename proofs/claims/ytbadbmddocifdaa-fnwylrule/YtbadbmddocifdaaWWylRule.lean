/-
  The walk of FnWylRule: whatever the code, it comes out true, and nothing that was there is turned.
-/
import Derived.Test.YtbadbmddocifdaaGaz
namespace Go.Proofs.Ytbadbmddocifdaa
open Go.RowKit
set_option linter.unusedVariables false
set_option maxRecDepth 100000 in
set_option maxHeartbeats 8000000 in
theorem walk_FnWylRule (w : World) (a0 : Option Addr) (len0 cap0 : Nat) (s0 : Src w a0 len0 cap0) (a1 : Option Addr) (len1 cap1 : Nat) (s1 : Src w a1 len1 cap1) :
    Calls Try.prog 6 #[.slice a0 len0 cap0, .slice a1 len1 cap1] w fun e w' => e = .returned (.bool true) ∧ Below w.heap.size w w' := by
  by_cases c0 : (1048576 : Int) < (len0 : Int)
  · go_enter Try.func6, Try.ntmps6
    go_wp2
    go_ret
    exact ⟨rfl, Below.refl _ _⟩
  by_cases c1 : (1048576 : Int) < (len1 : Int)
  · go_enter Try.func6, Try.ntmps6
    go_wp2
    go_ret
    exact ⟨rfl, Below.refl _ _⟩
  go_enter Try.func6, Try.ntmps6
  go_wp2_with fail
  refine (drawWylApart w a0 len0 cap0 s0).mono ?_
  rintro e wd ⟨da, dca, A, db, dcb, B, rfl, hA, hB, hlA, hlB, hbd⟩
  have HA0 := Hid.mk' hA
  have HB0 := Hid.mk' hB
  have Z0 := Hid.mk' hbd
  have S1 := Hid.mk' (s1.below hbd)
  clear hA hB hbd s0 s1
  go_wp2_with fail
  refine (drawWylMul wd a1 len1 cap1 S1.out).mono ?_
  rintro e we ⟨dc, dcc, C, dd, dcd, D, rfl, hC, hD, hlC, hlD, hbe⟩
  have HC0 := Hid.mk' hC
  clear hC hD S1
  have H1 := Hid.mk' (HA0.out.below hbe)
  clear HA0
  have H2 := Hid.mk' (HB0.out.below hbe)
  clear HB0
  have Z3 := Hid.mk' (bel_next Z0.out hbe)
  clear Z0
  clear hbe
  rcases apV_if A B with h1 | ⟨AB, h1⟩
  · go_wp2_with fail
    refine (apI_L H1.out H2.out).mono ?_
    rw [h1]
    rintro e w4 ⟨a5, c6, rfl, b7, r8⟩
    have H9 := Hid.mk' (H1.out.below b7)
    clear H1
    have H10 := Hid.mk' (H2.out.below b7)
    clear H2
    have H11 := Hid.mk' (HC0.out.below b7)
    clear HC0
    have Z12 := Hid.mk' (bel_next Z3.out b7)
    clear Z3
    have H13 : Hid (RL w4 a5 c6 []) := r8
    clear r8
    clear b7
    go_wp2_with fail
    refine (apS_L H9.out H10.out).mono ?_
    rw [h1]
    rintro e w14 ⟨a15, c16, rfl, b17, r18⟩
    have H19 := Hid.mk' (H9.out.below b17)
    clear H9
    have H20 := Hid.mk' (H10.out.below b17)
    clear H10
    have H21 := Hid.mk' (H11.out.below b17)
    clear H11
    have H22 := Hid.mk' (H13.out.below b17)
    clear H13
    have Z23 := Hid.mk' (bel_next Z12.out b17)
    clear Z12
    have H24 : Hid (RL w14 a15 c16 []) := r18
    clear r18
    clear b17
    go_wp2_with fail
    refine (he_L H22.out H24.out).mono ?_
    rw [sq_same]
    rintro e w25 ⟨rfl, b26⟩
    have H27 := Hid.mk' (H19.out.below b26)
    clear H19
    have H28 := Hid.mk' (H20.out.below b26)
    clear H20
    have H29 := Hid.mk' (H21.out.below b26)
    clear H21
    have H30 := Hid.mk' (H22.out.below b26)
    clear H22
    have H31 := Hid.mk' (H24.out.below b26)
    clear H24
    have Z32 := Hid.mk' (bel_next Z23.out b26)
    clear Z23
    clear b26
    rcases apV_if A C with h2 | ⟨AC, h2⟩
    · go_wp2_with fail
      refine (apI_L H27.out H29.out).mono ?_
      rw [h2]
      rintro e w33 ⟨a34, c35, rfl, b36, r37⟩
      have H38 := Hid.mk' (H27.out.below b36)
      clear H27
      have H39 := Hid.mk' (H28.out.below b36)
      clear H28
      have H40 := Hid.mk' (H29.out.below b36)
      clear H29
      have H41 := Hid.mk' (H30.out.below b36)
      clear H30
      have H42 := Hid.mk' (H31.out.below b36)
      clear H31
      have Z43 := Hid.mk' (bel_next Z32.out b36)
      clear Z32
      have H44 : Hid (RL w33 a34 c35 []) := r37
      clear r37
      clear b36
      rcases wmV_if B C with h3 | ⟨BC, h3⟩
      · go_wp2_with fail
        refine (wmI_L H39.out H40.out).mono ?_
        rw [h3]
        rintro e w45 ⟨a46, c47, rfl, b48, r49⟩
        have H50 := Hid.mk' (H38.out.below b48)
        clear H38
        have H51 := Hid.mk' (H39.out.below b48)
        clear H39
        have H52 := Hid.mk' (H40.out.below b48)
        clear H40
        have H53 := Hid.mk' (H41.out.below b48)
        clear H41
        have H54 := Hid.mk' (H42.out.below b48)
        clear H42
        have H55 := Hid.mk' (H44.out.below b48)
        clear H44
        have Z56 := Hid.mk' (bel_next Z43.out b48)
        clear Z43
        have H57 : Hid (RL w45 a46 c47 []) := r49
        clear r49
        clear b48
        go_wp2_with fail
        refine (heOk_L _ ).mono ?_
        rintro e w58 ⟨rfl, b59⟩
        have H60 := Hid.mk' (H50.out.below b59)
        clear H50
        have H61 := Hid.mk' (H51.out.below b59)
        clear H51
        have H62 := Hid.mk' (H52.out.below b59)
        clear H52
        have H63 := Hid.mk' (H53.out.below b59)
        clear H53
        have H64 := Hid.mk' (H54.out.below b59)
        clear H54
        have H65 := Hid.mk' (H55.out.below b59)
        clear H55
        have H66 := Hid.mk' (H57.out.below b59)
        clear H57
        have Z67 := Hid.mk' (bel_next Z56.out b59)
        clear Z56
        clear b59
        go_wp2
        go_ret
        exact ⟨rfl, Z67.out⟩
      · go_wp2_with fail
        refine (wmI_L H39.out H40.out).mono ?_
        rw [h3]
        rintro e w68 ⟨a69, c70, rfl, b71, r72⟩
        have H73 := Hid.mk' (H38.out.below b71)
        clear H38
        have H74 := Hid.mk' (H39.out.below b71)
        clear H39
        have H75 := Hid.mk' (H40.out.below b71)
        clear H40
        have H76 := Hid.mk' (H41.out.below b71)
        clear H41
        have H77 := Hid.mk' (H42.out.below b71)
        clear H42
        have H78 := Hid.mk' (H44.out.below b71)
        clear H44
        have Z79 := Hid.mk' (bel_next Z43.out b71)
        clear Z43
        have H80 : Hid (RL w68 a69 c70 BC) := r72
        clear r72
        clear b71
        go_wp2_with fail
        refine (heOk_L _ ).mono ?_
        rintro e w81 ⟨rfl, b82⟩
        have H83 := Hid.mk' (H73.out.below b82)
        clear H73
        have H84 := Hid.mk' (H74.out.below b82)
        clear H74
        have H85 := Hid.mk' (H75.out.below b82)
        clear H75
        have H86 := Hid.mk' (H76.out.below b82)
        clear H76
        have H87 := Hid.mk' (H77.out.below b82)
        clear H77
        have H88 := Hid.mk' (H78.out.below b82)
        clear H78
        have H89 := Hid.mk' (H80.out.below b82)
        clear H80
        have Z90 := Hid.mk' (bel_next Z79.out b82)
        clear Z79
        clear b82
        go_wp2
        go_ret
        exact ⟨rfl, Z90.out⟩
    · go_wp2_with fail
      refine (apI_L H27.out H29.out).mono ?_
      rw [h2]
      rintro e w91 ⟨a92, c93, rfl, b94, r95⟩
      have H96 := Hid.mk' (H27.out.below b94)
      clear H27
      have H97 := Hid.mk' (H28.out.below b94)
      clear H28
      have H98 := Hid.mk' (H29.out.below b94)
      clear H29
      have H99 := Hid.mk' (H30.out.below b94)
      clear H30
      have H100 := Hid.mk' (H31.out.below b94)
      clear H31
      have Z101 := Hid.mk' (bel_next Z32.out b94)
      clear Z32
      have H102 : Hid (RL w91 a92 c93 AC) := r95
      clear r95
      clear b94
      rcases wmV_if B C with h3 | ⟨BC, h3⟩
      · go_wp2_with fail
        refine (wmI_L H97.out H98.out).mono ?_
        rw [h3]
        rintro e w103 ⟨a104, c105, rfl, b106, r107⟩
        have H108 := Hid.mk' (H96.out.below b106)
        clear H96
        have H109 := Hid.mk' (H97.out.below b106)
        clear H97
        have H110 := Hid.mk' (H98.out.below b106)
        clear H98
        have H111 := Hid.mk' (H99.out.below b106)
        clear H99
        have H112 := Hid.mk' (H100.out.below b106)
        clear H100
        have H113 := Hid.mk' (H102.out.below b106)
        clear H102
        have Z114 := Hid.mk' (bel_next Z101.out b106)
        clear Z101
        have H115 : Hid (RL w103 a104 c105 []) := r107
        clear r107
        clear b106
        go_wp2_with fail
        refine (heOk_L _ ).mono ?_
        rintro e w116 ⟨rfl, b117⟩
        have H118 := Hid.mk' (H108.out.below b117)
        clear H108
        have H119 := Hid.mk' (H109.out.below b117)
        clear H109
        have H120 := Hid.mk' (H110.out.below b117)
        clear H110
        have H121 := Hid.mk' (H111.out.below b117)
        clear H111
        have H122 := Hid.mk' (H112.out.below b117)
        clear H112
        have H123 := Hid.mk' (H113.out.below b117)
        clear H113
        have H124 := Hid.mk' (H115.out.below b117)
        clear H115
        have Z125 := Hid.mk' (bel_next Z114.out b117)
        clear Z114
        clear b117
        go_wp2
        go_ret
        exact ⟨rfl, Z125.out⟩
      · go_wp2_with fail
        refine (wmI_L H97.out H98.out).mono ?_
        rw [h3]
        rintro e w126 ⟨a127, c128, rfl, b129, r130⟩
        have H131 := Hid.mk' (H96.out.below b129)
        clear H96
        have H132 := Hid.mk' (H97.out.below b129)
        clear H97
        have H133 := Hid.mk' (H98.out.below b129)
        clear H98
        have H134 := Hid.mk' (H99.out.below b129)
        clear H99
        have H135 := Hid.mk' (H100.out.below b129)
        clear H100
        have H136 := Hid.mk' (H102.out.below b129)
        clear H102
        have Z137 := Hid.mk' (bel_next Z101.out b129)
        clear Z101
        have H138 : Hid (RL w126 a127 c128 BC) := r130
        clear r130
        clear b129
        go_wp2_with fail
        refine (heOk_L _ ).mono ?_
        rintro e w139 ⟨rfl, b140⟩
        have H141 := Hid.mk' (H131.out.below b140)
        clear H131
        have H142 := Hid.mk' (H132.out.below b140)
        clear H132
        have H143 := Hid.mk' (H133.out.below b140)
        clear H133
        have H144 := Hid.mk' (H134.out.below b140)
        clear H134
        have H145 := Hid.mk' (H135.out.below b140)
        clear H135
        have H146 := Hid.mk' (H136.out.below b140)
        clear H136
        have H147 := Hid.mk' (H138.out.below b140)
        clear H138
        have Z148 := Hid.mk' (bel_next Z137.out b140)
        clear Z137
        clear b140
        go_wp2
        go_ret
        exact ⟨rfl, Z148.out⟩
  · go_wp2_with fail
    refine (apI_L H1.out H2.out).mono ?_
    rw [h1]
    rintro e w149 ⟨a150, c151, rfl, b152, r153⟩
    have H154 := Hid.mk' (H1.out.below b152)
    clear H1
    have H155 := Hid.mk' (H2.out.below b152)
    clear H2
    have H156 := Hid.mk' (HC0.out.below b152)
    clear HC0
    have Z157 := Hid.mk' (bel_next Z3.out b152)
    clear Z3
    have H158 : Hid (RL w149 a150 c151 AB) := r153
    clear r153
    clear b152
    go_wp2_with fail
    refine (apS_L H154.out H155.out).mono ?_
    rw [h1]
    rintro e w159 ⟨a160, c161, rfl, b162, r163⟩
    have H164 := Hid.mk' (H154.out.below b162)
    clear H154
    have H165 := Hid.mk' (H155.out.below b162)
    clear H155
    have H166 := Hid.mk' (H156.out.below b162)
    clear H156
    have H167 := Hid.mk' (H158.out.below b162)
    clear H158
    have Z168 := Hid.mk' (bel_next Z157.out b162)
    clear Z157
    have H169 : Hid (RL w159 a160 c161 AB) := r163
    clear r163
    clear b162
    go_wp2_with fail
    refine (he_L H167.out H169.out).mono ?_
    rw [sq_same]
    rintro e w170 ⟨rfl, b171⟩
    have H172 := Hid.mk' (H164.out.below b171)
    clear H164
    have H173 := Hid.mk' (H165.out.below b171)
    clear H165
    have H174 := Hid.mk' (H166.out.below b171)
    clear H166
    have H175 := Hid.mk' (H167.out.below b171)
    clear H167
    have H176 := Hid.mk' (H169.out.below b171)
    clear H169
    have Z177 := Hid.mk' (bel_next Z168.out b171)
    clear Z168
    clear b171
    rcases apV_if A C with h2 | ⟨AC, h2⟩
    · go_wp2_with fail
      refine (apI_L H172.out H174.out).mono ?_
      rw [h2]
      rintro e w178 ⟨a179, c180, rfl, b181, r182⟩
      have H183 := Hid.mk' (H172.out.below b181)
      clear H172
      have H184 := Hid.mk' (H173.out.below b181)
      clear H173
      have H185 := Hid.mk' (H174.out.below b181)
      clear H174
      have H186 := Hid.mk' (H175.out.below b181)
      clear H175
      have H187 := Hid.mk' (H176.out.below b181)
      clear H176
      have Z188 := Hid.mk' (bel_next Z177.out b181)
      clear Z177
      have H189 : Hid (RL w178 a179 c180 []) := r182
      clear r182
      clear b181
      rcases wmV_if B C with h3 | ⟨BC, h3⟩
      · go_wp2_with fail
        refine (wmI_L H184.out H185.out).mono ?_
        rw [h3]
        rintro e w190 ⟨a191, c192, rfl, b193, r194⟩
        have H195 := Hid.mk' (H183.out.below b193)
        clear H183
        have H196 := Hid.mk' (H184.out.below b193)
        clear H184
        have H197 := Hid.mk' (H185.out.below b193)
        clear H185
        have H198 := Hid.mk' (H186.out.below b193)
        clear H186
        have H199 := Hid.mk' (H187.out.below b193)
        clear H187
        have H200 := Hid.mk' (H189.out.below b193)
        clear H189
        have Z201 := Hid.mk' (bel_next Z188.out b193)
        clear Z188
        have H202 : Hid (RL w190 a191 c192 []) := r194
        clear r194
        clear b193
        go_wp2_with fail
        refine (heOk_L _ ).mono ?_
        rintro e w203 ⟨rfl, b204⟩
        have H205 := Hid.mk' (H195.out.below b204)
        clear H195
        have H206 := Hid.mk' (H196.out.below b204)
        clear H196
        have H207 := Hid.mk' (H197.out.below b204)
        clear H197
        have H208 := Hid.mk' (H198.out.below b204)
        clear H198
        have H209 := Hid.mk' (H199.out.below b204)
        clear H199
        have H210 := Hid.mk' (H200.out.below b204)
        clear H200
        have H211 := Hid.mk' (H202.out.below b204)
        clear H202
        have Z212 := Hid.mk' (bel_next Z201.out b204)
        clear Z201
        clear b204
        go_wp2
        go_ret
        exact ⟨rfl, Z212.out⟩
      · go_wp2_with fail
        refine (wmI_L H184.out H185.out).mono ?_
        rw [h3]
        rintro e w213 ⟨a214, c215, rfl, b216, r217⟩
        have H218 := Hid.mk' (H183.out.below b216)
        clear H183
        have H219 := Hid.mk' (H184.out.below b216)
        clear H184
        have H220 := Hid.mk' (H185.out.below b216)
        clear H185
        have H221 := Hid.mk' (H186.out.below b216)
        clear H186
        have H222 := Hid.mk' (H187.out.below b216)
        clear H187
        have H223 := Hid.mk' (H189.out.below b216)
        clear H189
        have Z224 := Hid.mk' (bel_next Z188.out b216)
        clear Z188
        have H225 : Hid (RL w213 a214 c215 BC) := r217
        clear r217
        clear b216
        go_wp2_with fail
        refine (heOk_L _ ).mono ?_
        rintro e w226 ⟨rfl, b227⟩
        have H228 := Hid.mk' (H218.out.below b227)
        clear H218
        have H229 := Hid.mk' (H219.out.below b227)
        clear H219
        have H230 := Hid.mk' (H220.out.below b227)
        clear H220
        have H231 := Hid.mk' (H221.out.below b227)
        clear H221
        have H232 := Hid.mk' (H222.out.below b227)
        clear H222
        have H233 := Hid.mk' (H223.out.below b227)
        clear H223
        have H234 := Hid.mk' (H225.out.below b227)
        clear H225
        have Z235 := Hid.mk' (bel_next Z224.out b227)
        clear Z224
        clear b227
        go_wp2
        go_ret
        exact ⟨rfl, Z235.out⟩
    · go_wp2_with fail
      refine (apI_L H172.out H174.out).mono ?_
      rw [h2]
      rintro e w236 ⟨a237, c238, rfl, b239, r240⟩
      have H241 := Hid.mk' (H172.out.below b239)
      clear H172
      have H242 := Hid.mk' (H173.out.below b239)
      clear H173
      have H243 := Hid.mk' (H174.out.below b239)
      clear H174
      have H244 := Hid.mk' (H175.out.below b239)
      clear H175
      have H245 := Hid.mk' (H176.out.below b239)
      clear H176
      have Z246 := Hid.mk' (bel_next Z177.out b239)
      clear Z177
      have H247 : Hid (RL w236 a237 c238 AC) := r240
      clear r240
      clear b239
      rcases wmV_if B C with h3 | ⟨BC, h3⟩
      · go_wp2_with fail
        refine (wmI_L H242.out H243.out).mono ?_
        rw [h3]
        rintro e w248 ⟨a249, c250, rfl, b251, r252⟩
        have H253 := Hid.mk' (H241.out.below b251)
        clear H241
        have H254 := Hid.mk' (H242.out.below b251)
        clear H242
        have H255 := Hid.mk' (H243.out.below b251)
        clear H243
        have H256 := Hid.mk' (H244.out.below b251)
        clear H244
        have H257 := Hid.mk' (H245.out.below b251)
        clear H245
        have H258 := Hid.mk' (H247.out.below b251)
        clear H247
        have Z259 := Hid.mk' (bel_next Z246.out b251)
        clear Z246
        have H260 : Hid (RL w248 a249 c250 []) := r252
        clear r252
        clear b251
        go_wp2_with fail
        refine (heOk_L _ ).mono ?_
        rintro e w261 ⟨rfl, b262⟩
        have H263 := Hid.mk' (H253.out.below b262)
        clear H253
        have H264 := Hid.mk' (H254.out.below b262)
        clear H254
        have H265 := Hid.mk' (H255.out.below b262)
        clear H255
        have H266 := Hid.mk' (H256.out.below b262)
        clear H256
        have H267 := Hid.mk' (H257.out.below b262)
        clear H257
        have H268 := Hid.mk' (H258.out.below b262)
        clear H258
        have H269 := Hid.mk' (H260.out.below b262)
        clear H260
        have Z270 := Hid.mk' (bel_next Z259.out b262)
        clear Z259
        clear b262
        go_wp2
        go_ret
        exact ⟨rfl, Z270.out⟩
      · go_wp2_with fail
        refine (wmI_L H242.out H243.out).mono ?_
        rw [h3]
        rintro e w271 ⟨a272, c273, rfl, b274, r275⟩
        have H276 := Hid.mk' (H241.out.below b274)
        clear H241
        have H277 := Hid.mk' (H242.out.below b274)
        clear H242
        have H278 := Hid.mk' (H243.out.below b274)
        clear H243
        have H279 := Hid.mk' (H244.out.below b274)
        clear H244
        have H280 := Hid.mk' (H245.out.below b274)
        clear H245
        have H281 := Hid.mk' (H247.out.below b274)
        clear H247
        have Z282 := Hid.mk' (bel_next Z246.out b274)
        clear Z246
        have H283 : Hid (RL w271 a272 c273 BC) := r275
        clear r275
        clear b274
        rcases apV_if A BC with h4 | ⟨XX, h4⟩
        · go_wp2_with fail
          refine (apI_L H276.out H283.out).mono ?_
          rw [h4]
          rintro e w284 ⟨a285, c286, rfl, b287, r288⟩
          have H289 := Hid.mk' (H276.out.below b287)
          clear H276
          have H290 := Hid.mk' (H277.out.below b287)
          clear H277
          have H291 := Hid.mk' (H278.out.below b287)
          clear H278
          have H292 := Hid.mk' (H279.out.below b287)
          clear H279
          have H293 := Hid.mk' (H280.out.below b287)
          clear H280
          have H294 := Hid.mk' (H281.out.below b287)
          clear H281
          have H295 := Hid.mk' (H283.out.below b287)
          clear H283
          have Z296 := Hid.mk' (bel_next Z282.out b287)
          clear Z282
          have H297 : Hid (RL w284 a285 c286 []) := r288
          clear r288
          clear b287
          rcases wmV_if AB C with h5 | ⟨UU, h5⟩
          · go_wp2_with fail
            refine (wmI_L H292.out H291.out).mono ?_
            rw [h5]
            rintro e w298 ⟨a299, c300, rfl, b301, r302⟩
            have H303 := Hid.mk' (H289.out.below b301)
            clear H289
            have H304 := Hid.mk' (H290.out.below b301)
            clear H290
            have H305 := Hid.mk' (H291.out.below b301)
            clear H291
            have H306 := Hid.mk' (H292.out.below b301)
            clear H292
            have H307 := Hid.mk' (H293.out.below b301)
            clear H293
            have H308 := Hid.mk' (H294.out.below b301)
            clear H294
            have H309 := Hid.mk' (H295.out.below b301)
            clear H295
            have H310 := Hid.mk' (H297.out.below b301)
            clear H297
            have Z311 := Hid.mk' (bel_next Z296.out b301)
            clear Z296
            have H312 : Hid (RL w298 a299 c300 []) := r302
            clear r302
            clear b301
            rcases wmV_if B AC with h6 | ⟨VV, h6⟩
            · go_wp2_with fail
              refine (wmI_L H304.out H308.out).mono ?_
              rw [h6]
              rintro e w313 ⟨a314, c315, rfl, b316, r317⟩
              have H318 := Hid.mk' (H303.out.below b316)
              clear H303
              have H319 := Hid.mk' (H304.out.below b316)
              clear H304
              have H320 := Hid.mk' (H305.out.below b316)
              clear H305
              have H321 := Hid.mk' (H306.out.below b316)
              clear H306
              have H322 := Hid.mk' (H307.out.below b316)
              clear H307
              have H323 := Hid.mk' (H308.out.below b316)
              clear H308
              have H324 := Hid.mk' (H309.out.below b316)
              clear H309
              have H325 := Hid.mk' (H310.out.below b316)
              clear H310
              have H326 := Hid.mk' (H312.out.below b316)
              clear H312
              have Z327 := Hid.mk' (bel_next Z311.out b316)
              clear Z311
              have H328 : Hid (RL w313 a314 c315 []) := r317
              clear r317
              clear b316
              go_wp2_with fail
              refine (heOk_L _ ).mono ?_
              rintro e w329 ⟨rfl, b330⟩
              have H331 := Hid.mk' (H318.out.below b330)
              clear H318
              have H332 := Hid.mk' (H319.out.below b330)
              clear H319
              have H333 := Hid.mk' (H320.out.below b330)
              clear H320
              have H334 := Hid.mk' (H321.out.below b330)
              clear H321
              have H335 := Hid.mk' (H322.out.below b330)
              clear H322
              have H336 := Hid.mk' (H323.out.below b330)
              clear H323
              have H337 := Hid.mk' (H324.out.below b330)
              clear H324
              have H338 := Hid.mk' (H325.out.below b330)
              clear H325
              have H339 := Hid.mk' (H326.out.below b330)
              clear H326
              have H340 := Hid.mk' (H328.out.below b330)
              clear H328
              have Z341 := Hid.mk' (bel_next Z327.out b330)
              clear Z327
              clear b330
              go_wp2
              go_ret
              exact ⟨rfl, Z341.out⟩
            · go_wp2_with fail
              refine (wmI_L H304.out H308.out).mono ?_
              rw [h6]
              rintro e w342 ⟨a343, c344, rfl, b345, r346⟩
              have H347 := Hid.mk' (H303.out.below b345)
              clear H303
              have H348 := Hid.mk' (H304.out.below b345)
              clear H304
              have H349 := Hid.mk' (H305.out.below b345)
              clear H305
              have H350 := Hid.mk' (H306.out.below b345)
              clear H306
              have H351 := Hid.mk' (H307.out.below b345)
              clear H307
              have H352 := Hid.mk' (H308.out.below b345)
              clear H308
              have H353 := Hid.mk' (H309.out.below b345)
              clear H309
              have H354 := Hid.mk' (H310.out.below b345)
              clear H310
              have H355 := Hid.mk' (H312.out.below b345)
              clear H312
              have Z356 := Hid.mk' (bel_next Z311.out b345)
              clear Z311
              have H357 : Hid (RL w342 a343 c344 VV) := r346
              clear r346
              clear b345
              go_wp2_with fail
              refine (heOk_L _ ).mono ?_
              rintro e w358 ⟨rfl, b359⟩
              have H360 := Hid.mk' (H347.out.below b359)
              clear H347
              have H361 := Hid.mk' (H348.out.below b359)
              clear H348
              have H362 := Hid.mk' (H349.out.below b359)
              clear H349
              have H363 := Hid.mk' (H350.out.below b359)
              clear H350
              have H364 := Hid.mk' (H351.out.below b359)
              clear H351
              have H365 := Hid.mk' (H352.out.below b359)
              clear H352
              have H366 := Hid.mk' (H353.out.below b359)
              clear H353
              have H367 := Hid.mk' (H354.out.below b359)
              clear H354
              have H368 := Hid.mk' (H355.out.below b359)
              clear H355
              have H369 := Hid.mk' (H357.out.below b359)
              clear H357
              have Z370 := Hid.mk' (bel_next Z356.out b359)
              clear Z356
              clear b359
              go_wp2
              go_ret
              exact ⟨rfl, Z370.out⟩
          · go_wp2_with fail
            refine (wmI_L H292.out H291.out).mono ?_
            rw [h5]
            rintro e w371 ⟨a372, c373, rfl, b374, r375⟩
            have H376 := Hid.mk' (H289.out.below b374)
            clear H289
            have H377 := Hid.mk' (H290.out.below b374)
            clear H290
            have H378 := Hid.mk' (H291.out.below b374)
            clear H291
            have H379 := Hid.mk' (H292.out.below b374)
            clear H292
            have H380 := Hid.mk' (H293.out.below b374)
            clear H293
            have H381 := Hid.mk' (H294.out.below b374)
            clear H294
            have H382 := Hid.mk' (H295.out.below b374)
            clear H295
            have H383 := Hid.mk' (H297.out.below b374)
            clear H297
            have Z384 := Hid.mk' (bel_next Z296.out b374)
            clear Z296
            have H385 : Hid (RL w371 a372 c373 UU) := r375
            clear r375
            clear b374
            rcases wmV_if B AC with h6 | ⟨VV, h6⟩
            · go_wp2_with fail
              refine (wmI_L H377.out H381.out).mono ?_
              rw [h6]
              rintro e w386 ⟨a387, c388, rfl, b389, r390⟩
              have H391 := Hid.mk' (H376.out.below b389)
              clear H376
              have H392 := Hid.mk' (H377.out.below b389)
              clear H377
              have H393 := Hid.mk' (H378.out.below b389)
              clear H378
              have H394 := Hid.mk' (H379.out.below b389)
              clear H379
              have H395 := Hid.mk' (H380.out.below b389)
              clear H380
              have H396 := Hid.mk' (H381.out.below b389)
              clear H381
              have H397 := Hid.mk' (H382.out.below b389)
              clear H382
              have H398 := Hid.mk' (H383.out.below b389)
              clear H383
              have H399 := Hid.mk' (H385.out.below b389)
              clear H385
              have Z400 := Hid.mk' (bel_next Z384.out b389)
              clear Z384
              have H401 : Hid (RL w386 a387 c388 []) := r390
              clear r390
              clear b389
              go_wp2_with fail
              refine (heOk_L _ ).mono ?_
              rintro e w402 ⟨rfl, b403⟩
              have H404 := Hid.mk' (H391.out.below b403)
              clear H391
              have H405 := Hid.mk' (H392.out.below b403)
              clear H392
              have H406 := Hid.mk' (H393.out.below b403)
              clear H393
              have H407 := Hid.mk' (H394.out.below b403)
              clear H394
              have H408 := Hid.mk' (H395.out.below b403)
              clear H395
              have H409 := Hid.mk' (H396.out.below b403)
              clear H396
              have H410 := Hid.mk' (H397.out.below b403)
              clear H397
              have H411 := Hid.mk' (H398.out.below b403)
              clear H398
              have H412 := Hid.mk' (H399.out.below b403)
              clear H399
              have H413 := Hid.mk' (H401.out.below b403)
              clear H401
              have Z414 := Hid.mk' (bel_next Z400.out b403)
              clear Z400
              clear b403
              go_wp2
              go_ret
              exact ⟨rfl, Z414.out⟩
            · go_wp2_with fail
              refine (wmI_L H377.out H381.out).mono ?_
              rw [h6]
              rintro e w415 ⟨a416, c417, rfl, b418, r419⟩
              have H420 := Hid.mk' (H376.out.below b418)
              clear H376
              have H421 := Hid.mk' (H377.out.below b418)
              clear H377
              have H422 := Hid.mk' (H378.out.below b418)
              clear H378
              have H423 := Hid.mk' (H379.out.below b418)
              clear H379
              have H424 := Hid.mk' (H380.out.below b418)
              clear H380
              have H425 := Hid.mk' (H381.out.below b418)
              clear H381
              have H426 := Hid.mk' (H382.out.below b418)
              clear H382
              have H427 := Hid.mk' (H383.out.below b418)
              clear H383
              have H428 := Hid.mk' (H385.out.below b418)
              clear H385
              have Z429 := Hid.mk' (bel_next Z384.out b418)
              clear Z384
              have H430 : Hid (RL w415 a416 c417 VV) := r419
              clear r419
              clear b418
              go_wp2_with fail
              refine (heOk_L _ ).mono ?_
              rintro e w431 ⟨rfl, b432⟩
              have H433 := Hid.mk' (H420.out.below b432)
              clear H420
              have H434 := Hid.mk' (H421.out.below b432)
              clear H421
              have H435 := Hid.mk' (H422.out.below b432)
              clear H422
              have H436 := Hid.mk' (H423.out.below b432)
              clear H423
              have H437 := Hid.mk' (H424.out.below b432)
              clear H424
              have H438 := Hid.mk' (H425.out.below b432)
              clear H425
              have H439 := Hid.mk' (H426.out.below b432)
              clear H426
              have H440 := Hid.mk' (H427.out.below b432)
              clear H427
              have H441 := Hid.mk' (H428.out.below b432)
              clear H428
              have H442 := Hid.mk' (H430.out.below b432)
              clear H430
              have Z443 := Hid.mk' (bel_next Z429.out b432)
              clear Z429
              clear b432
              go_wp2
              go_ret
              exact ⟨rfl, Z443.out⟩
        · go_wp2_with fail
          refine (apI_L H276.out H283.out).mono ?_
          rw [h4]
          rintro e w444 ⟨a445, c446, rfl, b447, r448⟩
          have H449 := Hid.mk' (H276.out.below b447)
          clear H276
          have H450 := Hid.mk' (H277.out.below b447)
          clear H277
          have H451 := Hid.mk' (H278.out.below b447)
          clear H278
          have H452 := Hid.mk' (H279.out.below b447)
          clear H279
          have H453 := Hid.mk' (H280.out.below b447)
          clear H280
          have H454 := Hid.mk' (H281.out.below b447)
          clear H281
          have H455 := Hid.mk' (H283.out.below b447)
          clear H283
          have Z456 := Hid.mk' (bel_next Z282.out b447)
          clear Z282
          have H457 : Hid (RL w444 a445 c446 XX) := r448
          clear r448
          clear b447
          rcases wmV_if AB C with h5 | ⟨UU, h5⟩
          · go_wp2_with fail
            refine (wmI_L H452.out H451.out).mono ?_
            rw [h5]
            rintro e w458 ⟨a459, c460, rfl, b461, r462⟩
            have H463 := Hid.mk' (H449.out.below b461)
            clear H449
            have H464 := Hid.mk' (H450.out.below b461)
            clear H450
            have H465 := Hid.mk' (H451.out.below b461)
            clear H451
            have H466 := Hid.mk' (H452.out.below b461)
            clear H452
            have H467 := Hid.mk' (H453.out.below b461)
            clear H453
            have H468 := Hid.mk' (H454.out.below b461)
            clear H454
            have H469 := Hid.mk' (H455.out.below b461)
            clear H455
            have H470 := Hid.mk' (H457.out.below b461)
            clear H457
            have Z471 := Hid.mk' (bel_next Z456.out b461)
            clear Z456
            have H472 : Hid (RL w458 a459 c460 []) := r462
            clear r462
            clear b461
            rcases wmV_if B AC with h6 | ⟨VV, h6⟩
            · go_wp2_with fail
              refine (wmI_L H464.out H468.out).mono ?_
              rw [h6]
              rintro e w473 ⟨a474, c475, rfl, b476, r477⟩
              have H478 := Hid.mk' (H463.out.below b476)
              clear H463
              have H479 := Hid.mk' (H464.out.below b476)
              clear H464
              have H480 := Hid.mk' (H465.out.below b476)
              clear H465
              have H481 := Hid.mk' (H466.out.below b476)
              clear H466
              have H482 := Hid.mk' (H467.out.below b476)
              clear H467
              have H483 := Hid.mk' (H468.out.below b476)
              clear H468
              have H484 := Hid.mk' (H469.out.below b476)
              clear H469
              have H485 := Hid.mk' (H470.out.below b476)
              clear H470
              have H486 := Hid.mk' (H472.out.below b476)
              clear H472
              have Z487 := Hid.mk' (bel_next Z471.out b476)
              clear Z471
              have H488 : Hid (RL w473 a474 c475 []) := r477
              clear r477
              clear b476
              go_wp2_with fail
              refine (heOk_L _ ).mono ?_
              rintro e w489 ⟨rfl, b490⟩
              have H491 := Hid.mk' (H478.out.below b490)
              clear H478
              have H492 := Hid.mk' (H479.out.below b490)
              clear H479
              have H493 := Hid.mk' (H480.out.below b490)
              clear H480
              have H494 := Hid.mk' (H481.out.below b490)
              clear H481
              have H495 := Hid.mk' (H482.out.below b490)
              clear H482
              have H496 := Hid.mk' (H483.out.below b490)
              clear H483
              have H497 := Hid.mk' (H484.out.below b490)
              clear H484
              have H498 := Hid.mk' (H485.out.below b490)
              clear H485
              have H499 := Hid.mk' (H486.out.below b490)
              clear H486
              have H500 := Hid.mk' (H488.out.below b490)
              clear H488
              have Z501 := Hid.mk' (bel_next Z487.out b490)
              clear Z487
              clear b490
              go_wp2
              go_ret
              exact ⟨rfl, Z501.out⟩
            · go_wp2_with fail
              refine (wmI_L H464.out H468.out).mono ?_
              rw [h6]
              rintro e w502 ⟨a503, c504, rfl, b505, r506⟩
              have H507 := Hid.mk' (H463.out.below b505)
              clear H463
              have H508 := Hid.mk' (H464.out.below b505)
              clear H464
              have H509 := Hid.mk' (H465.out.below b505)
              clear H465
              have H510 := Hid.mk' (H466.out.below b505)
              clear H466
              have H511 := Hid.mk' (H467.out.below b505)
              clear H467
              have H512 := Hid.mk' (H468.out.below b505)
              clear H468
              have H513 := Hid.mk' (H469.out.below b505)
              clear H469
              have H514 := Hid.mk' (H470.out.below b505)
              clear H470
              have H515 := Hid.mk' (H472.out.below b505)
              clear H472
              have Z516 := Hid.mk' (bel_next Z471.out b505)
              clear Z471
              have H517 : Hid (RL w502 a503 c504 VV) := r506
              clear r506
              clear b505
              go_wp2_with fail
              refine (heOk_L _ ).mono ?_
              rintro e w518 ⟨rfl, b519⟩
              have H520 := Hid.mk' (H507.out.below b519)
              clear H507
              have H521 := Hid.mk' (H508.out.below b519)
              clear H508
              have H522 := Hid.mk' (H509.out.below b519)
              clear H509
              have H523 := Hid.mk' (H510.out.below b519)
              clear H510
              have H524 := Hid.mk' (H511.out.below b519)
              clear H511
              have H525 := Hid.mk' (H512.out.below b519)
              clear H512
              have H526 := Hid.mk' (H513.out.below b519)
              clear H513
              have H527 := Hid.mk' (H514.out.below b519)
              clear H514
              have H528 := Hid.mk' (H515.out.below b519)
              clear H515
              have H529 := Hid.mk' (H517.out.below b519)
              clear H517
              have Z530 := Hid.mk' (bel_next Z516.out b519)
              clear Z516
              clear b519
              go_wp2
              go_ret
              exact ⟨rfl, Z530.out⟩
          · go_wp2_with fail
            refine (wmI_L H452.out H451.out).mono ?_
            rw [h5]
            rintro e w531 ⟨a532, c533, rfl, b534, r535⟩
            have H536 := Hid.mk' (H449.out.below b534)
            clear H449
            have H537 := Hid.mk' (H450.out.below b534)
            clear H450
            have H538 := Hid.mk' (H451.out.below b534)
            clear H451
            have H539 := Hid.mk' (H452.out.below b534)
            clear H452
            have H540 := Hid.mk' (H453.out.below b534)
            clear H453
            have H541 := Hid.mk' (H454.out.below b534)
            clear H454
            have H542 := Hid.mk' (H455.out.below b534)
            clear H455
            have H543 := Hid.mk' (H457.out.below b534)
            clear H457
            have Z544 := Hid.mk' (bel_next Z456.out b534)
            clear Z456
            have H545 : Hid (RL w531 a532 c533 UU) := r535
            clear r535
            clear b534
            rcases wmV_if B AC with h6 | ⟨VV, h6⟩
            · go_wp2_with fail
              refine (wmI_L H537.out H541.out).mono ?_
              rw [h6]
              rintro e w546 ⟨a547, c548, rfl, b549, r550⟩
              have H551 := Hid.mk' (H536.out.below b549)
              clear H536
              have H552 := Hid.mk' (H537.out.below b549)
              clear H537
              have H553 := Hid.mk' (H538.out.below b549)
              clear H538
              have H554 := Hid.mk' (H539.out.below b549)
              clear H539
              have H555 := Hid.mk' (H540.out.below b549)
              clear H540
              have H556 := Hid.mk' (H541.out.below b549)
              clear H541
              have H557 := Hid.mk' (H542.out.below b549)
              clear H542
              have H558 := Hid.mk' (H543.out.below b549)
              clear H543
              have H559 := Hid.mk' (H545.out.below b549)
              clear H545
              have Z560 := Hid.mk' (bel_next Z544.out b549)
              clear Z544
              have H561 : Hid (RL w546 a547 c548 []) := r550
              clear r550
              clear b549
              go_wp2_with fail
              refine (heOk_L _ ).mono ?_
              rintro e w562 ⟨rfl, b563⟩
              have H564 := Hid.mk' (H551.out.below b563)
              clear H551
              have H565 := Hid.mk' (H552.out.below b563)
              clear H552
              have H566 := Hid.mk' (H553.out.below b563)
              clear H553
              have H567 := Hid.mk' (H554.out.below b563)
              clear H554
              have H568 := Hid.mk' (H555.out.below b563)
              clear H555
              have H569 := Hid.mk' (H556.out.below b563)
              clear H556
              have H570 := Hid.mk' (H557.out.below b563)
              clear H557
              have H571 := Hid.mk' (H558.out.below b563)
              clear H558
              have H572 := Hid.mk' (H559.out.below b563)
              clear H559
              have H573 := Hid.mk' (H561.out.below b563)
              clear H561
              have Z574 := Hid.mk' (bel_next Z560.out b563)
              clear Z560
              clear b563
              go_wp2
              go_ret
              exact ⟨rfl, Z574.out⟩
            · go_wp2_with fail
              refine (wmI_L H537.out H541.out).mono ?_
              rw [h6]
              rintro e w575 ⟨a576, c577, rfl, b578, r579⟩
              have H580 := Hid.mk' (H536.out.below b578)
              clear H536
              have H581 := Hid.mk' (H537.out.below b578)
              clear H537
              have H582 := Hid.mk' (H538.out.below b578)
              clear H538
              have H583 := Hid.mk' (H539.out.below b578)
              clear H539
              have H584 := Hid.mk' (H540.out.below b578)
              clear H540
              have H585 := Hid.mk' (H541.out.below b578)
              clear H541
              have H586 := Hid.mk' (H542.out.below b578)
              clear H542
              have H587 := Hid.mk' (H543.out.below b578)
              clear H543
              have H588 := Hid.mk' (H545.out.below b578)
              clear H545
              have Z589 := Hid.mk' (bel_next Z544.out b578)
              clear Z544
              have H590 : Hid (RL w575 a576 c577 VV) := r579
              clear r579
              clear b578
              have e7 := ap_rule h1 h2 h3 h4 h5 h6
              go_wp2_with fail
              refine (addI_L H588.out H590.out).mono ?_
              rw [e7]
              rintro e w591 ⟨a592, c593, rfl, b594, r595⟩
              have H596 := Hid.mk' (H580.out.below b594)
              clear H580
              have H597 := Hid.mk' (H581.out.below b594)
              clear H581
              have H598 := Hid.mk' (H582.out.below b594)
              clear H582
              have H599 := Hid.mk' (H583.out.below b594)
              clear H583
              have H600 := Hid.mk' (H584.out.below b594)
              clear H584
              have H601 := Hid.mk' (H585.out.below b594)
              clear H585
              have H602 := Hid.mk' (H586.out.below b594)
              clear H586
              have H603 := Hid.mk' (H587.out.below b594)
              clear H587
              have H604 := Hid.mk' (H588.out.below b594)
              clear H588
              have H605 := Hid.mk' (H590.out.below b594)
              clear H590
              have Z606 := Hid.mk' (bel_next Z589.out b594)
              clear Z589
              have H607 : Hid (RL w591 a592 c593 XX) := r595
              clear r595
              clear b594
              go_wp2_with fail
              refine (he_L H603.out H607.out).mono ?_
              rw [sq_same]
              rintro e w608 ⟨rfl, b609⟩
              have H610 := Hid.mk' (H596.out.below b609)
              clear H596
              have H611 := Hid.mk' (H597.out.below b609)
              clear H597
              have H612 := Hid.mk' (H598.out.below b609)
              clear H598
              have H613 := Hid.mk' (H599.out.below b609)
              clear H599
              have H614 := Hid.mk' (H600.out.below b609)
              clear H600
              have H615 := Hid.mk' (H601.out.below b609)
              clear H601
              have H616 := Hid.mk' (H602.out.below b609)
              clear H602
              have H617 := Hid.mk' (H603.out.below b609)
              clear H603
              have H618 := Hid.mk' (H604.out.below b609)
              clear H604
              have H619 := Hid.mk' (H605.out.below b609)
              clear H605
              have H620 := Hid.mk' (H607.out.below b609)
              clear H607
              have Z621 := Hid.mk' (bel_next Z606.out b609)
              clear Z606
              clear b609
              go_wp2_with fail
              refine (heOk_L _ ).mono ?_
              rintro e w622 ⟨rfl, b623⟩
              have H624 := Hid.mk' (H610.out.below b623)
              clear H610
              have H625 := Hid.mk' (H611.out.below b623)
              clear H611
              have H626 := Hid.mk' (H612.out.below b623)
              clear H612
              have H627 := Hid.mk' (H613.out.below b623)
              clear H613
              have H628 := Hid.mk' (H614.out.below b623)
              clear H614
              have H629 := Hid.mk' (H615.out.below b623)
              clear H615
              have H630 := Hid.mk' (H616.out.below b623)
              clear H616
              have H631 := Hid.mk' (H617.out.below b623)
              clear H617
              have H632 := Hid.mk' (H618.out.below b623)
              clear H618
              have H633 := Hid.mk' (H619.out.below b623)
              clear H619
              have H634 := Hid.mk' (H620.out.below b623)
              clear H620
              have Z635 := Hid.mk' (bel_next Z621.out b623)
              clear Z621
              clear b623
              go_wp2
              go_ret
              exact ⟨rfl, Z635.out⟩
end Go.Proofs.Ytbadbmddocifdaa
