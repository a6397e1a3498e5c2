/-
  The walk of FnActSlope: whatever the code, it comes out true, and nothing that was there is turned.
-/
import Derived.Test.YtnfimnfaejjagaaSlL
import Derived.Test.YtnfimnfaejjagaaDrawSl
import Derived.Test.YtnfimnfaejjagaaGbc
namespace Go.Proofs.Ytnfimnfaejjagaa
open Go.RowKit
set_option linter.unusedVariables false
set_option maxRecDepth 100000 in
set_option maxHeartbeats 8000000 in
theorem walk_FnActSlope (w : World) (a0 : Option Addr) (len0 cap0 : Nat) (s0 : Src w a0 len0 cap0) (a1 : Option Addr) (len1 cap1 : Nat) (s1 : Src w a1 len1 cap1) :
    Calls Try.prog 6 #[.slice a0 len0 cap0, .slice a1 len1 cap1] w fun e w' => e = .returned (.bool true) ∧ Below w.heap.size w w' := by
  by_cases c0 : (1048576 : Int) < (len0 : Int)
  · go_enter Try.func6, Try.ntmps6
    go_wp2
    go_ret
    exact ⟨rfl, Below.refl _ _⟩
  by_cases c1 : (1048576 : Int) < (len1 : Int)
  · go_enter Try.func6, Try.ntmps6
    go_wp2
    go_ret
    exact ⟨rfl, Below.refl _ _⟩
  go_enter Try.func6, Try.ntmps6
  go_wp2_with fail
  refine (drawActSlope w a0 len0 cap0 s0).mono ?_
  rintro e wd ⟨da, dca, A, k, rfl, hA, hlA, hbd⟩
  have HA0 := Hid.mk' hA
  have Z0 := Hid.mk' hbd
  have S1 := Hid.mk' (s1.below hbd)
  clear hA hbd s0 s1
  go_wp2_with fail
  refine (drawActSlope wd a1 len1 cap1 S1.out).mono ?_
  rintro e we ⟨db, dcb, B, z1, rfl, hB, hlB, hbe⟩
  have HB0 := Hid.mk' hB
  clear hB S1
  have H1 := Hid.mk' (HA0.out.below hbe)
  clear HA0
  have Z2 := Hid.mk' (bel_next Z0.out hbe)
  clear Z0
  clear hbe
  cases fA : freeL A
  · have e1 : slV A k = [] := sl_no (fun h => by rw [fA] at h; cases h.1)
    go_wp2_with fail
    refine (slI_L k H1.out).mono ?_
    rw [e1]
    rintro e w3 ⟨a4, c5, rfl, b6, r7⟩
    have H8 := Hid.mk' (H1.out.below b6)
    clear H1
    have H9 := Hid.mk' (HB0.out.below b6)
    clear HB0
    have Z10 := Hid.mk' (bel_next Z2.out b6)
    clear Z2
    have H11 : Hid (RL w3 a4 c5 []) := r7
    clear r7
    clear b6
    go_wp2_with fail
    refine (slS_L k H8.out).mono ?_
    rw [e1]
    rintro e w12 ⟨a13, c14, rfl, b15, r16⟩
    have H17 := Hid.mk' (H8.out.below b15)
    clear H8
    have H18 := Hid.mk' (H9.out.below b15)
    clear H9
    have H19 := Hid.mk' (H11.out.below b15)
    clear H11
    have Z20 := Hid.mk' (bel_next Z10.out b15)
    clear Z10
    have H21 : Hid (RL w12 a13 c14 []) := r16
    clear r16
    clear b15
    go_wp2_with fail
    refine (he_L H19.out H21.out).mono ?_
    rw [sq_same]
    rintro e w22 ⟨rfl, b23⟩
    have H24 := Hid.mk' (H17.out.below b23)
    clear H17
    have H25 := Hid.mk' (H18.out.below b23)
    clear H18
    have H26 := Hid.mk' (H19.out.below b23)
    clear H19
    have H27 := Hid.mk' (H21.out.below b23)
    clear H21
    have Z28 := Hid.mk' (bel_next Z20.out b23)
    clear Z20
    clear b23
    go_wp2_with fail
    refine (freeS_L H24.out).mono ?_
    rw [fA]
    rintro e w29 ⟨rfl, b30⟩
    have H31 := Hid.mk' (H24.out.below b30)
    clear H24
    have H32 := Hid.mk' (H25.out.below b30)
    clear H25
    have H33 := Hid.mk' (H26.out.below b30)
    clear H26
    have H34 := Hid.mk' (H27.out.below b30)
    clear H27
    have Z35 := Hid.mk' (bel_next Z28.out b30)
    clear Z28
    clear b30
    go_wp2_with fail
    refine (heOk_L _ ).mono ?_
    rintro e w36 ⟨rfl, b37⟩
    have H38 := Hid.mk' (H31.out.below b37)
    clear H31
    have H39 := Hid.mk' (H32.out.below b37)
    clear H32
    have H40 := Hid.mk' (H33.out.below b37)
    clear H33
    have H41 := Hid.mk' (H34.out.below b37)
    clear H34
    have Z42 := Hid.mk' (bel_next Z35.out b37)
    clear Z35
    clear b37
    go_wp2
    go_ret
    exact ⟨rfl, Z42.out⟩
  · by_cases hk0 : k < 0
    · have e1 : slV A k = [] := sl_no (fun h => by omega)
      go_wp2_with fail
      refine (slI_L k H1.out).mono ?_
      rw [e1]
      rintro e w43 ⟨a44, c45, rfl, b46, r47⟩
      have H48 := Hid.mk' (H1.out.below b46)
      clear H1
      have H49 := Hid.mk' (HB0.out.below b46)
      clear HB0
      have Z50 := Hid.mk' (bel_next Z2.out b46)
      clear Z2
      have H51 : Hid (RL w43 a44 c45 []) := r47
      clear r47
      clear b46
      go_wp2_with fail
      refine (slS_L k H48.out).mono ?_
      rw [e1]
      rintro e w52 ⟨a53, c54, rfl, b55, r56⟩
      have H57 := Hid.mk' (H48.out.below b55)
      clear H48
      have H58 := Hid.mk' (H49.out.below b55)
      clear H49
      have H59 := Hid.mk' (H51.out.below b55)
      clear H51
      have Z60 := Hid.mk' (bel_next Z50.out b55)
      clear Z50
      have H61 : Hid (RL w52 a53 c54 []) := r56
      clear r56
      clear b55
      go_wp2_with fail
      refine (he_L H59.out H61.out).mono ?_
      rw [sq_same]
      rintro e w62 ⟨rfl, b63⟩
      have H64 := Hid.mk' (H57.out.below b63)
      clear H57
      have H65 := Hid.mk' (H58.out.below b63)
      clear H58
      have H66 := Hid.mk' (H59.out.below b63)
      clear H59
      have H67 := Hid.mk' (H61.out.below b63)
      clear H61
      have Z68 := Hid.mk' (bel_next Z60.out b63)
      clear Z60
      clear b63
      go_wp2_with fail
      refine (freeS_L H64.out).mono ?_
      rw [fA]
      rintro e w69 ⟨rfl, b70⟩
      have H71 := Hid.mk' (H64.out.below b70)
      clear H64
      have H72 := Hid.mk' (H65.out.below b70)
      clear H65
      have H73 := Hid.mk' (H66.out.below b70)
      clear H66
      have H74 := Hid.mk' (H67.out.below b70)
      clear H67
      have Z75 := Hid.mk' (bel_next Z68.out b70)
      clear Z68
      clear b70
      go_wp2_with fail
      refine (heOk_L _ ).mono ?_
      rintro e w76 ⟨rfl, b77⟩
      have H78 := Hid.mk' (H71.out.below b77)
      clear H71
      have H79 := Hid.mk' (H72.out.below b77)
      clear H72
      have H80 := Hid.mk' (H73.out.below b77)
      clear H73
      have H81 := Hid.mk' (H74.out.below b77)
      clear H74
      have Z82 := Hid.mk' (bel_next Z75.out b77)
      clear Z75
      clear b77
      go_wp2
      go_ret
      exact ⟨rfl, Z82.out⟩
    · by_cases hk1 : 1 < k
      · have e1 : slV A k = [] := sl_no (fun h => by omega)
        go_wp2_with fail
        refine (slI_L k H1.out).mono ?_
        rw [e1]
        rintro e w83 ⟨a84, c85, rfl, b86, r87⟩
        have H88 := Hid.mk' (H1.out.below b86)
        clear H1
        have H89 := Hid.mk' (HB0.out.below b86)
        clear HB0
        have Z90 := Hid.mk' (bel_next Z2.out b86)
        clear Z2
        have H91 : Hid (RL w83 a84 c85 []) := r87
        clear r87
        clear b86
        go_wp2_with fail
        refine (slS_L k H88.out).mono ?_
        rw [e1]
        rintro e w92 ⟨a93, c94, rfl, b95, r96⟩
        have H97 := Hid.mk' (H88.out.below b95)
        clear H88
        have H98 := Hid.mk' (H89.out.below b95)
        clear H89
        have H99 := Hid.mk' (H91.out.below b95)
        clear H91
        have Z100 := Hid.mk' (bel_next Z90.out b95)
        clear Z90
        have H101 : Hid (RL w92 a93 c94 []) := r96
        clear r96
        clear b95
        go_wp2_with fail
        refine (he_L H99.out H101.out).mono ?_
        rw [sq_same]
        rintro e w102 ⟨rfl, b103⟩
        have H104 := Hid.mk' (H97.out.below b103)
        clear H97
        have H105 := Hid.mk' (H98.out.below b103)
        clear H98
        have H106 := Hid.mk' (H99.out.below b103)
        clear H99
        have H107 := Hid.mk' (H101.out.below b103)
        clear H101
        have Z108 := Hid.mk' (bel_next Z100.out b103)
        clear Z100
        clear b103
        go_wp2_with fail
        refine (freeS_L H104.out).mono ?_
        rw [fA]
        rintro e w109 ⟨rfl, b110⟩
        have H111 := Hid.mk' (H104.out.below b110)
        clear H104
        have H112 := Hid.mk' (H105.out.below b110)
        clear H105
        have H113 := Hid.mk' (H106.out.below b110)
        clear H106
        have H114 := Hid.mk' (H107.out.below b110)
        clear H107
        have Z115 := Hid.mk' (bel_next Z108.out b110)
        clear Z108
        clear b110
        go_wp2_with fail
        refine (heOk_L _ ).mono ?_
        rintro e w116 ⟨rfl, b117⟩
        have H118 := Hid.mk' (H111.out.below b117)
        clear H111
        have H119 := Hid.mk' (H112.out.below b117)
        clear H112
        have H120 := Hid.mk' (H113.out.below b117)
        clear H113
        have H121 := Hid.mk' (H114.out.below b117)
        clear H114
        have Z122 := Hid.mk' (bel_next Z115.out b117)
        clear Z115
        clear b117
        go_wp2
        go_ret
        exact ⟨rfl, Z122.out⟩
      · rcases (show k = 0 ∨ k = 1 by omega) with hkk | hkk
        · subst hkk
          go_wp2_with fail
          refine (slI_L 0 H1.out).mono ?_
          rintro e w123 ⟨a124, c125, rfl, b126, r127⟩
          have H128 := Hid.mk' (H1.out.below b126)
          clear H1
          have H129 := Hid.mk' (HB0.out.below b126)
          clear HB0
          have Z130 := Hid.mk' (bel_next Z2.out b126)
          clear Z2
          have H131 : Hid (RL w123 a124 c125 (slV A 0)) := r127
          clear r127
          clear b126
          go_wp2_with fail
          refine (slS_L 0 H128.out).mono ?_
          rintro e w132 ⟨a133, c134, rfl, b135, r136⟩
          have H137 := Hid.mk' (H128.out.below b135)
          clear H128
          have H138 := Hid.mk' (H129.out.below b135)
          clear H129
          have H139 := Hid.mk' (H131.out.below b135)
          clear H131
          have Z140 := Hid.mk' (bel_next Z130.out b135)
          clear Z130
          have H141 : Hid (RL w132 a133 c134 (slV A 0)) := r136
          clear r136
          clear b135
          go_wp2_with fail
          refine (he_L H139.out H141.out).mono ?_
          rw [sq_same]
          rintro e w142 ⟨rfl, b143⟩
          have H144 := Hid.mk' (H137.out.below b143)
          clear H137
          have H145 := Hid.mk' (H138.out.below b143)
          clear H138
          have H146 := Hid.mk' (H139.out.below b143)
          clear H139
          have H147 := Hid.mk' (H141.out.below b143)
          clear H141
          have Z148 := Hid.mk' (bel_next Z140.out b143)
          clear Z140
          clear b143
          go_wp2_with fail
          refine (freeS_L H144.out).mono ?_
          rw [fA]
          rintro e w149 ⟨rfl, b150⟩
          have H151 := Hid.mk' (H144.out.below b150)
          clear H144
          have H152 := Hid.mk' (H145.out.below b150)
          clear H145
          have H153 := Hid.mk' (H146.out.below b150)
          clear H146
          have H154 := Hid.mk' (H147.out.below b150)
          clear H147
          have Z155 := Hid.mk' (bel_next Z148.out b150)
          clear Z148
          clear b150
          have P1 := Hid.mk' (sl_do fA (k := 0) ⟨by omega, by omega⟩)
          have P2 := Hid.mk' (sl_twice fA)
          go_wp2_with fail
          have hbx := bel_one w149 (.cells #[.int .i64 0, .int .i64 0, .int .i64 1, .int .i64 0] 34)
          have H156 := Hid.mk' (H151.out.below hbx)
          clear H151
          have H157 := Hid.mk' (H152.out.below hbx)
          clear H152
          have H158 := Hid.mk' (H153.out.below hbx)
          clear H153
          have H159 := Hid.mk' (H154.out.below hbx)
          clear H154
          have Z160 := Hid.mk' (bel_next Z155.out hbx)
          clear Z155
          clear hbx
          generalize (w149.alloc (.cells #[.int .i64 0, .int .i64 0, .int .i64 1, .int .i64 0] 34)) = wb at H156 H157 H158 H159 Z160 ⊢
          refine (ofI_L 1 0 0 1 0 _).mono ?_
          rw [show polOf 1 ⟨0, 0, 1, 0⟩ = dK 0 from rfl]
          rintro e w161 ⟨a162, c163, rfl, b164, r165⟩
          have H166 := Hid.mk' (H156.out.below b164)
          clear H156
          have H167 := Hid.mk' (H157.out.below b164)
          clear H157
          have H168 := Hid.mk' (H158.out.below b164)
          clear H158
          have H169 := Hid.mk' (H159.out.below b164)
          clear H159
          have Z170 := Hid.mk' (bel_next Z160.out b164)
          clear Z160
          have H171 : Hid (RL w161 a162 c163 (dK 0)) := r165
          clear r165
          clear b164
          go_wp2_with fail
          refine (wdI_L H171.out H166.out).mono ?_
          rw [P1.out]
          rintro e w172 ⟨a173, c174, rfl, b175, r176⟩
          have H177 := Hid.mk' (H166.out.below b175)
          clear H166
          have H178 := Hid.mk' (H167.out.below b175)
          clear H167
          have H179 := Hid.mk' (H168.out.below b175)
          clear H168
          have H180 := Hid.mk' (H169.out.below b175)
          clear H169
          have H181 := Hid.mk' (H171.out.below b175)
          clear H171
          have Z182 := Hid.mk' (bel_next Z170.out b175)
          clear Z170
          have H183 : Hid (RL w172 a173 c174 (slV A 0)) := r176
          clear r176
          clear b175
          go_wp2_with fail
          refine (he_L H179.out H183.out).mono ?_
          rw [sq_same]
          rintro e w184 ⟨rfl, b185⟩
          have H186 := Hid.mk' (H177.out.below b185)
          clear H177
          have H187 := Hid.mk' (H178.out.below b185)
          clear H178
          have H188 := Hid.mk' (H179.out.below b185)
          clear H179
          have H189 := Hid.mk' (H180.out.below b185)
          clear H180
          have H190 := Hid.mk' (H181.out.below b185)
          clear H181
          have H191 := Hid.mk' (H183.out.below b185)
          clear H183
          have Z192 := Hid.mk' (bel_next Z182.out b185)
          clear Z182
          clear b185
          go_wp2_with fail
          refine (slI_L 0 H186.out).mono ?_
          rintro e w193 ⟨a194, c195, rfl, b196, r197⟩
          have H198 := Hid.mk' (H186.out.below b196)
          clear H186
          have H199 := Hid.mk' (H187.out.below b196)
          clear H187
          have H200 := Hid.mk' (H188.out.below b196)
          clear H188
          have H201 := Hid.mk' (H189.out.below b196)
          clear H189
          have H202 := Hid.mk' (H190.out.below b196)
          clear H190
          have H203 := Hid.mk' (H191.out.below b196)
          clear H191
          have Z204 := Hid.mk' (bel_next Z192.out b196)
          clear Z192
          have H205 : Hid (RL w193 a194 c195 (slV A 0)) := r197
          clear r197
          clear b196
          go_wp2_with fail
          refine (slI_L 1 H205.out).mono ?_
          rintro e w206 ⟨a207, c208, rfl, b209, r210⟩
          have H211 := Hid.mk' (H198.out.below b209)
          clear H198
          have H212 := Hid.mk' (H199.out.below b209)
          clear H199
          have H213 := Hid.mk' (H200.out.below b209)
          clear H200
          have H214 := Hid.mk' (H201.out.below b209)
          clear H201
          have H215 := Hid.mk' (H202.out.below b209)
          clear H202
          have H216 := Hid.mk' (H203.out.below b209)
          clear H203
          have H217 := Hid.mk' (H205.out.below b209)
          clear H205
          have Z218 := Hid.mk' (bel_next Z204.out b209)
          clear Z204
          have H219 : Hid (RL w206 a207 c208 (slV (slV A 0) 1)) := r210
          clear r210
          clear b209
          go_wp2_with fail
          refine (slI_L 1 H211.out).mono ?_
          rintro e w220 ⟨a221, c222, rfl, b223, r224⟩
          have H225 := Hid.mk' (H211.out.below b223)
          clear H211
          have H226 := Hid.mk' (H212.out.below b223)
          clear H212
          have H227 := Hid.mk' (H213.out.below b223)
          clear H213
          have H228 := Hid.mk' (H214.out.below b223)
          clear H214
          have H229 := Hid.mk' (H215.out.below b223)
          clear H215
          have H230 := Hid.mk' (H216.out.below b223)
          clear H216
          have H231 := Hid.mk' (H217.out.below b223)
          clear H217
          have H232 := Hid.mk' (H219.out.below b223)
          clear H219
          have Z233 := Hid.mk' (bel_next Z218.out b223)
          clear Z218
          have H234 : Hid (RL w220 a221 c222 (slV A 1)) := r224
          clear r224
          clear b223
          go_wp2_with fail
          refine (slI_L 0 H234.out).mono ?_
          rw [← P2.out]
          rintro e w235 ⟨a236, c237, rfl, b238, r239⟩
          have H240 := Hid.mk' (H225.out.below b238)
          clear H225
          have H241 := Hid.mk' (H226.out.below b238)
          clear H226
          have H242 := Hid.mk' (H227.out.below b238)
          clear H227
          have H243 := Hid.mk' (H228.out.below b238)
          clear H228
          have H244 := Hid.mk' (H229.out.below b238)
          clear H229
          have H245 := Hid.mk' (H230.out.below b238)
          clear H230
          have H246 := Hid.mk' (H231.out.below b238)
          clear H231
          have H247 := Hid.mk' (H232.out.below b238)
          clear H232
          have H248 := Hid.mk' (H234.out.below b238)
          clear H234
          have Z249 := Hid.mk' (bel_next Z233.out b238)
          clear Z233
          have H250 : Hid (RL w235 a236 c237 (slV (slV A 0) 1)) := r239
          clear r239
          clear b238
          go_wp2_with fail
          refine (he_L H247.out H250.out).mono ?_
          rw [sq_same]
          rintro e w251 ⟨rfl, b252⟩
          have H253 := Hid.mk' (H240.out.below b252)
          clear H240
          have H254 := Hid.mk' (H241.out.below b252)
          clear H241
          have H255 := Hid.mk' (H242.out.below b252)
          clear H242
          have H256 := Hid.mk' (H243.out.below b252)
          clear H243
          have H257 := Hid.mk' (H244.out.below b252)
          clear H244
          have H258 := Hid.mk' (H245.out.below b252)
          clear H245
          have H259 := Hid.mk' (H246.out.below b252)
          clear H246
          have H260 := Hid.mk' (H247.out.below b252)
          clear H247
          have H261 := Hid.mk' (H248.out.below b252)
          clear H248
          have H262 := Hid.mk' (H250.out.below b252)
          clear H250
          have Z263 := Hid.mk' (bel_next Z249.out b252)
          clear Z249
          clear b252
          rcases wmV_if A B with h1 | ⟨P, h1⟩
          · go_wp2_with fail
            refine (wmI_L H253.out H254.out).mono ?_
            rw [h1]
            rintro e w264 ⟨a265, c266, rfl, b267, r268⟩
            have H269 := Hid.mk' (H253.out.below b267)
            clear H253
            have H270 := Hid.mk' (H254.out.below b267)
            clear H254
            have H271 := Hid.mk' (H255.out.below b267)
            clear H255
            have H272 := Hid.mk' (H256.out.below b267)
            clear H256
            have H273 := Hid.mk' (H257.out.below b267)
            clear H257
            have H274 := Hid.mk' (H258.out.below b267)
            clear H258
            have H275 := Hid.mk' (H259.out.below b267)
            clear H259
            have H276 := Hid.mk' (H260.out.below b267)
            clear H260
            have H277 := Hid.mk' (H261.out.below b267)
            clear H261
            have H278 := Hid.mk' (H262.out.below b267)
            clear H262
            have Z279 := Hid.mk' (bel_next Z263.out b267)
            clear Z263
            have H280 : Hid (RL w264 a265 c266 []) := r268
            clear r268
            clear b267
            go_wp2_with fail
            refine (heOk_L _ ).mono ?_
            rintro e w281 ⟨rfl, b282⟩
            have H283 := Hid.mk' (H269.out.below b282)
            clear H269
            have H284 := Hid.mk' (H270.out.below b282)
            clear H270
            have H285 := Hid.mk' (H271.out.below b282)
            clear H271
            have H286 := Hid.mk' (H272.out.below b282)
            clear H272
            have H287 := Hid.mk' (H273.out.below b282)
            clear H273
            have H288 := Hid.mk' (H274.out.below b282)
            clear H274
            have H289 := Hid.mk' (H275.out.below b282)
            clear H275
            have H290 := Hid.mk' (H276.out.below b282)
            clear H276
            have H291 := Hid.mk' (H277.out.below b282)
            clear H277
            have H292 := Hid.mk' (H278.out.below b282)
            clear H278
            have H293 := Hid.mk' (H280.out.below b282)
            clear H280
            have Z294 := Hid.mk' (bel_next Z279.out b282)
            clear Z279
            clear b282
            go_wp2
            go_ret
            exact ⟨rfl, Z294.out⟩
          · go_wp2_with fail
            refine (wmI_L H253.out H254.out).mono ?_
            rw [h1]
            rintro e w295 ⟨a296, c297, rfl, b298, r299⟩
            have H300 := Hid.mk' (H253.out.below b298)
            clear H253
            have H301 := Hid.mk' (H254.out.below b298)
            clear H254
            have H302 := Hid.mk' (H255.out.below b298)
            clear H255
            have H303 := Hid.mk' (H256.out.below b298)
            clear H256
            have H304 := Hid.mk' (H257.out.below b298)
            clear H257
            have H305 := Hid.mk' (H258.out.below b298)
            clear H258
            have H306 := Hid.mk' (H259.out.below b298)
            clear H259
            have H307 := Hid.mk' (H260.out.below b298)
            clear H260
            have H308 := Hid.mk' (H261.out.below b298)
            clear H261
            have H309 := Hid.mk' (H262.out.below b298)
            clear H262
            have Z310 := Hid.mk' (bel_next Z263.out b298)
            clear Z263
            have H311 : Hid (RL w295 a296 c297 P) := r299
            clear r299
            clear b298
            cases fB : freeL B
            · go_wp2_with fail
              refine (freeI_L H301.out).mono ?_
              rw [fB]
              rintro e w312 ⟨rfl, b313⟩
              have H314 := Hid.mk' (H300.out.below b313)
              clear H300
              have H315 := Hid.mk' (H301.out.below b313)
              clear H301
              have H316 := Hid.mk' (H302.out.below b313)
              clear H302
              have H317 := Hid.mk' (H303.out.below b313)
              clear H303
              have H318 := Hid.mk' (H304.out.below b313)
              clear H304
              have H319 := Hid.mk' (H305.out.below b313)
              clear H305
              have H320 := Hid.mk' (H306.out.below b313)
              clear H306
              have H321 := Hid.mk' (H307.out.below b313)
              clear H307
              have H322 := Hid.mk' (H308.out.below b313)
              clear H308
              have H323 := Hid.mk' (H309.out.below b313)
              clear H309
              have H324 := Hid.mk' (H311.out.below b313)
              clear H311
              have Z325 := Hid.mk' (bel_next Z310.out b313)
              clear Z310
              clear b313
              go_wp2_with fail
              refine (heOk_L _ ).mono ?_
              rintro e w326 ⟨rfl, b327⟩
              have H328 := Hid.mk' (H314.out.below b327)
              clear H314
              have H329 := Hid.mk' (H315.out.below b327)
              clear H315
              have H330 := Hid.mk' (H316.out.below b327)
              clear H316
              have H331 := Hid.mk' (H317.out.below b327)
              clear H317
              have H332 := Hid.mk' (H318.out.below b327)
              clear H318
              have H333 := Hid.mk' (H319.out.below b327)
              clear H319
              have H334 := Hid.mk' (H320.out.below b327)
              clear H320
              have H335 := Hid.mk' (H321.out.below b327)
              clear H321
              have H336 := Hid.mk' (H322.out.below b327)
              clear H322
              have H337 := Hid.mk' (H323.out.below b327)
              clear H323
              have H338 := Hid.mk' (H324.out.below b327)
              clear H324
              have Z339 := Hid.mk' (bel_next Z325.out b327)
              clear Z325
              clear b327
              go_wp2
              go_ret
              exact ⟨rfl, Z339.out⟩
            · go_wp2_with fail
              refine (freeI_L H301.out).mono ?_
              rw [fB]
              rintro e w340 ⟨rfl, b341⟩
              have H342 := Hid.mk' (H300.out.below b341)
              clear H300
              have H343 := Hid.mk' (H301.out.below b341)
              clear H301
              have H344 := Hid.mk' (H302.out.below b341)
              clear H302
              have H345 := Hid.mk' (H303.out.below b341)
              clear H303
              have H346 := Hid.mk' (H304.out.below b341)
              clear H304
              have H347 := Hid.mk' (H305.out.below b341)
              clear H305
              have H348 := Hid.mk' (H306.out.below b341)
              clear H306
              have H349 := Hid.mk' (H307.out.below b341)
              clear H307
              have H350 := Hid.mk' (H308.out.below b341)
              clear H308
              have H351 := Hid.mk' (H309.out.below b341)
              clear H309
              have H352 := Hid.mk' (H311.out.below b341)
              clear H311
              have Z353 := Hid.mk' (bel_next Z310.out b341)
              clear Z310
              clear b341
              obtain ⟨X1, Y1, f1, f2, f3⟩ := sl_mul fA fB (k := 0) ⟨by omega, by omega⟩ h1 hlA hlB
              go_wp2_with fail
              refine (wmI_L H344.out H343.out).mono ?_
              rw [f1]
              rintro e w354 ⟨a355, c356, rfl, b357, r358⟩
              have H359 := Hid.mk' (H342.out.below b357)
              clear H342
              have H360 := Hid.mk' (H343.out.below b357)
              clear H343
              have H361 := Hid.mk' (H344.out.below b357)
              clear H344
              have H362 := Hid.mk' (H345.out.below b357)
              clear H345
              have H363 := Hid.mk' (H346.out.below b357)
              clear H346
              have H364 := Hid.mk' (H347.out.below b357)
              clear H347
              have H365 := Hid.mk' (H348.out.below b357)
              clear H348
              have H366 := Hid.mk' (H349.out.below b357)
              clear H349
              have H367 := Hid.mk' (H350.out.below b357)
              clear H350
              have H368 := Hid.mk' (H351.out.below b357)
              clear H351
              have H369 := Hid.mk' (H352.out.below b357)
              clear H352
              have Z370 := Hid.mk' (bel_next Z353.out b357)
              clear Z353
              have H371 : Hid (RL w354 a355 c356 X1) := r358
              clear r358
              clear b357
              go_wp2_with fail
              refine (slI_L 0 H360.out).mono ?_
              rintro e w372 ⟨a373, c374, rfl, b375, r376⟩
              have H377 := Hid.mk' (H359.out.below b375)
              clear H359
              have H378 := Hid.mk' (H360.out.below b375)
              clear H360
              have H379 := Hid.mk' (H361.out.below b375)
              clear H361
              have H380 := Hid.mk' (H362.out.below b375)
              clear H362
              have H381 := Hid.mk' (H363.out.below b375)
              clear H363
              have H382 := Hid.mk' (H364.out.below b375)
              clear H364
              have H383 := Hid.mk' (H365.out.below b375)
              clear H365
              have H384 := Hid.mk' (H366.out.below b375)
              clear H366
              have H385 := Hid.mk' (H367.out.below b375)
              clear H367
              have H386 := Hid.mk' (H368.out.below b375)
              clear H368
              have H387 := Hid.mk' (H369.out.below b375)
              clear H369
              have H388 := Hid.mk' (H371.out.below b375)
              clear H371
              have Z389 := Hid.mk' (bel_next Z370.out b375)
              clear Z370
              have H390 : Hid (RL w372 a373 c374 (slV B 0)) := r376
              clear r376
              clear b375
              go_wp2_with fail
              refine (wmI_L H377.out H390.out).mono ?_
              rw [f2]
              rintro e w391 ⟨a392, c393, rfl, b394, r395⟩
              have H396 := Hid.mk' (H377.out.below b394)
              clear H377
              have H397 := Hid.mk' (H378.out.below b394)
              clear H378
              have H398 := Hid.mk' (H379.out.below b394)
              clear H379
              have H399 := Hid.mk' (H380.out.below b394)
              clear H380
              have H400 := Hid.mk' (H381.out.below b394)
              clear H381
              have H401 := Hid.mk' (H382.out.below b394)
              clear H382
              have H402 := Hid.mk' (H383.out.below b394)
              clear H383
              have H403 := Hid.mk' (H384.out.below b394)
              clear H384
              have H404 := Hid.mk' (H385.out.below b394)
              clear H385
              have H405 := Hid.mk' (H386.out.below b394)
              clear H386
              have H406 := Hid.mk' (H387.out.below b394)
              clear H387
              have H407 := Hid.mk' (H388.out.below b394)
              clear H388
              have H408 := Hid.mk' (H390.out.below b394)
              clear H390
              have Z409 := Hid.mk' (bel_next Z389.out b394)
              clear Z389
              have H410 : Hid (RL w391 a392 c393 Y1) := r395
              clear r395
              clear b394
              go_wp2_with fail
              refine (addI_L H407.out H410.out).mono ?_
              rw [f3]
              rintro e w411 ⟨a412, c413, rfl, b414, r415⟩
              have H416 := Hid.mk' (H396.out.below b414)
              clear H396
              have H417 := Hid.mk' (H397.out.below b414)
              clear H397
              have H418 := Hid.mk' (H398.out.below b414)
              clear H398
              have H419 := Hid.mk' (H399.out.below b414)
              clear H399
              have H420 := Hid.mk' (H400.out.below b414)
              clear H400
              have H421 := Hid.mk' (H401.out.below b414)
              clear H401
              have H422 := Hid.mk' (H402.out.below b414)
              clear H402
              have H423 := Hid.mk' (H403.out.below b414)
              clear H403
              have H424 := Hid.mk' (H404.out.below b414)
              clear H404
              have H425 := Hid.mk' (H405.out.below b414)
              clear H405
              have H426 := Hid.mk' (H406.out.below b414)
              clear H406
              have H427 := Hid.mk' (H407.out.below b414)
              clear H407
              have H428 := Hid.mk' (H408.out.below b414)
              clear H408
              have H429 := Hid.mk' (H410.out.below b414)
              clear H410
              have Z430 := Hid.mk' (bel_next Z409.out b414)
              clear Z409
              have H431 : Hid (RL w411 a412 c413 (slV P 0)) := r415
              clear r415
              clear b414
              go_wp2_with fail
              refine (slI_L 0 H426.out).mono ?_
              rintro e w432 ⟨a433, c434, rfl, b435, r436⟩
              have H437 := Hid.mk' (H416.out.below b435)
              clear H416
              have H438 := Hid.mk' (H417.out.below b435)
              clear H417
              have H439 := Hid.mk' (H418.out.below b435)
              clear H418
              have H440 := Hid.mk' (H419.out.below b435)
              clear H419
              have H441 := Hid.mk' (H420.out.below b435)
              clear H420
              have H442 := Hid.mk' (H421.out.below b435)
              clear H421
              have H443 := Hid.mk' (H422.out.below b435)
              clear H422
              have H444 := Hid.mk' (H423.out.below b435)
              clear H423
              have H445 := Hid.mk' (H424.out.below b435)
              clear H424
              have H446 := Hid.mk' (H425.out.below b435)
              clear H425
              have H447 := Hid.mk' (H426.out.below b435)
              clear H426
              have H448 := Hid.mk' (H427.out.below b435)
              clear H427
              have H449 := Hid.mk' (H428.out.below b435)
              clear H428
              have H450 := Hid.mk' (H429.out.below b435)
              clear H429
              have H451 := Hid.mk' (H431.out.below b435)
              clear H431
              have Z452 := Hid.mk' (bel_next Z430.out b435)
              clear Z430
              have H453 : Hid (RL w432 a433 c434 (slV P 0)) := r436
              clear r436
              clear b435
              go_wp2_with fail
              refine (he_L H453.out H451.out).mono ?_
              rw [sq_same]
              rintro e w454 ⟨rfl, b455⟩
              have H456 := Hid.mk' (H437.out.below b455)
              clear H437
              have H457 := Hid.mk' (H438.out.below b455)
              clear H438
              have H458 := Hid.mk' (H439.out.below b455)
              clear H439
              have H459 := Hid.mk' (H440.out.below b455)
              clear H440
              have H460 := Hid.mk' (H441.out.below b455)
              clear H441
              have H461 := Hid.mk' (H442.out.below b455)
              clear H442
              have H462 := Hid.mk' (H443.out.below b455)
              clear H443
              have H463 := Hid.mk' (H444.out.below b455)
              clear H444
              have H464 := Hid.mk' (H445.out.below b455)
              clear H445
              have H465 := Hid.mk' (H446.out.below b455)
              clear H446
              have H466 := Hid.mk' (H447.out.below b455)
              clear H447
              have H467 := Hid.mk' (H448.out.below b455)
              clear H448
              have H468 := Hid.mk' (H449.out.below b455)
              clear H449
              have H469 := Hid.mk' (H450.out.below b455)
              clear H450
              have H470 := Hid.mk' (H451.out.below b455)
              clear H451
              have H471 := Hid.mk' (H453.out.below b455)
              clear H453
              have Z472 := Hid.mk' (bel_next Z452.out b455)
              clear Z452
              clear b455
              go_wp2
              go_ret
              exact ⟨rfl, Z472.out⟩
        · subst hkk
          go_wp2_with fail
          refine (slI_L 1 H1.out).mono ?_
          rintro e w473 ⟨a474, c475, rfl, b476, r477⟩
          have H478 := Hid.mk' (H1.out.below b476)
          clear H1
          have H479 := Hid.mk' (HB0.out.below b476)
          clear HB0
          have Z480 := Hid.mk' (bel_next Z2.out b476)
          clear Z2
          have H481 : Hid (RL w473 a474 c475 (slV A 1)) := r477
          clear r477
          clear b476
          go_wp2_with fail
          refine (slS_L 1 H478.out).mono ?_
          rintro e w482 ⟨a483, c484, rfl, b485, r486⟩
          have H487 := Hid.mk' (H478.out.below b485)
          clear H478
          have H488 := Hid.mk' (H479.out.below b485)
          clear H479
          have H489 := Hid.mk' (H481.out.below b485)
          clear H481
          have Z490 := Hid.mk' (bel_next Z480.out b485)
          clear Z480
          have H491 : Hid (RL w482 a483 c484 (slV A 1)) := r486
          clear r486
          clear b485
          go_wp2_with fail
          refine (he_L H489.out H491.out).mono ?_
          rw [sq_same]
          rintro e w492 ⟨rfl, b493⟩
          have H494 := Hid.mk' (H487.out.below b493)
          clear H487
          have H495 := Hid.mk' (H488.out.below b493)
          clear H488
          have H496 := Hid.mk' (H489.out.below b493)
          clear H489
          have H497 := Hid.mk' (H491.out.below b493)
          clear H491
          have Z498 := Hid.mk' (bel_next Z490.out b493)
          clear Z490
          clear b493
          go_wp2_with fail
          refine (freeS_L H494.out).mono ?_
          rw [fA]
          rintro e w499 ⟨rfl, b500⟩
          have H501 := Hid.mk' (H494.out.below b500)
          clear H494
          have H502 := Hid.mk' (H495.out.below b500)
          clear H495
          have H503 := Hid.mk' (H496.out.below b500)
          clear H496
          have H504 := Hid.mk' (H497.out.below b500)
          clear H497
          have Z505 := Hid.mk' (bel_next Z498.out b500)
          clear Z498
          clear b500
          have P1 := Hid.mk' (sl_do fA (k := 1) ⟨by omega, by omega⟩)
          have P2 := Hid.mk' (sl_twice fA)
          go_wp2_with fail
          have hbx := bel_one w499 (.cells #[.int .i64 0, .int .i64 0, .int .i64 0, .int .i64 1] 34)
          have H506 := Hid.mk' (H501.out.below hbx)
          clear H501
          have H507 := Hid.mk' (H502.out.below hbx)
          clear H502
          have H508 := Hid.mk' (H503.out.below hbx)
          clear H503
          have H509 := Hid.mk' (H504.out.below hbx)
          clear H504
          have Z510 := Hid.mk' (bel_next Z505.out hbx)
          clear Z505
          clear hbx
          generalize (w499.alloc (.cells #[.int .i64 0, .int .i64 0, .int .i64 0, .int .i64 1] 34)) = wb at H506 H507 H508 H509 Z510 ⊢
          refine (ofI_L 1 0 0 0 1 _).mono ?_
          rw [show polOf 1 ⟨0, 0, 0, 1⟩ = dK 1 from rfl]
          rintro e w511 ⟨a512, c513, rfl, b514, r515⟩
          have H516 := Hid.mk' (H506.out.below b514)
          clear H506
          have H517 := Hid.mk' (H507.out.below b514)
          clear H507
          have H518 := Hid.mk' (H508.out.below b514)
          clear H508
          have H519 := Hid.mk' (H509.out.below b514)
          clear H509
          have Z520 := Hid.mk' (bel_next Z510.out b514)
          clear Z510
          have H521 : Hid (RL w511 a512 c513 (dK 1)) := r515
          clear r515
          clear b514
          go_wp2_with fail
          refine (wdI_L H521.out H516.out).mono ?_
          rw [P1.out]
          rintro e w522 ⟨a523, c524, rfl, b525, r526⟩
          have H527 := Hid.mk' (H516.out.below b525)
          clear H516
          have H528 := Hid.mk' (H517.out.below b525)
          clear H517
          have H529 := Hid.mk' (H518.out.below b525)
          clear H518
          have H530 := Hid.mk' (H519.out.below b525)
          clear H519
          have H531 := Hid.mk' (H521.out.below b525)
          clear H521
          have Z532 := Hid.mk' (bel_next Z520.out b525)
          clear Z520
          have H533 : Hid (RL w522 a523 c524 (slV A 1)) := r526
          clear r526
          clear b525
          go_wp2_with fail
          refine (he_L H529.out H533.out).mono ?_
          rw [sq_same]
          rintro e w534 ⟨rfl, b535⟩
          have H536 := Hid.mk' (H527.out.below b535)
          clear H527
          have H537 := Hid.mk' (H528.out.below b535)
          clear H528
          have H538 := Hid.mk' (H529.out.below b535)
          clear H529
          have H539 := Hid.mk' (H530.out.below b535)
          clear H530
          have H540 := Hid.mk' (H531.out.below b535)
          clear H531
          have H541 := Hid.mk' (H533.out.below b535)
          clear H533
          have Z542 := Hid.mk' (bel_next Z532.out b535)
          clear Z532
          clear b535
          go_wp2_with fail
          refine (slI_L 0 H536.out).mono ?_
          rintro e w543 ⟨a544, c545, rfl, b546, r547⟩
          have H548 := Hid.mk' (H536.out.below b546)
          clear H536
          have H549 := Hid.mk' (H537.out.below b546)
          clear H537
          have H550 := Hid.mk' (H538.out.below b546)
          clear H538
          have H551 := Hid.mk' (H539.out.below b546)
          clear H539
          have H552 := Hid.mk' (H540.out.below b546)
          clear H540
          have H553 := Hid.mk' (H541.out.below b546)
          clear H541
          have Z554 := Hid.mk' (bel_next Z542.out b546)
          clear Z542
          have H555 : Hid (RL w543 a544 c545 (slV A 0)) := r547
          clear r547
          clear b546
          go_wp2_with fail
          refine (slI_L 1 H555.out).mono ?_
          rintro e w556 ⟨a557, c558, rfl, b559, r560⟩
          have H561 := Hid.mk' (H548.out.below b559)
          clear H548
          have H562 := Hid.mk' (H549.out.below b559)
          clear H549
          have H563 := Hid.mk' (H550.out.below b559)
          clear H550
          have H564 := Hid.mk' (H551.out.below b559)
          clear H551
          have H565 := Hid.mk' (H552.out.below b559)
          clear H552
          have H566 := Hid.mk' (H553.out.below b559)
          clear H553
          have H567 := Hid.mk' (H555.out.below b559)
          clear H555
          have Z568 := Hid.mk' (bel_next Z554.out b559)
          clear Z554
          have H569 : Hid (RL w556 a557 c558 (slV (slV A 0) 1)) := r560
          clear r560
          clear b559
          go_wp2_with fail
          refine (slI_L 1 H561.out).mono ?_
          rintro e w570 ⟨a571, c572, rfl, b573, r574⟩
          have H575 := Hid.mk' (H561.out.below b573)
          clear H561
          have H576 := Hid.mk' (H562.out.below b573)
          clear H562
          have H577 := Hid.mk' (H563.out.below b573)
          clear H563
          have H578 := Hid.mk' (H564.out.below b573)
          clear H564
          have H579 := Hid.mk' (H565.out.below b573)
          clear H565
          have H580 := Hid.mk' (H566.out.below b573)
          clear H566
          have H581 := Hid.mk' (H567.out.below b573)
          clear H567
          have H582 := Hid.mk' (H569.out.below b573)
          clear H569
          have Z583 := Hid.mk' (bel_next Z568.out b573)
          clear Z568
          have H584 : Hid (RL w570 a571 c572 (slV A 1)) := r574
          clear r574
          clear b573
          go_wp2_with fail
          refine (slI_L 0 H584.out).mono ?_
          rw [← P2.out]
          rintro e w585 ⟨a586, c587, rfl, b588, r589⟩
          have H590 := Hid.mk' (H575.out.below b588)
          clear H575
          have H591 := Hid.mk' (H576.out.below b588)
          clear H576
          have H592 := Hid.mk' (H577.out.below b588)
          clear H577
          have H593 := Hid.mk' (H578.out.below b588)
          clear H578
          have H594 := Hid.mk' (H579.out.below b588)
          clear H579
          have H595 := Hid.mk' (H580.out.below b588)
          clear H580
          have H596 := Hid.mk' (H581.out.below b588)
          clear H581
          have H597 := Hid.mk' (H582.out.below b588)
          clear H582
          have H598 := Hid.mk' (H584.out.below b588)
          clear H584
          have Z599 := Hid.mk' (bel_next Z583.out b588)
          clear Z583
          have H600 : Hid (RL w585 a586 c587 (slV (slV A 0) 1)) := r589
          clear r589
          clear b588
          go_wp2_with fail
          refine (he_L H597.out H600.out).mono ?_
          rw [sq_same]
          rintro e w601 ⟨rfl, b602⟩
          have H603 := Hid.mk' (H590.out.below b602)
          clear H590
          have H604 := Hid.mk' (H591.out.below b602)
          clear H591
          have H605 := Hid.mk' (H592.out.below b602)
          clear H592
          have H606 := Hid.mk' (H593.out.below b602)
          clear H593
          have H607 := Hid.mk' (H594.out.below b602)
          clear H594
          have H608 := Hid.mk' (H595.out.below b602)
          clear H595
          have H609 := Hid.mk' (H596.out.below b602)
          clear H596
          have H610 := Hid.mk' (H597.out.below b602)
          clear H597
          have H611 := Hid.mk' (H598.out.below b602)
          clear H598
          have H612 := Hid.mk' (H600.out.below b602)
          clear H600
          have Z613 := Hid.mk' (bel_next Z599.out b602)
          clear Z599
          clear b602
          rcases wmV_if A B with h1 | ⟨P, h1⟩
          · go_wp2_with fail
            refine (wmI_L H603.out H604.out).mono ?_
            rw [h1]
            rintro e w614 ⟨a615, c616, rfl, b617, r618⟩
            have H619 := Hid.mk' (H603.out.below b617)
            clear H603
            have H620 := Hid.mk' (H604.out.below b617)
            clear H604
            have H621 := Hid.mk' (H605.out.below b617)
            clear H605
            have H622 := Hid.mk' (H606.out.below b617)
            clear H606
            have H623 := Hid.mk' (H607.out.below b617)
            clear H607
            have H624 := Hid.mk' (H608.out.below b617)
            clear H608
            have H625 := Hid.mk' (H609.out.below b617)
            clear H609
            have H626 := Hid.mk' (H610.out.below b617)
            clear H610
            have H627 := Hid.mk' (H611.out.below b617)
            clear H611
            have H628 := Hid.mk' (H612.out.below b617)
            clear H612
            have Z629 := Hid.mk' (bel_next Z613.out b617)
            clear Z613
            have H630 : Hid (RL w614 a615 c616 []) := r618
            clear r618
            clear b617
            go_wp2_with fail
            refine (heOk_L _ ).mono ?_
            rintro e w631 ⟨rfl, b632⟩
            have H633 := Hid.mk' (H619.out.below b632)
            clear H619
            have H634 := Hid.mk' (H620.out.below b632)
            clear H620
            have H635 := Hid.mk' (H621.out.below b632)
            clear H621
            have H636 := Hid.mk' (H622.out.below b632)
            clear H622
            have H637 := Hid.mk' (H623.out.below b632)
            clear H623
            have H638 := Hid.mk' (H624.out.below b632)
            clear H624
            have H639 := Hid.mk' (H625.out.below b632)
            clear H625
            have H640 := Hid.mk' (H626.out.below b632)
            clear H626
            have H641 := Hid.mk' (H627.out.below b632)
            clear H627
            have H642 := Hid.mk' (H628.out.below b632)
            clear H628
            have H643 := Hid.mk' (H630.out.below b632)
            clear H630
            have Z644 := Hid.mk' (bel_next Z629.out b632)
            clear Z629
            clear b632
            go_wp2
            go_ret
            exact ⟨rfl, Z644.out⟩
          · go_wp2_with fail
            refine (wmI_L H603.out H604.out).mono ?_
            rw [h1]
            rintro e w645 ⟨a646, c647, rfl, b648, r649⟩
            have H650 := Hid.mk' (H603.out.below b648)
            clear H603
            have H651 := Hid.mk' (H604.out.below b648)
            clear H604
            have H652 := Hid.mk' (H605.out.below b648)
            clear H605
            have H653 := Hid.mk' (H606.out.below b648)
            clear H606
            have H654 := Hid.mk' (H607.out.below b648)
            clear H607
            have H655 := Hid.mk' (H608.out.below b648)
            clear H608
            have H656 := Hid.mk' (H609.out.below b648)
            clear H609
            have H657 := Hid.mk' (H610.out.below b648)
            clear H610
            have H658 := Hid.mk' (H611.out.below b648)
            clear H611
            have H659 := Hid.mk' (H612.out.below b648)
            clear H612
            have Z660 := Hid.mk' (bel_next Z613.out b648)
            clear Z613
            have H661 : Hid (RL w645 a646 c647 P) := r649
            clear r649
            clear b648
            cases fB : freeL B
            · go_wp2_with fail
              refine (freeI_L H651.out).mono ?_
              rw [fB]
              rintro e w662 ⟨rfl, b663⟩
              have H664 := Hid.mk' (H650.out.below b663)
              clear H650
              have H665 := Hid.mk' (H651.out.below b663)
              clear H651
              have H666 := Hid.mk' (H652.out.below b663)
              clear H652
              have H667 := Hid.mk' (H653.out.below b663)
              clear H653
              have H668 := Hid.mk' (H654.out.below b663)
              clear H654
              have H669 := Hid.mk' (H655.out.below b663)
              clear H655
              have H670 := Hid.mk' (H656.out.below b663)
              clear H656
              have H671 := Hid.mk' (H657.out.below b663)
              clear H657
              have H672 := Hid.mk' (H658.out.below b663)
              clear H658
              have H673 := Hid.mk' (H659.out.below b663)
              clear H659
              have H674 := Hid.mk' (H661.out.below b663)
              clear H661
              have Z675 := Hid.mk' (bel_next Z660.out b663)
              clear Z660
              clear b663
              go_wp2_with fail
              refine (heOk_L _ ).mono ?_
              rintro e w676 ⟨rfl, b677⟩
              have H678 := Hid.mk' (H664.out.below b677)
              clear H664
              have H679 := Hid.mk' (H665.out.below b677)
              clear H665
              have H680 := Hid.mk' (H666.out.below b677)
              clear H666
              have H681 := Hid.mk' (H667.out.below b677)
              clear H667
              have H682 := Hid.mk' (H668.out.below b677)
              clear H668
              have H683 := Hid.mk' (H669.out.below b677)
              clear H669
              have H684 := Hid.mk' (H670.out.below b677)
              clear H670
              have H685 := Hid.mk' (H671.out.below b677)
              clear H671
              have H686 := Hid.mk' (H672.out.below b677)
              clear H672
              have H687 := Hid.mk' (H673.out.below b677)
              clear H673
              have H688 := Hid.mk' (H674.out.below b677)
              clear H674
              have Z689 := Hid.mk' (bel_next Z675.out b677)
              clear Z675
              clear b677
              go_wp2
              go_ret
              exact ⟨rfl, Z689.out⟩
            · go_wp2_with fail
              refine (freeI_L H651.out).mono ?_
              rw [fB]
              rintro e w690 ⟨rfl, b691⟩
              have H692 := Hid.mk' (H650.out.below b691)
              clear H650
              have H693 := Hid.mk' (H651.out.below b691)
              clear H651
              have H694 := Hid.mk' (H652.out.below b691)
              clear H652
              have H695 := Hid.mk' (H653.out.below b691)
              clear H653
              have H696 := Hid.mk' (H654.out.below b691)
              clear H654
              have H697 := Hid.mk' (H655.out.below b691)
              clear H655
              have H698 := Hid.mk' (H656.out.below b691)
              clear H656
              have H699 := Hid.mk' (H657.out.below b691)
              clear H657
              have H700 := Hid.mk' (H658.out.below b691)
              clear H658
              have H701 := Hid.mk' (H659.out.below b691)
              clear H659
              have H702 := Hid.mk' (H661.out.below b691)
              clear H661
              have Z703 := Hid.mk' (bel_next Z660.out b691)
              clear Z660
              clear b691
              obtain ⟨X1, Y1, f1, f2, f3⟩ := sl_mul fA fB (k := 1) ⟨by omega, by omega⟩ h1 hlA hlB
              go_wp2_with fail
              refine (wmI_L H694.out H693.out).mono ?_
              rw [f1]
              rintro e w704 ⟨a705, c706, rfl, b707, r708⟩
              have H709 := Hid.mk' (H692.out.below b707)
              clear H692
              have H710 := Hid.mk' (H693.out.below b707)
              clear H693
              have H711 := Hid.mk' (H694.out.below b707)
              clear H694
              have H712 := Hid.mk' (H695.out.below b707)
              clear H695
              have H713 := Hid.mk' (H696.out.below b707)
              clear H696
              have H714 := Hid.mk' (H697.out.below b707)
              clear H697
              have H715 := Hid.mk' (H698.out.below b707)
              clear H698
              have H716 := Hid.mk' (H699.out.below b707)
              clear H699
              have H717 := Hid.mk' (H700.out.below b707)
              clear H700
              have H718 := Hid.mk' (H701.out.below b707)
              clear H701
              have H719 := Hid.mk' (H702.out.below b707)
              clear H702
              have Z720 := Hid.mk' (bel_next Z703.out b707)
              clear Z703
              have H721 : Hid (RL w704 a705 c706 X1) := r708
              clear r708
              clear b707
              go_wp2_with fail
              refine (slI_L 1 H710.out).mono ?_
              rintro e w722 ⟨a723, c724, rfl, b725, r726⟩
              have H727 := Hid.mk' (H709.out.below b725)
              clear H709
              have H728 := Hid.mk' (H710.out.below b725)
              clear H710
              have H729 := Hid.mk' (H711.out.below b725)
              clear H711
              have H730 := Hid.mk' (H712.out.below b725)
              clear H712
              have H731 := Hid.mk' (H713.out.below b725)
              clear H713
              have H732 := Hid.mk' (H714.out.below b725)
              clear H714
              have H733 := Hid.mk' (H715.out.below b725)
              clear H715
              have H734 := Hid.mk' (H716.out.below b725)
              clear H716
              have H735 := Hid.mk' (H717.out.below b725)
              clear H717
              have H736 := Hid.mk' (H718.out.below b725)
              clear H718
              have H737 := Hid.mk' (H719.out.below b725)
              clear H719
              have H738 := Hid.mk' (H721.out.below b725)
              clear H721
              have Z739 := Hid.mk' (bel_next Z720.out b725)
              clear Z720
              have H740 : Hid (RL w722 a723 c724 (slV B 1)) := r726
              clear r726
              clear b725
              go_wp2_with fail
              refine (wmI_L H727.out H740.out).mono ?_
              rw [f2]
              rintro e w741 ⟨a742, c743, rfl, b744, r745⟩
              have H746 := Hid.mk' (H727.out.below b744)
              clear H727
              have H747 := Hid.mk' (H728.out.below b744)
              clear H728
              have H748 := Hid.mk' (H729.out.below b744)
              clear H729
              have H749 := Hid.mk' (H730.out.below b744)
              clear H730
              have H750 := Hid.mk' (H731.out.below b744)
              clear H731
              have H751 := Hid.mk' (H732.out.below b744)
              clear H732
              have H752 := Hid.mk' (H733.out.below b744)
              clear H733
              have H753 := Hid.mk' (H734.out.below b744)
              clear H734
              have H754 := Hid.mk' (H735.out.below b744)
              clear H735
              have H755 := Hid.mk' (H736.out.below b744)
              clear H736
              have H756 := Hid.mk' (H737.out.below b744)
              clear H737
              have H757 := Hid.mk' (H738.out.below b744)
              clear H738
              have H758 := Hid.mk' (H740.out.below b744)
              clear H740
              have Z759 := Hid.mk' (bel_next Z739.out b744)
              clear Z739
              have H760 : Hid (RL w741 a742 c743 Y1) := r745
              clear r745
              clear b744
              go_wp2_with fail
              refine (addI_L H757.out H760.out).mono ?_
              rw [f3]
              rintro e w761 ⟨a762, c763, rfl, b764, r765⟩
              have H766 := Hid.mk' (H746.out.below b764)
              clear H746
              have H767 := Hid.mk' (H747.out.below b764)
              clear H747
              have H768 := Hid.mk' (H748.out.below b764)
              clear H748
              have H769 := Hid.mk' (H749.out.below b764)
              clear H749
              have H770 := Hid.mk' (H750.out.below b764)
              clear H750
              have H771 := Hid.mk' (H751.out.below b764)
              clear H751
              have H772 := Hid.mk' (H752.out.below b764)
              clear H752
              have H773 := Hid.mk' (H753.out.below b764)
              clear H753
              have H774 := Hid.mk' (H754.out.below b764)
              clear H754
              have H775 := Hid.mk' (H755.out.below b764)
              clear H755
              have H776 := Hid.mk' (H756.out.below b764)
              clear H756
              have H777 := Hid.mk' (H757.out.below b764)
              clear H757
              have H778 := Hid.mk' (H758.out.below b764)
              clear H758
              have H779 := Hid.mk' (H760.out.below b764)
              clear H760
              have Z780 := Hid.mk' (bel_next Z759.out b764)
              clear Z759
              have H781 : Hid (RL w761 a762 c763 (slV P 1)) := r765
              clear r765
              clear b764
              go_wp2_with fail
              refine (slI_L 1 H776.out).mono ?_
              rintro e w782 ⟨a783, c784, rfl, b785, r786⟩
              have H787 := Hid.mk' (H766.out.below b785)
              clear H766
              have H788 := Hid.mk' (H767.out.below b785)
              clear H767
              have H789 := Hid.mk' (H768.out.below b785)
              clear H768
              have H790 := Hid.mk' (H769.out.below b785)
              clear H769
              have H791 := Hid.mk' (H770.out.below b785)
              clear H770
              have H792 := Hid.mk' (H771.out.below b785)
              clear H771
              have H793 := Hid.mk' (H772.out.below b785)
              clear H772
              have H794 := Hid.mk' (H773.out.below b785)
              clear H773
              have H795 := Hid.mk' (H774.out.below b785)
              clear H774
              have H796 := Hid.mk' (H775.out.below b785)
              clear H775
              have H797 := Hid.mk' (H776.out.below b785)
              clear H776
              have H798 := Hid.mk' (H777.out.below b785)
              clear H777
              have H799 := Hid.mk' (H778.out.below b785)
              clear H778
              have H800 := Hid.mk' (H779.out.below b785)
              clear H779
              have H801 := Hid.mk' (H781.out.below b785)
              clear H781
              have Z802 := Hid.mk' (bel_next Z780.out b785)
              clear Z780
              have H803 : Hid (RL w782 a783 c784 (slV P 1)) := r786
              clear r786
              clear b785
              go_wp2_with fail
              refine (he_L H803.out H801.out).mono ?_
              rw [sq_same]
              rintro e w804 ⟨rfl, b805⟩
              have H806 := Hid.mk' (H787.out.below b805)
              clear H787
              have H807 := Hid.mk' (H788.out.below b805)
              clear H788
              have H808 := Hid.mk' (H789.out.below b805)
              clear H789
              have H809 := Hid.mk' (H790.out.below b805)
              clear H790
              have H810 := Hid.mk' (H791.out.below b805)
              clear H791
              have H811 := Hid.mk' (H792.out.below b805)
              clear H792
              have H812 := Hid.mk' (H793.out.below b805)
              clear H793
              have H813 := Hid.mk' (H794.out.below b805)
              clear H794
              have H814 := Hid.mk' (H795.out.below b805)
              clear H795
              have H815 := Hid.mk' (H796.out.below b805)
              clear H796
              have H816 := Hid.mk' (H797.out.below b805)
              clear H797
              have H817 := Hid.mk' (H798.out.below b805)
              clear H798
              have H818 := Hid.mk' (H799.out.below b805)
              clear H799
              have H819 := Hid.mk' (H800.out.below b805)
              clear H800
              have H820 := Hid.mk' (H801.out.below b805)
              clear H801
              have H821 := Hid.mk' (H803.out.below b805)
              clear H803
              have Z822 := Hid.mk' (bel_next Z802.out b805)
              clear Z802
              clear b805
              go_wp2
              go_ret
              exact ⟨rfl, Z822.out⟩
end Go.Proofs.Ytnfimnfaejjagaa
