/-
  The walk of FnShiftDo: whatever the code, it comes out true, and nothing that was there is turned.
-/
import Derived.Test.YtlndccbgbclnhaaRepU
import Derived.Test.YtlndccbgbclnhaaGbc
namespace Go.Proofs.Ytlndccbgbclnhaa
open Go.RowKit
set_option linter.unusedVariables false
set_option maxRecDepth 100000 in
set_option maxHeartbeats 8000000 in
theorem walk_FnShiftDo (w : World) (a0 : Option Addr) (len0 cap0 : Nat) (s0 : Src w a0 len0 cap0) (a1 : Option Addr) (len1 cap1 : Nat) (s1 : Src w a1 len1 cap1) :
    Calls Try.prog 4 #[.slice a0 len0 cap0, .slice a1 len1 cap1] w fun e w' => e = .returned (.bool true) ∧ Below w.heap.size w w' := by
  by_cases c0 : (1048576 : Int) < (len0 : Int)
  · go_enter Try.func4, Try.ntmps4
    go_wp2
    go_ret
    exact ⟨rfl, Below.refl _ _⟩
  by_cases c1 : (1048576 : Int) < (len1 : Int)
  · go_enter Try.func4, Try.ntmps4
    go_wp2
    go_ret
    exact ⟨rfl, Below.refl _ _⟩
  go_enter Try.func4, Try.ntmps4
  go_wp2_with fail
  refine (drawWylDo w a0 len0 cap0 s0).mono ?_
  rintro e wd ⟨da, dca, A, db, dcb, B, rfl, hA, hB, hlA, hlB, hbd⟩
  have HA0 := Hid.mk' hA
  have HB0 := Hid.mk' hB
  have Z0 := Hid.mk' hbd
  have S1 := Hid.mk' (s1.below hbd)
  clear hA hB hbd s0 s1
  go_wp2_with fail
  refine (drawMapShift wd a1 len1 cap1 S1.out).mono ?_
  rintro e we ⟨dc, dcc, C, n1, n2, rfl, hC, hlC, hbe⟩
  clear hC S1
  have H1 := Hid.mk' (HA0.out.below hbe)
  clear HA0
  have H2 := Hid.mk' (HB0.out.below hbe)
  clear HB0
  have Z3 := Hid.mk' (bel_next Z0.out hbe)
  clear Z0
  clear hbe
  rcases wdV_if A B with h1 | ⟨X, h1⟩
  · go_wp2_with fail
    refine (wdI_L H1.out H2.out).mono ?_
    rw [h1]
    rintro e w4 ⟨a5, c6, rfl, b7, r8⟩
    have H9 := Hid.mk' (H1.out.below b7)
    clear H1
    have H10 := Hid.mk' (H2.out.below b7)
    clear H2
    have Z11 := Hid.mk' (bel_next Z3.out b7)
    clear Z3
    have H12 : Hid (RL w4 a5 c6 []) := r8
    clear r8
    clear b7
    go_wp2_with fail
    refine (wdS_L H9.out H10.out).mono ?_
    rw [h1]
    rintro e w13 ⟨a14, c15, rfl, b16, r17⟩
    have H18 := Hid.mk' (H9.out.below b16)
    clear H9
    have H19 := Hid.mk' (H10.out.below b16)
    clear H10
    have H20 := Hid.mk' (H12.out.below b16)
    clear H12
    have Z21 := Hid.mk' (bel_next Z11.out b16)
    clear Z11
    have H22 : Hid (RL w13 a14 c15 []) := r17
    clear r17
    clear b16
    go_wp2_with fail
    refine (he_L H20.out H22.out).mono ?_
    rw [sq_same]
    rintro e w23 ⟨rfl, b24⟩
    have H25 := Hid.mk' (H18.out.below b24)
    clear H18
    have H26 := Hid.mk' (H19.out.below b24)
    clear H19
    have H27 := Hid.mk' (H20.out.below b24)
    clear H20
    have H28 := Hid.mk' (H22.out.below b24)
    clear H22
    have Z29 := Hid.mk' (bel_next Z21.out b24)
    clear Z21
    clear b24
    rcases shVl_if A n1 n2 with h2 | ⟨Q, h2⟩
    · go_wp2_with fail
      refine (shI_L n1 n2 H25.out).mono ?_
      rw [h2]
      rintro e w30 ⟨a31, c32, rfl, b33, r34⟩
      have H35 := Hid.mk' (H25.out.below b33)
      clear H25
      have H36 := Hid.mk' (H26.out.below b33)
      clear H26
      have H37 := Hid.mk' (H27.out.below b33)
      clear H27
      have H38 := Hid.mk' (H28.out.below b33)
      clear H28
      have Z39 := Hid.mk' (bel_next Z29.out b33)
      clear Z29
      have H40 : Hid (RL w30 a31 c32 []) := r34
      clear r34
      clear b33
      rcases shVl_if B n1 n2 with h3 | ⟨G, h3⟩
      · go_wp2_with fail
        refine (shI_L n1 n2 H36.out).mono ?_
        rw [h3]
        rintro e w41 ⟨a42, c43, rfl, b44, r45⟩
        have H46 := Hid.mk' (H35.out.below b44)
        clear H35
        have H47 := Hid.mk' (H36.out.below b44)
        clear H36
        have H48 := Hid.mk' (H37.out.below b44)
        clear H37
        have H49 := Hid.mk' (H38.out.below b44)
        clear H38
        have H50 := Hid.mk' (H40.out.below b44)
        clear H40
        have Z51 := Hid.mk' (bel_next Z39.out b44)
        clear Z39
        have H52 : Hid (RL w41 a42 c43 []) := r45
        clear r45
        clear b44
        go_wp2_with fail
        refine (heOk_L _ ).mono ?_
        rintro e w53 ⟨rfl, b54⟩
        have H55 := Hid.mk' (H46.out.below b54)
        clear H46
        have H56 := Hid.mk' (H47.out.below b54)
        clear H47
        have H57 := Hid.mk' (H48.out.below b54)
        clear H48
        have H58 := Hid.mk' (H49.out.below b54)
        clear H49
        have H59 := Hid.mk' (H50.out.below b54)
        clear H50
        have H60 := Hid.mk' (H52.out.below b54)
        clear H52
        have Z61 := Hid.mk' (bel_next Z51.out b54)
        clear Z51
        clear b54
        go_wp2
        go_ret
        exact ⟨rfl, Z61.out⟩
      · go_wp2_with fail
        refine (shI_L n1 n2 H36.out).mono ?_
        rw [h3]
        rintro e w62 ⟨a63, c64, rfl, b65, r66⟩
        have H67 := Hid.mk' (H35.out.below b65)
        clear H35
        have H68 := Hid.mk' (H36.out.below b65)
        clear H36
        have H69 := Hid.mk' (H37.out.below b65)
        clear H37
        have H70 := Hid.mk' (H38.out.below b65)
        clear H38
        have H71 := Hid.mk' (H40.out.below b65)
        clear H40
        have Z72 := Hid.mk' (bel_next Z39.out b65)
        clear Z39
        have H73 : Hid (RL w62 a63 c64 G) := r66
        clear r66
        clear b65
        go_wp2_with fail
        refine (heOk_L _ ).mono ?_
        rintro e w74 ⟨rfl, b75⟩
        have H76 := Hid.mk' (H67.out.below b75)
        clear H67
        have H77 := Hid.mk' (H68.out.below b75)
        clear H68
        have H78 := Hid.mk' (H69.out.below b75)
        clear H69
        have H79 := Hid.mk' (H70.out.below b75)
        clear H70
        have H80 := Hid.mk' (H71.out.below b75)
        clear H71
        have H81 := Hid.mk' (H73.out.below b75)
        clear H73
        have Z82 := Hid.mk' (bel_next Z72.out b75)
        clear Z72
        clear b75
        go_wp2
        go_ret
        exact ⟨rfl, Z82.out⟩
    · go_wp2_with fail
      refine (shI_L n1 n2 H25.out).mono ?_
      rw [h2]
      rintro e w83 ⟨a84, c85, rfl, b86, r87⟩
      have H88 := Hid.mk' (H25.out.below b86)
      clear H25
      have H89 := Hid.mk' (H26.out.below b86)
      clear H26
      have H90 := Hid.mk' (H27.out.below b86)
      clear H27
      have H91 := Hid.mk' (H28.out.below b86)
      clear H28
      have Z92 := Hid.mk' (bel_next Z29.out b86)
      clear Z29
      have H93 : Hid (RL w83 a84 c85 Q) := r87
      clear r87
      clear b86
      rcases shVl_if B n1 n2 with h3 | ⟨G, h3⟩
      · go_wp2_with fail
        refine (shI_L n1 n2 H89.out).mono ?_
        rw [h3]
        rintro e w94 ⟨a95, c96, rfl, b97, r98⟩
        have H99 := Hid.mk' (H88.out.below b97)
        clear H88
        have H100 := Hid.mk' (H89.out.below b97)
        clear H89
        have H101 := Hid.mk' (H90.out.below b97)
        clear H90
        have H102 := Hid.mk' (H91.out.below b97)
        clear H91
        have H103 := Hid.mk' (H93.out.below b97)
        clear H93
        have Z104 := Hid.mk' (bel_next Z92.out b97)
        clear Z92
        have H105 : Hid (RL w94 a95 c96 []) := r98
        clear r98
        clear b97
        go_wp2_with fail
        refine (heOk_L _ ).mono ?_
        rintro e w106 ⟨rfl, b107⟩
        have H108 := Hid.mk' (H99.out.below b107)
        clear H99
        have H109 := Hid.mk' (H100.out.below b107)
        clear H100
        have H110 := Hid.mk' (H101.out.below b107)
        clear H101
        have H111 := Hid.mk' (H102.out.below b107)
        clear H102
        have H112 := Hid.mk' (H103.out.below b107)
        clear H103
        have H113 := Hid.mk' (H105.out.below b107)
        clear H105
        have Z114 := Hid.mk' (bel_next Z104.out b107)
        clear Z104
        clear b107
        go_wp2
        go_ret
        exact ⟨rfl, Z114.out⟩
      · go_wp2_with fail
        refine (shI_L n1 n2 H89.out).mono ?_
        rw [h3]
        rintro e w115 ⟨a116, c117, rfl, b118, r119⟩
        have H120 := Hid.mk' (H88.out.below b118)
        clear H88
        have H121 := Hid.mk' (H89.out.below b118)
        clear H89
        have H122 := Hid.mk' (H90.out.below b118)
        clear H90
        have H123 := Hid.mk' (H91.out.below b118)
        clear H91
        have H124 := Hid.mk' (H93.out.below b118)
        clear H93
        have Z125 := Hid.mk' (bel_next Z92.out b118)
        clear Z92
        have H126 : Hid (RL w115 a116 c117 G) := r119
        clear r119
        clear b118
        go_wp2_with fail
        refine (heOk_L _ ).mono ?_
        rintro e w127 ⟨rfl, b128⟩
        have H129 := Hid.mk' (H120.out.below b128)
        clear H120
        have H130 := Hid.mk' (H121.out.below b128)
        clear H121
        have H131 := Hid.mk' (H122.out.below b128)
        clear H122
        have H132 := Hid.mk' (H123.out.below b128)
        clear H123
        have H133 := Hid.mk' (H124.out.below b128)
        clear H124
        have H134 := Hid.mk' (H126.out.below b128)
        clear H126
        have Z135 := Hid.mk' (bel_next Z125.out b128)
        clear Z125
        clear b128
        go_wp2
        go_ret
        exact ⟨rfl, Z135.out⟩
  · go_wp2_with fail
    refine (wdI_L H1.out H2.out).mono ?_
    rw [h1]
    rintro e w136 ⟨a137, c138, rfl, b139, r140⟩
    have H141 := Hid.mk' (H1.out.below b139)
    clear H1
    have H142 := Hid.mk' (H2.out.below b139)
    clear H2
    have Z143 := Hid.mk' (bel_next Z3.out b139)
    clear Z3
    have H144 : Hid (RL w136 a137 c138 X) := r140
    clear r140
    clear b139
    go_wp2_with fail
    refine (wdS_L H141.out H142.out).mono ?_
    rw [h1]
    rintro e w145 ⟨a146, c147, rfl, b148, r149⟩
    have H150 := Hid.mk' (H141.out.below b148)
    clear H141
    have H151 := Hid.mk' (H142.out.below b148)
    clear H142
    have H152 := Hid.mk' (H144.out.below b148)
    clear H144
    have Z153 := Hid.mk' (bel_next Z143.out b148)
    clear Z143
    have H154 : Hid (RL w145 a146 c147 X) := r149
    clear r149
    clear b148
    go_wp2_with fail
    refine (he_L H152.out H154.out).mono ?_
    rw [sq_same]
    rintro e w155 ⟨rfl, b156⟩
    have H157 := Hid.mk' (H150.out.below b156)
    clear H150
    have H158 := Hid.mk' (H151.out.below b156)
    clear H151
    have H159 := Hid.mk' (H152.out.below b156)
    clear H152
    have H160 := Hid.mk' (H154.out.below b156)
    clear H154
    have Z161 := Hid.mk' (bel_next Z153.out b156)
    clear Z153
    clear b156
    rcases shVl_if A n1 n2 with h2 | ⟨Q, h2⟩
    · go_wp2_with fail
      refine (shI_L n1 n2 H157.out).mono ?_
      rw [h2]
      rintro e w162 ⟨a163, c164, rfl, b165, r166⟩
      have H167 := Hid.mk' (H157.out.below b165)
      clear H157
      have H168 := Hid.mk' (H158.out.below b165)
      clear H158
      have H169 := Hid.mk' (H159.out.below b165)
      clear H159
      have H170 := Hid.mk' (H160.out.below b165)
      clear H160
      have Z171 := Hid.mk' (bel_next Z161.out b165)
      clear Z161
      have H172 : Hid (RL w162 a163 c164 []) := r166
      clear r166
      clear b165
      rcases shVl_if B n1 n2 with h3 | ⟨G, h3⟩
      · go_wp2_with fail
        refine (shI_L n1 n2 H168.out).mono ?_
        rw [h3]
        rintro e w173 ⟨a174, c175, rfl, b176, r177⟩
        have H178 := Hid.mk' (H167.out.below b176)
        clear H167
        have H179 := Hid.mk' (H168.out.below b176)
        clear H168
        have H180 := Hid.mk' (H169.out.below b176)
        clear H169
        have H181 := Hid.mk' (H170.out.below b176)
        clear H170
        have H182 := Hid.mk' (H172.out.below b176)
        clear H172
        have Z183 := Hid.mk' (bel_next Z171.out b176)
        clear Z171
        have H184 : Hid (RL w173 a174 c175 []) := r177
        clear r177
        clear b176
        go_wp2_with fail
        refine (heOk_L _ ).mono ?_
        rintro e w185 ⟨rfl, b186⟩
        have H187 := Hid.mk' (H178.out.below b186)
        clear H178
        have H188 := Hid.mk' (H179.out.below b186)
        clear H179
        have H189 := Hid.mk' (H180.out.below b186)
        clear H180
        have H190 := Hid.mk' (H181.out.below b186)
        clear H181
        have H191 := Hid.mk' (H182.out.below b186)
        clear H182
        have H192 := Hid.mk' (H184.out.below b186)
        clear H184
        have Z193 := Hid.mk' (bel_next Z183.out b186)
        clear Z183
        clear b186
        go_wp2
        go_ret
        exact ⟨rfl, Z193.out⟩
      · go_wp2_with fail
        refine (shI_L n1 n2 H168.out).mono ?_
        rw [h3]
        rintro e w194 ⟨a195, c196, rfl, b197, r198⟩
        have H199 := Hid.mk' (H167.out.below b197)
        clear H167
        have H200 := Hid.mk' (H168.out.below b197)
        clear H168
        have H201 := Hid.mk' (H169.out.below b197)
        clear H169
        have H202 := Hid.mk' (H170.out.below b197)
        clear H170
        have H203 := Hid.mk' (H172.out.below b197)
        clear H172
        have Z204 := Hid.mk' (bel_next Z171.out b197)
        clear Z171
        have H205 : Hid (RL w194 a195 c196 G) := r198
        clear r198
        clear b197
        go_wp2_with fail
        refine (heOk_L _ ).mono ?_
        rintro e w206 ⟨rfl, b207⟩
        have H208 := Hid.mk' (H199.out.below b207)
        clear H199
        have H209 := Hid.mk' (H200.out.below b207)
        clear H200
        have H210 := Hid.mk' (H201.out.below b207)
        clear H201
        have H211 := Hid.mk' (H202.out.below b207)
        clear H202
        have H212 := Hid.mk' (H203.out.below b207)
        clear H203
        have H213 := Hid.mk' (H205.out.below b207)
        clear H205
        have Z214 := Hid.mk' (bel_next Z204.out b207)
        clear Z204
        clear b207
        go_wp2
        go_ret
        exact ⟨rfl, Z214.out⟩
    · go_wp2_with fail
      refine (shI_L n1 n2 H157.out).mono ?_
      rw [h2]
      rintro e w215 ⟨a216, c217, rfl, b218, r219⟩
      have H220 := Hid.mk' (H157.out.below b218)
      clear H157
      have H221 := Hid.mk' (H158.out.below b218)
      clear H158
      have H222 := Hid.mk' (H159.out.below b218)
      clear H159
      have H223 := Hid.mk' (H160.out.below b218)
      clear H160
      have Z224 := Hid.mk' (bel_next Z161.out b218)
      clear Z161
      have H225 : Hid (RL w215 a216 c217 Q) := r219
      clear r219
      clear b218
      rcases shVl_if B n1 n2 with h3 | ⟨G, h3⟩
      · go_wp2_with fail
        refine (shI_L n1 n2 H221.out).mono ?_
        rw [h3]
        rintro e w226 ⟨a227, c228, rfl, b229, r230⟩
        have H231 := Hid.mk' (H220.out.below b229)
        clear H220
        have H232 := Hid.mk' (H221.out.below b229)
        clear H221
        have H233 := Hid.mk' (H222.out.below b229)
        clear H222
        have H234 := Hid.mk' (H223.out.below b229)
        clear H223
        have H235 := Hid.mk' (H225.out.below b229)
        clear H225
        have Z236 := Hid.mk' (bel_next Z224.out b229)
        clear Z224
        have H237 : Hid (RL w226 a227 c228 []) := r230
        clear r230
        clear b229
        go_wp2_with fail
        refine (heOk_L _ ).mono ?_
        rintro e w238 ⟨rfl, b239⟩
        have H240 := Hid.mk' (H231.out.below b239)
        clear H231
        have H241 := Hid.mk' (H232.out.below b239)
        clear H232
        have H242 := Hid.mk' (H233.out.below b239)
        clear H233
        have H243 := Hid.mk' (H234.out.below b239)
        clear H234
        have H244 := Hid.mk' (H235.out.below b239)
        clear H235
        have H245 := Hid.mk' (H237.out.below b239)
        clear H237
        have Z246 := Hid.mk' (bel_next Z236.out b239)
        clear Z236
        clear b239
        go_wp2
        go_ret
        exact ⟨rfl, Z246.out⟩
      · go_wp2_with fail
        refine (shI_L n1 n2 H221.out).mono ?_
        rw [h3]
        rintro e w247 ⟨a248, c249, rfl, b250, r251⟩
        have H252 := Hid.mk' (H220.out.below b250)
        clear H220
        have H253 := Hid.mk' (H221.out.below b250)
        clear H221
        have H254 := Hid.mk' (H222.out.below b250)
        clear H222
        have H255 := Hid.mk' (H223.out.below b250)
        clear H223
        have H256 := Hid.mk' (H225.out.below b250)
        clear H225
        have Z257 := Hid.mk' (bel_next Z224.out b250)
        clear Z224
        have H258 : Hid (RL w247 a248 c249 G) := r251
        clear r251
        clear b250
        obtain ⟨m, hm⟩ : ∃ m, (len0 : Int).tmod 101 = m := ⟨_, rfl⟩
        have hm0 : 0 ≤ m ∧ m ≤ 100 := by rw [Int.tmod_eq_emod_of_nonneg (by omega)] at hm; omega
        have P1 := Hid.mk' (sh_at (x := m) (y := 5) (wd_facts h1).2.1 h3 (decide_eq_true hm0) (by decide))
        have hzz : (atV B (fAdd m n1) (fAdd 5 n2) == atV B (fAdd m n1) (fAdd 5 n2)) = true := by simp
        obtain ⟨YY, o3, k3⟩ : ∃ L o, wdV Q G = (L, o) := ⟨_, _, rfl⟩
        go_wp2_with fail
        refine (wdI_L H256.out H258.out).mono ?_
        rw [k3]
        rintro e w259 ⟨a260, c261, rfl, b262, r263⟩
        have H264 := Hid.mk' (H252.out.below b262)
        clear H252
        have H265 := Hid.mk' (H253.out.below b262)
        clear H253
        have H266 := Hid.mk' (H254.out.below b262)
        clear H254
        have H267 := Hid.mk' (H255.out.below b262)
        clear H255
        have H268 := Hid.mk' (H256.out.below b262)
        clear H256
        have H269 := Hid.mk' (H258.out.below b262)
        clear H258
        have Z270 := Hid.mk' (bel_next Z257.out b262)
        clear Z257
        have H271 : Hid (RL w259 a260 c261 YY) := r263
        clear r263
        clear b262
        obtain ⟨ZZ, o4, k4⟩ : ∃ L o, shVl X n1 n2 = (L, o) := ⟨_, _, rfl⟩
        go_wp2_with fail
        refine (shI_L n1 n2 H266.out).mono ?_
        rw [k4]
        rintro e w272 ⟨a273, c274, rfl, b275, r276⟩
        have H277 := Hid.mk' (H264.out.below b275)
        clear H264
        have H278 := Hid.mk' (H265.out.below b275)
        clear H265
        have H279 := Hid.mk' (H266.out.below b275)
        clear H266
        have H280 := Hid.mk' (H267.out.below b275)
        clear H267
        have H281 := Hid.mk' (H268.out.below b275)
        clear H268
        have H282 := Hid.mk' (H269.out.below b275)
        clear H269
        have H283 := Hid.mk' (H271.out.below b275)
        clear H271
        have Z284 := Hid.mk' (bel_next Z270.out b275)
        clear Z270
        have H285 : Hid (RL w272 a273 c274 ZZ) := r276
        clear r276
        clear b275
        cases o3
        · go_wp2_with fail
          refine (atI_L m 5 H282.out).mono ?_
          rw [P1.out]
          rintro e w286 ⟨rfl, b287⟩
          have H288 := Hid.mk' (H277.out.below b287)
          clear H277
          have H289 := Hid.mk' (H278.out.below b287)
          clear H278
          have H290 := Hid.mk' (H279.out.below b287)
          clear H279
          have H291 := Hid.mk' (H280.out.below b287)
          clear H280
          have H292 := Hid.mk' (H281.out.below b287)
          clear H281
          have H293 := Hid.mk' (H282.out.below b287)
          clear H282
          have H294 := Hid.mk' (H283.out.below b287)
          clear H283
          have H295 := Hid.mk' (H285.out.below b287)
          clear H285
          have Z296 := Hid.mk' (bel_next Z284.out b287)
          clear Z284
          clear b287
          go_wp2_with fail
          refine (addI m n1 _).mono ?_
          rintro e w' ⟨rfl, hw'⟩
          obtain rfl := hw'.symm
          clear hw'
          go_wp2_with fail
          refine (addI 5 n2 _).mono ?_
          rintro e w' ⟨rfl, hw'⟩
          obtain rfl := hw'.symm
          clear hw'
          go_wp2_with fail
          refine (atI_L _ _ H289.out).mono ?_
          rintro e w297 ⟨rfl, b298⟩
          have H299 := Hid.mk' (H288.out.below b298)
          clear H288
          have H300 := Hid.mk' (H289.out.below b298)
          clear H289
          have H301 := Hid.mk' (H290.out.below b298)
          clear H290
          have H302 := Hid.mk' (H291.out.below b298)
          clear H291
          have H303 := Hid.mk' (H292.out.below b298)
          clear H292
          have H304 := Hid.mk' (H293.out.below b298)
          clear H293
          have H305 := Hid.mk' (H294.out.below b298)
          clear H294
          have H306 := Hid.mk' (H295.out.below b298)
          clear H295
          have Z307 := Hid.mk' (bel_next Z296.out b298)
          clear Z296
          clear b298
          go_wp2_with fail
          refine (heOk_L _ ).mono ?_
          rintro e w308 ⟨rfl, b309⟩
          have H310 := Hid.mk' (H299.out.below b309)
          clear H299
          have H311 := Hid.mk' (H300.out.below b309)
          clear H300
          have H312 := Hid.mk' (H301.out.below b309)
          clear H301
          have H313 := Hid.mk' (H302.out.below b309)
          clear H302
          have H314 := Hid.mk' (H303.out.below b309)
          clear H303
          have H315 := Hid.mk' (H304.out.below b309)
          clear H304
          have H316 := Hid.mk' (H305.out.below b309)
          clear H305
          have H317 := Hid.mk' (H306.out.below b309)
          clear H306
          have Z318 := Hid.mk' (bel_next Z307.out b309)
          clear Z307
          clear b309
          go_wp2
          go_ret
          exact ⟨rfl, Z318.out⟩
        · cases o4
          · go_wp2_with fail
            refine (atI_L m 5 H282.out).mono ?_
            rw [P1.out]
            rintro e w319 ⟨rfl, b320⟩
            have H321 := Hid.mk' (H277.out.below b320)
            clear H277
            have H322 := Hid.mk' (H278.out.below b320)
            clear H278
            have H323 := Hid.mk' (H279.out.below b320)
            clear H279
            have H324 := Hid.mk' (H280.out.below b320)
            clear H280
            have H325 := Hid.mk' (H281.out.below b320)
            clear H281
            have H326 := Hid.mk' (H282.out.below b320)
            clear H282
            have H327 := Hid.mk' (H283.out.below b320)
            clear H283
            have H328 := Hid.mk' (H285.out.below b320)
            clear H285
            have Z329 := Hid.mk' (bel_next Z284.out b320)
            clear Z284
            clear b320
            go_wp2_with fail
            refine (addI m n1 _).mono ?_
            rintro e w' ⟨rfl, hw'⟩
            obtain rfl := hw'.symm
            clear hw'
            go_wp2_with fail
            refine (addI 5 n2 _).mono ?_
            rintro e w' ⟨rfl, hw'⟩
            obtain rfl := hw'.symm
            clear hw'
            go_wp2_with fail
            refine (atI_L _ _ H322.out).mono ?_
            rintro e w330 ⟨rfl, b331⟩
            have H332 := Hid.mk' (H321.out.below b331)
            clear H321
            have H333 := Hid.mk' (H322.out.below b331)
            clear H322
            have H334 := Hid.mk' (H323.out.below b331)
            clear H323
            have H335 := Hid.mk' (H324.out.below b331)
            clear H324
            have H336 := Hid.mk' (H325.out.below b331)
            clear H325
            have H337 := Hid.mk' (H326.out.below b331)
            clear H326
            have H338 := Hid.mk' (H327.out.below b331)
            clear H327
            have H339 := Hid.mk' (H328.out.below b331)
            clear H328
            have Z340 := Hid.mk' (bel_next Z329.out b331)
            clear Z329
            clear b331
            go_wp2_with fail
            refine (heOk_L _ ).mono ?_
            rintro e w341 ⟨rfl, b342⟩
            have H343 := Hid.mk' (H332.out.below b342)
            clear H332
            have H344 := Hid.mk' (H333.out.below b342)
            clear H333
            have H345 := Hid.mk' (H334.out.below b342)
            clear H334
            have H346 := Hid.mk' (H335.out.below b342)
            clear H335
            have H347 := Hid.mk' (H336.out.below b342)
            clear H336
            have H348 := Hid.mk' (H337.out.below b342)
            clear H337
            have H349 := Hid.mk' (H338.out.below b342)
            clear H338
            have H350 := Hid.mk' (H339.out.below b342)
            clear H339
            have Z351 := Hid.mk' (bel_next Z340.out b342)
            clear Z340
            clear b342
            go_wp2
            go_ret
            exact ⟨rfl, Z351.out⟩
          · have e3 : YY = ZZ := sh_do h1 h2 h3 k3 k4
            subst e3
            go_wp2_with fail
            refine (he_L H283.out H285.out).mono ?_
            rw [sq_same]
            rintro e w352 ⟨rfl, b353⟩
            have H354 := Hid.mk' (H277.out.below b353)
            clear H277
            have H355 := Hid.mk' (H278.out.below b353)
            clear H278
            have H356 := Hid.mk' (H279.out.below b353)
            clear H279
            have H357 := Hid.mk' (H280.out.below b353)
            clear H280
            have H358 := Hid.mk' (H281.out.below b353)
            clear H281
            have H359 := Hid.mk' (H282.out.below b353)
            clear H282
            have H360 := Hid.mk' (H283.out.below b353)
            clear H283
            have H361 := Hid.mk' (H285.out.below b353)
            clear H285
            have Z362 := Hid.mk' (bel_next Z284.out b353)
            clear Z284
            clear b353
            go_wp2_with fail
            refine (atI_L m 5 H359.out).mono ?_
            rw [P1.out]
            rintro e w363 ⟨rfl, b364⟩
            have H365 := Hid.mk' (H354.out.below b364)
            clear H354
            have H366 := Hid.mk' (H355.out.below b364)
            clear H355
            have H367 := Hid.mk' (H356.out.below b364)
            clear H356
            have H368 := Hid.mk' (H357.out.below b364)
            clear H357
            have H369 := Hid.mk' (H358.out.below b364)
            clear H358
            have H370 := Hid.mk' (H359.out.below b364)
            clear H359
            have H371 := Hid.mk' (H360.out.below b364)
            clear H360
            have H372 := Hid.mk' (H361.out.below b364)
            clear H361
            have Z373 := Hid.mk' (bel_next Z362.out b364)
            clear Z362
            clear b364
            go_wp2_with fail
            refine (addI m n1 _).mono ?_
            rintro e w' ⟨rfl, hw'⟩
            obtain rfl := hw'.symm
            clear hw'
            go_wp2_with fail
            refine (addI 5 n2 _).mono ?_
            rintro e w' ⟨rfl, hw'⟩
            obtain rfl := hw'.symm
            clear hw'
            go_wp2_with fail
            refine (atI_L _ _ H366.out).mono ?_
            rintro e w374 ⟨rfl, b375⟩
            have H376 := Hid.mk' (H365.out.below b375)
            clear H365
            have H377 := Hid.mk' (H366.out.below b375)
            clear H366
            have H378 := Hid.mk' (H367.out.below b375)
            clear H367
            have H379 := Hid.mk' (H368.out.below b375)
            clear H368
            have H380 := Hid.mk' (H369.out.below b375)
            clear H369
            have H381 := Hid.mk' (H370.out.below b375)
            clear H370
            have H382 := Hid.mk' (H371.out.below b375)
            clear H371
            have H383 := Hid.mk' (H372.out.below b375)
            clear H372
            have Z384 := Hid.mk' (bel_next Z373.out b375)
            clear Z373
            clear b375
            go_wp2_with fail
            refine (heOk_L _ ).mono ?_
            rintro e w385 ⟨rfl, b386⟩
            have H387 := Hid.mk' (H376.out.below b386)
            clear H376
            have H388 := Hid.mk' (H377.out.below b386)
            clear H377
            have H389 := Hid.mk' (H378.out.below b386)
            clear H378
            have H390 := Hid.mk' (H379.out.below b386)
            clear H379
            have H391 := Hid.mk' (H380.out.below b386)
            clear H380
            have H392 := Hid.mk' (H381.out.below b386)
            clear H381
            have H393 := Hid.mk' (H382.out.below b386)
            clear H382
            have H394 := Hid.mk' (H383.out.below b386)
            clear H383
            have Z395 := Hid.mk' (bel_next Z384.out b386)
            clear Z384
            clear b386
            go_wp2
            go_ret
            exact ⟨rfl, Z395.out⟩
end Go.Proofs.Ytlndccbgbclnhaa
