/-
  The walk of FnWylAssoc: whatever the code, it comes out true, and nothing that was there is turned.
-/
import Derived.Test.YtbadbmddocifdaaGaz
namespace Go.Proofs.Ytbadbmddocifdaa
open Go.RowKit
set_option linter.unusedVariables false
set_option maxRecDepth 100000 in
set_option maxHeartbeats 8000000 in
theorem walk_FnWylAssoc (w : World) (a0 : Option Addr) (len0 cap0 : Nat) (s0 : Src w a0 len0 cap0) (a1 : Option Addr) (len1 cap1 : Nat) (s1 : Src w a1 len1 cap1) :
    Calls Try.prog 3 #[.slice a0 len0 cap0, .slice a1 len1 cap1] w fun e w' => e = .returned (.bool true) ∧ Below w.heap.size w w' := by
  by_cases c0 : (1048576 : Int) < (len0 : Int)
  · go_enter Try.func3, Try.ntmps3
    go_wp2
    go_ret
    exact ⟨rfl, Below.refl _ _⟩
  by_cases c1 : (1048576 : Int) < (len1 : Int)
  · go_enter Try.func3, Try.ntmps3
    go_wp2
    go_ret
    exact ⟨rfl, Below.refl _ _⟩
  go_enter Try.func3, Try.ntmps3
  go_wp2_with fail
  refine (drawWylMul w a0 len0 cap0 s0).mono ?_
  rintro e wd ⟨da, dca, A, db, dcb, B, rfl, hA, hB, hlA, hlB, hbd⟩
  have HA0 := Hid.mk' hA
  have HB0 := Hid.mk' hB
  have Z0 := Hid.mk' hbd
  have S1 := Hid.mk' (s1.below hbd)
  clear hA hB hbd s0 s1
  go_wp2_with fail
  refine (drawWylMul wd a1 len1 cap1 S1.out).mono ?_
  rintro e we ⟨dc, dcc, C, dd, dcd, D, rfl, hC, hD, hlC, hlD, hbe⟩
  have HC0 := Hid.mk' hC
  clear hC hD S1
  have H1 := Hid.mk' (HA0.out.below hbe)
  clear HA0
  have H2 := Hid.mk' (HB0.out.below hbe)
  clear HB0
  have Z3 := Hid.mk' (bel_next Z0.out hbe)
  clear Z0
  clear hbe
  rcases wmV_case A B with h1 | ⟨P, h1, oP⟩
  · go_wp2_with fail
    refine (wmI_L H1.out H2.out).mono ?_
    rw [h1]
    rintro e w4 ⟨a5, c6, rfl, b7, r8⟩
    have H9 := Hid.mk' (H1.out.below b7)
    clear H1
    have H10 := Hid.mk' (H2.out.below b7)
    clear H2
    have H11 := Hid.mk' (HC0.out.below b7)
    clear HC0
    have Z12 := Hid.mk' (bel_next Z3.out b7)
    clear Z3
    have H13 : Hid (RL w4 a5 c6 []) := r8
    clear r8
    clear b7
    go_wp2_with fail
    refine (wmS_L H9.out H10.out).mono ?_
    rw [h1]
    rintro e w14 ⟨a15, c16, rfl, b17, r18⟩
    have H19 := Hid.mk' (H9.out.below b17)
    clear H9
    have H20 := Hid.mk' (H10.out.below b17)
    clear H10
    have H21 := Hid.mk' (H11.out.below b17)
    clear H11
    have H22 := Hid.mk' (H13.out.below b17)
    clear H13
    have Z23 := Hid.mk' (bel_next Z12.out b17)
    clear Z12
    have H24 : Hid (RL w14 a15 c16 []) := r18
    clear r18
    clear b17
    go_wp2_with fail
    refine (he_L H22.out H24.out).mono ?_
    rw [sq_same]
    rintro e w25 ⟨rfl, b26⟩
    have H27 := Hid.mk' (H19.out.below b26)
    clear H19
    have H28 := Hid.mk' (H20.out.below b26)
    clear H20
    have H29 := Hid.mk' (H21.out.below b26)
    clear H21
    have H30 := Hid.mk' (H22.out.below b26)
    clear H22
    have H31 := Hid.mk' (H24.out.below b26)
    clear H24
    have Z32 := Hid.mk' (bel_next Z23.out b26)
    clear Z23
    clear b26
    rcases wmV_case B C with h2 | ⟨Q, h2, oQ⟩
    · go_wp2_with fail
      refine (wmI_L H28.out H29.out).mono ?_
      rw [h2]
      rintro e w33 ⟨a34, c35, rfl, b36, r37⟩
      have H38 := Hid.mk' (H27.out.below b36)
      clear H27
      have H39 := Hid.mk' (H28.out.below b36)
      clear H28
      have H40 := Hid.mk' (H29.out.below b36)
      clear H29
      have H41 := Hid.mk' (H30.out.below b36)
      clear H30
      have H42 := Hid.mk' (H31.out.below b36)
      clear H31
      have Z43 := Hid.mk' (bel_next Z32.out b36)
      clear Z32
      have H44 : Hid (RL w33 a34 c35 []) := r37
      clear r37
      clear b36
      go_wp2_with fail
      refine (heOk_L _ ).mono ?_
      rintro e w45 ⟨rfl, b46⟩
      have H47 := Hid.mk' (H38.out.below b46)
      clear H38
      have H48 := Hid.mk' (H39.out.below b46)
      clear H39
      have H49 := Hid.mk' (H40.out.below b46)
      clear H40
      have H50 := Hid.mk' (H41.out.below b46)
      clear H41
      have H51 := Hid.mk' (H42.out.below b46)
      clear H42
      have H52 := Hid.mk' (H44.out.below b46)
      clear H44
      have Z53 := Hid.mk' (bel_next Z43.out b46)
      clear Z43
      clear b46
      go_wp2
      go_ret
      exact ⟨rfl, Z53.out⟩
    · go_wp2_with fail
      refine (wmI_L H28.out H29.out).mono ?_
      rw [h2]
      rintro e w54 ⟨a55, c56, rfl, b57, r58⟩
      have H59 := Hid.mk' (H27.out.below b57)
      clear H27
      have H60 := Hid.mk' (H28.out.below b57)
      clear H28
      have H61 := Hid.mk' (H29.out.below b57)
      clear H29
      have H62 := Hid.mk' (H30.out.below b57)
      clear H30
      have H63 := Hid.mk' (H31.out.below b57)
      clear H31
      have Z64 := Hid.mk' (bel_next Z32.out b57)
      clear Z32
      have H65 : Hid (RL w54 a55 c56 Q) := r58
      clear r58
      clear b57
      go_wp2_with fail
      refine (heOk_L _ ).mono ?_
      rintro e w66 ⟨rfl, b67⟩
      have H68 := Hid.mk' (H59.out.below b67)
      clear H59
      have H69 := Hid.mk' (H60.out.below b67)
      clear H60
      have H70 := Hid.mk' (H61.out.below b67)
      clear H61
      have H71 := Hid.mk' (H62.out.below b67)
      clear H62
      have H72 := Hid.mk' (H63.out.below b67)
      clear H63
      have H73 := Hid.mk' (H65.out.below b67)
      clear H65
      have Z74 := Hid.mk' (bel_next Z64.out b67)
      clear Z64
      clear b67
      go_wp2
      go_ret
      exact ⟨rfl, Z74.out⟩
  · go_wp2_with fail
    refine (wmI_L H1.out H2.out).mono ?_
    rw [h1]
    rintro e w75 ⟨a76, c77, rfl, b78, r79⟩
    have H80 := Hid.mk' (H1.out.below b78)
    clear H1
    have H81 := Hid.mk' (H2.out.below b78)
    clear H2
    have H82 := Hid.mk' (HC0.out.below b78)
    clear HC0
    have Z83 := Hid.mk' (bel_next Z3.out b78)
    clear Z3
    have H84 : Hid (RL w75 a76 c77 P) := r79
    clear r79
    clear b78
    go_wp2_with fail
    refine (wmS_L H80.out H81.out).mono ?_
    rw [h1]
    rintro e w85 ⟨a86, c87, rfl, b88, r89⟩
    have H90 := Hid.mk' (H80.out.below b88)
    clear H80
    have H91 := Hid.mk' (H81.out.below b88)
    clear H81
    have H92 := Hid.mk' (H82.out.below b88)
    clear H82
    have H93 := Hid.mk' (H84.out.below b88)
    clear H84
    have Z94 := Hid.mk' (bel_next Z83.out b88)
    clear Z83
    have H95 : Hid (RL w85 a86 c87 P) := r89
    clear r89
    clear b88
    go_wp2_with fail
    refine (he_L H93.out H95.out).mono ?_
    rw [sq_same]
    rintro e w96 ⟨rfl, b97⟩
    have H98 := Hid.mk' (H90.out.below b97)
    clear H90
    have H99 := Hid.mk' (H91.out.below b97)
    clear H91
    have H100 := Hid.mk' (H92.out.below b97)
    clear H92
    have H101 := Hid.mk' (H93.out.below b97)
    clear H93
    have H102 := Hid.mk' (H95.out.below b97)
    clear H95
    have Z103 := Hid.mk' (bel_next Z94.out b97)
    clear Z94
    clear b97
    go_wp2_with fail
    refine (okI_L H101.out).mono ?_
    rw [oP]
    rintro e w104 ⟨rfl, b105⟩
    have H106 := Hid.mk' (H98.out.below b105)
    clear H98
    have H107 := Hid.mk' (H99.out.below b105)
    clear H99
    have H108 := Hid.mk' (H100.out.below b105)
    clear H100
    have H109 := Hid.mk' (H101.out.below b105)
    clear H101
    have H110 := Hid.mk' (H102.out.below b105)
    clear H102
    have Z111 := Hid.mk' (bel_next Z103.out b105)
    clear Z103
    clear b105
    rcases wmV_case B C with h2 | ⟨Q, h2, oQ⟩
    · go_wp2_with fail
      refine (wmI_L H107.out H108.out).mono ?_
      rw [h2]
      rintro e w112 ⟨a113, c114, rfl, b115, r116⟩
      have H117 := Hid.mk' (H106.out.below b115)
      clear H106
      have H118 := Hid.mk' (H107.out.below b115)
      clear H107
      have H119 := Hid.mk' (H108.out.below b115)
      clear H108
      have H120 := Hid.mk' (H109.out.below b115)
      clear H109
      have H121 := Hid.mk' (H110.out.below b115)
      clear H110
      have Z122 := Hid.mk' (bel_next Z111.out b115)
      clear Z111
      have H123 : Hid (RL w112 a113 c114 []) := r116
      clear r116
      clear b115
      go_wp2_with fail
      refine (heOk_L _ ).mono ?_
      rintro e w124 ⟨rfl, b125⟩
      have H126 := Hid.mk' (H117.out.below b125)
      clear H117
      have H127 := Hid.mk' (H118.out.below b125)
      clear H118
      have H128 := Hid.mk' (H119.out.below b125)
      clear H119
      have H129 := Hid.mk' (H120.out.below b125)
      clear H120
      have H130 := Hid.mk' (H121.out.below b125)
      clear H121
      have H131 := Hid.mk' (H123.out.below b125)
      clear H123
      have Z132 := Hid.mk' (bel_next Z122.out b125)
      clear Z122
      clear b125
      go_wp2
      go_ret
      exact ⟨rfl, Z132.out⟩
    · go_wp2_with fail
      refine (wmI_L H107.out H108.out).mono ?_
      rw [h2]
      rintro e w133 ⟨a134, c135, rfl, b136, r137⟩
      have H138 := Hid.mk' (H106.out.below b136)
      clear H106
      have H139 := Hid.mk' (H107.out.below b136)
      clear H107
      have H140 := Hid.mk' (H108.out.below b136)
      clear H108
      have H141 := Hid.mk' (H109.out.below b136)
      clear H109
      have H142 := Hid.mk' (H110.out.below b136)
      clear H110
      have Z143 := Hid.mk' (bel_next Z111.out b136)
      clear Z111
      have H144 : Hid (RL w133 a134 c135 Q) := r137
      clear r137
      clear b136
      rcases wmV_case P C with h3 | ⟨U, h3, oU⟩
      · go_wp2_with fail
        refine (wmI_L H141.out H140.out).mono ?_
        rw [h3]
        rintro e w145 ⟨a146, c147, rfl, b148, r149⟩
        have H150 := Hid.mk' (H138.out.below b148)
        clear H138
        have H151 := Hid.mk' (H139.out.below b148)
        clear H139
        have H152 := Hid.mk' (H140.out.below b148)
        clear H140
        have H153 := Hid.mk' (H141.out.below b148)
        clear H141
        have H154 := Hid.mk' (H142.out.below b148)
        clear H142
        have H155 := Hid.mk' (H144.out.below b148)
        clear H144
        have Z156 := Hid.mk' (bel_next Z143.out b148)
        clear Z143
        have H157 : Hid (RL w145 a146 c147 []) := r149
        clear r149
        clear b148
        rcases wmV_case A Q with h4 | ⟨V, h4, oV⟩
        · go_wp2_with fail
          refine (wmI_L H150.out H155.out).mono ?_
          rw [h4]
          rintro e w158 ⟨a159, c160, rfl, b161, r162⟩
          have H163 := Hid.mk' (H150.out.below b161)
          clear H150
          have H164 := Hid.mk' (H151.out.below b161)
          clear H151
          have H165 := Hid.mk' (H152.out.below b161)
          clear H152
          have H166 := Hid.mk' (H153.out.below b161)
          clear H153
          have H167 := Hid.mk' (H154.out.below b161)
          clear H154
          have H168 := Hid.mk' (H155.out.below b161)
          clear H155
          have H169 := Hid.mk' (H157.out.below b161)
          clear H157
          have Z170 := Hid.mk' (bel_next Z156.out b161)
          clear Z156
          have H171 : Hid (RL w158 a159 c160 []) := r162
          clear r162
          clear b161
          go_wp2_with fail
          refine (heOk_L _ ).mono ?_
          rintro e w172 ⟨rfl, b173⟩
          have H174 := Hid.mk' (H163.out.below b173)
          clear H163
          have H175 := Hid.mk' (H164.out.below b173)
          clear H164
          have H176 := Hid.mk' (H165.out.below b173)
          clear H165
          have H177 := Hid.mk' (H166.out.below b173)
          clear H166
          have H178 := Hid.mk' (H167.out.below b173)
          clear H167
          have H179 := Hid.mk' (H168.out.below b173)
          clear H168
          have H180 := Hid.mk' (H169.out.below b173)
          clear H169
          have H181 := Hid.mk' (H171.out.below b173)
          clear H171
          have Z182 := Hid.mk' (bel_next Z170.out b173)
          clear Z170
          clear b173
          go_wp2
          go_ret
          exact ⟨rfl, Z182.out⟩
        · go_wp2_with fail
          refine (wmI_L H150.out H155.out).mono ?_
          rw [h4]
          rintro e w183 ⟨a184, c185, rfl, b186, r187⟩
          have H188 := Hid.mk' (H150.out.below b186)
          clear H150
          have H189 := Hid.mk' (H151.out.below b186)
          clear H151
          have H190 := Hid.mk' (H152.out.below b186)
          clear H152
          have H191 := Hid.mk' (H153.out.below b186)
          clear H153
          have H192 := Hid.mk' (H154.out.below b186)
          clear H154
          have H193 := Hid.mk' (H155.out.below b186)
          clear H155
          have H194 := Hid.mk' (H157.out.below b186)
          clear H157
          have Z195 := Hid.mk' (bel_next Z156.out b186)
          clear Z156
          have H196 : Hid (RL w183 a184 c185 V) := r187
          clear r187
          clear b186
          go_wp2_with fail
          refine (heOk_L _ ).mono ?_
          rintro e w197 ⟨rfl, b198⟩
          have H199 := Hid.mk' (H188.out.below b198)
          clear H188
          have H200 := Hid.mk' (H189.out.below b198)
          clear H189
          have H201 := Hid.mk' (H190.out.below b198)
          clear H190
          have H202 := Hid.mk' (H191.out.below b198)
          clear H191
          have H203 := Hid.mk' (H192.out.below b198)
          clear H192
          have H204 := Hid.mk' (H193.out.below b198)
          clear H193
          have H205 := Hid.mk' (H194.out.below b198)
          clear H194
          have H206 := Hid.mk' (H196.out.below b198)
          clear H196
          have Z207 := Hid.mk' (bel_next Z195.out b198)
          clear Z195
          clear b198
          go_wp2
          go_ret
          exact ⟨rfl, Z207.out⟩
      · go_wp2_with fail
        refine (wmI_L H141.out H140.out).mono ?_
        rw [h3]
        rintro e w208 ⟨a209, c210, rfl, b211, r212⟩
        have H213 := Hid.mk' (H138.out.below b211)
        clear H138
        have H214 := Hid.mk' (H139.out.below b211)
        clear H139
        have H215 := Hid.mk' (H140.out.below b211)
        clear H140
        have H216 := Hid.mk' (H141.out.below b211)
        clear H141
        have H217 := Hid.mk' (H142.out.below b211)
        clear H142
        have H218 := Hid.mk' (H144.out.below b211)
        clear H144
        have Z219 := Hid.mk' (bel_next Z143.out b211)
        clear Z143
        have H220 : Hid (RL w208 a209 c210 U) := r212
        clear r212
        clear b211
        rcases wmV_case A Q with h4 | ⟨V, h4, oV⟩
        · go_wp2_with fail
          refine (wmI_L H213.out H218.out).mono ?_
          rw [h4]
          rintro e w221 ⟨a222, c223, rfl, b224, r225⟩
          have H226 := Hid.mk' (H213.out.below b224)
          clear H213
          have H227 := Hid.mk' (H214.out.below b224)
          clear H214
          have H228 := Hid.mk' (H215.out.below b224)
          clear H215
          have H229 := Hid.mk' (H216.out.below b224)
          clear H216
          have H230 := Hid.mk' (H217.out.below b224)
          clear H217
          have H231 := Hid.mk' (H218.out.below b224)
          clear H218
          have H232 := Hid.mk' (H220.out.below b224)
          clear H220
          have Z233 := Hid.mk' (bel_next Z219.out b224)
          clear Z219
          have H234 : Hid (RL w221 a222 c223 []) := r225
          clear r225
          clear b224
          go_wp2_with fail
          refine (heOk_L _ ).mono ?_
          rintro e w235 ⟨rfl, b236⟩
          have H237 := Hid.mk' (H226.out.below b236)
          clear H226
          have H238 := Hid.mk' (H227.out.below b236)
          clear H227
          have H239 := Hid.mk' (H228.out.below b236)
          clear H228
          have H240 := Hid.mk' (H229.out.below b236)
          clear H229
          have H241 := Hid.mk' (H230.out.below b236)
          clear H230
          have H242 := Hid.mk' (H231.out.below b236)
          clear H231
          have H243 := Hid.mk' (H232.out.below b236)
          clear H232
          have H244 := Hid.mk' (H234.out.below b236)
          clear H234
          have Z245 := Hid.mk' (bel_next Z233.out b236)
          clear Z233
          clear b236
          go_wp2
          go_ret
          exact ⟨rfl, Z245.out⟩
        · have e4 : U = V := wm_assoc h1 h2 h3 h4
          subst e4
          go_wp2_with fail
          refine (wmI_L H213.out H218.out).mono ?_
          rw [h4]
          rintro e w246 ⟨a247, c248, rfl, b249, r250⟩
          have H251 := Hid.mk' (H213.out.below b249)
          clear H213
          have H252 := Hid.mk' (H214.out.below b249)
          clear H214
          have H253 := Hid.mk' (H215.out.below b249)
          clear H215
          have H254 := Hid.mk' (H216.out.below b249)
          clear H216
          have H255 := Hid.mk' (H217.out.below b249)
          clear H217
          have H256 := Hid.mk' (H218.out.below b249)
          clear H218
          have H257 := Hid.mk' (H220.out.below b249)
          clear H220
          have Z258 := Hid.mk' (bel_next Z219.out b249)
          clear Z219
          have H259 : Hid (RL w246 a247 c248 U) := r250
          clear r250
          clear b249
          go_wp2_with fail
          refine (he_L H257.out H259.out).mono ?_
          rw [sq_same]
          rintro e w260 ⟨rfl, b261⟩
          have H262 := Hid.mk' (H251.out.below b261)
          clear H251
          have H263 := Hid.mk' (H252.out.below b261)
          clear H252
          have H264 := Hid.mk' (H253.out.below b261)
          clear H253
          have H265 := Hid.mk' (H254.out.below b261)
          clear H254
          have H266 := Hid.mk' (H255.out.below b261)
          clear H255
          have H267 := Hid.mk' (H256.out.below b261)
          clear H256
          have H268 := Hid.mk' (H257.out.below b261)
          clear H257
          have H269 := Hid.mk' (H259.out.below b261)
          clear H259
          have Z270 := Hid.mk' (bel_next Z258.out b261)
          clear Z258
          clear b261
          go_wp2_with fail
          refine (heOk_L _ ).mono ?_
          rintro e w271 ⟨rfl, b272⟩
          have H273 := Hid.mk' (H262.out.below b272)
          clear H262
          have H274 := Hid.mk' (H263.out.below b272)
          clear H263
          have H275 := Hid.mk' (H264.out.below b272)
          clear H264
          have H276 := Hid.mk' (H265.out.below b272)
          clear H265
          have H277 := Hid.mk' (H266.out.below b272)
          clear H266
          have H278 := Hid.mk' (H267.out.below b272)
          clear H267
          have H279 := Hid.mk' (H268.out.below b272)
          clear H268
          have H280 := Hid.mk' (H269.out.below b272)
          clear H269
          have Z281 := Hid.mk' (bel_next Z270.out b272)
          clear Z270
          clear b272
          go_wp2
          go_ret
          exact ⟨rfl, Z281.out⟩
end Go.Proofs.Ytbadbmddocifdaa
