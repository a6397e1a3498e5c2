/-
  The walk of FnDoSum: whatever the code, it comes out true, and nothing that was there is turned.
-/
import Derived.Test.YtnfimnfaejjagaaGbb
import Derived.Test.YtnfimnfaejjagaaGbc
namespace Go.Proofs.Ytnfimnfaejjagaa
open Go.RowKit
set_option linter.unusedVariables false
set_option maxRecDepth 100000 in
set_option maxHeartbeats 8000000 in
theorem walk_FnDoSum (w : World) (a0 : Option Addr) (len0 cap0 : Nat) (s0 : Src w a0 len0 cap0) (a1 : Option Addr) (len1 cap1 : Nat) (s1 : Src w a1 len1 cap1) :
    Calls Try.prog 4 #[.slice a0 len0 cap0, .slice a1 len1 cap1] w fun e w' => e = .returned (.bool true) ∧ Below w.heap.size w w' := by
  by_cases c0 : (1048576 : Int) < (len0 : Int)
  · go_enter Try.func4, Try.ntmps4
    go_wp2
    go_ret
    exact ⟨rfl, Below.refl _ _⟩
  by_cases c1 : (1048576 : Int) < (len1 : Int)
  · go_enter Try.func4, Try.ntmps4
    go_wp2
    go_ret
    exact ⟨rfl, Below.refl _ _⟩
  go_enter Try.func4, Try.ntmps4
  go_wp2_with fail
  refine (drawWylDo w a0 len0 cap0 s0).mono ?_
  rintro e wd ⟨da, dca, A, db, dcb, B, rfl, hA, hB, hlA, hlB, hbd⟩
  have HA0 := Hid.mk' hA
  have HB0 := Hid.mk' hB
  have Z0 := Hid.mk' hbd
  have S1 := Hid.mk' (s1.below hbd)
  clear hA hB hbd s0 s1
  go_wp2_with fail
  refine (drawWylDo wd a1 len1 cap1 S1.out).mono ?_
  rintro e we ⟨dc, dcc, C, dd, dcd, D, rfl, hC, hD, hlC, hlD, hbe⟩
  have HC0 := Hid.mk' hC
  have HD0 := Hid.mk' hD
  clear hC hD S1
  have H1 := Hid.mk' (HA0.out.below hbe)
  clear HA0
  have H2 := Hid.mk' (HB0.out.below hbe)
  clear HB0
  have Z3 := Hid.mk' (bel_next Z0.out hbe)
  clear Z0
  clear hbe
  rcases wdV_if A B with h1 | ⟨X, h1⟩
  · go_wp2_with fail
    refine (wdI_L H1.out H2.out).mono ?_
    rw [h1]
    rintro e w4 ⟨a5, c6, rfl, b7, r8⟩
    have H9 := Hid.mk' (H1.out.below b7)
    clear H1
    have H10 := Hid.mk' (H2.out.below b7)
    clear H2
    have H11 := Hid.mk' (HC0.out.below b7)
    clear HC0
    have H12 := Hid.mk' (HD0.out.below b7)
    clear HD0
    have Z13 := Hid.mk' (bel_next Z3.out b7)
    clear Z3
    have H14 : Hid (RL w4 a5 c6 []) := r8
    clear r8
    clear b7
    go_wp2_with fail
    refine (wdS_L H9.out H10.out).mono ?_
    rw [h1]
    rintro e w15 ⟨a16, c17, rfl, b18, r19⟩
    have H20 := Hid.mk' (H9.out.below b18)
    clear H9
    have H21 := Hid.mk' (H10.out.below b18)
    clear H10
    have H22 := Hid.mk' (H11.out.below b18)
    clear H11
    have H23 := Hid.mk' (H12.out.below b18)
    clear H12
    have H24 := Hid.mk' (H14.out.below b18)
    clear H14
    have Z25 := Hid.mk' (bel_next Z13.out b18)
    clear Z13
    have H26 : Hid (RL w15 a16 c17 []) := r19
    clear r19
    clear b18
    go_wp2_with fail
    refine (he_L H24.out H26.out).mono ?_
    rw [sq_same]
    rintro e w27 ⟨rfl, b28⟩
    have H29 := Hid.mk' (H20.out.below b28)
    clear H20
    have H30 := Hid.mk' (H21.out.below b28)
    clear H21
    have H31 := Hid.mk' (H22.out.below b28)
    clear H22
    have H32 := Hid.mk' (H23.out.below b28)
    clear H23
    have H33 := Hid.mk' (H24.out.below b28)
    clear H24
    have H34 := Hid.mk' (H26.out.below b28)
    clear H26
    have Z35 := Hid.mk' (bel_next Z25.out b28)
    clear Z25
    clear b28
    rcases wdV_if C B with h2 | ⟨Y, h2⟩
    · go_wp2_with fail
      refine (wdI_L H31.out H30.out).mono ?_
      rw [h2]
      rintro e w36 ⟨a37, c38, rfl, b39, r40⟩
      have H41 := Hid.mk' (H29.out.below b39)
      clear H29
      have H42 := Hid.mk' (H30.out.below b39)
      clear H30
      have H43 := Hid.mk' (H31.out.below b39)
      clear H31
      have H44 := Hid.mk' (H32.out.below b39)
      clear H32
      have H45 := Hid.mk' (H33.out.below b39)
      clear H33
      have H46 := Hid.mk' (H34.out.below b39)
      clear H34
      have Z47 := Hid.mk' (bel_next Z35.out b39)
      clear Z35
      have H48 : Hid (RL w36 a37 c38 []) := r40
      clear r40
      clear b39
      rcases wdV_if A D with h3 | ⟨Z, h3⟩
      · go_wp2_with fail
        refine (wdI_L H41.out H44.out).mono ?_
        rw [h3]
        rintro e w49 ⟨a50, c51, rfl, b52, r53⟩
        have H54 := Hid.mk' (H41.out.below b52)
        clear H41
        have H55 := Hid.mk' (H42.out.below b52)
        clear H42
        have H56 := Hid.mk' (H43.out.below b52)
        clear H43
        have H57 := Hid.mk' (H44.out.below b52)
        clear H44
        have H58 := Hid.mk' (H45.out.below b52)
        clear H45
        have H59 := Hid.mk' (H46.out.below b52)
        clear H46
        have H60 := Hid.mk' (H48.out.below b52)
        clear H48
        have Z61 := Hid.mk' (bel_next Z47.out b52)
        clear Z47
        have H62 : Hid (RL w49 a50 c51 []) := r53
        clear r53
        clear b52
        go_wp2_with fail
        refine (heOk_L _ ).mono ?_
        rintro e w63 ⟨rfl, b64⟩
        have H65 := Hid.mk' (H54.out.below b64)
        clear H54
        have H66 := Hid.mk' (H55.out.below b64)
        clear H55
        have H67 := Hid.mk' (H56.out.below b64)
        clear H56
        have H68 := Hid.mk' (H57.out.below b64)
        clear H57
        have H69 := Hid.mk' (H58.out.below b64)
        clear H58
        have H70 := Hid.mk' (H59.out.below b64)
        clear H59
        have H71 := Hid.mk' (H60.out.below b64)
        clear H60
        have H72 := Hid.mk' (H62.out.below b64)
        clear H62
        have Z73 := Hid.mk' (bel_next Z61.out b64)
        clear Z61
        clear b64
        go_wp2
        go_ret
        exact ⟨rfl, Z73.out⟩
      · go_wp2_with fail
        refine (wdI_L H41.out H44.out).mono ?_
        rw [h3]
        rintro e w74 ⟨a75, c76, rfl, b77, r78⟩
        have H79 := Hid.mk' (H41.out.below b77)
        clear H41
        have H80 := Hid.mk' (H42.out.below b77)
        clear H42
        have H81 := Hid.mk' (H43.out.below b77)
        clear H43
        have H82 := Hid.mk' (H44.out.below b77)
        clear H44
        have H83 := Hid.mk' (H45.out.below b77)
        clear H45
        have H84 := Hid.mk' (H46.out.below b77)
        clear H46
        have H85 := Hid.mk' (H48.out.below b77)
        clear H48
        have Z86 := Hid.mk' (bel_next Z47.out b77)
        clear Z47
        have H87 : Hid (RL w74 a75 c76 Z) := r78
        clear r78
        clear b77
        go_wp2_with fail
        refine (heOk_L _ ).mono ?_
        rintro e w88 ⟨rfl, b89⟩
        have H90 := Hid.mk' (H79.out.below b89)
        clear H79
        have H91 := Hid.mk' (H80.out.below b89)
        clear H80
        have H92 := Hid.mk' (H81.out.below b89)
        clear H81
        have H93 := Hid.mk' (H82.out.below b89)
        clear H82
        have H94 := Hid.mk' (H83.out.below b89)
        clear H83
        have H95 := Hid.mk' (H84.out.below b89)
        clear H84
        have H96 := Hid.mk' (H85.out.below b89)
        clear H85
        have H97 := Hid.mk' (H87.out.below b89)
        clear H87
        have Z98 := Hid.mk' (bel_next Z86.out b89)
        clear Z86
        clear b89
        go_wp2
        go_ret
        exact ⟨rfl, Z98.out⟩
    · go_wp2_with fail
      refine (wdI_L H31.out H30.out).mono ?_
      rw [h2]
      rintro e w99 ⟨a100, c101, rfl, b102, r103⟩
      have H104 := Hid.mk' (H29.out.below b102)
      clear H29
      have H105 := Hid.mk' (H30.out.below b102)
      clear H30
      have H106 := Hid.mk' (H31.out.below b102)
      clear H31
      have H107 := Hid.mk' (H32.out.below b102)
      clear H32
      have H108 := Hid.mk' (H33.out.below b102)
      clear H33
      have H109 := Hid.mk' (H34.out.below b102)
      clear H34
      have Z110 := Hid.mk' (bel_next Z35.out b102)
      clear Z35
      have H111 : Hid (RL w99 a100 c101 Y) := r103
      clear r103
      clear b102
      rcases wdV_if A D with h3 | ⟨Z, h3⟩
      · go_wp2_with fail
        refine (wdI_L H104.out H107.out).mono ?_
        rw [h3]
        rintro e w112 ⟨a113, c114, rfl, b115, r116⟩
        have H117 := Hid.mk' (H104.out.below b115)
        clear H104
        have H118 := Hid.mk' (H105.out.below b115)
        clear H105
        have H119 := Hid.mk' (H106.out.below b115)
        clear H106
        have H120 := Hid.mk' (H107.out.below b115)
        clear H107
        have H121 := Hid.mk' (H108.out.below b115)
        clear H108
        have H122 := Hid.mk' (H109.out.below b115)
        clear H109
        have H123 := Hid.mk' (H111.out.below b115)
        clear H111
        have Z124 := Hid.mk' (bel_next Z110.out b115)
        clear Z110
        have H125 : Hid (RL w112 a113 c114 []) := r116
        clear r116
        clear b115
        go_wp2_with fail
        refine (heOk_L _ ).mono ?_
        rintro e w126 ⟨rfl, b127⟩
        have H128 := Hid.mk' (H117.out.below b127)
        clear H117
        have H129 := Hid.mk' (H118.out.below b127)
        clear H118
        have H130 := Hid.mk' (H119.out.below b127)
        clear H119
        have H131 := Hid.mk' (H120.out.below b127)
        clear H120
        have H132 := Hid.mk' (H121.out.below b127)
        clear H121
        have H133 := Hid.mk' (H122.out.below b127)
        clear H122
        have H134 := Hid.mk' (H123.out.below b127)
        clear H123
        have H135 := Hid.mk' (H125.out.below b127)
        clear H125
        have Z136 := Hid.mk' (bel_next Z124.out b127)
        clear Z124
        clear b127
        go_wp2
        go_ret
        exact ⟨rfl, Z136.out⟩
      · go_wp2_with fail
        refine (wdI_L H104.out H107.out).mono ?_
        rw [h3]
        rintro e w137 ⟨a138, c139, rfl, b140, r141⟩
        have H142 := Hid.mk' (H104.out.below b140)
        clear H104
        have H143 := Hid.mk' (H105.out.below b140)
        clear H105
        have H144 := Hid.mk' (H106.out.below b140)
        clear H106
        have H145 := Hid.mk' (H107.out.below b140)
        clear H107
        have H146 := Hid.mk' (H108.out.below b140)
        clear H108
        have H147 := Hid.mk' (H109.out.below b140)
        clear H109
        have H148 := Hid.mk' (H111.out.below b140)
        clear H111
        have Z149 := Hid.mk' (bel_next Z110.out b140)
        clear Z110
        have H150 : Hid (RL w137 a138 c139 Z) := r141
        clear r141
        clear b140
        go_wp2_with fail
        refine (heOk_L _ ).mono ?_
        rintro e w151 ⟨rfl, b152⟩
        have H153 := Hid.mk' (H142.out.below b152)
        clear H142
        have H154 := Hid.mk' (H143.out.below b152)
        clear H143
        have H155 := Hid.mk' (H144.out.below b152)
        clear H144
        have H156 := Hid.mk' (H145.out.below b152)
        clear H145
        have H157 := Hid.mk' (H146.out.below b152)
        clear H146
        have H158 := Hid.mk' (H147.out.below b152)
        clear H147
        have H159 := Hid.mk' (H148.out.below b152)
        clear H148
        have H160 := Hid.mk' (H150.out.below b152)
        clear H150
        have Z161 := Hid.mk' (bel_next Z149.out b152)
        clear Z149
        clear b152
        go_wp2
        go_ret
        exact ⟨rfl, Z161.out⟩
  · go_wp2_with fail
    refine (wdI_L H1.out H2.out).mono ?_
    rw [h1]
    rintro e w162 ⟨a163, c164, rfl, b165, r166⟩
    have H167 := Hid.mk' (H1.out.below b165)
    clear H1
    have H168 := Hid.mk' (H2.out.below b165)
    clear H2
    have H169 := Hid.mk' (HC0.out.below b165)
    clear HC0
    have H170 := Hid.mk' (HD0.out.below b165)
    clear HD0
    have Z171 := Hid.mk' (bel_next Z3.out b165)
    clear Z3
    have H172 : Hid (RL w162 a163 c164 X) := r166
    clear r166
    clear b165
    go_wp2_with fail
    refine (wdS_L H167.out H168.out).mono ?_
    rw [h1]
    rintro e w173 ⟨a174, c175, rfl, b176, r177⟩
    have H178 := Hid.mk' (H167.out.below b176)
    clear H167
    have H179 := Hid.mk' (H168.out.below b176)
    clear H168
    have H180 := Hid.mk' (H169.out.below b176)
    clear H169
    have H181 := Hid.mk' (H170.out.below b176)
    clear H170
    have H182 := Hid.mk' (H172.out.below b176)
    clear H172
    have Z183 := Hid.mk' (bel_next Z171.out b176)
    clear Z171
    have H184 : Hid (RL w173 a174 c175 X) := r177
    clear r177
    clear b176
    go_wp2_with fail
    refine (he_L H182.out H184.out).mono ?_
    rw [sq_same]
    rintro e w185 ⟨rfl, b186⟩
    have H187 := Hid.mk' (H178.out.below b186)
    clear H178
    have H188 := Hid.mk' (H179.out.below b186)
    clear H179
    have H189 := Hid.mk' (H180.out.below b186)
    clear H180
    have H190 := Hid.mk' (H181.out.below b186)
    clear H181
    have H191 := Hid.mk' (H182.out.below b186)
    clear H182
    have H192 := Hid.mk' (H184.out.below b186)
    clear H184
    have Z193 := Hid.mk' (bel_next Z183.out b186)
    clear Z183
    clear b186
    rcases wdV_if C B with h2 | ⟨Y, h2⟩
    · go_wp2_with fail
      refine (wdI_L H189.out H188.out).mono ?_
      rw [h2]
      rintro e w194 ⟨a195, c196, rfl, b197, r198⟩
      have H199 := Hid.mk' (H187.out.below b197)
      clear H187
      have H200 := Hid.mk' (H188.out.below b197)
      clear H188
      have H201 := Hid.mk' (H189.out.below b197)
      clear H189
      have H202 := Hid.mk' (H190.out.below b197)
      clear H190
      have H203 := Hid.mk' (H191.out.below b197)
      clear H191
      have H204 := Hid.mk' (H192.out.below b197)
      clear H192
      have Z205 := Hid.mk' (bel_next Z193.out b197)
      clear Z193
      have H206 : Hid (RL w194 a195 c196 []) := r198
      clear r198
      clear b197
      rcases wdV_if A D with h3 | ⟨Z, h3⟩
      · go_wp2_with fail
        refine (wdI_L H199.out H202.out).mono ?_
        rw [h3]
        rintro e w207 ⟨a208, c209, rfl, b210, r211⟩
        have H212 := Hid.mk' (H199.out.below b210)
        clear H199
        have H213 := Hid.mk' (H200.out.below b210)
        clear H200
        have H214 := Hid.mk' (H201.out.below b210)
        clear H201
        have H215 := Hid.mk' (H202.out.below b210)
        clear H202
        have H216 := Hid.mk' (H203.out.below b210)
        clear H203
        have H217 := Hid.mk' (H204.out.below b210)
        clear H204
        have H218 := Hid.mk' (H206.out.below b210)
        clear H206
        have Z219 := Hid.mk' (bel_next Z205.out b210)
        clear Z205
        have H220 : Hid (RL w207 a208 c209 []) := r211
        clear r211
        clear b210
        go_wp2_with fail
        refine (heOk_L _ ).mono ?_
        rintro e w221 ⟨rfl, b222⟩
        have H223 := Hid.mk' (H212.out.below b222)
        clear H212
        have H224 := Hid.mk' (H213.out.below b222)
        clear H213
        have H225 := Hid.mk' (H214.out.below b222)
        clear H214
        have H226 := Hid.mk' (H215.out.below b222)
        clear H215
        have H227 := Hid.mk' (H216.out.below b222)
        clear H216
        have H228 := Hid.mk' (H217.out.below b222)
        clear H217
        have H229 := Hid.mk' (H218.out.below b222)
        clear H218
        have H230 := Hid.mk' (H220.out.below b222)
        clear H220
        have Z231 := Hid.mk' (bel_next Z219.out b222)
        clear Z219
        clear b222
        go_wp2
        go_ret
        exact ⟨rfl, Z231.out⟩
      · go_wp2_with fail
        refine (wdI_L H199.out H202.out).mono ?_
        rw [h3]
        rintro e w232 ⟨a233, c234, rfl, b235, r236⟩
        have H237 := Hid.mk' (H199.out.below b235)
        clear H199
        have H238 := Hid.mk' (H200.out.below b235)
        clear H200
        have H239 := Hid.mk' (H201.out.below b235)
        clear H201
        have H240 := Hid.mk' (H202.out.below b235)
        clear H202
        have H241 := Hid.mk' (H203.out.below b235)
        clear H203
        have H242 := Hid.mk' (H204.out.below b235)
        clear H204
        have H243 := Hid.mk' (H206.out.below b235)
        clear H206
        have Z244 := Hid.mk' (bel_next Z205.out b235)
        clear Z205
        have H245 : Hid (RL w232 a233 c234 Z) := r236
        clear r236
        clear b235
        go_wp2_with fail
        refine (heOk_L _ ).mono ?_
        rintro e w246 ⟨rfl, b247⟩
        have H248 := Hid.mk' (H237.out.below b247)
        clear H237
        have H249 := Hid.mk' (H238.out.below b247)
        clear H238
        have H250 := Hid.mk' (H239.out.below b247)
        clear H239
        have H251 := Hid.mk' (H240.out.below b247)
        clear H240
        have H252 := Hid.mk' (H241.out.below b247)
        clear H241
        have H253 := Hid.mk' (H242.out.below b247)
        clear H242
        have H254 := Hid.mk' (H243.out.below b247)
        clear H243
        have H255 := Hid.mk' (H245.out.below b247)
        clear H245
        have Z256 := Hid.mk' (bel_next Z244.out b247)
        clear Z244
        clear b247
        go_wp2
        go_ret
        exact ⟨rfl, Z256.out⟩
    · go_wp2_with fail
      refine (wdI_L H189.out H188.out).mono ?_
      rw [h2]
      rintro e w257 ⟨a258, c259, rfl, b260, r261⟩
      have H262 := Hid.mk' (H187.out.below b260)
      clear H187
      have H263 := Hid.mk' (H188.out.below b260)
      clear H188
      have H264 := Hid.mk' (H189.out.below b260)
      clear H189
      have H265 := Hid.mk' (H190.out.below b260)
      clear H190
      have H266 := Hid.mk' (H191.out.below b260)
      clear H191
      have H267 := Hid.mk' (H192.out.below b260)
      clear H192
      have Z268 := Hid.mk' (bel_next Z193.out b260)
      clear Z193
      have H269 : Hid (RL w257 a258 c259 Y) := r261
      clear r261
      clear b260
      rcases wdV_if A D with h3 | ⟨Z, h3⟩
      · go_wp2_with fail
        refine (wdI_L H262.out H265.out).mono ?_
        rw [h3]
        rintro e w270 ⟨a271, c272, rfl, b273, r274⟩
        have H275 := Hid.mk' (H262.out.below b273)
        clear H262
        have H276 := Hid.mk' (H263.out.below b273)
        clear H263
        have H277 := Hid.mk' (H264.out.below b273)
        clear H264
        have H278 := Hid.mk' (H265.out.below b273)
        clear H265
        have H279 := Hid.mk' (H266.out.below b273)
        clear H266
        have H280 := Hid.mk' (H267.out.below b273)
        clear H267
        have H281 := Hid.mk' (H269.out.below b273)
        clear H269
        have Z282 := Hid.mk' (bel_next Z268.out b273)
        clear Z268
        have H283 : Hid (RL w270 a271 c272 []) := r274
        clear r274
        clear b273
        go_wp2_with fail
        refine (heOk_L _ ).mono ?_
        rintro e w284 ⟨rfl, b285⟩
        have H286 := Hid.mk' (H275.out.below b285)
        clear H275
        have H287 := Hid.mk' (H276.out.below b285)
        clear H276
        have H288 := Hid.mk' (H277.out.below b285)
        clear H277
        have H289 := Hid.mk' (H278.out.below b285)
        clear H278
        have H290 := Hid.mk' (H279.out.below b285)
        clear H279
        have H291 := Hid.mk' (H280.out.below b285)
        clear H280
        have H292 := Hid.mk' (H281.out.below b285)
        clear H281
        have H293 := Hid.mk' (H283.out.below b285)
        clear H283
        have Z294 := Hid.mk' (bel_next Z282.out b285)
        clear Z282
        clear b285
        go_wp2
        go_ret
        exact ⟨rfl, Z294.out⟩
      · go_wp2_with fail
        refine (wdI_L H262.out H265.out).mono ?_
        rw [h3]
        rintro e w295 ⟨a296, c297, rfl, b298, r299⟩
        have H300 := Hid.mk' (H262.out.below b298)
        clear H262
        have H301 := Hid.mk' (H263.out.below b298)
        clear H263
        have H302 := Hid.mk' (H264.out.below b298)
        clear H264
        have H303 := Hid.mk' (H265.out.below b298)
        clear H265
        have H304 := Hid.mk' (H266.out.below b298)
        clear H266
        have H305 := Hid.mk' (H267.out.below b298)
        clear H267
        have H306 := Hid.mk' (H269.out.below b298)
        clear H269
        have Z307 := Hid.mk' (bel_next Z268.out b298)
        clear Z268
        have H308 : Hid (RL w295 a296 c297 Z) := r299
        clear r299
        clear b298
        have l1 := wd_len h1
        have l2 := wd_len h2
        have l3 := wd_len h3
        have m1 : A.length * B.length ≤ 5 * 5 := Nat.mul_le_mul hlA hlB
        have m2 : C.length * B.length ≤ 5 * 5 := Nat.mul_le_mul hlC hlB
        have m3 : A.length * D.length ≤ 5 * 5 := Nat.mul_le_mul hlA hlD
        have f1 := wd_add h1 h2 (by omega) (by omega)
        have f2 := wd_add2 h1 h3 (by omega) (by omega)
        have f3 := wd_one (wd_facts h1).2.1
        have P1 := Hid.mk' f1
        have P2 := Hid.mk' f2
        have P3 := Hid.mk' f3
        clear l1 l2 l3 m1 m2 m3 f1 f2 f3
        go_wp2_with fail
        refine (addI_L H300.out H302.out).mono ?_
        rw [P1.out.1]
        rintro e w309 ⟨a310, c311, rfl, b312, r313⟩
        have H314 := Hid.mk' (H300.out.below b312)
        clear H300
        have H315 := Hid.mk' (H301.out.below b312)
        clear H301
        have H316 := Hid.mk' (H302.out.below b312)
        clear H302
        have H317 := Hid.mk' (H303.out.below b312)
        clear H303
        have H318 := Hid.mk' (H304.out.below b312)
        clear H304
        have H319 := Hid.mk' (H305.out.below b312)
        clear H305
        have H320 := Hid.mk' (H306.out.below b312)
        clear H306
        have H321 := Hid.mk' (H308.out.below b312)
        clear H308
        have Z322 := Hid.mk' (bel_next Z307.out b312)
        clear Z307
        have H323 : Hid (RL w309 a310 c311 (addL A C)) := r313
        clear r313
        clear b312
        go_wp2_with fail
        refine (addI_L H315.out H317.out).mono ?_
        rw [P2.out.1]
        rintro e w324 ⟨a325, c326, rfl, b327, r328⟩
        have H329 := Hid.mk' (H314.out.below b327)
        clear H314
        have H330 := Hid.mk' (H315.out.below b327)
        clear H315
        have H331 := Hid.mk' (H316.out.below b327)
        clear H316
        have H332 := Hid.mk' (H317.out.below b327)
        clear H317
        have H333 := Hid.mk' (H318.out.below b327)
        clear H318
        have H334 := Hid.mk' (H319.out.below b327)
        clear H319
        have H335 := Hid.mk' (H320.out.below b327)
        clear H320
        have H336 := Hid.mk' (H321.out.below b327)
        clear H321
        have H337 := Hid.mk' (H323.out.below b327)
        clear H323
        have Z338 := Hid.mk' (bel_next Z322.out b327)
        clear Z322
        have H339 : Hid (RL w324 a325 c326 (addL B D)) := r328
        clear r328
        clear b327
        go_wp2_with fail
        refine (wdI_L H337.out H330.out).mono ?_
        rw [P1.out.2.2]
        rintro e w340 ⟨a341, c342, rfl, b343, r344⟩
        have H345 := Hid.mk' (H329.out.below b343)
        clear H329
        have H346 := Hid.mk' (H330.out.below b343)
        clear H330
        have H347 := Hid.mk' (H331.out.below b343)
        clear H331
        have H348 := Hid.mk' (H332.out.below b343)
        clear H332
        have H349 := Hid.mk' (H333.out.below b343)
        clear H333
        have H350 := Hid.mk' (H334.out.below b343)
        clear H334
        have H351 := Hid.mk' (H335.out.below b343)
        clear H335
        have H352 := Hid.mk' (H336.out.below b343)
        clear H336
        have H353 := Hid.mk' (H337.out.below b343)
        clear H337
        have H354 := Hid.mk' (H339.out.below b343)
        clear H339
        have Z355 := Hid.mk' (bel_next Z338.out b343)
        clear Z338
        have H356 : Hid (RL w340 a341 c342 (addL X Y)) := r344
        clear r344
        clear b343
        go_wp2_with fail
        refine (wdI_L H345.out H354.out).mono ?_
        rw [P2.out.2.2]
        rintro e w357 ⟨a358, c359, rfl, b360, r361⟩
        have H362 := Hid.mk' (H345.out.below b360)
        clear H345
        have H363 := Hid.mk' (H346.out.below b360)
        clear H346
        have H364 := Hid.mk' (H347.out.below b360)
        clear H347
        have H365 := Hid.mk' (H348.out.below b360)
        clear H348
        have H366 := Hid.mk' (H349.out.below b360)
        clear H349
        have H367 := Hid.mk' (H350.out.below b360)
        clear H350
        have H368 := Hid.mk' (H351.out.below b360)
        clear H351
        have H369 := Hid.mk' (H352.out.below b360)
        clear H352
        have H370 := Hid.mk' (H353.out.below b360)
        clear H353
        have H371 := Hid.mk' (H354.out.below b360)
        clear H354
        have H372 := Hid.mk' (H356.out.below b360)
        clear H356
        have Z373 := Hid.mk' (bel_next Z355.out b360)
        clear Z355
        have H374 : Hid (RL w357 a358 c359 (addL X Z)) := r361
        clear r361
        clear b360
        go_wp2_with fail
        refine (addI_L H366.out H368.out).mono ?_
        rw [P1.out.2.1]
        rintro e w375 ⟨a376, c377, rfl, b378, r379⟩
        have H380 := Hid.mk' (H362.out.below b378)
        clear H362
        have H381 := Hid.mk' (H363.out.below b378)
        clear H363
        have H382 := Hid.mk' (H364.out.below b378)
        clear H364
        have H383 := Hid.mk' (H365.out.below b378)
        clear H365
        have H384 := Hid.mk' (H366.out.below b378)
        clear H366
        have H385 := Hid.mk' (H367.out.below b378)
        clear H367
        have H386 := Hid.mk' (H368.out.below b378)
        clear H368
        have H387 := Hid.mk' (H369.out.below b378)
        clear H369
        have H388 := Hid.mk' (H370.out.below b378)
        clear H370
        have H389 := Hid.mk' (H371.out.below b378)
        clear H371
        have H390 := Hid.mk' (H372.out.below b378)
        clear H372
        have H391 := Hid.mk' (H374.out.below b378)
        clear H374
        have Z392 := Hid.mk' (bel_next Z373.out b378)
        clear Z373
        have H393 : Hid (RL w375 a376 c377 (addL X Y)) := r379
        clear r379
        clear b378
        go_wp2_with fail
        refine (addI_L H384.out H387.out).mono ?_
        rw [P2.out.2.1]
        rintro e w394 ⟨a395, c396, rfl, b397, r398⟩
        have H399 := Hid.mk' (H380.out.below b397)
        clear H380
        have H400 := Hid.mk' (H381.out.below b397)
        clear H381
        have H401 := Hid.mk' (H382.out.below b397)
        clear H382
        have H402 := Hid.mk' (H383.out.below b397)
        clear H383
        have H403 := Hid.mk' (H384.out.below b397)
        clear H384
        have H404 := Hid.mk' (H385.out.below b397)
        clear H385
        have H405 := Hid.mk' (H386.out.below b397)
        clear H386
        have H406 := Hid.mk' (H387.out.below b397)
        clear H387
        have H407 := Hid.mk' (H388.out.below b397)
        clear H388
        have H408 := Hid.mk' (H389.out.below b397)
        clear H389
        have H409 := Hid.mk' (H390.out.below b397)
        clear H390
        have H410 := Hid.mk' (H391.out.below b397)
        clear H391
        have H411 := Hid.mk' (H393.out.below b397)
        clear H393
        have Z412 := Hid.mk' (bel_next Z392.out b397)
        clear Z392
        have H413 : Hid (RL w394 a395 c396 (addL X Z)) := r398
        clear r398
        clear b397
        go_wp2_with fail
        refine (heOne_L _ ).mono ?_
        rintro e w414 ⟨a415, c416, rfl, b417, r418⟩
        have H419 := Hid.mk' (H399.out.below b417)
        clear H399
        have H420 := Hid.mk' (H400.out.below b417)
        clear H400
        have H421 := Hid.mk' (H401.out.below b417)
        clear H401
        have H422 := Hid.mk' (H402.out.below b417)
        clear H402
        have H423 := Hid.mk' (H403.out.below b417)
        clear H403
        have H424 := Hid.mk' (H404.out.below b417)
        clear H404
        have H425 := Hid.mk' (H405.out.below b417)
        clear H405
        have H426 := Hid.mk' (H406.out.below b417)
        clear H406
        have H427 := Hid.mk' (H407.out.below b417)
        clear H407
        have H428 := Hid.mk' (H408.out.below b417)
        clear H408
        have H429 := Hid.mk' (H409.out.below b417)
        clear H409
        have H430 := Hid.mk' (H410.out.below b417)
        clear H410
        have H431 := Hid.mk' (H411.out.below b417)
        clear H411
        have H432 := Hid.mk' (H413.out.below b417)
        clear H413
        have Z433 := Hid.mk' (bel_next Z412.out b417)
        clear Z412
        have H434 : Hid (RL w414 a415 c416 oneL) := r418
        clear r418
        clear b417
        go_wp2_with fail
        refine (wdI_L H434.out H420.out).mono ?_
        rw [P3.out]
        rintro e w435 ⟨a436, c437, rfl, b438, r439⟩
        have H440 := Hid.mk' (H419.out.below b438)
        clear H419
        have H441 := Hid.mk' (H420.out.below b438)
        clear H420
        have H442 := Hid.mk' (H421.out.below b438)
        clear H421
        have H443 := Hid.mk' (H422.out.below b438)
        clear H422
        have H444 := Hid.mk' (H423.out.below b438)
        clear H423
        have H445 := Hid.mk' (H424.out.below b438)
        clear H424
        have H446 := Hid.mk' (H425.out.below b438)
        clear H425
        have H447 := Hid.mk' (H426.out.below b438)
        clear H426
        have H448 := Hid.mk' (H427.out.below b438)
        clear H427
        have H449 := Hid.mk' (H428.out.below b438)
        clear H428
        have H450 := Hid.mk' (H429.out.below b438)
        clear H429
        have H451 := Hid.mk' (H430.out.below b438)
        clear H430
        have H452 := Hid.mk' (H431.out.below b438)
        clear H431
        have H453 := Hid.mk' (H432.out.below b438)
        clear H432
        have H454 := Hid.mk' (H434.out.below b438)
        clear H434
        have Z455 := Hid.mk' (bel_next Z433.out b438)
        clear Z433
        have H456 : Hid (RL w435 a436 c437 B) := r439
        clear r439
        clear b438
        go_wp2_with fail
        refine (he_L H450.out H452.out).mono ?_
        rw [sq_same]
        rintro e w457 ⟨rfl, b458⟩
        have H459 := Hid.mk' (H440.out.below b458)
        clear H440
        have H460 := Hid.mk' (H441.out.below b458)
        clear H441
        have H461 := Hid.mk' (H442.out.below b458)
        clear H442
        have H462 := Hid.mk' (H443.out.below b458)
        clear H443
        have H463 := Hid.mk' (H444.out.below b458)
        clear H444
        have H464 := Hid.mk' (H445.out.below b458)
        clear H445
        have H465 := Hid.mk' (H446.out.below b458)
        clear H446
        have H466 := Hid.mk' (H447.out.below b458)
        clear H447
        have H467 := Hid.mk' (H448.out.below b458)
        clear H448
        have H468 := Hid.mk' (H449.out.below b458)
        clear H449
        have H469 := Hid.mk' (H450.out.below b458)
        clear H450
        have H470 := Hid.mk' (H451.out.below b458)
        clear H451
        have H471 := Hid.mk' (H452.out.below b458)
        clear H452
        have H472 := Hid.mk' (H453.out.below b458)
        clear H453
        have H473 := Hid.mk' (H454.out.below b458)
        clear H454
        have H474 := Hid.mk' (H456.out.below b458)
        clear H456
        have Z475 := Hid.mk' (bel_next Z455.out b458)
        clear Z455
        clear b458
        go_wp2_with fail
        refine (he_L H470.out H472.out).mono ?_
        rw [sq_same]
        rintro e w476 ⟨rfl, b477⟩
        have H478 := Hid.mk' (H459.out.below b477)
        clear H459
        have H479 := Hid.mk' (H460.out.below b477)
        clear H460
        have H480 := Hid.mk' (H461.out.below b477)
        clear H461
        have H481 := Hid.mk' (H462.out.below b477)
        clear H462
        have H482 := Hid.mk' (H463.out.below b477)
        clear H463
        have H483 := Hid.mk' (H464.out.below b477)
        clear H464
        have H484 := Hid.mk' (H465.out.below b477)
        clear H465
        have H485 := Hid.mk' (H466.out.below b477)
        clear H466
        have H486 := Hid.mk' (H467.out.below b477)
        clear H467
        have H487 := Hid.mk' (H468.out.below b477)
        clear H468
        have H488 := Hid.mk' (H469.out.below b477)
        clear H469
        have H489 := Hid.mk' (H470.out.below b477)
        clear H470
        have H490 := Hid.mk' (H471.out.below b477)
        clear H471
        have H491 := Hid.mk' (H472.out.below b477)
        clear H472
        have H492 := Hid.mk' (H473.out.below b477)
        clear H473
        have H493 := Hid.mk' (H474.out.below b477)
        clear H474
        have Z494 := Hid.mk' (bel_next Z475.out b477)
        clear Z475
        clear b477
        go_wp2_with fail
        refine (he_L H493.out H479.out).mono ?_
        rw [sq_same]
        rintro e w495 ⟨rfl, b496⟩
        have H497 := Hid.mk' (H478.out.below b496)
        clear H478
        have H498 := Hid.mk' (H479.out.below b496)
        clear H479
        have H499 := Hid.mk' (H480.out.below b496)
        clear H480
        have H500 := Hid.mk' (H481.out.below b496)
        clear H481
        have H501 := Hid.mk' (H482.out.below b496)
        clear H482
        have H502 := Hid.mk' (H483.out.below b496)
        clear H483
        have H503 := Hid.mk' (H484.out.below b496)
        clear H484
        have H504 := Hid.mk' (H485.out.below b496)
        clear H485
        have H505 := Hid.mk' (H486.out.below b496)
        clear H486
        have H506 := Hid.mk' (H487.out.below b496)
        clear H487
        have H507 := Hid.mk' (H488.out.below b496)
        clear H488
        have H508 := Hid.mk' (H489.out.below b496)
        clear H489
        have H509 := Hid.mk' (H490.out.below b496)
        clear H490
        have H510 := Hid.mk' (H491.out.below b496)
        clear H491
        have H511 := Hid.mk' (H492.out.below b496)
        clear H492
        have H512 := Hid.mk' (H493.out.below b496)
        clear H493
        have Z513 := Hid.mk' (bel_next Z494.out b496)
        clear Z494
        clear b496
        go_wp2_with fail
        refine (heOk_L _ ).mono ?_
        rintro e w514 ⟨rfl, b515⟩
        have H516 := Hid.mk' (H497.out.below b515)
        clear H497
        have H517 := Hid.mk' (H498.out.below b515)
        clear H498
        have H518 := Hid.mk' (H499.out.below b515)
        clear H499
        have H519 := Hid.mk' (H500.out.below b515)
        clear H500
        have H520 := Hid.mk' (H501.out.below b515)
        clear H501
        have H521 := Hid.mk' (H502.out.below b515)
        clear H502
        have H522 := Hid.mk' (H503.out.below b515)
        clear H503
        have H523 := Hid.mk' (H504.out.below b515)
        clear H504
        have H524 := Hid.mk' (H505.out.below b515)
        clear H505
        have H525 := Hid.mk' (H506.out.below b515)
        clear H506
        have H526 := Hid.mk' (H507.out.below b515)
        clear H507
        have H527 := Hid.mk' (H508.out.below b515)
        clear H508
        have H528 := Hid.mk' (H509.out.below b515)
        clear H509
        have H529 := Hid.mk' (H510.out.below b515)
        clear H510
        have H530 := Hid.mk' (H511.out.below b515)
        clear H511
        have H531 := Hid.mk' (H512.out.below b515)
        clear H512
        have Z532 := Hid.mk' (bel_next Z513.out b515)
        clear Z513
        clear b515
        go_wp2
        go_ret
        exact ⟨rfl, Z532.out⟩
end Go.Proofs.Ytnfimnfaejjagaa
