/-
  The walk of FnMapRound: whatever the code, it comes out true, and nothing that was there is turned.
-/
import Derived.Test.YtfcmkkagjkkgjaaGbc
namespace Go.Proofs.Ytfcmkkagjkkgjaa
open Go.RowKit
set_option linter.unusedVariables false
set_option maxRecDepth 100000 in
set_option maxHeartbeats 8000000 in
theorem walk_FnMapRound (w : World) (a0 : Option Addr) (len0 cap0 : Nat) (s0 : Src w a0 len0 cap0) (a1 : Option Addr) (len1 cap1 : Nat) (s1 : Src w a1 len1 cap1) :
    Calls Try.prog 3 #[.slice a0 len0 cap0, .slice a1 len1 cap1] w fun e w' => e = .returned (.bool true) ∧ Below w.heap.size w w' := by
  by_cases c0 : (1048576 : Int) < (len0 : Int)
  · go_enter Try.func3, Try.ntmps3
    go_wp2
    go_ret
    exact ⟨rfl, Below.refl _ _⟩
  by_cases c1 : (1048576 : Int) < (len1 : Int)
  · go_enter Try.func3, Try.ntmps3
    go_wp2
    go_ret
    exact ⟨rfl, Below.refl _ _⟩
  go_enter Try.func3, Try.ntmps3
  go_wp2_with fail
  refine (drawMapRound w a0 len0 cap0 s0).mono ?_
  rintro e wd ⟨da, dca, A, rfl, hA, hlA, hbd⟩
  have HA0 := Hid.mk' hA
  have Z0 := Hid.mk' hbd
  have S1 := Hid.mk' (s1.below hbd)
  clear hA hbd s0 s1
  go_wp2_with fail
  refine (drawMapRound wd a1 len1 cap1 S1.out).mono ?_
  rintro e we ⟨db, dcb, B, rfl, hB, hlB, hbe⟩
  have HB0 := Hid.mk' hB
  clear hB S1
  have H1 := Hid.mk' (HA0.out.below hbe)
  clear HA0
  have Z2 := Hid.mk' (bel_next Z0.out hbe)
  clear Z0
  clear hbe
  rcases rdV_if A with h1 | ⟨X, h1⟩
  · go_wp2_with fail
    refine (rdI_L H1.out).mono ?_
    rw [h1]
    rintro e w3 ⟨a4, c5, rfl, b6, r7⟩
    have H8 := Hid.mk' (H1.out.below b6)
    clear H1
    have H9 := Hid.mk' (HB0.out.below b6)
    clear HB0
    have Z10 := Hid.mk' (bel_next Z2.out b6)
    clear Z2
    have H11 : Hid (RL w3 a4 c5 []) := r7
    clear r7
    clear b6
    go_wp2_with fail
    refine (rdS_L H8.out).mono ?_
    rw [h1]
    rintro e w12 ⟨a13, c14, rfl, b15, r16⟩
    have H17 := Hid.mk' (H8.out.below b15)
    clear H8
    have H18 := Hid.mk' (H9.out.below b15)
    clear H9
    have H19 := Hid.mk' (H11.out.below b15)
    clear H11
    have Z20 := Hid.mk' (bel_next Z10.out b15)
    clear Z10
    have H21 : Hid (RL w12 a13 c14 []) := r16
    clear r16
    clear b15
    go_wp2_with fail
    refine (he_L H19.out H21.out).mono ?_
    rw [sq_same]
    rintro e w22 ⟨rfl, b23⟩
    have H24 := Hid.mk' (H17.out.below b23)
    clear H17
    have H25 := Hid.mk' (H18.out.below b23)
    clear H18
    have H26 := Hid.mk' (H19.out.below b23)
    clear H19
    have H27 := Hid.mk' (H21.out.below b23)
    clear H21
    have Z28 := Hid.mk' (bel_next Z20.out b23)
    clear Z20
    clear b23
    go_wp2_with fail
    refine (heOk_L _ ).mono ?_
    rintro e w29 ⟨rfl, b30⟩
    have H31 := Hid.mk' (H24.out.below b30)
    clear H24
    have H32 := Hid.mk' (H25.out.below b30)
    clear H25
    have H33 := Hid.mk' (H26.out.below b30)
    clear H26
    have H34 := Hid.mk' (H27.out.below b30)
    clear H27
    have Z35 := Hid.mk' (bel_next Z28.out b30)
    clear Z28
    clear b30
    go_wp2
    go_ret
    exact ⟨rfl, Z35.out⟩
  · go_wp2_with fail
    refine (rdI_L H1.out).mono ?_
    rw [h1]
    rintro e w36 ⟨a37, c38, rfl, b39, r40⟩
    have H41 := Hid.mk' (H1.out.below b39)
    clear H1
    have H42 := Hid.mk' (HB0.out.below b39)
    clear HB0
    have Z43 := Hid.mk' (bel_next Z2.out b39)
    clear Z2
    have H44 : Hid (RL w36 a37 c38 X) := r40
    clear r40
    clear b39
    go_wp2_with fail
    refine (rdS_L H41.out).mono ?_
    rw [h1]
    rintro e w45 ⟨a46, c47, rfl, b48, r49⟩
    have H50 := Hid.mk' (H41.out.below b48)
    clear H41
    have H51 := Hid.mk' (H42.out.below b48)
    clear H42
    have H52 := Hid.mk' (H44.out.below b48)
    clear H44
    have Z53 := Hid.mk' (bel_next Z43.out b48)
    clear Z43
    have H54 : Hid (RL w45 a46 c47 X) := r49
    clear r49
    clear b48
    go_wp2_with fail
    refine (he_L H52.out H54.out).mono ?_
    rw [sq_same]
    rintro e w55 ⟨rfl, b56⟩
    have H57 := Hid.mk' (H50.out.below b56)
    clear H50
    have H58 := Hid.mk' (H51.out.below b56)
    clear H51
    have H59 := Hid.mk' (H52.out.below b56)
    clear H52
    have H60 := Hid.mk' (H54.out.below b56)
    clear H54
    have Z61 := Hid.mk' (bel_next Z53.out b56)
    clear Z53
    clear b56
    rcases rdV_if X with k1 | ⟨TW, k1⟩
    · go_wp2_with fail
      refine (rdI_L H59.out).mono ?_
      rw [k1]
      rintro e w62 ⟨a63, c64, rfl, b65, r66⟩
      have H67 := Hid.mk' (H57.out.below b65)
      clear H57
      have H68 := Hid.mk' (H58.out.below b65)
      clear H58
      have H69 := Hid.mk' (H59.out.below b65)
      clear H59
      have H70 := Hid.mk' (H60.out.below b65)
      clear H60
      have Z71 := Hid.mk' (bel_next Z61.out b65)
      clear Z61
      have H72 : Hid (RL w62 a63 c64 []) := r66
      clear r66
      clear b65
      rcases rdV_if B with h2 | ⟨YY, h2⟩
      · go_wp2_with fail
        refine (rdI_L H68.out).mono ?_
        rw [h2]
        rintro e w73 ⟨a74, c75, rfl, b76, r77⟩
        have H78 := Hid.mk' (H67.out.below b76)
        clear H67
        have H79 := Hid.mk' (H68.out.below b76)
        clear H68
        have H80 := Hid.mk' (H69.out.below b76)
        clear H69
        have H81 := Hid.mk' (H70.out.below b76)
        clear H70
        have H82 := Hid.mk' (H72.out.below b76)
        clear H72
        have Z83 := Hid.mk' (bel_next Z71.out b76)
        clear Z71
        have H84 : Hid (RL w73 a74 c75 []) := r77
        clear r77
        clear b76
        rcases wmV_if A B with h3 | ⟨AB, h3⟩
        · go_wp2_with fail
          refine (wmI_L H78.out H79.out).mono ?_
          rw [h3]
          rintro e w85 ⟨a86, c87, rfl, b88, r89⟩
          have H90 := Hid.mk' (H78.out.below b88)
          clear H78
          have H91 := Hid.mk' (H79.out.below b88)
          clear H79
          have H92 := Hid.mk' (H80.out.below b88)
          clear H80
          have H93 := Hid.mk' (H81.out.below b88)
          clear H81
          have H94 := Hid.mk' (H82.out.below b88)
          clear H82
          have H95 := Hid.mk' (H84.out.below b88)
          clear H84
          have Z96 := Hid.mk' (bel_next Z83.out b88)
          clear Z83
          have H97 : Hid (RL w85 a86 c87 []) := r89
          clear r89
          clear b88
          go_wp2_with fail
          refine (heOk_L _ ).mono ?_
          rintro e w98 ⟨rfl, b99⟩
          have H100 := Hid.mk' (H90.out.below b99)
          clear H90
          have H101 := Hid.mk' (H91.out.below b99)
          clear H91
          have H102 := Hid.mk' (H92.out.below b99)
          clear H92
          have H103 := Hid.mk' (H93.out.below b99)
          clear H93
          have H104 := Hid.mk' (H94.out.below b99)
          clear H94
          have H105 := Hid.mk' (H95.out.below b99)
          clear H95
          have H106 := Hid.mk' (H97.out.below b99)
          clear H97
          have Z107 := Hid.mk' (bel_next Z96.out b99)
          clear Z96
          clear b99
          go_wp2
          go_ret
          exact ⟨rfl, Z107.out⟩
        · go_wp2_with fail
          refine (wmI_L H78.out H79.out).mono ?_
          rw [h3]
          rintro e w108 ⟨a109, c110, rfl, b111, r112⟩
          have H113 := Hid.mk' (H78.out.below b111)
          clear H78
          have H114 := Hid.mk' (H79.out.below b111)
          clear H79
          have H115 := Hid.mk' (H80.out.below b111)
          clear H80
          have H116 := Hid.mk' (H81.out.below b111)
          clear H81
          have H117 := Hid.mk' (H82.out.below b111)
          clear H82
          have H118 := Hid.mk' (H84.out.below b111)
          clear H84
          have Z119 := Hid.mk' (bel_next Z83.out b111)
          clear Z83
          have H120 : Hid (RL w108 a109 c110 AB) := r112
          clear r112
          clear b111
          go_wp2_with fail
          refine (heOk_L _ ).mono ?_
          rintro e w121 ⟨rfl, b122⟩
          have H123 := Hid.mk' (H113.out.below b122)
          clear H113
          have H124 := Hid.mk' (H114.out.below b122)
          clear H114
          have H125 := Hid.mk' (H115.out.below b122)
          clear H115
          have H126 := Hid.mk' (H116.out.below b122)
          clear H116
          have H127 := Hid.mk' (H117.out.below b122)
          clear H117
          have H128 := Hid.mk' (H118.out.below b122)
          clear H118
          have H129 := Hid.mk' (H120.out.below b122)
          clear H120
          have Z130 := Hid.mk' (bel_next Z119.out b122)
          clear Z119
          clear b122
          go_wp2
          go_ret
          exact ⟨rfl, Z130.out⟩
      · go_wp2_with fail
        refine (rdI_L H68.out).mono ?_
        rw [h2]
        rintro e w131 ⟨a132, c133, rfl, b134, r135⟩
        have H136 := Hid.mk' (H67.out.below b134)
        clear H67
        have H137 := Hid.mk' (H68.out.below b134)
        clear H68
        have H138 := Hid.mk' (H69.out.below b134)
        clear H69
        have H139 := Hid.mk' (H70.out.below b134)
        clear H70
        have H140 := Hid.mk' (H72.out.below b134)
        clear H72
        have Z141 := Hid.mk' (bel_next Z71.out b134)
        clear Z71
        have H142 : Hid (RL w131 a132 c133 YY) := r135
        clear r135
        clear b134
        rcases wmV_if A B with h3 | ⟨AB, h3⟩
        · go_wp2_with fail
          refine (wmI_L H136.out H137.out).mono ?_
          rw [h3]
          rintro e w143 ⟨a144, c145, rfl, b146, r147⟩
          have H148 := Hid.mk' (H136.out.below b146)
          clear H136
          have H149 := Hid.mk' (H137.out.below b146)
          clear H137
          have H150 := Hid.mk' (H138.out.below b146)
          clear H138
          have H151 := Hid.mk' (H139.out.below b146)
          clear H139
          have H152 := Hid.mk' (H140.out.below b146)
          clear H140
          have H153 := Hid.mk' (H142.out.below b146)
          clear H142
          have Z154 := Hid.mk' (bel_next Z141.out b146)
          clear Z141
          have H155 : Hid (RL w143 a144 c145 []) := r147
          clear r147
          clear b146
          go_wp2_with fail
          refine (heOk_L _ ).mono ?_
          rintro e w156 ⟨rfl, b157⟩
          have H158 := Hid.mk' (H148.out.below b157)
          clear H148
          have H159 := Hid.mk' (H149.out.below b157)
          clear H149
          have H160 := Hid.mk' (H150.out.below b157)
          clear H150
          have H161 := Hid.mk' (H151.out.below b157)
          clear H151
          have H162 := Hid.mk' (H152.out.below b157)
          clear H152
          have H163 := Hid.mk' (H153.out.below b157)
          clear H153
          have H164 := Hid.mk' (H155.out.below b157)
          clear H155
          have Z165 := Hid.mk' (bel_next Z154.out b157)
          clear Z154
          clear b157
          go_wp2
          go_ret
          exact ⟨rfl, Z165.out⟩
        · go_wp2_with fail
          refine (wmI_L H136.out H137.out).mono ?_
          rw [h3]
          rintro e w166 ⟨a167, c168, rfl, b169, r170⟩
          have H171 := Hid.mk' (H136.out.below b169)
          clear H136
          have H172 := Hid.mk' (H137.out.below b169)
          clear H137
          have H173 := Hid.mk' (H138.out.below b169)
          clear H138
          have H174 := Hid.mk' (H139.out.below b169)
          clear H139
          have H175 := Hid.mk' (H140.out.below b169)
          clear H140
          have H176 := Hid.mk' (H142.out.below b169)
          clear H142
          have Z177 := Hid.mk' (bel_next Z141.out b169)
          clear Z141
          have H178 : Hid (RL w166 a167 c168 AB) := r170
          clear r170
          clear b169
          obtain ⟨UU, o4, k4⟩ : ∃ L o, rdV AB = (L, o) := ⟨_, _, rfl⟩
          go_wp2_with fail
          refine (rdI_L H178.out).mono ?_
          rw [k4]
          rintro e w179 ⟨a180, c181, rfl, b182, r183⟩
          have H184 := Hid.mk' (H171.out.below b182)
          clear H171
          have H185 := Hid.mk' (H172.out.below b182)
          clear H172
          have H186 := Hid.mk' (H173.out.below b182)
          clear H173
          have H187 := Hid.mk' (H174.out.below b182)
          clear H174
          have H188 := Hid.mk' (H175.out.below b182)
          clear H175
          have H189 := Hid.mk' (H176.out.below b182)
          clear H176
          have H190 := Hid.mk' (H178.out.below b182)
          clear H178
          have Z191 := Hid.mk' (bel_next Z177.out b182)
          clear Z177
          have H192 : Hid (RL w179 a180 c181 UU) := r183
          clear r183
          clear b182
          obtain ⟨VV, o5, k5⟩ : ∃ L o, wmV X YY = (L, o) := ⟨_, _, rfl⟩
          go_wp2_with fail
          refine (wmI_L H186.out H189.out).mono ?_
          rw [k5]
          rintro e w193 ⟨a194, c195, rfl, b196, r197⟩
          have H198 := Hid.mk' (H184.out.below b196)
          clear H184
          have H199 := Hid.mk' (H185.out.below b196)
          clear H185
          have H200 := Hid.mk' (H186.out.below b196)
          clear H186
          have H201 := Hid.mk' (H187.out.below b196)
          clear H187
          have H202 := Hid.mk' (H188.out.below b196)
          clear H188
          have H203 := Hid.mk' (H189.out.below b196)
          clear H189
          have H204 := Hid.mk' (H190.out.below b196)
          clear H190
          have H205 := Hid.mk' (H192.out.below b196)
          clear H192
          have Z206 := Hid.mk' (bel_next Z191.out b196)
          clear Z191
          have H207 : Hid (RL w193 a194 c195 VV) := r197
          clear r197
          clear b196
          cases o4
          · go_wp2_with fail
            refine (heOk_L _ ).mono ?_
            rintro e w208 ⟨rfl, b209⟩
            have H210 := Hid.mk' (H198.out.below b209)
            clear H198
            have H211 := Hid.mk' (H199.out.below b209)
            clear H199
            have H212 := Hid.mk' (H200.out.below b209)
            clear H200
            have H213 := Hid.mk' (H201.out.below b209)
            clear H201
            have H214 := Hid.mk' (H202.out.below b209)
            clear H202
            have H215 := Hid.mk' (H203.out.below b209)
            clear H203
            have H216 := Hid.mk' (H204.out.below b209)
            clear H204
            have H217 := Hid.mk' (H205.out.below b209)
            clear H205
            have H218 := Hid.mk' (H207.out.below b209)
            clear H207
            have Z219 := Hid.mk' (bel_next Z206.out b209)
            clear Z206
            clear b209
            go_wp2
            go_ret
            exact ⟨rfl, Z219.out⟩
          · cases o5
            · go_wp2_with fail
              refine (heOk_L _ ).mono ?_
              rintro e w220 ⟨rfl, b221⟩
              have H222 := Hid.mk' (H198.out.below b221)
              clear H198
              have H223 := Hid.mk' (H199.out.below b221)
              clear H199
              have H224 := Hid.mk' (H200.out.below b221)
              clear H200
              have H225 := Hid.mk' (H201.out.below b221)
              clear H201
              have H226 := Hid.mk' (H202.out.below b221)
              clear H202
              have H227 := Hid.mk' (H203.out.below b221)
              clear H203
              have H228 := Hid.mk' (H204.out.below b221)
              clear H204
              have H229 := Hid.mk' (H205.out.below b221)
              clear H205
              have H230 := Hid.mk' (H207.out.below b221)
              clear H207
              have Z231 := Hid.mk' (bel_next Z206.out b221)
              clear Z206
              clear b221
              go_wp2
              go_ret
              exact ⟨rfl, Z231.out⟩
            · have e5 : UU = VV := rd_mul h1 h2 h3 k4 k5
              subst e5
              go_wp2_with fail
              refine (he_L H205.out H207.out).mono ?_
              rw [sq_same]
              rintro e w232 ⟨rfl, b233⟩
              have H234 := Hid.mk' (H198.out.below b233)
              clear H198
              have H235 := Hid.mk' (H199.out.below b233)
              clear H199
              have H236 := Hid.mk' (H200.out.below b233)
              clear H200
              have H237 := Hid.mk' (H201.out.below b233)
              clear H201
              have H238 := Hid.mk' (H202.out.below b233)
              clear H202
              have H239 := Hid.mk' (H203.out.below b233)
              clear H203
              have H240 := Hid.mk' (H204.out.below b233)
              clear H204
              have H241 := Hid.mk' (H205.out.below b233)
              clear H205
              have H242 := Hid.mk' (H207.out.below b233)
              clear H207
              have Z243 := Hid.mk' (bel_next Z206.out b233)
              clear Z206
              clear b233
              go_wp2_with fail
              refine (heOk_L _ ).mono ?_
              rintro e w244 ⟨rfl, b245⟩
              have H246 := Hid.mk' (H234.out.below b245)
              clear H234
              have H247 := Hid.mk' (H235.out.below b245)
              clear H235
              have H248 := Hid.mk' (H236.out.below b245)
              clear H236
              have H249 := Hid.mk' (H237.out.below b245)
              clear H237
              have H250 := Hid.mk' (H238.out.below b245)
              clear H238
              have H251 := Hid.mk' (H239.out.below b245)
              clear H239
              have H252 := Hid.mk' (H240.out.below b245)
              clear H240
              have H253 := Hid.mk' (H241.out.below b245)
              clear H241
              have H254 := Hid.mk' (H242.out.below b245)
              clear H242
              have Z255 := Hid.mk' (bel_next Z243.out b245)
              clear Z243
              clear b245
              go_wp2
              go_ret
              exact ⟨rfl, Z255.out⟩
    · go_wp2_with fail
      refine (rdI_L H59.out).mono ?_
      rw [k1]
      rintro e w256 ⟨a257, c258, rfl, b259, r260⟩
      have H261 := Hid.mk' (H57.out.below b259)
      clear H57
      have H262 := Hid.mk' (H58.out.below b259)
      clear H58
      have H263 := Hid.mk' (H59.out.below b259)
      clear H59
      have H264 := Hid.mk' (H60.out.below b259)
      clear H60
      have Z265 := Hid.mk' (bel_next Z61.out b259)
      clear Z61
      have H266 : Hid (RL w256 a257 c258 TW) := r260
      clear r260
      clear b259
      have e1 := rd_twice h1 k1
      subst e1
      go_wp2_with fail
      refine (tuI_L H261.out).mono ?_
      rintro e w267 ⟨a268, c269, rfl, b270, r271⟩
      have H272 := Hid.mk' (H261.out.below b270)
      clear H261
      have H273 := Hid.mk' (H262.out.below b270)
      clear H262
      have H274 := Hid.mk' (H263.out.below b270)
      clear H263
      have H275 := Hid.mk' (H264.out.below b270)
      clear H264
      have H276 := Hid.mk' (H266.out.below b270)
      clear H266
      have Z277 := Hid.mk' (bel_next Z265.out b270)
      clear Z265
      have H278 : Hid (RL w267 a268 c269 (tuV A)) := r271
      clear r271
      clear b270
      go_wp2_with fail
      refine (he_L H276.out H278.out).mono ?_
      rw [sq_same]
      rintro e w279 ⟨rfl, b280⟩
      have H281 := Hid.mk' (H272.out.below b280)
      clear H272
      have H282 := Hid.mk' (H273.out.below b280)
      clear H273
      have H283 := Hid.mk' (H274.out.below b280)
      clear H274
      have H284 := Hid.mk' (H275.out.below b280)
      clear H275
      have H285 := Hid.mk' (H276.out.below b280)
      clear H276
      have H286 := Hid.mk' (H278.out.below b280)
      clear H278
      have Z287 := Hid.mk' (bel_next Z277.out b280)
      clear Z277
      clear b280
      rcases rdV_if B with h2 | ⟨YY, h2⟩
      · go_wp2_with fail
        refine (rdI_L H282.out).mono ?_
        rw [h2]
        rintro e w288 ⟨a289, c290, rfl, b291, r292⟩
        have H293 := Hid.mk' (H281.out.below b291)
        clear H281
        have H294 := Hid.mk' (H282.out.below b291)
        clear H282
        have H295 := Hid.mk' (H283.out.below b291)
        clear H283
        have H296 := Hid.mk' (H284.out.below b291)
        clear H284
        have H297 := Hid.mk' (H285.out.below b291)
        clear H285
        have H298 := Hid.mk' (H286.out.below b291)
        clear H286
        have Z299 := Hid.mk' (bel_next Z287.out b291)
        clear Z287
        have H300 : Hid (RL w288 a289 c290 []) := r292
        clear r292
        clear b291
        rcases wmV_if A B with h3 | ⟨AB, h3⟩
        · go_wp2_with fail
          refine (wmI_L H293.out H294.out).mono ?_
          rw [h3]
          rintro e w301 ⟨a302, c303, rfl, b304, r305⟩
          have H306 := Hid.mk' (H293.out.below b304)
          clear H293
          have H307 := Hid.mk' (H294.out.below b304)
          clear H294
          have H308 := Hid.mk' (H295.out.below b304)
          clear H295
          have H309 := Hid.mk' (H296.out.below b304)
          clear H296
          have H310 := Hid.mk' (H297.out.below b304)
          clear H297
          have H311 := Hid.mk' (H298.out.below b304)
          clear H298
          have H312 := Hid.mk' (H300.out.below b304)
          clear H300
          have Z313 := Hid.mk' (bel_next Z299.out b304)
          clear Z299
          have H314 : Hid (RL w301 a302 c303 []) := r305
          clear r305
          clear b304
          go_wp2_with fail
          refine (heOk_L _ ).mono ?_
          rintro e w315 ⟨rfl, b316⟩
          have H317 := Hid.mk' (H306.out.below b316)
          clear H306
          have H318 := Hid.mk' (H307.out.below b316)
          clear H307
          have H319 := Hid.mk' (H308.out.below b316)
          clear H308
          have H320 := Hid.mk' (H309.out.below b316)
          clear H309
          have H321 := Hid.mk' (H310.out.below b316)
          clear H310
          have H322 := Hid.mk' (H311.out.below b316)
          clear H311
          have H323 := Hid.mk' (H312.out.below b316)
          clear H312
          have H324 := Hid.mk' (H314.out.below b316)
          clear H314
          have Z325 := Hid.mk' (bel_next Z313.out b316)
          clear Z313
          clear b316
          go_wp2
          go_ret
          exact ⟨rfl, Z325.out⟩
        · go_wp2_with fail
          refine (wmI_L H293.out H294.out).mono ?_
          rw [h3]
          rintro e w326 ⟨a327, c328, rfl, b329, r330⟩
          have H331 := Hid.mk' (H293.out.below b329)
          clear H293
          have H332 := Hid.mk' (H294.out.below b329)
          clear H294
          have H333 := Hid.mk' (H295.out.below b329)
          clear H295
          have H334 := Hid.mk' (H296.out.below b329)
          clear H296
          have H335 := Hid.mk' (H297.out.below b329)
          clear H297
          have H336 := Hid.mk' (H298.out.below b329)
          clear H298
          have H337 := Hid.mk' (H300.out.below b329)
          clear H300
          have Z338 := Hid.mk' (bel_next Z299.out b329)
          clear Z299
          have H339 : Hid (RL w326 a327 c328 AB) := r330
          clear r330
          clear b329
          go_wp2_with fail
          refine (heOk_L _ ).mono ?_
          rintro e w340 ⟨rfl, b341⟩
          have H342 := Hid.mk' (H331.out.below b341)
          clear H331
          have H343 := Hid.mk' (H332.out.below b341)
          clear H332
          have H344 := Hid.mk' (H333.out.below b341)
          clear H333
          have H345 := Hid.mk' (H334.out.below b341)
          clear H334
          have H346 := Hid.mk' (H335.out.below b341)
          clear H335
          have H347 := Hid.mk' (H336.out.below b341)
          clear H336
          have H348 := Hid.mk' (H337.out.below b341)
          clear H337
          have H349 := Hid.mk' (H339.out.below b341)
          clear H339
          have Z350 := Hid.mk' (bel_next Z338.out b341)
          clear Z338
          clear b341
          go_wp2
          go_ret
          exact ⟨rfl, Z350.out⟩
      · go_wp2_with fail
        refine (rdI_L H282.out).mono ?_
        rw [h2]
        rintro e w351 ⟨a352, c353, rfl, b354, r355⟩
        have H356 := Hid.mk' (H281.out.below b354)
        clear H281
        have H357 := Hid.mk' (H282.out.below b354)
        clear H282
        have H358 := Hid.mk' (H283.out.below b354)
        clear H283
        have H359 := Hid.mk' (H284.out.below b354)
        clear H284
        have H360 := Hid.mk' (H285.out.below b354)
        clear H285
        have H361 := Hid.mk' (H286.out.below b354)
        clear H286
        have Z362 := Hid.mk' (bel_next Z287.out b354)
        clear Z287
        have H363 : Hid (RL w351 a352 c353 YY) := r355
        clear r355
        clear b354
        rcases wmV_if A B with h3 | ⟨AB, h3⟩
        · go_wp2_with fail
          refine (wmI_L H356.out H357.out).mono ?_
          rw [h3]
          rintro e w364 ⟨a365, c366, rfl, b367, r368⟩
          have H369 := Hid.mk' (H356.out.below b367)
          clear H356
          have H370 := Hid.mk' (H357.out.below b367)
          clear H357
          have H371 := Hid.mk' (H358.out.below b367)
          clear H358
          have H372 := Hid.mk' (H359.out.below b367)
          clear H359
          have H373 := Hid.mk' (H360.out.below b367)
          clear H360
          have H374 := Hid.mk' (H361.out.below b367)
          clear H361
          have H375 := Hid.mk' (H363.out.below b367)
          clear H363
          have Z376 := Hid.mk' (bel_next Z362.out b367)
          clear Z362
          have H377 : Hid (RL w364 a365 c366 []) := r368
          clear r368
          clear b367
          go_wp2_with fail
          refine (heOk_L _ ).mono ?_
          rintro e w378 ⟨rfl, b379⟩
          have H380 := Hid.mk' (H369.out.below b379)
          clear H369
          have H381 := Hid.mk' (H370.out.below b379)
          clear H370
          have H382 := Hid.mk' (H371.out.below b379)
          clear H371
          have H383 := Hid.mk' (H372.out.below b379)
          clear H372
          have H384 := Hid.mk' (H373.out.below b379)
          clear H373
          have H385 := Hid.mk' (H374.out.below b379)
          clear H374
          have H386 := Hid.mk' (H375.out.below b379)
          clear H375
          have H387 := Hid.mk' (H377.out.below b379)
          clear H377
          have Z388 := Hid.mk' (bel_next Z376.out b379)
          clear Z376
          clear b379
          go_wp2
          go_ret
          exact ⟨rfl, Z388.out⟩
        · go_wp2_with fail
          refine (wmI_L H356.out H357.out).mono ?_
          rw [h3]
          rintro e w389 ⟨a390, c391, rfl, b392, r393⟩
          have H394 := Hid.mk' (H356.out.below b392)
          clear H356
          have H395 := Hid.mk' (H357.out.below b392)
          clear H357
          have H396 := Hid.mk' (H358.out.below b392)
          clear H358
          have H397 := Hid.mk' (H359.out.below b392)
          clear H359
          have H398 := Hid.mk' (H360.out.below b392)
          clear H360
          have H399 := Hid.mk' (H361.out.below b392)
          clear H361
          have H400 := Hid.mk' (H363.out.below b392)
          clear H363
          have Z401 := Hid.mk' (bel_next Z362.out b392)
          clear Z362
          have H402 : Hid (RL w389 a390 c391 AB) := r393
          clear r393
          clear b392
          obtain ⟨UU, o4, k4⟩ : ∃ L o, rdV AB = (L, o) := ⟨_, _, rfl⟩
          go_wp2_with fail
          refine (rdI_L H402.out).mono ?_
          rw [k4]
          rintro e w403 ⟨a404, c405, rfl, b406, r407⟩
          have H408 := Hid.mk' (H394.out.below b406)
          clear H394
          have H409 := Hid.mk' (H395.out.below b406)
          clear H395
          have H410 := Hid.mk' (H396.out.below b406)
          clear H396
          have H411 := Hid.mk' (H397.out.below b406)
          clear H397
          have H412 := Hid.mk' (H398.out.below b406)
          clear H398
          have H413 := Hid.mk' (H399.out.below b406)
          clear H399
          have H414 := Hid.mk' (H400.out.below b406)
          clear H400
          have H415 := Hid.mk' (H402.out.below b406)
          clear H402
          have Z416 := Hid.mk' (bel_next Z401.out b406)
          clear Z401
          have H417 : Hid (RL w403 a404 c405 UU) := r407
          clear r407
          clear b406
          obtain ⟨VV, o5, k5⟩ : ∃ L o, wmV X YY = (L, o) := ⟨_, _, rfl⟩
          go_wp2_with fail
          refine (wmI_L H410.out H414.out).mono ?_
          rw [k5]
          rintro e w418 ⟨a419, c420, rfl, b421, r422⟩
          have H423 := Hid.mk' (H408.out.below b421)
          clear H408
          have H424 := Hid.mk' (H409.out.below b421)
          clear H409
          have H425 := Hid.mk' (H410.out.below b421)
          clear H410
          have H426 := Hid.mk' (H411.out.below b421)
          clear H411
          have H427 := Hid.mk' (H412.out.below b421)
          clear H412
          have H428 := Hid.mk' (H413.out.below b421)
          clear H413
          have H429 := Hid.mk' (H414.out.below b421)
          clear H414
          have H430 := Hid.mk' (H415.out.below b421)
          clear H415
          have H431 := Hid.mk' (H417.out.below b421)
          clear H417
          have Z432 := Hid.mk' (bel_next Z416.out b421)
          clear Z416
          have H433 : Hid (RL w418 a419 c420 VV) := r422
          clear r422
          clear b421
          cases o4
          · go_wp2_with fail
            refine (heOk_L _ ).mono ?_
            rintro e w434 ⟨rfl, b435⟩
            have H436 := Hid.mk' (H423.out.below b435)
            clear H423
            have H437 := Hid.mk' (H424.out.below b435)
            clear H424
            have H438 := Hid.mk' (H425.out.below b435)
            clear H425
            have H439 := Hid.mk' (H426.out.below b435)
            clear H426
            have H440 := Hid.mk' (H427.out.below b435)
            clear H427
            have H441 := Hid.mk' (H428.out.below b435)
            clear H428
            have H442 := Hid.mk' (H429.out.below b435)
            clear H429
            have H443 := Hid.mk' (H430.out.below b435)
            clear H430
            have H444 := Hid.mk' (H431.out.below b435)
            clear H431
            have H445 := Hid.mk' (H433.out.below b435)
            clear H433
            have Z446 := Hid.mk' (bel_next Z432.out b435)
            clear Z432
            clear b435
            go_wp2
            go_ret
            exact ⟨rfl, Z446.out⟩
          · cases o5
            · go_wp2_with fail
              refine (heOk_L _ ).mono ?_
              rintro e w447 ⟨rfl, b448⟩
              have H449 := Hid.mk' (H423.out.below b448)
              clear H423
              have H450 := Hid.mk' (H424.out.below b448)
              clear H424
              have H451 := Hid.mk' (H425.out.below b448)
              clear H425
              have H452 := Hid.mk' (H426.out.below b448)
              clear H426
              have H453 := Hid.mk' (H427.out.below b448)
              clear H427
              have H454 := Hid.mk' (H428.out.below b448)
              clear H428
              have H455 := Hid.mk' (H429.out.below b448)
              clear H429
              have H456 := Hid.mk' (H430.out.below b448)
              clear H430
              have H457 := Hid.mk' (H431.out.below b448)
              clear H431
              have H458 := Hid.mk' (H433.out.below b448)
              clear H433
              have Z459 := Hid.mk' (bel_next Z432.out b448)
              clear Z432
              clear b448
              go_wp2
              go_ret
              exact ⟨rfl, Z459.out⟩
            · have e5 : UU = VV := rd_mul h1 h2 h3 k4 k5
              subst e5
              go_wp2_with fail
              refine (he_L H431.out H433.out).mono ?_
              rw [sq_same]
              rintro e w460 ⟨rfl, b461⟩
              have H462 := Hid.mk' (H423.out.below b461)
              clear H423
              have H463 := Hid.mk' (H424.out.below b461)
              clear H424
              have H464 := Hid.mk' (H425.out.below b461)
              clear H425
              have H465 := Hid.mk' (H426.out.below b461)
              clear H426
              have H466 := Hid.mk' (H427.out.below b461)
              clear H427
              have H467 := Hid.mk' (H428.out.below b461)
              clear H428
              have H468 := Hid.mk' (H429.out.below b461)
              clear H429
              have H469 := Hid.mk' (H430.out.below b461)
              clear H430
              have H470 := Hid.mk' (H431.out.below b461)
              clear H431
              have H471 := Hid.mk' (H433.out.below b461)
              clear H433
              have Z472 := Hid.mk' (bel_next Z432.out b461)
              clear Z432
              clear b461
              go_wp2_with fail
              refine (heOk_L _ ).mono ?_
              rintro e w473 ⟨rfl, b474⟩
              have H475 := Hid.mk' (H462.out.below b474)
              clear H462
              have H476 := Hid.mk' (H463.out.below b474)
              clear H463
              have H477 := Hid.mk' (H464.out.below b474)
              clear H464
              have H478 := Hid.mk' (H465.out.below b474)
              clear H465
              have H479 := Hid.mk' (H466.out.below b474)
              clear H466
              have H480 := Hid.mk' (H467.out.below b474)
              clear H467
              have H481 := Hid.mk' (H468.out.below b474)
              clear H468
              have H482 := Hid.mk' (H469.out.below b474)
              clear H469
              have H483 := Hid.mk' (H470.out.below b474)
              clear H470
              have H484 := Hid.mk' (H471.out.below b474)
              clear H471
              have Z485 := Hid.mk' (bel_next Z472.out b474)
              clear Z472
              clear b474
              go_wp2
              go_ret
              exact ⟨rfl, Z485.out⟩
end Go.Proofs.Ytfcmkkagjkkgjaa
