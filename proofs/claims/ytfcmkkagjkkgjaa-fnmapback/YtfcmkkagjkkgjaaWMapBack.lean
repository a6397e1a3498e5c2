/-
  The walk of FnMapBack: whatever the code, it comes out true, and nothing that was there is turned.
-/
import Derived.Test.YtfcmkkagjkkgjaaGbc
namespace Go.Proofs.Ytfcmkkagjkkgjaa
open Go.RowKit
set_option linter.unusedVariables false
set_option maxRecDepth 100000 in
set_option maxHeartbeats 8000000 in
theorem walk_FnMapBack (w : World) (a0 : Option Addr) (len0 cap0 : Nat) (s0 : Src w a0 len0 cap0) (a1 : Option Addr) (len1 cap1 : Nat) (s1 : Src w a1 len1 cap1) :
    Calls Try.prog 4 #[.slice a0 len0 cap0, .slice a1 len1 cap1] w fun e w' => e = .returned (.bool true) ∧ Below w.heap.size w w' := by
  by_cases c0 : (1048576 : Int) < (len0 : Int)
  · go_enter Try.func4, Try.ntmps4
    go_wp2
    go_ret
    exact ⟨rfl, Below.refl _ _⟩
  by_cases c1 : (1048576 : Int) < (len1 : Int)
  · go_enter Try.func4, Try.ntmps4
    go_wp2
    go_ret
    exact ⟨rfl, Below.refl _ _⟩
  go_enter Try.func4, Try.ntmps4
  go_wp2_with fail
  refine (drawMapBack w a0 len0 cap0 s0).mono ?_
  rintro e wd ⟨da, dca, A, rfl, hA, hlA, hbd⟩
  have HA0 := Hid.mk' hA
  have Z0 := Hid.mk' hbd
  have S1 := Hid.mk' (s1.below hbd)
  clear hA hbd s0 s1
  go_wp2_with fail
  refine (drawMapBack wd a1 len1 cap1 S1.out).mono ?_
  rintro e we ⟨db, dcb, B, rfl, hB, hlB, hbe⟩
  have HB0 := Hid.mk' hB
  clear hB S1
  have H1 := Hid.mk' (HA0.out.below hbe)
  clear HA0
  have Z2 := Hid.mk' (bel_next Z0.out hbe)
  clear Z0
  clear hbe
  rcases bkV_if A with h1 | ⟨X, h1⟩
  · go_wp2_with fail
    refine (bkI_L H1.out).mono ?_
    rw [h1]
    rintro e w3 ⟨a4, c5, rfl, b6, r7⟩
    have H8 := Hid.mk' (H1.out.below b6)
    clear H1
    have H9 := Hid.mk' (HB0.out.below b6)
    clear HB0
    have Z10 := Hid.mk' (bel_next Z2.out b6)
    clear Z2
    have H11 : Hid (RL w3 a4 c5 []) := r7
    clear r7
    clear b6
    go_wp2_with fail
    refine (bkS_L H8.out).mono ?_
    rw [h1]
    rintro e w12 ⟨a13, c14, rfl, b15, r16⟩
    have H17 := Hid.mk' (H8.out.below b15)
    clear H8
    have H18 := Hid.mk' (H9.out.below b15)
    clear H9
    have H19 := Hid.mk' (H11.out.below b15)
    clear H11
    have Z20 := Hid.mk' (bel_next Z10.out b15)
    clear Z10
    have H21 : Hid (RL w12 a13 c14 []) := r16
    clear r16
    clear b15
    go_wp2_with fail
    refine (he_L H19.out H21.out).mono ?_
    rw [sq_same]
    rintro e w22 ⟨rfl, b23⟩
    have H24 := Hid.mk' (H17.out.below b23)
    clear H17
    have H25 := Hid.mk' (H18.out.below b23)
    clear H18
    have H26 := Hid.mk' (H19.out.below b23)
    clear H19
    have H27 := Hid.mk' (H21.out.below b23)
    clear H21
    have Z28 := Hid.mk' (bel_next Z20.out b23)
    clear Z20
    clear b23
    go_wp2_with fail
    refine (heOk_L _ ).mono ?_
    rintro e w29 ⟨rfl, b30⟩
    have H31 := Hid.mk' (H24.out.below b30)
    clear H24
    have H32 := Hid.mk' (H25.out.below b30)
    clear H25
    have H33 := Hid.mk' (H26.out.below b30)
    clear H26
    have H34 := Hid.mk' (H27.out.below b30)
    clear H27
    have Z35 := Hid.mk' (bel_next Z28.out b30)
    clear Z28
    clear b30
    go_wp2
    go_ret
    exact ⟨rfl, Z35.out⟩
  · go_wp2_with fail
    refine (bkI_L H1.out).mono ?_
    rw [h1]
    rintro e w36 ⟨a37, c38, rfl, b39, r40⟩
    have H41 := Hid.mk' (H1.out.below b39)
    clear H1
    have H42 := Hid.mk' (HB0.out.below b39)
    clear HB0
    have Z43 := Hid.mk' (bel_next Z2.out b39)
    clear Z2
    have H44 : Hid (RL w36 a37 c38 X) := r40
    clear r40
    clear b39
    go_wp2_with fail
    refine (bkS_L H41.out).mono ?_
    rw [h1]
    rintro e w45 ⟨a46, c47, rfl, b48, r49⟩
    have H50 := Hid.mk' (H41.out.below b48)
    clear H41
    have H51 := Hid.mk' (H42.out.below b48)
    clear H42
    have H52 := Hid.mk' (H44.out.below b48)
    clear H44
    have Z53 := Hid.mk' (bel_next Z43.out b48)
    clear Z43
    have H54 : Hid (RL w45 a46 c47 X) := r49
    clear r49
    clear b48
    go_wp2_with fail
    refine (he_L H52.out H54.out).mono ?_
    rw [sq_same]
    rintro e w55 ⟨rfl, b56⟩
    have H57 := Hid.mk' (H50.out.below b56)
    clear H50
    have H58 := Hid.mk' (H51.out.below b56)
    clear H51
    have H59 := Hid.mk' (H52.out.below b56)
    clear H52
    have H60 := Hid.mk' (H54.out.below b56)
    clear H54
    have Z61 := Hid.mk' (bel_next Z53.out b56)
    clear Z53
    clear b56
    obtain ⟨TW, o1, k1⟩ : ∃ L o, bkV X = (L, o) := ⟨_, _, rfl⟩
    go_wp2_with fail
    refine (bkI_L H59.out).mono ?_
    rw [k1]
    rintro e w62 ⟨a63, c64, rfl, b65, r66⟩
    have H67 := Hid.mk' (H57.out.below b65)
    clear H57
    have H68 := Hid.mk' (H58.out.below b65)
    clear H58
    have H69 := Hid.mk' (H59.out.below b65)
    clear H59
    have H70 := Hid.mk' (H60.out.below b65)
    clear H60
    have Z71 := Hid.mk' (bel_next Z61.out b65)
    clear Z61
    have H72 : Hid (RL w62 a63 c64 TW) := r66
    clear r66
    clear b65
    obtain ⟨YY, o2, h2⟩ : ∃ L o, bkV B = (L, o) := ⟨_, _, rfl⟩
    go_wp2_with fail
    refine (bkI_L H68.out).mono ?_
    rw [h2]
    rintro e w73 ⟨a74, c75, rfl, b76, r77⟩
    have H78 := Hid.mk' (H67.out.below b76)
    clear H67
    have H79 := Hid.mk' (H68.out.below b76)
    clear H68
    have H80 := Hid.mk' (H69.out.below b76)
    clear H69
    have H81 := Hid.mk' (H70.out.below b76)
    clear H70
    have H82 := Hid.mk' (H72.out.below b76)
    clear H72
    have Z83 := Hid.mk' (bel_next Z71.out b76)
    clear Z71
    have H84 : Hid (RL w73 a74 c75 YY) := r77
    clear r77
    clear b76
    obtain ⟨AB, o3, h3⟩ : ∃ L o, wmV A B = (L, o) := ⟨_, _, rfl⟩
    go_wp2_with fail
    refine (wmI_L H78.out H79.out).mono ?_
    rw [h3]
    rintro e w85 ⟨a86, c87, rfl, b88, r89⟩
    have H90 := Hid.mk' (H78.out.below b88)
    clear H78
    have H91 := Hid.mk' (H79.out.below b88)
    clear H79
    have H92 := Hid.mk' (H80.out.below b88)
    clear H80
    have H93 := Hid.mk' (H81.out.below b88)
    clear H81
    have H94 := Hid.mk' (H82.out.below b88)
    clear H82
    have H95 := Hid.mk' (H84.out.below b88)
    clear H84
    have Z96 := Hid.mk' (bel_next Z83.out b88)
    clear Z83
    have H97 : Hid (RL w85 a86 c87 AB) := r89
    clear r89
    clear b88
    cases o1
    · cases o2
      · go_wp2_with fail
        refine (heOk_L _ ).mono ?_
        rintro e w98 ⟨rfl, b99⟩
        have H100 := Hid.mk' (H90.out.below b99)
        clear H90
        have H101 := Hid.mk' (H91.out.below b99)
        clear H91
        have H102 := Hid.mk' (H92.out.below b99)
        clear H92
        have H103 := Hid.mk' (H93.out.below b99)
        clear H93
        have H104 := Hid.mk' (H94.out.below b99)
        clear H94
        have H105 := Hid.mk' (H95.out.below b99)
        clear H95
        have H106 := Hid.mk' (H97.out.below b99)
        clear H97
        have Z107 := Hid.mk' (bel_next Z96.out b99)
        clear Z96
        clear b99
        go_wp2
        go_ret
        exact ⟨rfl, Z107.out⟩
      · cases o3
        · go_wp2_with fail
          refine (heOk_L _ ).mono ?_
          rintro e w108 ⟨rfl, b109⟩
          have H110 := Hid.mk' (H90.out.below b109)
          clear H90
          have H111 := Hid.mk' (H91.out.below b109)
          clear H91
          have H112 := Hid.mk' (H92.out.below b109)
          clear H92
          have H113 := Hid.mk' (H93.out.below b109)
          clear H93
          have H114 := Hid.mk' (H94.out.below b109)
          clear H94
          have H115 := Hid.mk' (H95.out.below b109)
          clear H95
          have H116 := Hid.mk' (H97.out.below b109)
          clear H97
          have Z117 := Hid.mk' (bel_next Z96.out b109)
          clear Z96
          clear b109
          go_wp2
          go_ret
          exact ⟨rfl, Z117.out⟩
        · obtain ⟨UU, o4, k4⟩ : ∃ L o, bkV AB = (L, o) := ⟨_, _, rfl⟩
          go_wp2_with fail
          refine (bkI_L H97.out).mono ?_
          rw [k4]
          rintro e w118 ⟨a119, c120, rfl, b121, r122⟩
          have H123 := Hid.mk' (H90.out.below b121)
          clear H90
          have H124 := Hid.mk' (H91.out.below b121)
          clear H91
          have H125 := Hid.mk' (H92.out.below b121)
          clear H92
          have H126 := Hid.mk' (H93.out.below b121)
          clear H93
          have H127 := Hid.mk' (H94.out.below b121)
          clear H94
          have H128 := Hid.mk' (H95.out.below b121)
          clear H95
          have H129 := Hid.mk' (H97.out.below b121)
          clear H97
          have Z130 := Hid.mk' (bel_next Z96.out b121)
          clear Z96
          have H131 : Hid (RL w118 a119 c120 UU) := r122
          clear r122
          clear b121
          obtain ⟨VV, o5, k5⟩ : ∃ L o, wmV YY X = (L, o) := ⟨_, _, rfl⟩
          go_wp2_with fail
          refine (wmI_L H128.out H125.out).mono ?_
          rw [k5]
          rintro e w132 ⟨a133, c134, rfl, b135, r136⟩
          have H137 := Hid.mk' (H123.out.below b135)
          clear H123
          have H138 := Hid.mk' (H124.out.below b135)
          clear H124
          have H139 := Hid.mk' (H125.out.below b135)
          clear H125
          have H140 := Hid.mk' (H126.out.below b135)
          clear H126
          have H141 := Hid.mk' (H127.out.below b135)
          clear H127
          have H142 := Hid.mk' (H128.out.below b135)
          clear H128
          have H143 := Hid.mk' (H129.out.below b135)
          clear H129
          have H144 := Hid.mk' (H131.out.below b135)
          clear H131
          have Z145 := Hid.mk' (bel_next Z130.out b135)
          clear Z130
          have H146 : Hid (RL w132 a133 c134 VV) := r136
          clear r136
          clear b135
          cases o4
          · go_wp2_with fail
            refine (heOk_L _ ).mono ?_
            rintro e w147 ⟨rfl, b148⟩
            have H149 := Hid.mk' (H137.out.below b148)
            clear H137
            have H150 := Hid.mk' (H138.out.below b148)
            clear H138
            have H151 := Hid.mk' (H139.out.below b148)
            clear H139
            have H152 := Hid.mk' (H140.out.below b148)
            clear H140
            have H153 := Hid.mk' (H141.out.below b148)
            clear H141
            have H154 := Hid.mk' (H142.out.below b148)
            clear H142
            have H155 := Hid.mk' (H143.out.below b148)
            clear H143
            have H156 := Hid.mk' (H144.out.below b148)
            clear H144
            have H157 := Hid.mk' (H146.out.below b148)
            clear H146
            have Z158 := Hid.mk' (bel_next Z145.out b148)
            clear Z145
            clear b148
            go_wp2
            go_ret
            exact ⟨rfl, Z158.out⟩
          · cases o5
            · go_wp2_with fail
              refine (heOk_L _ ).mono ?_
              rintro e w159 ⟨rfl, b160⟩
              have H161 := Hid.mk' (H137.out.below b160)
              clear H137
              have H162 := Hid.mk' (H138.out.below b160)
              clear H138
              have H163 := Hid.mk' (H139.out.below b160)
              clear H139
              have H164 := Hid.mk' (H140.out.below b160)
              clear H140
              have H165 := Hid.mk' (H141.out.below b160)
              clear H141
              have H166 := Hid.mk' (H142.out.below b160)
              clear H142
              have H167 := Hid.mk' (H143.out.below b160)
              clear H143
              have H168 := Hid.mk' (H144.out.below b160)
              clear H144
              have H169 := Hid.mk' (H146.out.below b160)
              clear H146
              have Z170 := Hid.mk' (bel_next Z145.out b160)
              clear Z145
              clear b160
              go_wp2
              go_ret
              exact ⟨rfl, Z170.out⟩
            · have e5 : UU = VV := bk_prod h1 h2 h3 k4 k5
              subst e5
              go_wp2_with fail
              refine (he_L H144.out H146.out).mono ?_
              rw [sq_same]
              rintro e w171 ⟨rfl, b172⟩
              have H173 := Hid.mk' (H137.out.below b172)
              clear H137
              have H174 := Hid.mk' (H138.out.below b172)
              clear H138
              have H175 := Hid.mk' (H139.out.below b172)
              clear H139
              have H176 := Hid.mk' (H140.out.below b172)
              clear H140
              have H177 := Hid.mk' (H141.out.below b172)
              clear H141
              have H178 := Hid.mk' (H142.out.below b172)
              clear H142
              have H179 := Hid.mk' (H143.out.below b172)
              clear H143
              have H180 := Hid.mk' (H144.out.below b172)
              clear H144
              have H181 := Hid.mk' (H146.out.below b172)
              clear H146
              have Z182 := Hid.mk' (bel_next Z145.out b172)
              clear Z145
              clear b172
              go_wp2_with fail
              refine (heOk_L _ ).mono ?_
              rintro e w183 ⟨rfl, b184⟩
              have H185 := Hid.mk' (H173.out.below b184)
              clear H173
              have H186 := Hid.mk' (H174.out.below b184)
              clear H174
              have H187 := Hid.mk' (H175.out.below b184)
              clear H175
              have H188 := Hid.mk' (H176.out.below b184)
              clear H176
              have H189 := Hid.mk' (H177.out.below b184)
              clear H177
              have H190 := Hid.mk' (H178.out.below b184)
              clear H178
              have H191 := Hid.mk' (H179.out.below b184)
              clear H179
              have H192 := Hid.mk' (H180.out.below b184)
              clear H180
              have H193 := Hid.mk' (H181.out.below b184)
              clear H181
              have Z194 := Hid.mk' (bel_next Z182.out b184)
              clear Z182
              clear b184
              go_wp2
              go_ret
              exact ⟨rfl, Z194.out⟩
    · have e1 := bk_twice h1 k1
      subst e1
      go_wp2_with fail
      refine (he_L H94.out H90.out).mono ?_
      rw [sq_same]
      rintro e w195 ⟨rfl, b196⟩
      have H197 := Hid.mk' (H90.out.below b196)
      clear H90
      have H198 := Hid.mk' (H91.out.below b196)
      clear H91
      have H199 := Hid.mk' (H92.out.below b196)
      clear H92
      have H200 := Hid.mk' (H93.out.below b196)
      clear H93
      have H201 := Hid.mk' (H94.out.below b196)
      clear H94
      have H202 := Hid.mk' (H95.out.below b196)
      clear H95
      have H203 := Hid.mk' (H97.out.below b196)
      clear H97
      have Z204 := Hid.mk' (bel_next Z96.out b196)
      clear Z96
      clear b196
      cases o2
      · go_wp2_with fail
        refine (heOk_L _ ).mono ?_
        rintro e w205 ⟨rfl, b206⟩
        have H207 := Hid.mk' (H197.out.below b206)
        clear H197
        have H208 := Hid.mk' (H198.out.below b206)
        clear H198
        have H209 := Hid.mk' (H199.out.below b206)
        clear H199
        have H210 := Hid.mk' (H200.out.below b206)
        clear H200
        have H211 := Hid.mk' (H201.out.below b206)
        clear H201
        have H212 := Hid.mk' (H202.out.below b206)
        clear H202
        have H213 := Hid.mk' (H203.out.below b206)
        clear H203
        have Z214 := Hid.mk' (bel_next Z204.out b206)
        clear Z204
        clear b206
        go_wp2
        go_ret
        exact ⟨rfl, Z214.out⟩
      · cases o3
        · go_wp2_with fail
          refine (heOk_L _ ).mono ?_
          rintro e w215 ⟨rfl, b216⟩
          have H217 := Hid.mk' (H197.out.below b216)
          clear H197
          have H218 := Hid.mk' (H198.out.below b216)
          clear H198
          have H219 := Hid.mk' (H199.out.below b216)
          clear H199
          have H220 := Hid.mk' (H200.out.below b216)
          clear H200
          have H221 := Hid.mk' (H201.out.below b216)
          clear H201
          have H222 := Hid.mk' (H202.out.below b216)
          clear H202
          have H223 := Hid.mk' (H203.out.below b216)
          clear H203
          have Z224 := Hid.mk' (bel_next Z204.out b216)
          clear Z204
          clear b216
          go_wp2
          go_ret
          exact ⟨rfl, Z224.out⟩
        · obtain ⟨UU, o4, k4⟩ : ∃ L o, bkV AB = (L, o) := ⟨_, _, rfl⟩
          go_wp2_with fail
          refine (bkI_L H203.out).mono ?_
          rw [k4]
          rintro e w225 ⟨a226, c227, rfl, b228, r229⟩
          have H230 := Hid.mk' (H197.out.below b228)
          clear H197
          have H231 := Hid.mk' (H198.out.below b228)
          clear H198
          have H232 := Hid.mk' (H199.out.below b228)
          clear H199
          have H233 := Hid.mk' (H200.out.below b228)
          clear H200
          have H234 := Hid.mk' (H201.out.below b228)
          clear H201
          have H235 := Hid.mk' (H202.out.below b228)
          clear H202
          have H236 := Hid.mk' (H203.out.below b228)
          clear H203
          have Z237 := Hid.mk' (bel_next Z204.out b228)
          clear Z204
          have H238 : Hid (RL w225 a226 c227 UU) := r229
          clear r229
          clear b228
          obtain ⟨VV, o5, k5⟩ : ∃ L o, wmV YY X = (L, o) := ⟨_, _, rfl⟩
          go_wp2_with fail
          refine (wmI_L H235.out H232.out).mono ?_
          rw [k5]
          rintro e w239 ⟨a240, c241, rfl, b242, r243⟩
          have H244 := Hid.mk' (H230.out.below b242)
          clear H230
          have H245 := Hid.mk' (H231.out.below b242)
          clear H231
          have H246 := Hid.mk' (H232.out.below b242)
          clear H232
          have H247 := Hid.mk' (H233.out.below b242)
          clear H233
          have H248 := Hid.mk' (H234.out.below b242)
          clear H234
          have H249 := Hid.mk' (H235.out.below b242)
          clear H235
          have H250 := Hid.mk' (H236.out.below b242)
          clear H236
          have H251 := Hid.mk' (H238.out.below b242)
          clear H238
          have Z252 := Hid.mk' (bel_next Z237.out b242)
          clear Z237
          have H253 : Hid (RL w239 a240 c241 VV) := r243
          clear r243
          clear b242
          cases o4
          · go_wp2_with fail
            refine (heOk_L _ ).mono ?_
            rintro e w254 ⟨rfl, b255⟩
            have H256 := Hid.mk' (H244.out.below b255)
            clear H244
            have H257 := Hid.mk' (H245.out.below b255)
            clear H245
            have H258 := Hid.mk' (H246.out.below b255)
            clear H246
            have H259 := Hid.mk' (H247.out.below b255)
            clear H247
            have H260 := Hid.mk' (H248.out.below b255)
            clear H248
            have H261 := Hid.mk' (H249.out.below b255)
            clear H249
            have H262 := Hid.mk' (H250.out.below b255)
            clear H250
            have H263 := Hid.mk' (H251.out.below b255)
            clear H251
            have H264 := Hid.mk' (H253.out.below b255)
            clear H253
            have Z265 := Hid.mk' (bel_next Z252.out b255)
            clear Z252
            clear b255
            go_wp2
            go_ret
            exact ⟨rfl, Z265.out⟩
          · cases o5
            · go_wp2_with fail
              refine (heOk_L _ ).mono ?_
              rintro e w266 ⟨rfl, b267⟩
              have H268 := Hid.mk' (H244.out.below b267)
              clear H244
              have H269 := Hid.mk' (H245.out.below b267)
              clear H245
              have H270 := Hid.mk' (H246.out.below b267)
              clear H246
              have H271 := Hid.mk' (H247.out.below b267)
              clear H247
              have H272 := Hid.mk' (H248.out.below b267)
              clear H248
              have H273 := Hid.mk' (H249.out.below b267)
              clear H249
              have H274 := Hid.mk' (H250.out.below b267)
              clear H250
              have H275 := Hid.mk' (H251.out.below b267)
              clear H251
              have H276 := Hid.mk' (H253.out.below b267)
              clear H253
              have Z277 := Hid.mk' (bel_next Z252.out b267)
              clear Z252
              clear b267
              go_wp2
              go_ret
              exact ⟨rfl, Z277.out⟩
            · have e5 : UU = VV := bk_prod h1 h2 h3 k4 k5
              subst e5
              go_wp2_with fail
              refine (he_L H251.out H253.out).mono ?_
              rw [sq_same]
              rintro e w278 ⟨rfl, b279⟩
              have H280 := Hid.mk' (H244.out.below b279)
              clear H244
              have H281 := Hid.mk' (H245.out.below b279)
              clear H245
              have H282 := Hid.mk' (H246.out.below b279)
              clear H246
              have H283 := Hid.mk' (H247.out.below b279)
              clear H247
              have H284 := Hid.mk' (H248.out.below b279)
              clear H248
              have H285 := Hid.mk' (H249.out.below b279)
              clear H249
              have H286 := Hid.mk' (H250.out.below b279)
              clear H250
              have H287 := Hid.mk' (H251.out.below b279)
              clear H251
              have H288 := Hid.mk' (H253.out.below b279)
              clear H253
              have Z289 := Hid.mk' (bel_next Z252.out b279)
              clear Z252
              clear b279
              go_wp2_with fail
              refine (heOk_L _ ).mono ?_
              rintro e w290 ⟨rfl, b291⟩
              have H292 := Hid.mk' (H280.out.below b291)
              clear H280
              have H293 := Hid.mk' (H281.out.below b291)
              clear H281
              have H294 := Hid.mk' (H282.out.below b291)
              clear H282
              have H295 := Hid.mk' (H283.out.below b291)
              clear H283
              have H296 := Hid.mk' (H284.out.below b291)
              clear H284
              have H297 := Hid.mk' (H285.out.below b291)
              clear H285
              have H298 := Hid.mk' (H286.out.below b291)
              clear H286
              have H299 := Hid.mk' (H287.out.below b291)
              clear H287
              have H300 := Hid.mk' (H288.out.below b291)
              clear H288
              have Z301 := Hid.mk' (bel_next Z289.out b291)
              clear Z289
              clear b291
              go_wp2
              go_ret
              exact ⟨rfl, Z301.out⟩
end Go.Proofs.Ytfcmkkagjkkgjaa
