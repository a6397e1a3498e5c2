/-
  The walk of FnMapMeet: whatever the code, it comes out true, and nothing that was there is turned.
-/
import Derived.Test.YtfcmkkagjkkgjaaGbc
import Derived.Test.YtfcmkkagjkkgjaaRepN2
namespace Go.Proofs.Ytfcmkkagjkkgjaa
open Go.RowKit
set_option linter.unusedVariables false
set_option maxRecDepth 100000 in
set_option maxHeartbeats 8000000 in
theorem walk_FnMapMeet (w : World) (a0 : Option Addr) (len0 cap0 : Nat) (s0 : Src w a0 len0 cap0) :
    Calls Try.prog 7 #[.slice a0 len0 cap0] w fun e w' => e = .returned (.bool true) ∧ Below w.heap.size w w' := by
  by_cases c0 : (1048576 : Int) < (len0 : Int)
  · go_enter Try.func7, Try.ntmps7
    go_wp2
    go_ret
    exact ⟨rfl, Below.refl _ _⟩
  go_enter Try.func7, Try.ntmps7
  go_wp2_with fail
  refine (drawMapRound w a0 len0 cap0 s0).mono ?_
  rintro e wd ⟨da, dca, A, rfl, hA, hlA, hbd⟩
  have HA0 := Hid.mk' hA
  have Z0 := Hid.mk' hbd
  clear hA hbd s0
  obtain ⟨X, o1, h1⟩ : ∃ L o, rdV A = (L, o) := ⟨_, _, rfl⟩
  go_wp2_with fail
  refine (rdI_L HA0.out).mono ?_
  rw [h1]
  rintro e w1 ⟨a2, c3, rfl, b4, r5⟩
  have H6 := Hid.mk' (HA0.out.below b4)
  clear HA0
  have Z7 := Hid.mk' (bel_next Z0.out b4)
  clear Z0
  have H8 : Hid (RL w1 a2 c3 X) := r5
  clear r5
  clear b4
  go_wp2_with fail
  refine (rdS_L H6.out).mono ?_
  rw [h1]
  rintro e w9 ⟨a10, c11, rfl, b12, r13⟩
  have H14 := Hid.mk' (H6.out.below b12)
  clear H6
  have H15 := Hid.mk' (H8.out.below b12)
  clear H8
  have Z16 := Hid.mk' (bel_next Z7.out b12)
  clear Z7
  have H17 : Hid (RL w9 a10 c11 X) := r13
  clear r13
  clear b12
  have hoo : (o1 != o1) = false := by cases o1 <;> rfl
  go_wp2_with fail
  refine (he_L H15.out H17.out).mono ?_
  rw [sq_same]
  rintro e w18 ⟨rfl, b19⟩
  have H20 := Hid.mk' (H14.out.below b19)
  clear H14
  have H21 := Hid.mk' (H15.out.below b19)
  clear H15
  have H22 := Hid.mk' (H17.out.below b19)
  clear H17
  have Z23 := Hid.mk' (bel_next Z16.out b19)
  clear Z16
  clear b19
  go_wp2_with fail
  refine (swI_L H20.out).mono ?_
  rintro e w24 ⟨a25, c26, rfl, b27, r28⟩
  have H29 := Hid.mk' (H20.out.below b27)
  clear H20
  have H30 := Hid.mk' (H21.out.below b27)
  clear H21
  have H31 := Hid.mk' (H22.out.below b27)
  clear H22
  have Z32 := Hid.mk' (bel_next Z23.out b27)
  clear Z23
  have H33 : Hid (RL w24 a25 c26 (swV A)) := r28
  clear r28
  clear b27
  obtain ⟨Y, o2, h2⟩ : ∃ L o, rdV (swV A) = (L, o) := ⟨_, _, rfl⟩
  go_wp2_with fail
  refine (rdI_L H33.out).mono ?_
  rw [h2]
  rintro e w34 ⟨a35, c36, rfl, b37, r38⟩
  have H39 := Hid.mk' (H29.out.below b37)
  clear H29
  have H40 := Hid.mk' (H30.out.below b37)
  clear H30
  have H41 := Hid.mk' (H31.out.below b37)
  clear H31
  have H42 := Hid.mk' (H33.out.below b37)
  clear H33
  have Z43 := Hid.mk' (bel_next Z32.out b37)
  clear Z32
  have H44 : Hid (RL w34 a35 c36 Y) := r38
  clear r38
  clear b37
  obtain ⟨B, o3, h3⟩ : ∃ L o, bkV A = (L, o) := ⟨_, _, rfl⟩
  go_wp2_with fail
  refine (bkI_L H39.out).mono ?_
  rw [h3]
  rintro e w45 ⟨a46, c47, rfl, b48, r49⟩
  have H50 := Hid.mk' (H39.out.below b48)
  clear H39
  have H51 := Hid.mk' (H40.out.below b48)
  clear H40
  have H52 := Hid.mk' (H41.out.below b48)
  clear H41
  have H53 := Hid.mk' (H42.out.below b48)
  clear H42
  have H54 := Hid.mk' (H44.out.below b48)
  clear H44
  have Z55 := Hid.mk' (bel_next Z43.out b48)
  clear Z43
  have H56 : Hid (RL w45 a46 c47 B) := r49
  clear r49
  clear b48
  go_wp2_with fail
  refine (tuI_L H50.out).mono ?_
  rintro e w57 ⟨a58, c59, rfl, b60, r61⟩
  have H62 := Hid.mk' (H50.out.below b60)
  clear H50
  have H63 := Hid.mk' (H51.out.below b60)
  clear H51
  have H64 := Hid.mk' (H52.out.below b60)
  clear H52
  have H65 := Hid.mk' (H53.out.below b60)
  clear H53
  have H66 := Hid.mk' (H54.out.below b60)
  clear H54
  have H67 := Hid.mk' (H56.out.below b60)
  clear H56
  have Z68 := Hid.mk' (bel_next Z55.out b60)
  clear Z55
  have H69 : Hid (RL w57 a58 c59 (tuV A)) := r61
  clear r61
  clear b60
  obtain ⟨C, o4, h4⟩ : ∃ L o, bkV (tuV A) = (L, o) := ⟨_, _, rfl⟩
  go_wp2_with fail
  refine (bkI_L H69.out).mono ?_
  rw [h4]
  rintro e w70 ⟨a71, c72, rfl, b73, r74⟩
  have H75 := Hid.mk' (H62.out.below b73)
  clear H62
  have H76 := Hid.mk' (H63.out.below b73)
  clear H63
  have H77 := Hid.mk' (H64.out.below b73)
  clear H64
  have H78 := Hid.mk' (H65.out.below b73)
  clear H65
  have H79 := Hid.mk' (H66.out.below b73)
  clear H66
  have H80 := Hid.mk' (H67.out.below b73)
  clear H67
  have H81 := Hid.mk' (H69.out.below b73)
  clear H69
  have Z82 := Hid.mk' (bel_next Z68.out b73)
  clear Z68
  have H83 : Hid (RL w70 a71 c72 C) := r74
  clear r74
  clear b73
  cases o1
  · cases oA : okL A
    · go_wp2_with fail
      refine (okS_L H75.out).mono ?_
      rw [oA]
      rintro e w84 ⟨rfl, b85⟩
      have H86 := Hid.mk' (H75.out.below b85)
      clear H75
      have H87 := Hid.mk' (H76.out.below b85)
      clear H76
      have H88 := Hid.mk' (H77.out.below b85)
      clear H77
      have H89 := Hid.mk' (H78.out.below b85)
      clear H78
      have H90 := Hid.mk' (H79.out.below b85)
      clear H79
      have H91 := Hid.mk' (H80.out.below b85)
      clear H80
      have H92 := Hid.mk' (H81.out.below b85)
      clear H81
      have H93 := Hid.mk' (H83.out.below b85)
      clear H83
      have Z94 := Hid.mk' (bel_next Z82.out b85)
      clear Z82
      clear b85
      go_wp2_with fail
      refine (heOk_L _ ).mono ?_
      rintro e w95 ⟨rfl, b96⟩
      have H97 := Hid.mk' (H86.out.below b96)
      clear H86
      have H98 := Hid.mk' (H87.out.below b96)
      clear H87
      have H99 := Hid.mk' (H88.out.below b96)
      clear H88
      have H100 := Hid.mk' (H89.out.below b96)
      clear H89
      have H101 := Hid.mk' (H90.out.below b96)
      clear H90
      have H102 := Hid.mk' (H91.out.below b96)
      clear H91
      have H103 := Hid.mk' (H92.out.below b96)
      clear H92
      have H104 := Hid.mk' (H93.out.below b96)
      clear H93
      have Z105 := Hid.mk' (bel_next Z94.out b96)
      clear Z94
      clear b96
      go_wp2
      go_ret
      exact ⟨rfl, Z105.out⟩
    · have hpos : 0 < A.length := by
        rcases Nat.eq_zero_or_pos A.length with h | h
        · exfalso
          have e := List.length_eq_zero_iff.1 h
          rw [e] at h1 h2 h3 h4
          first | exact meet_nil1 h1 | exact meet_nil2 h2 | exact meet_nil3 h3 | exact meet_nil4 h4
        · exact h
      have hpos2 : (0 : Int) < (A.length : Int) := by omega
      go_wp2_with fail
      refine (okS_L H75.out).mono ?_
      rw [oA]
      rintro e w106 ⟨rfl, b107⟩
      have H108 := Hid.mk' (H75.out.below b107)
      clear H75
      have H109 := Hid.mk' (H76.out.below b107)
      clear H76
      have H110 := Hid.mk' (H77.out.below b107)
      clear H77
      have H111 := Hid.mk' (H78.out.below b107)
      clear H78
      have H112 := Hid.mk' (H79.out.below b107)
      clear H79
      have H113 := Hid.mk' (H80.out.below b107)
      clear H80
      have H114 := Hid.mk' (H81.out.below b107)
      clear H81
      have H115 := Hid.mk' (H83.out.below b107)
      clear H83
      have Z116 := Hid.mk' (bel_next Z82.out b107)
      clear Z82
      clear b107
      go_wp2
      go_ret
      exact ⟨rfl, Z116.out⟩
  · cases o2
    · cases oA : okL A
      · go_wp2_with fail
        refine (okS_L H75.out).mono ?_
        rw [oA]
        rintro e w117 ⟨rfl, b118⟩
        have H119 := Hid.mk' (H75.out.below b118)
        clear H75
        have H120 := Hid.mk' (H76.out.below b118)
        clear H76
        have H121 := Hid.mk' (H77.out.below b118)
        clear H77
        have H122 := Hid.mk' (H78.out.below b118)
        clear H78
        have H123 := Hid.mk' (H79.out.below b118)
        clear H79
        have H124 := Hid.mk' (H80.out.below b118)
        clear H80
        have H125 := Hid.mk' (H81.out.below b118)
        clear H81
        have H126 := Hid.mk' (H83.out.below b118)
        clear H83
        have Z127 := Hid.mk' (bel_next Z82.out b118)
        clear Z82
        clear b118
        go_wp2_with fail
        refine (heOk_L _ ).mono ?_
        rintro e w128 ⟨rfl, b129⟩
        have H130 := Hid.mk' (H119.out.below b129)
        clear H119
        have H131 := Hid.mk' (H120.out.below b129)
        clear H120
        have H132 := Hid.mk' (H121.out.below b129)
        clear H121
        have H133 := Hid.mk' (H122.out.below b129)
        clear H122
        have H134 := Hid.mk' (H123.out.below b129)
        clear H123
        have H135 := Hid.mk' (H124.out.below b129)
        clear H124
        have H136 := Hid.mk' (H125.out.below b129)
        clear H125
        have H137 := Hid.mk' (H126.out.below b129)
        clear H126
        have Z138 := Hid.mk' (bel_next Z127.out b129)
        clear Z127
        clear b129
        go_wp2
        go_ret
        exact ⟨rfl, Z138.out⟩
      · have hpos : 0 < A.length := by
          rcases Nat.eq_zero_or_pos A.length with h | h
          · exfalso
            have e := List.length_eq_zero_iff.1 h
            rw [e] at h1 h2 h3 h4
            first | exact meet_nil1 h1 | exact meet_nil2 h2 | exact meet_nil3 h3 | exact meet_nil4 h4
          · exact h
        have hpos2 : (0 : Int) < (A.length : Int) := by omega
        go_wp2_with fail
        refine (okS_L H75.out).mono ?_
        rw [oA]
        rintro e w139 ⟨rfl, b140⟩
        have H141 := Hid.mk' (H75.out.below b140)
        clear H75
        have H142 := Hid.mk' (H76.out.below b140)
        clear H76
        have H143 := Hid.mk' (H77.out.below b140)
        clear H77
        have H144 := Hid.mk' (H78.out.below b140)
        clear H78
        have H145 := Hid.mk' (H79.out.below b140)
        clear H79
        have H146 := Hid.mk' (H80.out.below b140)
        clear H80
        have H147 := Hid.mk' (H81.out.below b140)
        clear H81
        have H148 := Hid.mk' (H83.out.below b140)
        clear H83
        have Z149 := Hid.mk' (bel_next Z82.out b140)
        clear Z82
        clear b140
        go_wp2
        go_ret
        exact ⟨rfl, Z149.out⟩
    · cases o3
      · cases oA : okL A
        · go_wp2_with fail
          refine (okS_L H75.out).mono ?_
          rw [oA]
          rintro e w150 ⟨rfl, b151⟩
          have H152 := Hid.mk' (H75.out.below b151)
          clear H75
          have H153 := Hid.mk' (H76.out.below b151)
          clear H76
          have H154 := Hid.mk' (H77.out.below b151)
          clear H77
          have H155 := Hid.mk' (H78.out.below b151)
          clear H78
          have H156 := Hid.mk' (H79.out.below b151)
          clear H79
          have H157 := Hid.mk' (H80.out.below b151)
          clear H80
          have H158 := Hid.mk' (H81.out.below b151)
          clear H81
          have H159 := Hid.mk' (H83.out.below b151)
          clear H83
          have Z160 := Hid.mk' (bel_next Z82.out b151)
          clear Z82
          clear b151
          go_wp2_with fail
          refine (heOk_L _ ).mono ?_
          rintro e w161 ⟨rfl, b162⟩
          have H163 := Hid.mk' (H152.out.below b162)
          clear H152
          have H164 := Hid.mk' (H153.out.below b162)
          clear H153
          have H165 := Hid.mk' (H154.out.below b162)
          clear H154
          have H166 := Hid.mk' (H155.out.below b162)
          clear H155
          have H167 := Hid.mk' (H156.out.below b162)
          clear H156
          have H168 := Hid.mk' (H157.out.below b162)
          clear H157
          have H169 := Hid.mk' (H158.out.below b162)
          clear H158
          have H170 := Hid.mk' (H159.out.below b162)
          clear H159
          have Z171 := Hid.mk' (bel_next Z160.out b162)
          clear Z160
          clear b162
          go_wp2
          go_ret
          exact ⟨rfl, Z171.out⟩
        · have hpos : 0 < A.length := by
            rcases Nat.eq_zero_or_pos A.length with h | h
            · exfalso
              have e := List.length_eq_zero_iff.1 h
              rw [e] at h1 h2 h3 h4
              first | exact meet_nil1 h1 | exact meet_nil2 h2 | exact meet_nil3 h3 | exact meet_nil4 h4
            · exact h
          have hpos2 : (0 : Int) < (A.length : Int) := by omega
          go_wp2_with fail
          refine (okS_L H75.out).mono ?_
          rw [oA]
          rintro e w172 ⟨rfl, b173⟩
          have H174 := Hid.mk' (H75.out.below b173)
          clear H75
          have H175 := Hid.mk' (H76.out.below b173)
          clear H76
          have H176 := Hid.mk' (H77.out.below b173)
          clear H77
          have H177 := Hid.mk' (H78.out.below b173)
          clear H78
          have H178 := Hid.mk' (H79.out.below b173)
          clear H79
          have H179 := Hid.mk' (H80.out.below b173)
          clear H80
          have H180 := Hid.mk' (H81.out.below b173)
          clear H81
          have H181 := Hid.mk' (H83.out.below b173)
          clear H83
          have Z182 := Hid.mk' (bel_next Z82.out b173)
          clear Z82
          clear b173
          go_wp2
          go_ret
          exact ⟨rfl, Z182.out⟩
      · cases o4
        · cases oA : okL A
          · go_wp2_with fail
            refine (okS_L H75.out).mono ?_
            rw [oA]
            rintro e w183 ⟨rfl, b184⟩
            have H185 := Hid.mk' (H75.out.below b184)
            clear H75
            have H186 := Hid.mk' (H76.out.below b184)
            clear H76
            have H187 := Hid.mk' (H77.out.below b184)
            clear H77
            have H188 := Hid.mk' (H78.out.below b184)
            clear H78
            have H189 := Hid.mk' (H79.out.below b184)
            clear H79
            have H190 := Hid.mk' (H80.out.below b184)
            clear H80
            have H191 := Hid.mk' (H81.out.below b184)
            clear H81
            have H192 := Hid.mk' (H83.out.below b184)
            clear H83
            have Z193 := Hid.mk' (bel_next Z82.out b184)
            clear Z82
            clear b184
            go_wp2_with fail
            refine (heOk_L _ ).mono ?_
            rintro e w194 ⟨rfl, b195⟩
            have H196 := Hid.mk' (H185.out.below b195)
            clear H185
            have H197 := Hid.mk' (H186.out.below b195)
            clear H186
            have H198 := Hid.mk' (H187.out.below b195)
            clear H187
            have H199 := Hid.mk' (H188.out.below b195)
            clear H188
            have H200 := Hid.mk' (H189.out.below b195)
            clear H189
            have H201 := Hid.mk' (H190.out.below b195)
            clear H190
            have H202 := Hid.mk' (H191.out.below b195)
            clear H191
            have H203 := Hid.mk' (H192.out.below b195)
            clear H192
            have Z204 := Hid.mk' (bel_next Z193.out b195)
            clear Z193
            clear b195
            go_wp2
            go_ret
            exact ⟨rfl, Z204.out⟩
          · have hpos : 0 < A.length := by
              rcases Nat.eq_zero_or_pos A.length with h | h
              · exfalso
                have e := List.length_eq_zero_iff.1 h
                rw [e] at h1 h2 h3 h4
                first | exact meet_nil1 h1 | exact meet_nil2 h2 | exact meet_nil3 h3 | exact meet_nil4 h4
              · exact h
            have hpos2 : (0 : Int) < (A.length : Int) := by omega
            go_wp2_with fail
            refine (okS_L H75.out).mono ?_
            rw [oA]
            rintro e w205 ⟨rfl, b206⟩
            have H207 := Hid.mk' (H75.out.below b206)
            clear H75
            have H208 := Hid.mk' (H76.out.below b206)
            clear H76
            have H209 := Hid.mk' (H77.out.below b206)
            clear H77
            have H210 := Hid.mk' (H78.out.below b206)
            clear H78
            have H211 := Hid.mk' (H79.out.below b206)
            clear H79
            have H212 := Hid.mk' (H80.out.below b206)
            clear H80
            have H213 := Hid.mk' (H81.out.below b206)
            clear H81
            have H214 := Hid.mk' (H83.out.below b206)
            clear H83
            have Z215 := Hid.mk' (bel_next Z82.out b206)
            clear Z82
            clear b206
            go_wp2
            go_ret
            exact ⟨rfl, Z215.out⟩
        · have oA := (rd_facts h1).1
          have e1 := sw_rd oA h1 h2
          have e2 := tu_bk oA h3 h4
          have e3 := rd_tu h1
          have P1 := Hid.mk' e1
          have P2 := Hid.mk' e2
          have P3 := Hid.mk' e3
          clear e1 e2 e3
          go_wp2_with fail
          refine (tuI_L H75.out).mono ?_
          rintro e w216 ⟨a217, c218, rfl, b219, r220⟩
          have H221 := Hid.mk' (H75.out.below b219)
          clear H75
          have H222 := Hid.mk' (H76.out.below b219)
          clear H76
          have H223 := Hid.mk' (H77.out.below b219)
          clear H77
          have H224 := Hid.mk' (H78.out.below b219)
          clear H78
          have H225 := Hid.mk' (H79.out.below b219)
          clear H79
          have H226 := Hid.mk' (H80.out.below b219)
          clear H80
          have H227 := Hid.mk' (H81.out.below b219)
          clear H81
          have H228 := Hid.mk' (H83.out.below b219)
          clear H83
          have Z229 := Hid.mk' (bel_next Z82.out b219)
          clear Z82
          have H230 : Hid (RL w216 a217 c218 (tuV A)) := r220
          clear r220
          clear b219
          go_wp2_with fail
          refine (rdI_L H230.out).mono ?_
          rw [P3.out]
          rintro e w231 ⟨a232, c233, rfl, b234, r235⟩
          have H236 := Hid.mk' (H221.out.below b234)
          clear H221
          have H237 := Hid.mk' (H222.out.below b234)
          clear H222
          have H238 := Hid.mk' (H223.out.below b234)
          clear H223
          have H239 := Hid.mk' (H224.out.below b234)
          clear H224
          have H240 := Hid.mk' (H225.out.below b234)
          clear H225
          have H241 := Hid.mk' (H226.out.below b234)
          clear H226
          have H242 := Hid.mk' (H227.out.below b234)
          clear H227
          have H243 := Hid.mk' (H228.out.below b234)
          clear H228
          have H244 := Hid.mk' (H230.out.below b234)
          clear H230
          have Z245 := Hid.mk' (bel_next Z229.out b234)
          clear Z229
          have H246 : Hid (RL w231 a232 c233 (tuV X)) := r235
          clear r235
          clear b234
          go_wp2_with fail
          refine (swI_L H237.out).mono ?_
          rw [P1.out]
          rintro e w247 ⟨a248, c249, rfl, b250, r251⟩
          have H252 := Hid.mk' (H236.out.below b250)
          clear H236
          have H253 := Hid.mk' (H237.out.below b250)
          clear H237
          have H254 := Hid.mk' (H238.out.below b250)
          clear H238
          have H255 := Hid.mk' (H239.out.below b250)
          clear H239
          have H256 := Hid.mk' (H240.out.below b250)
          clear H240
          have H257 := Hid.mk' (H241.out.below b250)
          clear H241
          have H258 := Hid.mk' (H242.out.below b250)
          clear H242
          have H259 := Hid.mk' (H243.out.below b250)
          clear H243
          have H260 := Hid.mk' (H244.out.below b250)
          clear H244
          have H261 := Hid.mk' (H246.out.below b250)
          clear H246
          have Z262 := Hid.mk' (bel_next Z245.out b250)
          clear Z245
          have H263 : Hid (RL w247 a248 c249 Y) := r251
          clear r251
          clear b250
          go_wp2_with fail
          refine (he_L H263.out H256.out).mono ?_
          rw [sq_same]
          rintro e w264 ⟨rfl, b265⟩
          have H266 := Hid.mk' (H252.out.below b265)
          clear H252
          have H267 := Hid.mk' (H253.out.below b265)
          clear H253
          have H268 := Hid.mk' (H254.out.below b265)
          clear H254
          have H269 := Hid.mk' (H255.out.below b265)
          clear H255
          have H270 := Hid.mk' (H256.out.below b265)
          clear H256
          have H271 := Hid.mk' (H257.out.below b265)
          clear H257
          have H272 := Hid.mk' (H258.out.below b265)
          clear H258
          have H273 := Hid.mk' (H259.out.below b265)
          clear H259
          have H274 := Hid.mk' (H260.out.below b265)
          clear H260
          have H275 := Hid.mk' (H261.out.below b265)
          clear H261
          have H276 := Hid.mk' (H263.out.below b265)
          clear H263
          have Z277 := Hid.mk' (bel_next Z262.out b265)
          clear Z262
          clear b265
          go_wp2_with fail
          refine (tuI_L H271.out).mono ?_
          rw [P2.out]
          rintro e w278 ⟨a279, c280, rfl, b281, r282⟩
          have H283 := Hid.mk' (H266.out.below b281)
          clear H266
          have H284 := Hid.mk' (H267.out.below b281)
          clear H267
          have H285 := Hid.mk' (H268.out.below b281)
          clear H268
          have H286 := Hid.mk' (H269.out.below b281)
          clear H269
          have H287 := Hid.mk' (H270.out.below b281)
          clear H270
          have H288 := Hid.mk' (H271.out.below b281)
          clear H271
          have H289 := Hid.mk' (H272.out.below b281)
          clear H272
          have H290 := Hid.mk' (H273.out.below b281)
          clear H273
          have H291 := Hid.mk' (H274.out.below b281)
          clear H274
          have H292 := Hid.mk' (H275.out.below b281)
          clear H275
          have H293 := Hid.mk' (H276.out.below b281)
          clear H276
          have Z294 := Hid.mk' (bel_next Z277.out b281)
          clear Z277
          have H295 : Hid (RL w278 a279 c280 C) := r282
          clear r282
          clear b281
          go_wp2_with fail
          refine (he_L H295.out H290.out).mono ?_
          rw [sq_same]
          rintro e w296 ⟨rfl, b297⟩
          have H298 := Hid.mk' (H283.out.below b297)
          clear H283
          have H299 := Hid.mk' (H284.out.below b297)
          clear H284
          have H300 := Hid.mk' (H285.out.below b297)
          clear H285
          have H301 := Hid.mk' (H286.out.below b297)
          clear H286
          have H302 := Hid.mk' (H287.out.below b297)
          clear H287
          have H303 := Hid.mk' (H288.out.below b297)
          clear H288
          have H304 := Hid.mk' (H289.out.below b297)
          clear H289
          have H305 := Hid.mk' (H290.out.below b297)
          clear H290
          have H306 := Hid.mk' (H291.out.below b297)
          clear H291
          have H307 := Hid.mk' (H292.out.below b297)
          clear H292
          have H308 := Hid.mk' (H293.out.below b297)
          clear H293
          have H309 := Hid.mk' (H295.out.below b297)
          clear H295
          have Z310 := Hid.mk' (bel_next Z294.out b297)
          clear Z294
          clear b297
          go_wp2_with fail
          refine (tuI_L H299.out).mono ?_
          rintro e w311 ⟨a312, c313, rfl, b314, r315⟩
          have H316 := Hid.mk' (H298.out.below b314)
          clear H298
          have H317 := Hid.mk' (H299.out.below b314)
          clear H299
          have H318 := Hid.mk' (H300.out.below b314)
          clear H300
          have H319 := Hid.mk' (H301.out.below b314)
          clear H301
          have H320 := Hid.mk' (H302.out.below b314)
          clear H302
          have H321 := Hid.mk' (H303.out.below b314)
          clear H303
          have H322 := Hid.mk' (H304.out.below b314)
          clear H304
          have H323 := Hid.mk' (H305.out.below b314)
          clear H305
          have H324 := Hid.mk' (H306.out.below b314)
          clear H306
          have H325 := Hid.mk' (H307.out.below b314)
          clear H307
          have H326 := Hid.mk' (H308.out.below b314)
          clear H308
          have H327 := Hid.mk' (H309.out.below b314)
          clear H309
          have Z328 := Hid.mk' (bel_next Z310.out b314)
          clear Z310
          have H329 : Hid (RL w311 a312 c313 (tuV X)) := r315
          clear r315
          clear b314
          go_wp2_with fail
          refine (he_L H329.out H325.out).mono ?_
          rw [sq_same]
          rintro e w330 ⟨rfl, b331⟩
          have H332 := Hid.mk' (H316.out.below b331)
          clear H316
          have H333 := Hid.mk' (H317.out.below b331)
          clear H317
          have H334 := Hid.mk' (H318.out.below b331)
          clear H318
          have H335 := Hid.mk' (H319.out.below b331)
          clear H319
          have H336 := Hid.mk' (H320.out.below b331)
          clear H320
          have H337 := Hid.mk' (H321.out.below b331)
          clear H321
          have H338 := Hid.mk' (H322.out.below b331)
          clear H322
          have H339 := Hid.mk' (H323.out.below b331)
          clear H323
          have H340 := Hid.mk' (H324.out.below b331)
          clear H324
          have H341 := Hid.mk' (H325.out.below b331)
          clear H325
          have H342 := Hid.mk' (H326.out.below b331)
          clear H326
          have H343 := Hid.mk' (H327.out.below b331)
          clear H327
          have H344 := Hid.mk' (H329.out.below b331)
          clear H329
          have Z345 := Hid.mk' (bel_next Z328.out b331)
          clear Z328
          clear b331
          go_wp2
          go_ret
          exact ⟨rfl, Z345.out⟩
end Go.Proofs.Ytfcmkkagjkkgjaa
