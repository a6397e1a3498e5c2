/-
  The walk of FnComMul: whatever the code, it comes out true, and nothing that was there is turned.
-/
import Derived.Test.YtfcmkkagjkkgjaaRepK
import Derived.Test.YtfcmkkagjkkgjaaGbc
namespace Go.Proofs.Ytfcmkkagjkkgjaa
open Go.RowKit
set_option linter.unusedVariables false
set_option maxRecDepth 100000 in
set_option maxHeartbeats 8000000 in
theorem walk_FnComMul (w : World) (a0 : Option Addr) (len0 cap0 : Nat) (s0 : Src w a0 len0 cap0) (a1 : Option Addr) (len1 cap1 : Nat) (s1 : Src w a1 len1 cap1) :
    Calls Try.prog 8 #[.slice a0 len0 cap0, .slice a1 len1 cap1] w fun e w' => e = .returned (.bool true) ∧ Below w.heap.size w w' := by
  by_cases c0 : (1048576 : Int) < (len0 : Int)
  · go_enter Try.func8, Try.ntmps8
    go_wp2
    go_ret
    exact ⟨rfl, Below.refl _ _⟩
  by_cases c1 : (1048576 : Int) < (len1 : Int)
  · go_enter Try.func8, Try.ntmps8
    go_wp2
    go_ret
    exact ⟨rfl, Below.refl _ _⟩
  go_enter Try.func8, Try.ntmps8
  go_wp2_with fail
  refine (drawComMul w a0 len0 cap0 s0).mono ?_
  rintro e wd ⟨da, dca, A, db, dcb, B, rfl, hA, hB, hlA, hlB, hbd⟩
  have HA0 := Hid.mk' hA
  have HB0 := Hid.mk' hB
  have Z0 := Hid.mk' hbd
  have S1 := Hid.mk' (s1.below hbd)
  clear hA hB hbd s0 s1
  go_wp2_with fail
  refine (drawComMul wd a1 len1 cap1 S1.out).mono ?_
  rintro e we ⟨dc, dcc, C, dd, dcd, D, rfl, hC, hD, hlC, hlD, hbe⟩
  have HC0 := Hid.mk' hC
  clear hC hD S1
  have H1 := Hid.mk' (HA0.out.below hbe)
  clear HA0
  have H2 := Hid.mk' (HB0.out.below hbe)
  clear HB0
  have Z3 := Hid.mk' (bel_next Z0.out hbe)
  clear Z0
  clear hbe
  rcases cmV_if A B with h1 | ⟨X, h1⟩
  · go_wp2_with fail
    refine (cmI_L H1.out H2.out).mono ?_
    rw [h1]
    rintro e w4 ⟨a5, c6, rfl, b7, r8⟩
    have H9 := Hid.mk' (H1.out.below b7)
    clear H1
    have H10 := Hid.mk' (H2.out.below b7)
    clear H2
    have H11 := Hid.mk' (HC0.out.below b7)
    clear HC0
    have Z12 := Hid.mk' (bel_next Z3.out b7)
    clear Z3
    have H13 : Hid (RL w4 a5 c6 []) := r8
    clear r8
    clear b7
    go_wp2_with fail
    refine (cmS_L H9.out H10.out).mono ?_
    rw [h1]
    rintro e w14 ⟨a15, c16, rfl, b17, r18⟩
    have H19 := Hid.mk' (H9.out.below b17)
    clear H9
    have H20 := Hid.mk' (H10.out.below b17)
    clear H10
    have H21 := Hid.mk' (H11.out.below b17)
    clear H11
    have H22 := Hid.mk' (H13.out.below b17)
    clear H13
    have Z23 := Hid.mk' (bel_next Z12.out b17)
    clear Z12
    have H24 : Hid (RL w14 a15 c16 []) := r18
    clear r18
    clear b17
    go_wp2_with fail
    refine (he_L H22.out H24.out).mono ?_
    rw [sq_same]
    rintro e w25 ⟨rfl, b26⟩
    have H27 := Hid.mk' (H19.out.below b26)
    clear H19
    have H28 := Hid.mk' (H20.out.below b26)
    clear H20
    have H29 := Hid.mk' (H21.out.below b26)
    clear H21
    have H30 := Hid.mk' (H22.out.below b26)
    clear H22
    have H31 := Hid.mk' (H24.out.below b26)
    clear H24
    have Z32 := Hid.mk' (bel_next Z23.out b26)
    clear Z23
    clear b26
    go_wp2_with fail
    refine (heOk_L _ ).mono ?_
    rintro e w33 ⟨rfl, b34⟩
    have H35 := Hid.mk' (H27.out.below b34)
    clear H27
    have H36 := Hid.mk' (H28.out.below b34)
    clear H28
    have H37 := Hid.mk' (H29.out.below b34)
    clear H29
    have H38 := Hid.mk' (H30.out.below b34)
    clear H30
    have H39 := Hid.mk' (H31.out.below b34)
    clear H31
    have Z40 := Hid.mk' (bel_next Z32.out b34)
    clear Z32
    clear b34
    go_wp2
    go_ret
    exact ⟨rfl, Z40.out⟩
  · go_wp2_with fail
    refine (cmI_L H1.out H2.out).mono ?_
    rw [h1]
    rintro e w41 ⟨a42, c43, rfl, b44, r45⟩
    have H46 := Hid.mk' (H1.out.below b44)
    clear H1
    have H47 := Hid.mk' (H2.out.below b44)
    clear H2
    have H48 := Hid.mk' (HC0.out.below b44)
    clear HC0
    have Z49 := Hid.mk' (bel_next Z3.out b44)
    clear Z3
    have H50 : Hid (RL w41 a42 c43 X) := r45
    clear r45
    clear b44
    go_wp2_with fail
    refine (cmS_L H46.out H47.out).mono ?_
    rw [h1]
    rintro e w51 ⟨a52, c53, rfl, b54, r55⟩
    have H56 := Hid.mk' (H46.out.below b54)
    clear H46
    have H57 := Hid.mk' (H47.out.below b54)
    clear H47
    have H58 := Hid.mk' (H48.out.below b54)
    clear H48
    have H59 := Hid.mk' (H50.out.below b54)
    clear H50
    have Z60 := Hid.mk' (bel_next Z49.out b54)
    clear Z49
    have H61 : Hid (RL w51 a52 c53 X) := r55
    clear r55
    clear b54
    go_wp2_with fail
    refine (he_L H59.out H61.out).mono ?_
    rw [sq_same]
    rintro e w62 ⟨rfl, b63⟩
    have H64 := Hid.mk' (H56.out.below b63)
    clear H56
    have H65 := Hid.mk' (H57.out.below b63)
    clear H57
    have H66 := Hid.mk' (H58.out.below b63)
    clear H58
    have H67 := Hid.mk' (H59.out.below b63)
    clear H59
    have H68 := Hid.mk' (H61.out.below b63)
    clear H61
    have Z69 := Hid.mk' (bel_next Z60.out b63)
    clear Z60
    clear b63
    have m1 : B.length * A.length ≤ 5 * 5 := Nat.mul_le_mul hlB hlA
    have e1 := cm_comm h1 (by omega)
    go_wp2_with fail
    refine (cmI_L H65.out H64.out).mono ?_
    rw [e1]
    rintro e w70 ⟨a71, c72, rfl, b73, r74⟩
    have H75 := Hid.mk' (H64.out.below b73)
    clear H64
    have H76 := Hid.mk' (H65.out.below b73)
    clear H65
    have H77 := Hid.mk' (H66.out.below b73)
    clear H66
    have H78 := Hid.mk' (H67.out.below b73)
    clear H67
    have H79 := Hid.mk' (H68.out.below b73)
    clear H68
    have Z80 := Hid.mk' (bel_next Z69.out b73)
    clear Z69
    have H81 : Hid (RL w70 a71 c72 X) := r74
    clear r74
    clear b73
    go_wp2_with fail
    refine (he_L H78.out H81.out).mono ?_
    rw [sq_same]
    rintro e w82 ⟨rfl, b83⟩
    have H84 := Hid.mk' (H75.out.below b83)
    clear H75
    have H85 := Hid.mk' (H76.out.below b83)
    clear H76
    have H86 := Hid.mk' (H77.out.below b83)
    clear H77
    have H87 := Hid.mk' (H78.out.below b83)
    clear H78
    have H88 := Hid.mk' (H79.out.below b83)
    clear H79
    have H89 := Hid.mk' (H81.out.below b83)
    clear H81
    have Z90 := Hid.mk' (bel_next Z80.out b83)
    clear Z80
    clear b83
    cases fB : freeL B
    · go_wp2_with fail
      refine (freeI_L H85.out).mono ?_
      rw [fB]
      rintro e w91 ⟨rfl, b92⟩
      have H93 := Hid.mk' (H84.out.below b92)
      clear H84
      have H94 := Hid.mk' (H85.out.below b92)
      clear H85
      have H95 := Hid.mk' (H86.out.below b92)
      clear H86
      have H96 := Hid.mk' (H87.out.below b92)
      clear H87
      have H97 := Hid.mk' (H88.out.below b92)
      clear H88
      have H98 := Hid.mk' (H89.out.below b92)
      clear H89
      have Z99 := Hid.mk' (bel_next Z90.out b92)
      clear Z90
      clear b92
      obtain ⟨BC, o1, k1⟩ : ∃ L o, cmV B C = (L, o) := ⟨_, _, rfl⟩
      go_wp2_with fail
      refine (cmI_L H94.out H95.out).mono ?_
      rw [k1]
      rintro e w100 ⟨a101, c102, rfl, b103, r104⟩
      have H105 := Hid.mk' (H93.out.below b103)
      clear H93
      have H106 := Hid.mk' (H94.out.below b103)
      clear H94
      have H107 := Hid.mk' (H95.out.below b103)
      clear H95
      have H108 := Hid.mk' (H96.out.below b103)
      clear H96
      have H109 := Hid.mk' (H97.out.below b103)
      clear H97
      have H110 := Hid.mk' (H98.out.below b103)
      clear H98
      have Z111 := Hid.mk' (bel_next Z99.out b103)
      clear Z99
      have H112 : Hid (RL w100 a101 c102 BC) := r104
      clear r104
      clear b103
      obtain ⟨UU, o2, k2⟩ : ∃ L o, cmV X C = (L, o) := ⟨_, _, rfl⟩
      go_wp2_with fail
      refine (cmI_L H108.out H107.out).mono ?_
      rw [k2]
      rintro e w113 ⟨a114, c115, rfl, b116, r117⟩
      have H118 := Hid.mk' (H105.out.below b116)
      clear H105
      have H119 := Hid.mk' (H106.out.below b116)
      clear H106
      have H120 := Hid.mk' (H107.out.below b116)
      clear H107
      have H121 := Hid.mk' (H108.out.below b116)
      clear H108
      have H122 := Hid.mk' (H109.out.below b116)
      clear H109
      have H123 := Hid.mk' (H110.out.below b116)
      clear H110
      have H124 := Hid.mk' (H112.out.below b116)
      clear H112
      have Z125 := Hid.mk' (bel_next Z111.out b116)
      clear Z111
      have H126 : Hid (RL w113 a114 c115 UU) := r117
      clear r117
      clear b116
      obtain ⟨VV, o3, k3⟩ : ∃ L o, cmV A BC = (L, o) := ⟨_, _, rfl⟩
      go_wp2_with fail
      refine (cmI_L H118.out H124.out).mono ?_
      rw [k3]
      rintro e w127 ⟨a128, c129, rfl, b130, r131⟩
      have H132 := Hid.mk' (H118.out.below b130)
      clear H118
      have H133 := Hid.mk' (H119.out.below b130)
      clear H119
      have H134 := Hid.mk' (H120.out.below b130)
      clear H120
      have H135 := Hid.mk' (H121.out.below b130)
      clear H121
      have H136 := Hid.mk' (H122.out.below b130)
      clear H122
      have H137 := Hid.mk' (H123.out.below b130)
      clear H123
      have H138 := Hid.mk' (H124.out.below b130)
      clear H124
      have H139 := Hid.mk' (H126.out.below b130)
      clear H126
      have Z140 := Hid.mk' (bel_next Z125.out b130)
      clear Z125
      have H141 : Hid (RL w127 a128 c129 VV) := r131
      clear r131
      clear b130
      have oX := (cm_facts h1).2.2.1
      cases o1
      · go_wp2_with fail
        refine (okI_L H135.out).mono ?_
        rw [oX]
        rintro e w142 ⟨rfl, b143⟩
        have H144 := Hid.mk' (H132.out.below b143)
        clear H132
        have H145 := Hid.mk' (H133.out.below b143)
        clear H133
        have H146 := Hid.mk' (H134.out.below b143)
        clear H134
        have H147 := Hid.mk' (H135.out.below b143)
        clear H135
        have H148 := Hid.mk' (H136.out.below b143)
        clear H136
        have H149 := Hid.mk' (H137.out.below b143)
        clear H137
        have H150 := Hid.mk' (H138.out.below b143)
        clear H138
        have H151 := Hid.mk' (H139.out.below b143)
        clear H139
        have H152 := Hid.mk' (H141.out.below b143)
        clear H141
        have Z153 := Hid.mk' (bel_next Z140.out b143)
        clear Z140
        clear b143
        go_wp2_with fail
        refine (heOk_L _ ).mono ?_
        rintro e w154 ⟨rfl, b155⟩
        have H156 := Hid.mk' (H144.out.below b155)
        clear H144
        have H157 := Hid.mk' (H145.out.below b155)
        clear H145
        have H158 := Hid.mk' (H146.out.below b155)
        clear H146
        have H159 := Hid.mk' (H147.out.below b155)
        clear H147
        have H160 := Hid.mk' (H148.out.below b155)
        clear H148
        have H161 := Hid.mk' (H149.out.below b155)
        clear H149
        have H162 := Hid.mk' (H150.out.below b155)
        clear H150
        have H163 := Hid.mk' (H151.out.below b155)
        clear H151
        have H164 := Hid.mk' (H152.out.below b155)
        clear H152
        have Z165 := Hid.mk' (bel_next Z153.out b155)
        clear Z153
        clear b155
        go_wp2
        go_ret
        exact ⟨rfl, Z165.out⟩
      · cases o2
        · go_wp2_with fail
          refine (okI_L H135.out).mono ?_
          rw [oX]
          rintro e w166 ⟨rfl, b167⟩
          have H168 := Hid.mk' (H132.out.below b167)
          clear H132
          have H169 := Hid.mk' (H133.out.below b167)
          clear H133
          have H170 := Hid.mk' (H134.out.below b167)
          clear H134
          have H171 := Hid.mk' (H135.out.below b167)
          clear H135
          have H172 := Hid.mk' (H136.out.below b167)
          clear H136
          have H173 := Hid.mk' (H137.out.below b167)
          clear H137
          have H174 := Hid.mk' (H138.out.below b167)
          clear H138
          have H175 := Hid.mk' (H139.out.below b167)
          clear H139
          have H176 := Hid.mk' (H141.out.below b167)
          clear H141
          have Z177 := Hid.mk' (bel_next Z140.out b167)
          clear Z140
          clear b167
          go_wp2_with fail
          refine (heOk_L _ ).mono ?_
          rintro e w178 ⟨rfl, b179⟩
          have H180 := Hid.mk' (H168.out.below b179)
          clear H168
          have H181 := Hid.mk' (H169.out.below b179)
          clear H169
          have H182 := Hid.mk' (H170.out.below b179)
          clear H170
          have H183 := Hid.mk' (H171.out.below b179)
          clear H171
          have H184 := Hid.mk' (H172.out.below b179)
          clear H172
          have H185 := Hid.mk' (H173.out.below b179)
          clear H173
          have H186 := Hid.mk' (H174.out.below b179)
          clear H174
          have H187 := Hid.mk' (H175.out.below b179)
          clear H175
          have H188 := Hid.mk' (H176.out.below b179)
          clear H176
          have Z189 := Hid.mk' (bel_next Z177.out b179)
          clear Z177
          clear b179
          go_wp2
          go_ret
          exact ⟨rfl, Z189.out⟩
        · cases o3
          · go_wp2_with fail
            refine (okI_L H135.out).mono ?_
            rw [oX]
            rintro e w190 ⟨rfl, b191⟩
            have H192 := Hid.mk' (H132.out.below b191)
            clear H132
            have H193 := Hid.mk' (H133.out.below b191)
            clear H133
            have H194 := Hid.mk' (H134.out.below b191)
            clear H134
            have H195 := Hid.mk' (H135.out.below b191)
            clear H135
            have H196 := Hid.mk' (H136.out.below b191)
            clear H136
            have H197 := Hid.mk' (H137.out.below b191)
            clear H137
            have H198 := Hid.mk' (H138.out.below b191)
            clear H138
            have H199 := Hid.mk' (H139.out.below b191)
            clear H139
            have H200 := Hid.mk' (H141.out.below b191)
            clear H141
            have Z201 := Hid.mk' (bel_next Z140.out b191)
            clear Z140
            clear b191
            go_wp2_with fail
            refine (heOk_L _ ).mono ?_
            rintro e w202 ⟨rfl, b203⟩
            have H204 := Hid.mk' (H192.out.below b203)
            clear H192
            have H205 := Hid.mk' (H193.out.below b203)
            clear H193
            have H206 := Hid.mk' (H194.out.below b203)
            clear H194
            have H207 := Hid.mk' (H195.out.below b203)
            clear H195
            have H208 := Hid.mk' (H196.out.below b203)
            clear H196
            have H209 := Hid.mk' (H197.out.below b203)
            clear H197
            have H210 := Hid.mk' (H198.out.below b203)
            clear H198
            have H211 := Hid.mk' (H199.out.below b203)
            clear H199
            have H212 := Hid.mk' (H200.out.below b203)
            clear H200
            have Z213 := Hid.mk' (bel_next Z201.out b203)
            clear Z201
            clear b203
            go_wp2
            go_ret
            exact ⟨rfl, Z213.out⟩
          · have e3 : UU = VV := cm_assoc h1 k1 k2 k3
            subst e3
            go_wp2_with fail
            refine (he_L H139.out H141.out).mono ?_
            rw [sq_same]
            rintro e w214 ⟨rfl, b215⟩
            have H216 := Hid.mk' (H132.out.below b215)
            clear H132
            have H217 := Hid.mk' (H133.out.below b215)
            clear H133
            have H218 := Hid.mk' (H134.out.below b215)
            clear H134
            have H219 := Hid.mk' (H135.out.below b215)
            clear H135
            have H220 := Hid.mk' (H136.out.below b215)
            clear H136
            have H221 := Hid.mk' (H137.out.below b215)
            clear H137
            have H222 := Hid.mk' (H138.out.below b215)
            clear H138
            have H223 := Hid.mk' (H139.out.below b215)
            clear H139
            have H224 := Hid.mk' (H141.out.below b215)
            clear H141
            have Z225 := Hid.mk' (bel_next Z140.out b215)
            clear Z140
            clear b215
            go_wp2_with fail
            refine (okI_L H219.out).mono ?_
            rw [oX]
            rintro e w226 ⟨rfl, b227⟩
            have H228 := Hid.mk' (H216.out.below b227)
            clear H216
            have H229 := Hid.mk' (H217.out.below b227)
            clear H217
            have H230 := Hid.mk' (H218.out.below b227)
            clear H218
            have H231 := Hid.mk' (H219.out.below b227)
            clear H219
            have H232 := Hid.mk' (H220.out.below b227)
            clear H220
            have H233 := Hid.mk' (H221.out.below b227)
            clear H221
            have H234 := Hid.mk' (H222.out.below b227)
            clear H222
            have H235 := Hid.mk' (H223.out.below b227)
            clear H223
            have H236 := Hid.mk' (H224.out.below b227)
            clear H224
            have Z237 := Hid.mk' (bel_next Z225.out b227)
            clear Z225
            clear b227
            go_wp2_with fail
            refine (heOk_L _ ).mono ?_
            rintro e w238 ⟨rfl, b239⟩
            have H240 := Hid.mk' (H228.out.below b239)
            clear H228
            have H241 := Hid.mk' (H229.out.below b239)
            clear H229
            have H242 := Hid.mk' (H230.out.below b239)
            clear H230
            have H243 := Hid.mk' (H231.out.below b239)
            clear H231
            have H244 := Hid.mk' (H232.out.below b239)
            clear H232
            have H245 := Hid.mk' (H233.out.below b239)
            clear H233
            have H246 := Hid.mk' (H234.out.below b239)
            clear H234
            have H247 := Hid.mk' (H235.out.below b239)
            clear H235
            have H248 := Hid.mk' (H236.out.below b239)
            clear H236
            have Z249 := Hid.mk' (bel_next Z237.out b239)
            clear Z237
            clear b239
            go_wp2
            go_ret
            exact ⟨rfl, Z249.out⟩
    · go_wp2_with fail
      refine (freeI_L H85.out).mono ?_
      rw [fB]
      rintro e w250 ⟨rfl, b251⟩
      have H252 := Hid.mk' (H84.out.below b251)
      clear H84
      have H253 := Hid.mk' (H85.out.below b251)
      clear H85
      have H254 := Hid.mk' (H86.out.below b251)
      clear H86
      have H255 := Hid.mk' (H87.out.below b251)
      clear H87
      have H256 := Hid.mk' (H88.out.below b251)
      clear H88
      have H257 := Hid.mk' (H89.out.below b251)
      clear H89
      have Z258 := Hid.mk' (bel_next Z90.out b251)
      clear Z90
      clear b251
      go_wp2_with fail
      refine (heCom_L H252.out H253.out H255.out (fun P hP => cm_form fB h1 hP)).mono ?_
      rintro e w259 ⟨rfl, b260⟩
      have H261 := Hid.mk' (H252.out.below b260)
      clear H252
      have H262 := Hid.mk' (H253.out.below b260)
      clear H253
      have H263 := Hid.mk' (H254.out.below b260)
      clear H254
      have H264 := Hid.mk' (H255.out.below b260)
      clear H255
      have H265 := Hid.mk' (H256.out.below b260)
      clear H256
      have H266 := Hid.mk' (H257.out.below b260)
      clear H257
      have Z267 := Hid.mk' (bel_next Z258.out b260)
      clear Z258
      clear b260
      obtain ⟨BC, o1, k1⟩ : ∃ L o, cmV B C = (L, o) := ⟨_, _, rfl⟩
      go_wp2_with fail
      refine (cmI_L H262.out H263.out).mono ?_
      rw [k1]
      rintro e w268 ⟨a269, c270, rfl, b271, r272⟩
      have H273 := Hid.mk' (H261.out.below b271)
      clear H261
      have H274 := Hid.mk' (H262.out.below b271)
      clear H262
      have H275 := Hid.mk' (H263.out.below b271)
      clear H263
      have H276 := Hid.mk' (H264.out.below b271)
      clear H264
      have H277 := Hid.mk' (H265.out.below b271)
      clear H265
      have H278 := Hid.mk' (H266.out.below b271)
      clear H266
      have Z279 := Hid.mk' (bel_next Z267.out b271)
      clear Z267
      have H280 : Hid (RL w268 a269 c270 BC) := r272
      clear r272
      clear b271
      obtain ⟨UU, o2, k2⟩ : ∃ L o, cmV X C = (L, o) := ⟨_, _, rfl⟩
      go_wp2_with fail
      refine (cmI_L H276.out H275.out).mono ?_
      rw [k2]
      rintro e w281 ⟨a282, c283, rfl, b284, r285⟩
      have H286 := Hid.mk' (H273.out.below b284)
      clear H273
      have H287 := Hid.mk' (H274.out.below b284)
      clear H274
      have H288 := Hid.mk' (H275.out.below b284)
      clear H275
      have H289 := Hid.mk' (H276.out.below b284)
      clear H276
      have H290 := Hid.mk' (H277.out.below b284)
      clear H277
      have H291 := Hid.mk' (H278.out.below b284)
      clear H278
      have H292 := Hid.mk' (H280.out.below b284)
      clear H280
      have Z293 := Hid.mk' (bel_next Z279.out b284)
      clear Z279
      have H294 : Hid (RL w281 a282 c283 UU) := r285
      clear r285
      clear b284
      obtain ⟨VV, o3, k3⟩ : ∃ L o, cmV A BC = (L, o) := ⟨_, _, rfl⟩
      go_wp2_with fail
      refine (cmI_L H286.out H292.out).mono ?_
      rw [k3]
      rintro e w295 ⟨a296, c297, rfl, b298, r299⟩
      have H300 := Hid.mk' (H286.out.below b298)
      clear H286
      have H301 := Hid.mk' (H287.out.below b298)
      clear H287
      have H302 := Hid.mk' (H288.out.below b298)
      clear H288
      have H303 := Hid.mk' (H289.out.below b298)
      clear H289
      have H304 := Hid.mk' (H290.out.below b298)
      clear H290
      have H305 := Hid.mk' (H291.out.below b298)
      clear H291
      have H306 := Hid.mk' (H292.out.below b298)
      clear H292
      have H307 := Hid.mk' (H294.out.below b298)
      clear H294
      have Z308 := Hid.mk' (bel_next Z293.out b298)
      clear Z293
      have H309 : Hid (RL w295 a296 c297 VV) := r299
      clear r299
      clear b298
      have oX := (cm_facts h1).2.2.1
      cases o1
      · go_wp2_with fail
        refine (okI_L H303.out).mono ?_
        rw [oX]
        rintro e w310 ⟨rfl, b311⟩
        have H312 := Hid.mk' (H300.out.below b311)
        clear H300
        have H313 := Hid.mk' (H301.out.below b311)
        clear H301
        have H314 := Hid.mk' (H302.out.below b311)
        clear H302
        have H315 := Hid.mk' (H303.out.below b311)
        clear H303
        have H316 := Hid.mk' (H304.out.below b311)
        clear H304
        have H317 := Hid.mk' (H305.out.below b311)
        clear H305
        have H318 := Hid.mk' (H306.out.below b311)
        clear H306
        have H319 := Hid.mk' (H307.out.below b311)
        clear H307
        have H320 := Hid.mk' (H309.out.below b311)
        clear H309
        have Z321 := Hid.mk' (bel_next Z308.out b311)
        clear Z308
        clear b311
        go_wp2_with fail
        refine (heOk_L _ ).mono ?_
        rintro e w322 ⟨rfl, b323⟩
        have H324 := Hid.mk' (H312.out.below b323)
        clear H312
        have H325 := Hid.mk' (H313.out.below b323)
        clear H313
        have H326 := Hid.mk' (H314.out.below b323)
        clear H314
        have H327 := Hid.mk' (H315.out.below b323)
        clear H315
        have H328 := Hid.mk' (H316.out.below b323)
        clear H316
        have H329 := Hid.mk' (H317.out.below b323)
        clear H317
        have H330 := Hid.mk' (H318.out.below b323)
        clear H318
        have H331 := Hid.mk' (H319.out.below b323)
        clear H319
        have H332 := Hid.mk' (H320.out.below b323)
        clear H320
        have Z333 := Hid.mk' (bel_next Z321.out b323)
        clear Z321
        clear b323
        go_wp2
        go_ret
        exact ⟨rfl, Z333.out⟩
      · cases o2
        · go_wp2_with fail
          refine (okI_L H303.out).mono ?_
          rw [oX]
          rintro e w334 ⟨rfl, b335⟩
          have H336 := Hid.mk' (H300.out.below b335)
          clear H300
          have H337 := Hid.mk' (H301.out.below b335)
          clear H301
          have H338 := Hid.mk' (H302.out.below b335)
          clear H302
          have H339 := Hid.mk' (H303.out.below b335)
          clear H303
          have H340 := Hid.mk' (H304.out.below b335)
          clear H304
          have H341 := Hid.mk' (H305.out.below b335)
          clear H305
          have H342 := Hid.mk' (H306.out.below b335)
          clear H306
          have H343 := Hid.mk' (H307.out.below b335)
          clear H307
          have H344 := Hid.mk' (H309.out.below b335)
          clear H309
          have Z345 := Hid.mk' (bel_next Z308.out b335)
          clear Z308
          clear b335
          go_wp2_with fail
          refine (heOk_L _ ).mono ?_
          rintro e w346 ⟨rfl, b347⟩
          have H348 := Hid.mk' (H336.out.below b347)
          clear H336
          have H349 := Hid.mk' (H337.out.below b347)
          clear H337
          have H350 := Hid.mk' (H338.out.below b347)
          clear H338
          have H351 := Hid.mk' (H339.out.below b347)
          clear H339
          have H352 := Hid.mk' (H340.out.below b347)
          clear H340
          have H353 := Hid.mk' (H341.out.below b347)
          clear H341
          have H354 := Hid.mk' (H342.out.below b347)
          clear H342
          have H355 := Hid.mk' (H343.out.below b347)
          clear H343
          have H356 := Hid.mk' (H344.out.below b347)
          clear H344
          have Z357 := Hid.mk' (bel_next Z345.out b347)
          clear Z345
          clear b347
          go_wp2
          go_ret
          exact ⟨rfl, Z357.out⟩
        · cases o3
          · go_wp2_with fail
            refine (okI_L H303.out).mono ?_
            rw [oX]
            rintro e w358 ⟨rfl, b359⟩
            have H360 := Hid.mk' (H300.out.below b359)
            clear H300
            have H361 := Hid.mk' (H301.out.below b359)
            clear H301
            have H362 := Hid.mk' (H302.out.below b359)
            clear H302
            have H363 := Hid.mk' (H303.out.below b359)
            clear H303
            have H364 := Hid.mk' (H304.out.below b359)
            clear H304
            have H365 := Hid.mk' (H305.out.below b359)
            clear H305
            have H366 := Hid.mk' (H306.out.below b359)
            clear H306
            have H367 := Hid.mk' (H307.out.below b359)
            clear H307
            have H368 := Hid.mk' (H309.out.below b359)
            clear H309
            have Z369 := Hid.mk' (bel_next Z308.out b359)
            clear Z308
            clear b359
            go_wp2_with fail
            refine (heOk_L _ ).mono ?_
            rintro e w370 ⟨rfl, b371⟩
            have H372 := Hid.mk' (H360.out.below b371)
            clear H360
            have H373 := Hid.mk' (H361.out.below b371)
            clear H361
            have H374 := Hid.mk' (H362.out.below b371)
            clear H362
            have H375 := Hid.mk' (H363.out.below b371)
            clear H363
            have H376 := Hid.mk' (H364.out.below b371)
            clear H364
            have H377 := Hid.mk' (H365.out.below b371)
            clear H365
            have H378 := Hid.mk' (H366.out.below b371)
            clear H366
            have H379 := Hid.mk' (H367.out.below b371)
            clear H367
            have H380 := Hid.mk' (H368.out.below b371)
            clear H368
            have Z381 := Hid.mk' (bel_next Z369.out b371)
            clear Z369
            clear b371
            go_wp2
            go_ret
            exact ⟨rfl, Z381.out⟩
          · have e3 : UU = VV := cm_assoc h1 k1 k2 k3
            subst e3
            go_wp2_with fail
            refine (he_L H307.out H309.out).mono ?_
            rw [sq_same]
            rintro e w382 ⟨rfl, b383⟩
            have H384 := Hid.mk' (H300.out.below b383)
            clear H300
            have H385 := Hid.mk' (H301.out.below b383)
            clear H301
            have H386 := Hid.mk' (H302.out.below b383)
            clear H302
            have H387 := Hid.mk' (H303.out.below b383)
            clear H303
            have H388 := Hid.mk' (H304.out.below b383)
            clear H304
            have H389 := Hid.mk' (H305.out.below b383)
            clear H305
            have H390 := Hid.mk' (H306.out.below b383)
            clear H306
            have H391 := Hid.mk' (H307.out.below b383)
            clear H307
            have H392 := Hid.mk' (H309.out.below b383)
            clear H309
            have Z393 := Hid.mk' (bel_next Z308.out b383)
            clear Z308
            clear b383
            go_wp2_with fail
            refine (okI_L H387.out).mono ?_
            rw [oX]
            rintro e w394 ⟨rfl, b395⟩
            have H396 := Hid.mk' (H384.out.below b395)
            clear H384
            have H397 := Hid.mk' (H385.out.below b395)
            clear H385
            have H398 := Hid.mk' (H386.out.below b395)
            clear H386
            have H399 := Hid.mk' (H387.out.below b395)
            clear H387
            have H400 := Hid.mk' (H388.out.below b395)
            clear H388
            have H401 := Hid.mk' (H389.out.below b395)
            clear H389
            have H402 := Hid.mk' (H390.out.below b395)
            clear H390
            have H403 := Hid.mk' (H391.out.below b395)
            clear H391
            have H404 := Hid.mk' (H392.out.below b395)
            clear H392
            have Z405 := Hid.mk' (bel_next Z393.out b395)
            clear Z393
            clear b395
            go_wp2_with fail
            refine (heOk_L _ ).mono ?_
            rintro e w406 ⟨rfl, b407⟩
            have H408 := Hid.mk' (H396.out.below b407)
            clear H396
            have H409 := Hid.mk' (H397.out.below b407)
            clear H397
            have H410 := Hid.mk' (H398.out.below b407)
            clear H398
            have H411 := Hid.mk' (H399.out.below b407)
            clear H399
            have H412 := Hid.mk' (H400.out.below b407)
            clear H400
            have H413 := Hid.mk' (H401.out.below b407)
            clear H401
            have H414 := Hid.mk' (H402.out.below b407)
            clear H402
            have H415 := Hid.mk' (H403.out.below b407)
            clear H403
            have H416 := Hid.mk' (H404.out.below b407)
            clear H404
            have Z417 := Hid.mk' (bel_next Z405.out b407)
            clear Z405
            clear b407
            go_wp2
            go_ret
            exact ⟨rfl, Z417.out⟩
end Go.Proofs.Ytfcmkkagjkkgjaa
