/-
  The walk of FnWylSymbol: whatever the code, it comes out true, and nothing that was there is turned.
-/
import Derived.Test.YtlndccbgbclnhaaGreatSymL
import Derived.Test.YtlndccbgbclnhaaGreatGbd
namespace Go.Proofs.YtlndccbgbclnhaaGreat
open Go.RowKit
set_option linter.unusedVariables false
set_option maxRecDepth 100000 in
set_option maxHeartbeats 8000000 in
theorem walk_FnWylSymbol (w : World) (a0 : Option Addr) (len0 cap0 : Nat) (s0 : Src w a0 len0 cap0) :
    Calls Tryz.prog 3 #[.slice a0 len0 cap0] w fun e w' => e = .returned (.bool true) ∧ Below w.heap.size w w' := by
  by_cases c0 : (1048576 : Int) < (len0 : Int)
  · go_enter Tryz.func3, Tryz.ntmps3
    go_wp2
    go_ret
    exact ⟨rfl, Below.refl _ _⟩
  go_enter Tryz.func3, Tryz.ntmps3
  go_wp2_with fail
  refine (drawWylMul w a0 len0 cap0 s0).mono ?_
  rintro e wd ⟨da, dca, A, db, dcb, B, rfl, hA, hB, hlA, hlB, hbd⟩
  have HA0 := Hid.mk' hA
  have HB0 := Hid.mk' hB
  have Z0 := Hid.mk' hbd
  clear hA hB hbd s0
  rcases wmV_if A B with h1 | ⟨P, h1⟩
  · go_wp2_with fail
    refine (wmI_L HA0.out HB0.out).mono ?_
    rw [h1]
    rintro e w1 ⟨a2, c3, rfl, b4, r5⟩
    have H6 := Hid.mk' (HA0.out.below b4)
    clear HA0
    have H7 := Hid.mk' (HB0.out.below b4)
    clear HB0
    have Z8 := Hid.mk' (bel_next Z0.out b4)
    clear Z0
    have H9 : Hid (RL w1 a2 c3 []) := r5
    clear r5
    clear b4
    go_wp2_with fail
    refine (wmS_L H6.out H7.out).mono ?_
    rw [h1]
    rintro e w10 ⟨a11, c12, rfl, b13, r14⟩
    have H15 := Hid.mk' (H6.out.below b13)
    clear H6
    have H16 := Hid.mk' (H7.out.below b13)
    clear H7
    have H17 := Hid.mk' (H9.out.below b13)
    clear H9
    have Z18 := Hid.mk' (bel_next Z8.out b13)
    clear Z8
    have H19 : Hid (RL w10 a11 c12 []) := r14
    clear r14
    clear b13
    go_wp2_with fail
    refine (he_L H17.out H19.out).mono ?_
    rw [sq_same]
    rintro e w20 ⟨rfl, b21⟩
    have H22 := Hid.mk' (H15.out.below b21)
    clear H15
    have H23 := Hid.mk' (H16.out.below b21)
    clear H16
    have H24 := Hid.mk' (H17.out.below b21)
    clear H17
    have H25 := Hid.mk' (H19.out.below b21)
    clear H19
    have Z26 := Hid.mk' (bel_next Z18.out b21)
    clear Z18
    clear b21
    go_wp2_with fail
    refine (heOk_L _ ).mono ?_
    rintro e w27 ⟨rfl, b28⟩
    have H29 := Hid.mk' (H22.out.below b28)
    clear H22
    have H30 := Hid.mk' (H23.out.below b28)
    clear H23
    have H31 := Hid.mk' (H24.out.below b28)
    clear H24
    have H32 := Hid.mk' (H25.out.below b28)
    clear H25
    have Z33 := Hid.mk' (bel_next Z26.out b28)
    clear Z26
    clear b28
    go_wp2
    go_ret
    exact ⟨rfl, Z33.out⟩
  · go_wp2_with fail
    refine (wmI_L HA0.out HB0.out).mono ?_
    rw [h1]
    rintro e w34 ⟨a35, c36, rfl, b37, r38⟩
    have H39 := Hid.mk' (HA0.out.below b37)
    clear HA0
    have H40 := Hid.mk' (HB0.out.below b37)
    clear HB0
    have Z41 := Hid.mk' (bel_next Z0.out b37)
    clear Z0
    have H42 : Hid (RL w34 a35 c36 P) := r38
    clear r38
    clear b37
    go_wp2_with fail
    refine (wmS_L H39.out H40.out).mono ?_
    rw [h1]
    rintro e w43 ⟨a44, c45, rfl, b46, r47⟩
    have H48 := Hid.mk' (H39.out.below b46)
    clear H39
    have H49 := Hid.mk' (H40.out.below b46)
    clear H40
    have H50 := Hid.mk' (H42.out.below b46)
    clear H42
    have Z51 := Hid.mk' (bel_next Z41.out b46)
    clear Z41
    have H52 : Hid (RL w43 a44 c45 P) := r47
    clear r47
    clear b46
    go_wp2_with fail
    refine (he_L H50.out H52.out).mono ?_
    rw [sq_same]
    rintro e w53 ⟨rfl, b54⟩
    have H55 := Hid.mk' (H48.out.below b54)
    clear H48
    have H56 := Hid.mk' (H49.out.below b54)
    clear H49
    have H57 := Hid.mk' (H50.out.below b54)
    clear H50
    have H58 := Hid.mk' (H52.out.below b54)
    clear H52
    have Z59 := Hid.mk' (bel_next Z51.out b54)
    clear Z51
    clear b54
    by_cases eA : A = []
    · subst eA
      have eP := sym_zl h1
      subst eP
      have q1 := sym_none
      have q2 := cm_zl (sym_ok (wm_args h1).2)
      go_wp2_with fail
      refine (symI_L H55.out).mono ?_
      rw [q1]
      rintro e w60 ⟨a61, c62, rfl, b63, r64⟩
      have H65 := Hid.mk' (H55.out.below b63)
      clear H55
      have H66 := Hid.mk' (H56.out.below b63)
      clear H56
      have H67 := Hid.mk' (H57.out.below b63)
      clear H57
      have H68 := Hid.mk' (H58.out.below b63)
      clear H58
      have Z69 := Hid.mk' (bel_next Z59.out b63)
      clear Z59
      have H70 : Hid (RL w60 a61 c62 []) := r64
      clear r64
      clear b63
      go_wp2_with fail
      refine (symI_L H66.out).mono ?_
      rintro e w71 ⟨a72, c73, rfl, b74, r75⟩
      have H76 := Hid.mk' (H65.out.below b74)
      clear H65
      have H77 := Hid.mk' (H66.out.below b74)
      clear H66
      have H78 := Hid.mk' (H67.out.below b74)
      clear H67
      have H79 := Hid.mk' (H68.out.below b74)
      clear H68
      have H80 := Hid.mk' (H70.out.below b74)
      clear H70
      have Z81 := Hid.mk' (bel_next Z69.out b74)
      clear Z69
      have H82 : Hid (RL w71 a72 c73 (symV B)) := r75
      clear r75
      clear b74
      go_wp2_with fail
      refine (cmI_L H80.out H82.out).mono ?_
      rw [q2]
      rintro e w83 ⟨a84, c85, rfl, b86, r87⟩
      have H88 := Hid.mk' (H76.out.below b86)
      clear H76
      have H89 := Hid.mk' (H77.out.below b86)
      clear H77
      have H90 := Hid.mk' (H78.out.below b86)
      clear H78
      have H91 := Hid.mk' (H79.out.below b86)
      clear H79
      have H92 := Hid.mk' (H80.out.below b86)
      clear H80
      have H93 := Hid.mk' (H82.out.below b86)
      clear H82
      have Z94 := Hid.mk' (bel_next Z81.out b86)
      clear Z81
      have H95 : Hid (RL w83 a84 c85 []) := r87
      clear r87
      clear b86
      obtain ⟨ZZ, o2, h2⟩ : ∃ L o, apV ([] : List T) B = (L, o) := ⟨_, _, rfl⟩
      go_wp2_with fail
      refine (apI_L H88.out H89.out).mono ?_
      rw [h2]
      rintro e w96 ⟨a97, c98, rfl, b99, r100⟩
      have H101 := Hid.mk' (H88.out.below b99)
      clear H88
      have H102 := Hid.mk' (H89.out.below b99)
      clear H89
      have H103 := Hid.mk' (H90.out.below b99)
      clear H90
      have H104 := Hid.mk' (H91.out.below b99)
      clear H91
      have H105 := Hid.mk' (H92.out.below b99)
      clear H92
      have H106 := Hid.mk' (H93.out.below b99)
      clear H93
      have H107 := Hid.mk' (H95.out.below b99)
      clear H95
      have Z108 := Hid.mk' (bel_next Z94.out b99)
      clear Z94
      have H109 : Hid (RL w96 a97 c98 ZZ) := r100
      clear r100
      clear b99
      cases o2
      · go_wp2_with fail
        refine (symI_L H103.out).mono ?_
        rw [q1]
        rintro e w110 ⟨a111, c112, rfl, b113, r114⟩
        have H115 := Hid.mk' (H101.out.below b113)
        clear H101
        have H116 := Hid.mk' (H102.out.below b113)
        clear H102
        have H117 := Hid.mk' (H103.out.below b113)
        clear H103
        have H118 := Hid.mk' (H104.out.below b113)
        clear H104
        have H119 := Hid.mk' (H105.out.below b113)
        clear H105
        have H120 := Hid.mk' (H106.out.below b113)
        clear H106
        have H121 := Hid.mk' (H107.out.below b113)
        clear H107
        have H122 := Hid.mk' (H109.out.below b113)
        clear H109
        have Z123 := Hid.mk' (bel_next Z108.out b113)
        clear Z108
        have H124 : Hid (RL w110 a111 c112 []) := r114
        clear r114
        clear b113
        go_wp2_with fail
        refine (he_L H124.out H121.out).mono ?_
        rw [sq_same]
        rintro e w125 ⟨rfl, b126⟩
        have H127 := Hid.mk' (H115.out.below b126)
        clear H115
        have H128 := Hid.mk' (H116.out.below b126)
        clear H116
        have H129 := Hid.mk' (H117.out.below b126)
        clear H117
        have H130 := Hid.mk' (H118.out.below b126)
        clear H118
        have H131 := Hid.mk' (H119.out.below b126)
        clear H119
        have H132 := Hid.mk' (H120.out.below b126)
        clear H120
        have H133 := Hid.mk' (H121.out.below b126)
        clear H121
        have H134 := Hid.mk' (H122.out.below b126)
        clear H122
        have H135 := Hid.mk' (H124.out.below b126)
        clear H124
        have Z136 := Hid.mk' (bel_next Z123.out b126)
        clear Z123
        clear b126
        go_wp2_with fail
        refine (heOk_L _ ).mono ?_
        rintro e w137 ⟨rfl, b138⟩
        have H139 := Hid.mk' (H127.out.below b138)
        clear H127
        have H140 := Hid.mk' (H128.out.below b138)
        clear H128
        have H141 := Hid.mk' (H129.out.below b138)
        clear H129
        have H142 := Hid.mk' (H130.out.below b138)
        clear H130
        have H143 := Hid.mk' (H131.out.below b138)
        clear H131
        have H144 := Hid.mk' (H132.out.below b138)
        clear H132
        have H145 := Hid.mk' (H133.out.below b138)
        clear H133
        have H146 := Hid.mk' (H134.out.below b138)
        clear H134
        have H147 := Hid.mk' (H135.out.below b138)
        clear H135
        have Z148 := Hid.mk' (bel_next Z136.out b138)
        clear Z136
        clear b138
        go_wp2
        go_ret
        exact ⟨rfl, Z148.out⟩
      · go_wp2_with fail
        refine (symI_L H103.out).mono ?_
        rw [q1]
        rintro e w149 ⟨a150, c151, rfl, b152, r153⟩
        have H154 := Hid.mk' (H101.out.below b152)
        clear H101
        have H155 := Hid.mk' (H102.out.below b152)
        clear H102
        have H156 := Hid.mk' (H103.out.below b152)
        clear H103
        have H157 := Hid.mk' (H104.out.below b152)
        clear H104
        have H158 := Hid.mk' (H105.out.below b152)
        clear H105
        have H159 := Hid.mk' (H106.out.below b152)
        clear H106
        have H160 := Hid.mk' (H107.out.below b152)
        clear H107
        have H161 := Hid.mk' (H109.out.below b152)
        clear H109
        have Z162 := Hid.mk' (bel_next Z108.out b152)
        clear Z108
        have H163 : Hid (RL w149 a150 c151 []) := r153
        clear r153
        clear b152
        go_wp2_with fail
        refine (he_L H163.out H160.out).mono ?_
        rw [sq_same]
        rintro e w164 ⟨rfl, b165⟩
        have H166 := Hid.mk' (H154.out.below b165)
        clear H154
        have H167 := Hid.mk' (H155.out.below b165)
        clear H155
        have H168 := Hid.mk' (H156.out.below b165)
        clear H156
        have H169 := Hid.mk' (H157.out.below b165)
        clear H157
        have H170 := Hid.mk' (H158.out.below b165)
        clear H158
        have H171 := Hid.mk' (H159.out.below b165)
        clear H159
        have H172 := Hid.mk' (H160.out.below b165)
        clear H160
        have H173 := Hid.mk' (H161.out.below b165)
        clear H161
        have H174 := Hid.mk' (H163.out.below b165)
        clear H163
        have Z175 := Hid.mk' (bel_next Z162.out b165)
        clear Z162
        clear b165
        go_wp2_with fail
        refine (heOk_L _ ).mono ?_
        rintro e w176 ⟨rfl, b177⟩
        have H178 := Hid.mk' (H166.out.below b177)
        clear H166
        have H179 := Hid.mk' (H167.out.below b177)
        clear H167
        have H180 := Hid.mk' (H168.out.below b177)
        clear H168
        have H181 := Hid.mk' (H169.out.below b177)
        clear H169
        have H182 := Hid.mk' (H170.out.below b177)
        clear H170
        have H183 := Hid.mk' (H171.out.below b177)
        clear H171
        have H184 := Hid.mk' (H172.out.below b177)
        clear H172
        have H185 := Hid.mk' (H173.out.below b177)
        clear H173
        have H186 := Hid.mk' (H174.out.below b177)
        clear H174
        have Z187 := Hid.mk' (bel_next Z175.out b177)
        clear Z175
        clear b177
        go_wp2
        go_ret
        exact ⟨rfl, Z187.out⟩
    · by_cases eB : B = []
      · subst eB
        have eP := sym_zr h1
        subst eP
        have q1 := sym_none
        have q2 := cm_zr (sym_ok (wm_args h1).1)
        have hpa : (0 : Int) < (A.length : Int) := by have := List.length_pos_iff.2 eA; omega
        go_wp2_with fail
        refine (symI_L H55.out).mono ?_
        rintro e w188 ⟨a189, c190, rfl, b191, r192⟩
        have H193 := Hid.mk' (H55.out.below b191)
        clear H55
        have H194 := Hid.mk' (H56.out.below b191)
        clear H56
        have H195 := Hid.mk' (H57.out.below b191)
        clear H57
        have H196 := Hid.mk' (H58.out.below b191)
        clear H58
        have Z197 := Hid.mk' (bel_next Z59.out b191)
        clear Z59
        have H198 : Hid (RL w188 a189 c190 (symV A)) := r192
        clear r192
        clear b191
        go_wp2_with fail
        refine (symI_L H194.out).mono ?_
        rw [q1]
        rintro e w199 ⟨a200, c201, rfl, b202, r203⟩
        have H204 := Hid.mk' (H193.out.below b202)
        clear H193
        have H205 := Hid.mk' (H194.out.below b202)
        clear H194
        have H206 := Hid.mk' (H195.out.below b202)
        clear H195
        have H207 := Hid.mk' (H196.out.below b202)
        clear H196
        have H208 := Hid.mk' (H198.out.below b202)
        clear H198
        have Z209 := Hid.mk' (bel_next Z197.out b202)
        clear Z197
        have H210 : Hid (RL w199 a200 c201 []) := r203
        clear r203
        clear b202
        go_wp2_with fail
        refine (cmI_L H208.out H210.out).mono ?_
        rw [q2]
        rintro e w211 ⟨a212, c213, rfl, b214, r215⟩
        have H216 := Hid.mk' (H204.out.below b214)
        clear H204
        have H217 := Hid.mk' (H205.out.below b214)
        clear H205
        have H218 := Hid.mk' (H206.out.below b214)
        clear H206
        have H219 := Hid.mk' (H207.out.below b214)
        clear H207
        have H220 := Hid.mk' (H208.out.below b214)
        clear H208
        have H221 := Hid.mk' (H210.out.below b214)
        clear H210
        have Z222 := Hid.mk' (bel_next Z209.out b214)
        clear Z209
        have H223 : Hid (RL w211 a212 c213 []) := r215
        clear r215
        clear b214
        obtain ⟨ZZ, o2, h2⟩ : ∃ L o, apV A ([] : List T) = (L, o) := ⟨_, _, rfl⟩
        go_wp2_with fail
        refine (apI_L H216.out H217.out).mono ?_
        rw [h2]
        rintro e w224 ⟨a225, c226, rfl, b227, r228⟩
        have H229 := Hid.mk' (H216.out.below b227)
        clear H216
        have H230 := Hid.mk' (H217.out.below b227)
        clear H217
        have H231 := Hid.mk' (H218.out.below b227)
        clear H218
        have H232 := Hid.mk' (H219.out.below b227)
        clear H219
        have H233 := Hid.mk' (H220.out.below b227)
        clear H220
        have H234 := Hid.mk' (H221.out.below b227)
        clear H221
        have H235 := Hid.mk' (H223.out.below b227)
        clear H223
        have Z236 := Hid.mk' (bel_next Z222.out b227)
        clear Z222
        have H237 : Hid (RL w224 a225 c226 ZZ) := r228
        clear r228
        clear b227
        cases o2
        · go_wp2_with fail
          refine (symI_L H231.out).mono ?_
          rw [q1]
          rintro e w238 ⟨a239, c240, rfl, b241, r242⟩
          have H243 := Hid.mk' (H229.out.below b241)
          clear H229
          have H244 := Hid.mk' (H230.out.below b241)
          clear H230
          have H245 := Hid.mk' (H231.out.below b241)
          clear H231
          have H246 := Hid.mk' (H232.out.below b241)
          clear H232
          have H247 := Hid.mk' (H233.out.below b241)
          clear H233
          have H248 := Hid.mk' (H234.out.below b241)
          clear H234
          have H249 := Hid.mk' (H235.out.below b241)
          clear H235
          have H250 := Hid.mk' (H237.out.below b241)
          clear H237
          have Z251 := Hid.mk' (bel_next Z236.out b241)
          clear Z236
          have H252 : Hid (RL w238 a239 c240 []) := r242
          clear r242
          clear b241
          go_wp2_with fail
          refine (he_L H252.out H249.out).mono ?_
          rw [sq_same]
          rintro e w253 ⟨rfl, b254⟩
          have H255 := Hid.mk' (H243.out.below b254)
          clear H243
          have H256 := Hid.mk' (H244.out.below b254)
          clear H244
          have H257 := Hid.mk' (H245.out.below b254)
          clear H245
          have H258 := Hid.mk' (H246.out.below b254)
          clear H246
          have H259 := Hid.mk' (H247.out.below b254)
          clear H247
          have H260 := Hid.mk' (H248.out.below b254)
          clear H248
          have H261 := Hid.mk' (H249.out.below b254)
          clear H249
          have H262 := Hid.mk' (H250.out.below b254)
          clear H250
          have H263 := Hid.mk' (H252.out.below b254)
          clear H252
          have Z264 := Hid.mk' (bel_next Z251.out b254)
          clear Z251
          clear b254
          go_wp2_with fail
          refine (heOk_L _ ).mono ?_
          rintro e w265 ⟨rfl, b266⟩
          have H267 := Hid.mk' (H255.out.below b266)
          clear H255
          have H268 := Hid.mk' (H256.out.below b266)
          clear H256
          have H269 := Hid.mk' (H257.out.below b266)
          clear H257
          have H270 := Hid.mk' (H258.out.below b266)
          clear H258
          have H271 := Hid.mk' (H259.out.below b266)
          clear H259
          have H272 := Hid.mk' (H260.out.below b266)
          clear H260
          have H273 := Hid.mk' (H261.out.below b266)
          clear H261
          have H274 := Hid.mk' (H262.out.below b266)
          clear H262
          have H275 := Hid.mk' (H263.out.below b266)
          clear H263
          have Z276 := Hid.mk' (bel_next Z264.out b266)
          clear Z264
          clear b266
          go_wp2
          go_ret
          exact ⟨rfl, Z276.out⟩
        · go_wp2_with fail
          refine (symI_L H231.out).mono ?_
          rw [q1]
          rintro e w277 ⟨a278, c279, rfl, b280, r281⟩
          have H282 := Hid.mk' (H229.out.below b280)
          clear H229
          have H283 := Hid.mk' (H230.out.below b280)
          clear H230
          have H284 := Hid.mk' (H231.out.below b280)
          clear H231
          have H285 := Hid.mk' (H232.out.below b280)
          clear H232
          have H286 := Hid.mk' (H233.out.below b280)
          clear H233
          have H287 := Hid.mk' (H234.out.below b280)
          clear H234
          have H288 := Hid.mk' (H235.out.below b280)
          clear H235
          have H289 := Hid.mk' (H237.out.below b280)
          clear H237
          have Z290 := Hid.mk' (bel_next Z236.out b280)
          clear Z236
          have H291 : Hid (RL w277 a278 c279 []) := r281
          clear r281
          clear b280
          go_wp2_with fail
          refine (he_L H291.out H288.out).mono ?_
          rw [sq_same]
          rintro e w292 ⟨rfl, b293⟩
          have H294 := Hid.mk' (H282.out.below b293)
          clear H282
          have H295 := Hid.mk' (H283.out.below b293)
          clear H283
          have H296 := Hid.mk' (H284.out.below b293)
          clear H284
          have H297 := Hid.mk' (H285.out.below b293)
          clear H285
          have H298 := Hid.mk' (H286.out.below b293)
          clear H286
          have H299 := Hid.mk' (H287.out.below b293)
          clear H287
          have H300 := Hid.mk' (H288.out.below b293)
          clear H288
          have H301 := Hid.mk' (H289.out.below b293)
          clear H289
          have H302 := Hid.mk' (H291.out.below b293)
          clear H291
          have Z303 := Hid.mk' (bel_next Z290.out b293)
          clear Z290
          clear b293
          go_wp2_with fail
          refine (heOk_L _ ).mono ?_
          rintro e w304 ⟨rfl, b305⟩
          have H306 := Hid.mk' (H294.out.below b305)
          clear H294
          have H307 := Hid.mk' (H295.out.below b305)
          clear H295
          have H308 := Hid.mk' (H296.out.below b305)
          clear H296
          have H309 := Hid.mk' (H297.out.below b305)
          clear H297
          have H310 := Hid.mk' (H298.out.below b305)
          clear H298
          have H311 := Hid.mk' (H299.out.below b305)
          clear H299
          have H312 := Hid.mk' (H300.out.below b305)
          clear H300
          have H313 := Hid.mk' (H301.out.below b305)
          clear H301
          have H314 := Hid.mk' (H302.out.below b305)
          clear H302
          have Z315 := Hid.mk' (bel_next Z303.out b305)
          clear Z303
          clear b305
          go_wp2
          go_ret
          exact ⟨rfl, Z315.out⟩
      · have hpa : (0 : Int) < (A.length : Int) := by have := List.length_pos_iff.2 eA; omega
        have hpb : (0 : Int) < (B.length : Int) := by have := List.length_pos_iff.2 eB; omega
        have q2 := sym_prod h1 eA eB hlA hlB
        go_wp2_with fail
        refine (symI_L H55.out).mono ?_
        rintro e w316 ⟨a317, c318, rfl, b319, r320⟩
        have H321 := Hid.mk' (H55.out.below b319)
        clear H55
        have H322 := Hid.mk' (H56.out.below b319)
        clear H56
        have H323 := Hid.mk' (H57.out.below b319)
        clear H57
        have H324 := Hid.mk' (H58.out.below b319)
        clear H58
        have Z325 := Hid.mk' (bel_next Z59.out b319)
        clear Z59
        have H326 : Hid (RL w316 a317 c318 (symV A)) := r320
        clear r320
        clear b319
        go_wp2_with fail
        refine (symI_L H322.out).mono ?_
        rintro e w327 ⟨a328, c329, rfl, b330, r331⟩
        have H332 := Hid.mk' (H321.out.below b330)
        clear H321
        have H333 := Hid.mk' (H322.out.below b330)
        clear H322
        have H334 := Hid.mk' (H323.out.below b330)
        clear H323
        have H335 := Hid.mk' (H324.out.below b330)
        clear H324
        have H336 := Hid.mk' (H326.out.below b330)
        clear H326
        have Z337 := Hid.mk' (bel_next Z325.out b330)
        clear Z325
        have H338 : Hid (RL w327 a328 c329 (symV B)) := r331
        clear r331
        clear b330
        go_wp2_with fail
        refine (cmI_L H336.out H338.out).mono ?_
        rw [q2]
        rintro e w339 ⟨a340, c341, rfl, b342, r343⟩
        have H344 := Hid.mk' (H332.out.below b342)
        clear H332
        have H345 := Hid.mk' (H333.out.below b342)
        clear H333
        have H346 := Hid.mk' (H334.out.below b342)
        clear H334
        have H347 := Hid.mk' (H335.out.below b342)
        clear H335
        have H348 := Hid.mk' (H336.out.below b342)
        clear H336
        have H349 := Hid.mk' (H338.out.below b342)
        clear H338
        have Z350 := Hid.mk' (bel_next Z337.out b342)
        clear Z337
        have H351 : Hid (RL w339 a340 c341 (symV P)) := r343
        clear r343
        clear b342
        rcases apV_if A B with h2 | ⟨ZZ, h2⟩
        · go_wp2_with fail
          refine (apI_L H344.out H345.out).mono ?_
          rw [h2]
          rintro e w352 ⟨a353, c354, rfl, b355, r356⟩
          have H357 := Hid.mk' (H344.out.below b355)
          clear H344
          have H358 := Hid.mk' (H345.out.below b355)
          clear H345
          have H359 := Hid.mk' (H346.out.below b355)
          clear H346
          have H360 := Hid.mk' (H347.out.below b355)
          clear H347
          have H361 := Hid.mk' (H348.out.below b355)
          clear H348
          have H362 := Hid.mk' (H349.out.below b355)
          clear H349
          have H363 := Hid.mk' (H351.out.below b355)
          clear H351
          have Z364 := Hid.mk' (bel_next Z350.out b355)
          clear Z350
          have H365 : Hid (RL w352 a353 c354 []) := r356
          clear r356
          clear b355
          go_wp2_with fail
          refine (symI_L H359.out).mono ?_
          rintro e w366 ⟨a367, c368, rfl, b369, r370⟩
          have H371 := Hid.mk' (H357.out.below b369)
          clear H357
          have H372 := Hid.mk' (H358.out.below b369)
          clear H358
          have H373 := Hid.mk' (H359.out.below b369)
          clear H359
          have H374 := Hid.mk' (H360.out.below b369)
          clear H360
          have H375 := Hid.mk' (H361.out.below b369)
          clear H361
          have H376 := Hid.mk' (H362.out.below b369)
          clear H362
          have H377 := Hid.mk' (H363.out.below b369)
          clear H363
          have H378 := Hid.mk' (H365.out.below b369)
          clear H365
          have Z379 := Hid.mk' (bel_next Z364.out b369)
          clear Z364
          have H380 : Hid (RL w366 a367 c368 (symV P)) := r370
          clear r370
          clear b369
          go_wp2_with fail
          refine (he_L H380.out H377.out).mono ?_
          rw [sq_same]
          rintro e w381 ⟨rfl, b382⟩
          have H383 := Hid.mk' (H371.out.below b382)
          clear H371
          have H384 := Hid.mk' (H372.out.below b382)
          clear H372
          have H385 := Hid.mk' (H373.out.below b382)
          clear H373
          have H386 := Hid.mk' (H374.out.below b382)
          clear H374
          have H387 := Hid.mk' (H375.out.below b382)
          clear H375
          have H388 := Hid.mk' (H376.out.below b382)
          clear H376
          have H389 := Hid.mk' (H377.out.below b382)
          clear H377
          have H390 := Hid.mk' (H378.out.below b382)
          clear H378
          have H391 := Hid.mk' (H380.out.below b382)
          clear H380
          have Z392 := Hid.mk' (bel_next Z379.out b382)
          clear Z379
          clear b382
          go_wp2_with fail
          refine (heOk_L _ ).mono ?_
          rintro e w393 ⟨rfl, b394⟩
          have H395 := Hid.mk' (H383.out.below b394)
          clear H383
          have H396 := Hid.mk' (H384.out.below b394)
          clear H384
          have H397 := Hid.mk' (H385.out.below b394)
          clear H385
          have H398 := Hid.mk' (H386.out.below b394)
          clear H386
          have H399 := Hid.mk' (H387.out.below b394)
          clear H387
          have H400 := Hid.mk' (H388.out.below b394)
          clear H388
          have H401 := Hid.mk' (H389.out.below b394)
          clear H389
          have H402 := Hid.mk' (H390.out.below b394)
          clear H390
          have H403 := Hid.mk' (H391.out.below b394)
          clear H391
          have Z404 := Hid.mk' (bel_next Z392.out b394)
          clear Z392
          clear b394
          go_wp2
          go_ret
          exact ⟨rfl, Z404.out⟩
        · go_wp2_with fail
          refine (apI_L H344.out H345.out).mono ?_
          rw [h2]
          rintro e w405 ⟨a406, c407, rfl, b408, r409⟩
          have H410 := Hid.mk' (H344.out.below b408)
          clear H344
          have H411 := Hid.mk' (H345.out.below b408)
          clear H345
          have H412 := Hid.mk' (H346.out.below b408)
          clear H346
          have H413 := Hid.mk' (H347.out.below b408)
          clear H347
          have H414 := Hid.mk' (H348.out.below b408)
          clear H348
          have H415 := Hid.mk' (H349.out.below b408)
          clear H349
          have H416 := Hid.mk' (H351.out.below b408)
          clear H351
          have Z417 := Hid.mk' (bel_next Z350.out b408)
          clear Z350
          have H418 : Hid (RL w405 a406 c407 ZZ) := r409
          clear r409
          clear b408
          have hlt := sym_apart h2 eA eB
          have r3 := mo_bdD slp_hiD (wm_args h1).1
          have r4 := mo_bdD slp_hiD (wm_args h1).2
          obtain ⟨z1, hz1⟩ : ∃ z, moL slp ZZ = z := ⟨_, rfl⟩
          obtain ⟨z2, hz2⟩ : ∃ z, moL slp A = z := ⟨_, rfl⟩
          obtain ⟨z3, hz3⟩ : ∃ z, moL slp B = z := ⟨_, rfl⟩
          rw [hz1, hz2, hz3] at hlt
          rw [hz2] at r3
          rw [hz3] at r4
          have hwr : IntKind.i64.wrap (z2 + z3) = z2 + z3 := by rw [IntKind.wrap_i64]; omega
          have hnl : ¬ z2 + z3 ≤ z1 := by omega
          go_wp2_with fail
          refine (ordI_L H418.out).mono ?_
          rw [hz1]
          rintro e w419 ⟨rfl, b420⟩
          have H421 := Hid.mk' (H410.out.below b420)
          clear H410
          have H422 := Hid.mk' (H411.out.below b420)
          clear H411
          have H423 := Hid.mk' (H412.out.below b420)
          clear H412
          have H424 := Hid.mk' (H413.out.below b420)
          clear H413
          have H425 := Hid.mk' (H414.out.below b420)
          clear H414
          have H426 := Hid.mk' (H415.out.below b420)
          clear H415
          have H427 := Hid.mk' (H416.out.below b420)
          clear H416
          have H428 := Hid.mk' (H418.out.below b420)
          clear H418
          have Z429 := Hid.mk' (bel_next Z417.out b420)
          clear Z417
          clear b420
          go_wp2_with fail
          refine (ordI_L H421.out).mono ?_
          rw [hz2]
          rintro e w430 ⟨rfl, b431⟩
          have H432 := Hid.mk' (H421.out.below b431)
          clear H421
          have H433 := Hid.mk' (H422.out.below b431)
          clear H422
          have H434 := Hid.mk' (H423.out.below b431)
          clear H423
          have H435 := Hid.mk' (H424.out.below b431)
          clear H424
          have H436 := Hid.mk' (H425.out.below b431)
          clear H425
          have H437 := Hid.mk' (H426.out.below b431)
          clear H426
          have H438 := Hid.mk' (H427.out.below b431)
          clear H427
          have H439 := Hid.mk' (H428.out.below b431)
          clear H428
          have Z440 := Hid.mk' (bel_next Z429.out b431)
          clear Z429
          clear b431
          go_wp2_with fail
          refine (ordI_L H433.out).mono ?_
          rw [hz3]
          rintro e w441 ⟨rfl, b442⟩
          have H443 := Hid.mk' (H432.out.below b442)
          clear H432
          have H444 := Hid.mk' (H433.out.below b442)
          clear H433
          have H445 := Hid.mk' (H434.out.below b442)
          clear H434
          have H446 := Hid.mk' (H435.out.below b442)
          clear H435
          have H447 := Hid.mk' (H436.out.below b442)
          clear H436
          have H448 := Hid.mk' (H437.out.below b442)
          clear H437
          have H449 := Hid.mk' (H438.out.below b442)
          clear H438
          have H450 := Hid.mk' (H439.out.below b442)
          clear H439
          have Z451 := Hid.mk' (bel_next Z440.out b442)
          clear Z440
          clear b442
          go_wp2_with fail
          refine (symI_L H445.out).mono ?_
          rintro e w452 ⟨a453, c454, rfl, b455, r456⟩
          have H457 := Hid.mk' (H443.out.below b455)
          clear H443
          have H458 := Hid.mk' (H444.out.below b455)
          clear H444
          have H459 := Hid.mk' (H445.out.below b455)
          clear H445
          have H460 := Hid.mk' (H446.out.below b455)
          clear H446
          have H461 := Hid.mk' (H447.out.below b455)
          clear H447
          have H462 := Hid.mk' (H448.out.below b455)
          clear H448
          have H463 := Hid.mk' (H449.out.below b455)
          clear H449
          have H464 := Hid.mk' (H450.out.below b455)
          clear H450
          have Z465 := Hid.mk' (bel_next Z451.out b455)
          clear Z451
          have H466 : Hid (RL w452 a453 c454 (symV P)) := r456
          clear r456
          clear b455
          go_wp2_with fail
          refine (he_L H466.out H463.out).mono ?_
          rw [sq_same]
          rintro e w467 ⟨rfl, b468⟩
          have H469 := Hid.mk' (H457.out.below b468)
          clear H457
          have H470 := Hid.mk' (H458.out.below b468)
          clear H458
          have H471 := Hid.mk' (H459.out.below b468)
          clear H459
          have H472 := Hid.mk' (H460.out.below b468)
          clear H460
          have H473 := Hid.mk' (H461.out.below b468)
          clear H461
          have H474 := Hid.mk' (H462.out.below b468)
          clear H462
          have H475 := Hid.mk' (H463.out.below b468)
          clear H463
          have H476 := Hid.mk' (H464.out.below b468)
          clear H464
          have H477 := Hid.mk' (H466.out.below b468)
          clear H466
          have Z478 := Hid.mk' (bel_next Z465.out b468)
          clear Z465
          clear b468
          go_wp2_with fail
          refine (heOk_L _ ).mono ?_
          rintro e w479 ⟨rfl, b480⟩
          have H481 := Hid.mk' (H469.out.below b480)
          clear H469
          have H482 := Hid.mk' (H470.out.below b480)
          clear H470
          have H483 := Hid.mk' (H471.out.below b480)
          clear H471
          have H484 := Hid.mk' (H472.out.below b480)
          clear H472
          have H485 := Hid.mk' (H473.out.below b480)
          clear H473
          have H486 := Hid.mk' (H474.out.below b480)
          clear H474
          have H487 := Hid.mk' (H475.out.below b480)
          clear H475
          have H488 := Hid.mk' (H476.out.below b480)
          clear H476
          have H489 := Hid.mk' (H477.out.below b480)
          clear H477
          have Z490 := Hid.mk' (bel_next Z478.out b480)
          clear Z478
          clear b480
          go_wp2
          go_ret
          exact ⟨rfl, Z490.out⟩
end Go.Proofs.YtlndccbgbclnhaaGreat
