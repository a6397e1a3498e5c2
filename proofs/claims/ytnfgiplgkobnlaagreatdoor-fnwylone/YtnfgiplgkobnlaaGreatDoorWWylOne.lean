/-
  The walk of FnWylOne: whatever the code, it comes out true, and nothing that was there is turned.
-/
import Derived.Test.YtnfgiplgkobnlaaGreatDoorW1M
import Derived.Test.YtnfgiplgkobnlaaGreatDoorGaz
namespace Go.Proofs.YtnfgiplgkobnlaaGreatDoor
open Go.RowKit
set_option linter.unusedVariables false
set_option maxRecDepth 100000 in
set_option maxHeartbeats 8000000 in
theorem walk_FnWylOne (w : World) (a0 : Option Addr) (len0 cap0 : Nat) (s0 : Src w a0 len0 cap0) (hT : Tb w) :
    Calls Tryz.prog 4 #[.slice a0 len0 cap0] w fun e w' => e = .returned (.bool true) ∧ Below w.heap.size w w' := by
  by_cases c0 : (1048576 : Int) < (len0 : Int)
  · go_enter Tryz.func4, Tryz.ntmps4
    go_wp2
    go_ret
    exact ⟨rfl, Below.refl _ _⟩
  go_enter Tryz.func4, Tryz.ntmps4
  go_wp2_with fail
  refine (drawWylMul w a0 len0 cap0 s0).mono ?_
  rintro e wd ⟨da, dca, A, db, dcb, B, rfl, hA, hB, hlA, hlB, hbd⟩
  have HA0 := Hid.mk' hA
  have TB0 := Hid.mk' (Tb.below hT hbd)
  have Z0 := Hid.mk' hbd
  clear hA hB hbd s0 hT
  obtain ⟨ok, hok⟩ : ∃ b, okL A = b := ⟨_, rfl⟩
  have HOK := Hid.mk' hok
  clear hok
  cases ok
  · have E1 := Hid.mk' (wm_no HOK.out [uniT])
    have E2 := Hid.mk' (wm_no2 HOK.out [uniT])
    have E3 := Hid.mk' (wm_no HOK.out [])
    go_wp2_with fail
    refine (oneI_L _ ).mono ?_
    rintro e w1 ⟨a2, c3, rfl, b4, r5⟩
    have TB6 := Hid.mk' (Tb.below TB0.out b4)
    clear TB0
    have H7 := Hid.mk' (HA0.out.below b4)
    clear HA0
    have Z8 := Hid.mk' (bel_next Z0.out b4)
    clear Z0
    have H9 : Hid (RL w1 a2 c3 [uniT]) := r5
    clear r5
    clear b4
    go_wp2_with fail
    refine (wmI_L H7.out H9.out).mono ?_
    rw [E1.out]
    rintro e w10 ⟨a11, c12, rfl, b13, r14⟩
    have TB15 := Hid.mk' (Tb.below TB6.out b13)
    clear TB6
    have H16 := Hid.mk' (H7.out.below b13)
    clear H7
    have H17 := Hid.mk' (H9.out.below b13)
    clear H9
    have Z18 := Hid.mk' (bel_next Z8.out b13)
    clear Z8
    have H19 : Hid (RL w10 a11 c12 []) := r14
    clear r14
    clear b13
    go_wp2_with fail
    refine (oneI_L _ ).mono ?_
    rintro e w20 ⟨a21, c22, rfl, b23, r24⟩
    have TB25 := Hid.mk' (Tb.below TB15.out b23)
    clear TB15
    have H26 := Hid.mk' (H16.out.below b23)
    clear H16
    have H27 := Hid.mk' (H17.out.below b23)
    clear H17
    have H28 := Hid.mk' (H19.out.below b23)
    clear H19
    have Z29 := Hid.mk' (bel_next Z18.out b23)
    clear Z18
    have H30 : Hid (RL w20 a21 c22 [uniT]) := r24
    clear r24
    clear b23
    go_wp2_with fail
    refine (wmS_L H26.out H30.out).mono ?_
    rw [E1.out]
    rintro e w31 ⟨a32, c33, rfl, b34, r35⟩
    have TB36 := Hid.mk' (Tb.below TB25.out b34)
    clear TB25
    have H37 := Hid.mk' (H26.out.below b34)
    clear H26
    have H38 := Hid.mk' (H27.out.below b34)
    clear H27
    have H39 := Hid.mk' (H28.out.below b34)
    clear H28
    have H40 := Hid.mk' (H30.out.below b34)
    clear H30
    have Z41 := Hid.mk' (bel_next Z29.out b34)
    clear Z29
    have H42 : Hid (RL w31 a32 c33 []) := r35
    clear r35
    clear b34
    go_wp2_with fail
    refine (oneI_L _ ).mono ?_
    rintro e w43 ⟨a44, c45, rfl, b46, r47⟩
    have TB48 := Hid.mk' (Tb.below TB36.out b46)
    clear TB36
    have H49 := Hid.mk' (H37.out.below b46)
    clear H37
    have H50 := Hid.mk' (H38.out.below b46)
    clear H38
    have H51 := Hid.mk' (H39.out.below b46)
    clear H39
    have H52 := Hid.mk' (H40.out.below b46)
    clear H40
    have H53 := Hid.mk' (H42.out.below b46)
    clear H42
    have Z54 := Hid.mk' (bel_next Z41.out b46)
    clear Z41
    have H55 : Hid (RL w43 a44 c45 [uniT]) := r47
    clear r47
    clear b46
    go_wp2_with fail
    refine (wmI_L H55.out H49.out).mono ?_
    rw [E2.out]
    rintro e w56 ⟨a57, c58, rfl, b59, r60⟩
    have TB61 := Hid.mk' (Tb.below TB48.out b59)
    clear TB48
    have H62 := Hid.mk' (H49.out.below b59)
    clear H49
    have H63 := Hid.mk' (H50.out.below b59)
    clear H50
    have H64 := Hid.mk' (H51.out.below b59)
    clear H51
    have H65 := Hid.mk' (H52.out.below b59)
    clear H52
    have H66 := Hid.mk' (H53.out.below b59)
    clear H53
    have H67 := Hid.mk' (H55.out.below b59)
    clear H55
    have Z68 := Hid.mk' (bel_next Z54.out b59)
    clear Z54
    have H69 : Hid (RL w56 a57 c58 []) := r60
    clear r60
    clear b59
    have bz := bel_one w56 (.cells #[] 45)
    have HZ0 : Hid (RL (w56.alloc (.cells #[] 45)) (some ⟨w56.heap.size, 0, none⟩) 0 []) := ⟨Nat.le_refl _, by simp, .inl rfl⟩
    have TB70 := Hid.mk' (Tb.below TB61.out bz)
    clear TB61
    have H71 := Hid.mk' (H62.out.below bz)
    clear H62
    have H72 := Hid.mk' (H63.out.below bz)
    clear H63
    have H73 := Hid.mk' (H64.out.below bz)
    clear H64
    have H74 := Hid.mk' (H65.out.below bz)
    clear H65
    have H75 := Hid.mk' (H66.out.below bz)
    clear H66
    have H76 := Hid.mk' (H67.out.below bz)
    clear H67
    have H77 := Hid.mk' (H69.out.below bz)
    clear H69
    have Z78 := Hid.mk' (bel_next Z68.out bz)
    clear Z68
    clear bz
    go_wp2_with fail
    refine (wmI_L H71.out HZ0.out).mono ?_
    rw [E3.out]
    rintro e w79 ⟨a80, c81, rfl, b82, r83⟩
    have TB84 := Hid.mk' (Tb.below TB70.out b82)
    clear TB70
    have H85 := Hid.mk' (H71.out.below b82)
    clear H71
    have H86 := Hid.mk' (H72.out.below b82)
    clear H72
    have H87 := Hid.mk' (H73.out.below b82)
    clear H73
    have H88 := Hid.mk' (H74.out.below b82)
    clear H74
    have H89 := Hid.mk' (H75.out.below b82)
    clear H75
    have H90 := Hid.mk' (H76.out.below b82)
    clear H76
    have H91 := Hid.mk' (H77.out.below b82)
    clear H77
    have H92 := Hid.mk' (HZ0.out.below b82)
    clear HZ0
    have Z93 := Hid.mk' (bel_next Z78.out b82)
    clear Z78
    have H94 : Hid (RL w79 a80 c81 []) := r83
    clear r83
    clear b82
    go_wp2_with fail
    refine (he_L H87.out H89.out).mono ?_
    rw [sq_same]
    rintro e w95 ⟨rfl, b96⟩
    have TB97 := Hid.mk' (Tb.below TB84.out b96)
    clear TB84
    have H98 := Hid.mk' (H85.out.below b96)
    clear H85
    have H99 := Hid.mk' (H86.out.below b96)
    clear H86
    have H100 := Hid.mk' (H87.out.below b96)
    clear H87
    have H101 := Hid.mk' (H88.out.below b96)
    clear H88
    have H102 := Hid.mk' (H89.out.below b96)
    clear H89
    have H103 := Hid.mk' (H90.out.below b96)
    clear H90
    have H104 := Hid.mk' (H91.out.below b96)
    clear H91
    have H105 := Hid.mk' (H92.out.below b96)
    clear H92
    have H106 := Hid.mk' (H94.out.below b96)
    clear H94
    have Z107 := Hid.mk' (bel_next Z93.out b96)
    clear Z93
    clear b96
    go_wp2_with fail
    refine (okS_L H98.out).mono ?_
    rw [HOK.out]
    rintro e w108 ⟨rfl, b109⟩
    have TB110 := Hid.mk' (Tb.below TB97.out b109)
    clear TB97
    have H111 := Hid.mk' (H98.out.below b109)
    clear H98
    have H112 := Hid.mk' (H99.out.below b109)
    clear H99
    have H113 := Hid.mk' (H100.out.below b109)
    clear H100
    have H114 := Hid.mk' (H101.out.below b109)
    clear H101
    have H115 := Hid.mk' (H102.out.below b109)
    clear H102
    have H116 := Hid.mk' (H103.out.below b109)
    clear H103
    have H117 := Hid.mk' (H104.out.below b109)
    clear H104
    have H118 := Hid.mk' (H105.out.below b109)
    clear H105
    have H119 := Hid.mk' (H106.out.below b109)
    clear H106
    have Z120 := Hid.mk' (bel_next Z107.out b109)
    clear Z107
    clear b109
    go_wp2_with fail
    refine (ofI_L 1 0 0 1 0 _ (L := [dT]) (by rfl) (by simp) ).mono ?_
    rintro e w121 ⟨a122, c123, rfl, b124, r125⟩
    have TB126 := Hid.mk' (Tb.below TB110.out b124)
    clear TB110
    have H127 := Hid.mk' (H111.out.below b124)
    clear H111
    have H128 := Hid.mk' (H112.out.below b124)
    clear H112
    have H129 := Hid.mk' (H113.out.below b124)
    clear H113
    have H130 := Hid.mk' (H114.out.below b124)
    clear H114
    have H131 := Hid.mk' (H115.out.below b124)
    clear H115
    have H132 := Hid.mk' (H116.out.below b124)
    clear H116
    have H133 := Hid.mk' (H117.out.below b124)
    clear H117
    have H134 := Hid.mk' (H118.out.below b124)
    clear H118
    have H135 := Hid.mk' (H119.out.below b124)
    clear H119
    have Z136 := Hid.mk' (bel_next Z120.out b124)
    clear Z120
    have H137 : Hid (RL w121 a122 c123 [dT]) := r125
    clear r125
    clear b124
    go_wp2_with fail
    refine (ofI_L 1 1 0 0 0 _ (L := [xT]) (by rfl) (by simp) ).mono ?_
    rintro e w138 ⟨a139, c140, rfl, b141, r142⟩
    have TB143 := Hid.mk' (Tb.below TB126.out b141)
    clear TB126
    have H144 := Hid.mk' (H127.out.below b141)
    clear H127
    have H145 := Hid.mk' (H128.out.below b141)
    clear H128
    have H146 := Hid.mk' (H129.out.below b141)
    clear H129
    have H147 := Hid.mk' (H130.out.below b141)
    clear H130
    have H148 := Hid.mk' (H131.out.below b141)
    clear H131
    have H149 := Hid.mk' (H132.out.below b141)
    clear H132
    have H150 := Hid.mk' (H133.out.below b141)
    clear H133
    have H151 := Hid.mk' (H134.out.below b141)
    clear H134
    have H152 := Hid.mk' (H135.out.below b141)
    clear H135
    have H153 := Hid.mk' (H137.out.below b141)
    clear H137
    have Z154 := Hid.mk' (bel_next Z136.out b141)
    clear Z136
    have H155 : Hid (RL w138 a139 c140 [xT]) := r142
    clear r142
    clear b141
    go_wp2_with fail
    refine (wmI_L H153.out H155.out).mono ?_
    rw [wm_dx]
    rintro e w156 ⟨a157, c158, rfl, b159, r160⟩
    have TB161 := Hid.mk' (Tb.below TB143.out b159)
    clear TB143
    have H162 := Hid.mk' (H144.out.below b159)
    clear H144
    have H163 := Hid.mk' (H145.out.below b159)
    clear H145
    have H164 := Hid.mk' (H146.out.below b159)
    clear H146
    have H165 := Hid.mk' (H147.out.below b159)
    clear H147
    have H166 := Hid.mk' (H148.out.below b159)
    clear H148
    have H167 := Hid.mk' (H149.out.below b159)
    clear H149
    have H168 := Hid.mk' (H150.out.below b159)
    clear H150
    have H169 := Hid.mk' (H151.out.below b159)
    clear H151
    have H170 := Hid.mk' (H152.out.below b159)
    clear H152
    have H171 := Hid.mk' (H153.out.below b159)
    clear H153
    have H172 := Hid.mk' (H155.out.below b159)
    clear H155
    have Z173 := Hid.mk' (bel_next Z154.out b159)
    clear Z154
    have H174 : Hid (RL w156 a157 c158 [⟨1, ⟨1, 0, 1, 0⟩⟩, uniT]) := r160
    clear r160
    clear b159
    go_wp2_with fail
    refine (ofI_L 1 0 0 1 0 _ (L := [dT]) (by rfl) (by simp) ).mono ?_
    rintro e w175 ⟨a176, c177, rfl, b178, r179⟩
    have TB180 := Hid.mk' (Tb.below TB161.out b178)
    clear TB161
    have H181 := Hid.mk' (H162.out.below b178)
    clear H162
    have H182 := Hid.mk' (H163.out.below b178)
    clear H163
    have H183 := Hid.mk' (H164.out.below b178)
    clear H164
    have H184 := Hid.mk' (H165.out.below b178)
    clear H165
    have H185 := Hid.mk' (H166.out.below b178)
    clear H166
    have H186 := Hid.mk' (H167.out.below b178)
    clear H167
    have H187 := Hid.mk' (H168.out.below b178)
    clear H168
    have H188 := Hid.mk' (H169.out.below b178)
    clear H169
    have H189 := Hid.mk' (H170.out.below b178)
    clear H170
    have H190 := Hid.mk' (H171.out.below b178)
    clear H171
    have H191 := Hid.mk' (H172.out.below b178)
    clear H172
    have H192 := Hid.mk' (H174.out.below b178)
    clear H174
    have Z193 := Hid.mk' (bel_next Z173.out b178)
    clear Z173
    have H194 : Hid (RL w175 a176 c177 [dT]) := r179
    clear r179
    clear b178
    go_wp2_with fail
    refine (ofI_L 1 0 1 0 0 _ (L := [yT]) (by rfl) (by simp) ).mono ?_
    rintro e w195 ⟨a196, c197, rfl, b198, r199⟩
    have TB200 := Hid.mk' (Tb.below TB180.out b198)
    clear TB180
    have H201 := Hid.mk' (H181.out.below b198)
    clear H181
    have H202 := Hid.mk' (H182.out.below b198)
    clear H182
    have H203 := Hid.mk' (H183.out.below b198)
    clear H183
    have H204 := Hid.mk' (H184.out.below b198)
    clear H184
    have H205 := Hid.mk' (H185.out.below b198)
    clear H185
    have H206 := Hid.mk' (H186.out.below b198)
    clear H186
    have H207 := Hid.mk' (H187.out.below b198)
    clear H187
    have H208 := Hid.mk' (H188.out.below b198)
    clear H188
    have H209 := Hid.mk' (H189.out.below b198)
    clear H189
    have H210 := Hid.mk' (H190.out.below b198)
    clear H190
    have H211 := Hid.mk' (H191.out.below b198)
    clear H191
    have H212 := Hid.mk' (H192.out.below b198)
    clear H192
    have H213 := Hid.mk' (H194.out.below b198)
    clear H194
    have Z214 := Hid.mk' (bel_next Z193.out b198)
    clear Z193
    have H215 : Hid (RL w195 a196 c197 [yT]) := r199
    clear r199
    clear b198
    go_wp2_with fail
    refine (wmI_L H213.out H215.out).mono ?_
    rw [wm_dy]
    rintro e w216 ⟨a217, c218, rfl, b219, r220⟩
    have TB221 := Hid.mk' (Tb.below TB200.out b219)
    clear TB200
    have H222 := Hid.mk' (H201.out.below b219)
    clear H201
    have H223 := Hid.mk' (H202.out.below b219)
    clear H202
    have H224 := Hid.mk' (H203.out.below b219)
    clear H203
    have H225 := Hid.mk' (H204.out.below b219)
    clear H204
    have H226 := Hid.mk' (H205.out.below b219)
    clear H205
    have H227 := Hid.mk' (H206.out.below b219)
    clear H206
    have H228 := Hid.mk' (H207.out.below b219)
    clear H207
    have H229 := Hid.mk' (H208.out.below b219)
    clear H208
    have H230 := Hid.mk' (H209.out.below b219)
    clear H209
    have H231 := Hid.mk' (H210.out.below b219)
    clear H210
    have H232 := Hid.mk' (H211.out.below b219)
    clear H211
    have H233 := Hid.mk' (H212.out.below b219)
    clear H212
    have H234 := Hid.mk' (H213.out.below b219)
    clear H213
    have H235 := Hid.mk' (H215.out.below b219)
    clear H215
    have Z236 := Hid.mk' (bel_next Z214.out b219)
    clear Z214
    have H237 : Hid (RL w216 a217 c218 [⟨1, ⟨0, 1, 1, 0⟩⟩]) := r220
    clear r220
    clear b219
    go_wp2_with fail
    refine (txI_of (L := [⟨1, ⟨1, 0, 1, 0⟩⟩, uniT]) (S := [120, 100, 43, 49]) tx_dx H233.out TB221.out).mono ?_
    rintro e w238 ⟨rfl, b239⟩
    have TB240 := Hid.mk' (Tb.below TB221.out b239)
    clear TB221
    have H241 := Hid.mk' (H222.out.below b239)
    clear H222
    have H242 := Hid.mk' (H223.out.below b239)
    clear H223
    have H243 := Hid.mk' (H224.out.below b239)
    clear H224
    have H244 := Hid.mk' (H225.out.below b239)
    clear H225
    have H245 := Hid.mk' (H226.out.below b239)
    clear H226
    have H246 := Hid.mk' (H227.out.below b239)
    clear H227
    have H247 := Hid.mk' (H228.out.below b239)
    clear H228
    have H248 := Hid.mk' (H229.out.below b239)
    clear H229
    have H249 := Hid.mk' (H230.out.below b239)
    clear H230
    have H250 := Hid.mk' (H231.out.below b239)
    clear H231
    have H251 := Hid.mk' (H232.out.below b239)
    clear H232
    have H252 := Hid.mk' (H233.out.below b239)
    clear H233
    have H253 := Hid.mk' (H234.out.below b239)
    clear H234
    have H254 := Hid.mk' (H235.out.below b239)
    clear H235
    have H255 := Hid.mk' (H237.out.below b239)
    clear H237
    have Z256 := Hid.mk' (bel_next Z236.out b239)
    clear Z236
    clear b239
    go_wp2_with fail
    refine (txI_of (L := [⟨1, ⟨0, 1, 1, 0⟩⟩]) (S := [121, 100]) tx_dy H255.out TB240.out).mono ?_
    rintro e w257 ⟨rfl, b258⟩
    have TB259 := Hid.mk' (Tb.below TB240.out b258)
    clear TB240
    have H260 := Hid.mk' (H241.out.below b258)
    clear H241
    have H261 := Hid.mk' (H242.out.below b258)
    clear H242
    have H262 := Hid.mk' (H243.out.below b258)
    clear H243
    have H263 := Hid.mk' (H244.out.below b258)
    clear H244
    have H264 := Hid.mk' (H245.out.below b258)
    clear H245
    have H265 := Hid.mk' (H246.out.below b258)
    clear H246
    have H266 := Hid.mk' (H247.out.below b258)
    clear H247
    have H267 := Hid.mk' (H248.out.below b258)
    clear H248
    have H268 := Hid.mk' (H249.out.below b258)
    clear H249
    have H269 := Hid.mk' (H250.out.below b258)
    clear H250
    have H270 := Hid.mk' (H251.out.below b258)
    clear H251
    have H271 := Hid.mk' (H252.out.below b258)
    clear H252
    have H272 := Hid.mk' (H253.out.below b258)
    clear H253
    have H273 := Hid.mk' (H254.out.below b258)
    clear H254
    have H274 := Hid.mk' (H255.out.below b258)
    clear H255
    have Z275 := Hid.mk' (bel_next Z256.out b258)
    clear Z256
    clear b258
    go_wp2
    go_ret
    exact ⟨rfl, Z275.out⟩
  · have E1 := Hid.mk' (wm_r HOK.out)
    have E2 := Hid.mk' (wm_l HOK.out)
    have E3 := Hid.mk' (wm_z HOK.out)
    go_wp2_with fail
    refine (oneI_L _ ).mono ?_
    rintro e w276 ⟨a277, c278, rfl, b279, r280⟩
    have TB281 := Hid.mk' (Tb.below TB0.out b279)
    clear TB0
    have H282 := Hid.mk' (HA0.out.below b279)
    clear HA0
    have Z283 := Hid.mk' (bel_next Z0.out b279)
    clear Z0
    have H284 : Hid (RL w276 a277 c278 [uniT]) := r280
    clear r280
    clear b279
    go_wp2_with fail
    refine (wmI_L H282.out H284.out).mono ?_
    rw [E1.out]
    rintro e w285 ⟨a286, c287, rfl, b288, r289⟩
    have TB290 := Hid.mk' (Tb.below TB281.out b288)
    clear TB281
    have H291 := Hid.mk' (H282.out.below b288)
    clear H282
    have H292 := Hid.mk' (H284.out.below b288)
    clear H284
    have Z293 := Hid.mk' (bel_next Z283.out b288)
    clear Z283
    have H294 : Hid (RL w285 a286 c287 A) := r289
    clear r289
    clear b288
    go_wp2_with fail
    refine (oneI_L _ ).mono ?_
    rintro e w295 ⟨a296, c297, rfl, b298, r299⟩
    have TB300 := Hid.mk' (Tb.below TB290.out b298)
    clear TB290
    have H301 := Hid.mk' (H291.out.below b298)
    clear H291
    have H302 := Hid.mk' (H292.out.below b298)
    clear H292
    have H303 := Hid.mk' (H294.out.below b298)
    clear H294
    have Z304 := Hid.mk' (bel_next Z293.out b298)
    clear Z293
    have H305 : Hid (RL w295 a296 c297 [uniT]) := r299
    clear r299
    clear b298
    go_wp2_with fail
    refine (wmS_L H301.out H305.out).mono ?_
    rw [E1.out]
    rintro e w306 ⟨a307, c308, rfl, b309, r310⟩
    have TB311 := Hid.mk' (Tb.below TB300.out b309)
    clear TB300
    have H312 := Hid.mk' (H301.out.below b309)
    clear H301
    have H313 := Hid.mk' (H302.out.below b309)
    clear H302
    have H314 := Hid.mk' (H303.out.below b309)
    clear H303
    have H315 := Hid.mk' (H305.out.below b309)
    clear H305
    have Z316 := Hid.mk' (bel_next Z304.out b309)
    clear Z304
    have H317 : Hid (RL w306 a307 c308 A) := r310
    clear r310
    clear b309
    go_wp2_with fail
    refine (oneI_L _ ).mono ?_
    rintro e w318 ⟨a319, c320, rfl, b321, r322⟩
    have TB323 := Hid.mk' (Tb.below TB311.out b321)
    clear TB311
    have H324 := Hid.mk' (H312.out.below b321)
    clear H312
    have H325 := Hid.mk' (H313.out.below b321)
    clear H313
    have H326 := Hid.mk' (H314.out.below b321)
    clear H314
    have H327 := Hid.mk' (H315.out.below b321)
    clear H315
    have H328 := Hid.mk' (H317.out.below b321)
    clear H317
    have Z329 := Hid.mk' (bel_next Z316.out b321)
    clear Z316
    have H330 : Hid (RL w318 a319 c320 [uniT]) := r322
    clear r322
    clear b321
    go_wp2_with fail
    refine (wmI_L H330.out H324.out).mono ?_
    rw [E2.out]
    rintro e w331 ⟨a332, c333, rfl, b334, r335⟩
    have TB336 := Hid.mk' (Tb.below TB323.out b334)
    clear TB323
    have H337 := Hid.mk' (H324.out.below b334)
    clear H324
    have H338 := Hid.mk' (H325.out.below b334)
    clear H325
    have H339 := Hid.mk' (H326.out.below b334)
    clear H326
    have H340 := Hid.mk' (H327.out.below b334)
    clear H327
    have H341 := Hid.mk' (H328.out.below b334)
    clear H328
    have H342 := Hid.mk' (H330.out.below b334)
    clear H330
    have Z343 := Hid.mk' (bel_next Z329.out b334)
    clear Z329
    have H344 : Hid (RL w331 a332 c333 A) := r335
    clear r335
    clear b334
    have bz := bel_one w331 (.cells #[] 45)
    have HZ0 : Hid (RL (w331.alloc (.cells #[] 45)) (some ⟨w331.heap.size, 0, none⟩) 0 []) := ⟨Nat.le_refl _, by simp, .inl rfl⟩
    have TB345 := Hid.mk' (Tb.below TB336.out bz)
    clear TB336
    have H346 := Hid.mk' (H337.out.below bz)
    clear H337
    have H347 := Hid.mk' (H338.out.below bz)
    clear H338
    have H348 := Hid.mk' (H339.out.below bz)
    clear H339
    have H349 := Hid.mk' (H340.out.below bz)
    clear H340
    have H350 := Hid.mk' (H341.out.below bz)
    clear H341
    have H351 := Hid.mk' (H342.out.below bz)
    clear H342
    have H352 := Hid.mk' (H344.out.below bz)
    clear H344
    have Z353 := Hid.mk' (bel_next Z343.out bz)
    clear Z343
    clear bz
    go_wp2_with fail
    refine (wmI_L H346.out HZ0.out).mono ?_
    rw [E3.out]
    rintro e w354 ⟨a355, c356, rfl, b357, r358⟩
    have TB359 := Hid.mk' (Tb.below TB345.out b357)
    clear TB345
    have H360 := Hid.mk' (H346.out.below b357)
    clear H346
    have H361 := Hid.mk' (H347.out.below b357)
    clear H347
    have H362 := Hid.mk' (H348.out.below b357)
    clear H348
    have H363 := Hid.mk' (H349.out.below b357)
    clear H349
    have H364 := Hid.mk' (H350.out.below b357)
    clear H350
    have H365 := Hid.mk' (H351.out.below b357)
    clear H351
    have H366 := Hid.mk' (H352.out.below b357)
    clear H352
    have H367 := Hid.mk' (HZ0.out.below b357)
    clear HZ0
    have Z368 := Hid.mk' (bel_next Z353.out b357)
    clear Z353
    have H369 : Hid (RL w354 a355 c356 []) := r358
    clear r358
    clear b357
    go_wp2_with fail
    refine (he_L H362.out H364.out).mono ?_
    rw [sq_same]
    rintro e w370 ⟨rfl, b371⟩
    have TB372 := Hid.mk' (Tb.below TB359.out b371)
    clear TB359
    have H373 := Hid.mk' (H360.out.below b371)
    clear H360
    have H374 := Hid.mk' (H361.out.below b371)
    clear H361
    have H375 := Hid.mk' (H362.out.below b371)
    clear H362
    have H376 := Hid.mk' (H363.out.below b371)
    clear H363
    have H377 := Hid.mk' (H364.out.below b371)
    clear H364
    have H378 := Hid.mk' (H365.out.below b371)
    clear H365
    have H379 := Hid.mk' (H366.out.below b371)
    clear H366
    have H380 := Hid.mk' (H367.out.below b371)
    clear H367
    have H381 := Hid.mk' (H369.out.below b371)
    clear H369
    have Z382 := Hid.mk' (bel_next Z368.out b371)
    clear Z368
    clear b371
    go_wp2_with fail
    refine (okS_L H373.out).mono ?_
    rw [HOK.out]
    rintro e w383 ⟨rfl, b384⟩
    have TB385 := Hid.mk' (Tb.below TB372.out b384)
    clear TB372
    have H386 := Hid.mk' (H373.out.below b384)
    clear H373
    have H387 := Hid.mk' (H374.out.below b384)
    clear H374
    have H388 := Hid.mk' (H375.out.below b384)
    clear H375
    have H389 := Hid.mk' (H376.out.below b384)
    clear H376
    have H390 := Hid.mk' (H377.out.below b384)
    clear H377
    have H391 := Hid.mk' (H378.out.below b384)
    clear H378
    have H392 := Hid.mk' (H379.out.below b384)
    clear H379
    have H393 := Hid.mk' (H380.out.below b384)
    clear H380
    have H394 := Hid.mk' (H381.out.below b384)
    clear H381
    have Z395 := Hid.mk' (bel_next Z382.out b384)
    clear Z382
    clear b384
    go_wp2_with fail
    refine (ofI_L 1 0 0 1 0 _ (L := [dT]) (by rfl) (by simp) ).mono ?_
    rintro e w396 ⟨a397, c398, rfl, b399, r400⟩
    have TB401 := Hid.mk' (Tb.below TB385.out b399)
    clear TB385
    have H402 := Hid.mk' (H386.out.below b399)
    clear H386
    have H403 := Hid.mk' (H387.out.below b399)
    clear H387
    have H404 := Hid.mk' (H388.out.below b399)
    clear H388
    have H405 := Hid.mk' (H389.out.below b399)
    clear H389
    have H406 := Hid.mk' (H390.out.below b399)
    clear H390
    have H407 := Hid.mk' (H391.out.below b399)
    clear H391
    have H408 := Hid.mk' (H392.out.below b399)
    clear H392
    have H409 := Hid.mk' (H393.out.below b399)
    clear H393
    have H410 := Hid.mk' (H394.out.below b399)
    clear H394
    have Z411 := Hid.mk' (bel_next Z395.out b399)
    clear Z395
    have H412 : Hid (RL w396 a397 c398 [dT]) := r400
    clear r400
    clear b399
    go_wp2_with fail
    refine (ofI_L 1 1 0 0 0 _ (L := [xT]) (by rfl) (by simp) ).mono ?_
    rintro e w413 ⟨a414, c415, rfl, b416, r417⟩
    have TB418 := Hid.mk' (Tb.below TB401.out b416)
    clear TB401
    have H419 := Hid.mk' (H402.out.below b416)
    clear H402
    have H420 := Hid.mk' (H403.out.below b416)
    clear H403
    have H421 := Hid.mk' (H404.out.below b416)
    clear H404
    have H422 := Hid.mk' (H405.out.below b416)
    clear H405
    have H423 := Hid.mk' (H406.out.below b416)
    clear H406
    have H424 := Hid.mk' (H407.out.below b416)
    clear H407
    have H425 := Hid.mk' (H408.out.below b416)
    clear H408
    have H426 := Hid.mk' (H409.out.below b416)
    clear H409
    have H427 := Hid.mk' (H410.out.below b416)
    clear H410
    have H428 := Hid.mk' (H412.out.below b416)
    clear H412
    have Z429 := Hid.mk' (bel_next Z411.out b416)
    clear Z411
    have H430 : Hid (RL w413 a414 c415 [xT]) := r417
    clear r417
    clear b416
    go_wp2_with fail
    refine (wmI_L H428.out H430.out).mono ?_
    rw [wm_dx]
    rintro e w431 ⟨a432, c433, rfl, b434, r435⟩
    have TB436 := Hid.mk' (Tb.below TB418.out b434)
    clear TB418
    have H437 := Hid.mk' (H419.out.below b434)
    clear H419
    have H438 := Hid.mk' (H420.out.below b434)
    clear H420
    have H439 := Hid.mk' (H421.out.below b434)
    clear H421
    have H440 := Hid.mk' (H422.out.below b434)
    clear H422
    have H441 := Hid.mk' (H423.out.below b434)
    clear H423
    have H442 := Hid.mk' (H424.out.below b434)
    clear H424
    have H443 := Hid.mk' (H425.out.below b434)
    clear H425
    have H444 := Hid.mk' (H426.out.below b434)
    clear H426
    have H445 := Hid.mk' (H427.out.below b434)
    clear H427
    have H446 := Hid.mk' (H428.out.below b434)
    clear H428
    have H447 := Hid.mk' (H430.out.below b434)
    clear H430
    have Z448 := Hid.mk' (bel_next Z429.out b434)
    clear Z429
    have H449 : Hid (RL w431 a432 c433 [⟨1, ⟨1, 0, 1, 0⟩⟩, uniT]) := r435
    clear r435
    clear b434
    go_wp2_with fail
    refine (ofI_L 1 0 0 1 0 _ (L := [dT]) (by rfl) (by simp) ).mono ?_
    rintro e w450 ⟨a451, c452, rfl, b453, r454⟩
    have TB455 := Hid.mk' (Tb.below TB436.out b453)
    clear TB436
    have H456 := Hid.mk' (H437.out.below b453)
    clear H437
    have H457 := Hid.mk' (H438.out.below b453)
    clear H438
    have H458 := Hid.mk' (H439.out.below b453)
    clear H439
    have H459 := Hid.mk' (H440.out.below b453)
    clear H440
    have H460 := Hid.mk' (H441.out.below b453)
    clear H441
    have H461 := Hid.mk' (H442.out.below b453)
    clear H442
    have H462 := Hid.mk' (H443.out.below b453)
    clear H443
    have H463 := Hid.mk' (H444.out.below b453)
    clear H444
    have H464 := Hid.mk' (H445.out.below b453)
    clear H445
    have H465 := Hid.mk' (H446.out.below b453)
    clear H446
    have H466 := Hid.mk' (H447.out.below b453)
    clear H447
    have H467 := Hid.mk' (H449.out.below b453)
    clear H449
    have Z468 := Hid.mk' (bel_next Z448.out b453)
    clear Z448
    have H469 : Hid (RL w450 a451 c452 [dT]) := r454
    clear r454
    clear b453
    go_wp2_with fail
    refine (ofI_L 1 0 1 0 0 _ (L := [yT]) (by rfl) (by simp) ).mono ?_
    rintro e w470 ⟨a471, c472, rfl, b473, r474⟩
    have TB475 := Hid.mk' (Tb.below TB455.out b473)
    clear TB455
    have H476 := Hid.mk' (H456.out.below b473)
    clear H456
    have H477 := Hid.mk' (H457.out.below b473)
    clear H457
    have H478 := Hid.mk' (H458.out.below b473)
    clear H458
    have H479 := Hid.mk' (H459.out.below b473)
    clear H459
    have H480 := Hid.mk' (H460.out.below b473)
    clear H460
    have H481 := Hid.mk' (H461.out.below b473)
    clear H461
    have H482 := Hid.mk' (H462.out.below b473)
    clear H462
    have H483 := Hid.mk' (H463.out.below b473)
    clear H463
    have H484 := Hid.mk' (H464.out.below b473)
    clear H464
    have H485 := Hid.mk' (H465.out.below b473)
    clear H465
    have H486 := Hid.mk' (H466.out.below b473)
    clear H466
    have H487 := Hid.mk' (H467.out.below b473)
    clear H467
    have H488 := Hid.mk' (H469.out.below b473)
    clear H469
    have Z489 := Hid.mk' (bel_next Z468.out b473)
    clear Z468
    have H490 : Hid (RL w470 a471 c472 [yT]) := r474
    clear r474
    clear b473
    go_wp2_with fail
    refine (wmI_L H488.out H490.out).mono ?_
    rw [wm_dy]
    rintro e w491 ⟨a492, c493, rfl, b494, r495⟩
    have TB496 := Hid.mk' (Tb.below TB475.out b494)
    clear TB475
    have H497 := Hid.mk' (H476.out.below b494)
    clear H476
    have H498 := Hid.mk' (H477.out.below b494)
    clear H477
    have H499 := Hid.mk' (H478.out.below b494)
    clear H478
    have H500 := Hid.mk' (H479.out.below b494)
    clear H479
    have H501 := Hid.mk' (H480.out.below b494)
    clear H480
    have H502 := Hid.mk' (H481.out.below b494)
    clear H481
    have H503 := Hid.mk' (H482.out.below b494)
    clear H482
    have H504 := Hid.mk' (H483.out.below b494)
    clear H483
    have H505 := Hid.mk' (H484.out.below b494)
    clear H484
    have H506 := Hid.mk' (H485.out.below b494)
    clear H485
    have H507 := Hid.mk' (H486.out.below b494)
    clear H486
    have H508 := Hid.mk' (H487.out.below b494)
    clear H487
    have H509 := Hid.mk' (H488.out.below b494)
    clear H488
    have H510 := Hid.mk' (H490.out.below b494)
    clear H490
    have Z511 := Hid.mk' (bel_next Z489.out b494)
    clear Z489
    have H512 : Hid (RL w491 a492 c493 [⟨1, ⟨0, 1, 1, 0⟩⟩]) := r495
    clear r495
    clear b494
    go_wp2_with fail
    refine (txI_of (L := [⟨1, ⟨1, 0, 1, 0⟩⟩, uniT]) (S := [120, 100, 43, 49]) tx_dx H508.out TB496.out).mono ?_
    rintro e w513 ⟨rfl, b514⟩
    have TB515 := Hid.mk' (Tb.below TB496.out b514)
    clear TB496
    have H516 := Hid.mk' (H497.out.below b514)
    clear H497
    have H517 := Hid.mk' (H498.out.below b514)
    clear H498
    have H518 := Hid.mk' (H499.out.below b514)
    clear H499
    have H519 := Hid.mk' (H500.out.below b514)
    clear H500
    have H520 := Hid.mk' (H501.out.below b514)
    clear H501
    have H521 := Hid.mk' (H502.out.below b514)
    clear H502
    have H522 := Hid.mk' (H503.out.below b514)
    clear H503
    have H523 := Hid.mk' (H504.out.below b514)
    clear H504
    have H524 := Hid.mk' (H505.out.below b514)
    clear H505
    have H525 := Hid.mk' (H506.out.below b514)
    clear H506
    have H526 := Hid.mk' (H507.out.below b514)
    clear H507
    have H527 := Hid.mk' (H508.out.below b514)
    clear H508
    have H528 := Hid.mk' (H509.out.below b514)
    clear H509
    have H529 := Hid.mk' (H510.out.below b514)
    clear H510
    have H530 := Hid.mk' (H512.out.below b514)
    clear H512
    have Z531 := Hid.mk' (bel_next Z511.out b514)
    clear Z511
    clear b514
    go_wp2_with fail
    refine (txI_of (L := [⟨1, ⟨0, 1, 1, 0⟩⟩]) (S := [121, 100]) tx_dy H530.out TB515.out).mono ?_
    rintro e w532 ⟨rfl, b533⟩
    have TB534 := Hid.mk' (Tb.below TB515.out b533)
    clear TB515
    have H535 := Hid.mk' (H516.out.below b533)
    clear H516
    have H536 := Hid.mk' (H517.out.below b533)
    clear H517
    have H537 := Hid.mk' (H518.out.below b533)
    clear H518
    have H538 := Hid.mk' (H519.out.below b533)
    clear H519
    have H539 := Hid.mk' (H520.out.below b533)
    clear H520
    have H540 := Hid.mk' (H521.out.below b533)
    clear H521
    have H541 := Hid.mk' (H522.out.below b533)
    clear H522
    have H542 := Hid.mk' (H523.out.below b533)
    clear H523
    have H543 := Hid.mk' (H524.out.below b533)
    clear H524
    have H544 := Hid.mk' (H525.out.below b533)
    clear H525
    have H545 := Hid.mk' (H526.out.below b533)
    clear H526
    have H546 := Hid.mk' (H527.out.below b533)
    clear H527
    have H547 := Hid.mk' (H528.out.below b533)
    clear H528
    have H548 := Hid.mk' (H529.out.below b533)
    clear H529
    have H549 := Hid.mk' (H530.out.below b533)
    clear H530
    have Z550 := Hid.mk' (bel_next Z531.out b533)
    clear Z531
    clear b533
    go_wp2_with fail
    refine (he_L H537.out H535.out).mono ?_
    rw [sq_same]
    rintro e w551 ⟨rfl, b552⟩
    have TB553 := Hid.mk' (Tb.below TB534.out b552)
    clear TB534
    have H554 := Hid.mk' (H535.out.below b552)
    clear H535
    have H555 := Hid.mk' (H536.out.below b552)
    clear H536
    have H556 := Hid.mk' (H537.out.below b552)
    clear H537
    have H557 := Hid.mk' (H538.out.below b552)
    clear H538
    have H558 := Hid.mk' (H539.out.below b552)
    clear H539
    have H559 := Hid.mk' (H540.out.below b552)
    clear H540
    have H560 := Hid.mk' (H541.out.below b552)
    clear H541
    have H561 := Hid.mk' (H542.out.below b552)
    clear H542
    have H562 := Hid.mk' (H543.out.below b552)
    clear H543
    have H563 := Hid.mk' (H544.out.below b552)
    clear H544
    have H564 := Hid.mk' (H545.out.below b552)
    clear H545
    have H565 := Hid.mk' (H546.out.below b552)
    clear H546
    have H566 := Hid.mk' (H547.out.below b552)
    clear H547
    have H567 := Hid.mk' (H548.out.below b552)
    clear H548
    have H568 := Hid.mk' (H549.out.below b552)
    clear H549
    have Z569 := Hid.mk' (bel_next Z550.out b552)
    clear Z550
    clear b552
    go_wp2_with fail
    refine (he_L H560.out H554.out).mono ?_
    rw [sq_same]
    rintro e w570 ⟨rfl, b571⟩
    have TB572 := Hid.mk' (Tb.below TB553.out b571)
    clear TB553
    have H573 := Hid.mk' (H554.out.below b571)
    clear H554
    have H574 := Hid.mk' (H555.out.below b571)
    clear H555
    have H575 := Hid.mk' (H556.out.below b571)
    clear H556
    have H576 := Hid.mk' (H557.out.below b571)
    clear H557
    have H577 := Hid.mk' (H558.out.below b571)
    clear H558
    have H578 := Hid.mk' (H559.out.below b571)
    clear H559
    have H579 := Hid.mk' (H560.out.below b571)
    clear H560
    have H580 := Hid.mk' (H561.out.below b571)
    clear H561
    have H581 := Hid.mk' (H562.out.below b571)
    clear H562
    have H582 := Hid.mk' (H563.out.below b571)
    clear H563
    have H583 := Hid.mk' (H564.out.below b571)
    clear H564
    have H584 := Hid.mk' (H565.out.below b571)
    clear H565
    have H585 := Hid.mk' (H566.out.below b571)
    clear H566
    have H586 := Hid.mk' (H567.out.below b571)
    clear H567
    have H587 := Hid.mk' (H568.out.below b571)
    clear H568
    have Z588 := Hid.mk' (bel_next Z569.out b571)
    clear Z569
    clear b571
    go_wp2
    go_ret
    exact ⟨rfl, Z588.out⟩
end Go.Proofs.YtnfgiplgkobnlaaGreatDoor
