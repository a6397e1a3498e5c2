/-
  The walk of FnPolScale: whatever the code, it comes out true, and nothing that was there is turned.
-/
import Derived.Test.YtddfpjjeoojlmaaGar
import Derived.Test.YtddfpjjeoojlmaaGat
import Derived.Test.YtddfpjjeoojlmaaGau
namespace Go.Proofs.Ytddfpjjeoojlmaa
open Go.RowKit
set_option linter.unusedVariables false
set_option maxRecDepth 100000 in
set_option maxHeartbeats 8000000 in
theorem walk_FnPolScale (w : World) (a0 : Option Addr) (len0 cap0 : Nat) (s0 : Src w a0 len0 cap0) (a1 : Option Addr) (len1 cap1 : Nat) (s1 : Src w a1 len1 cap1) :
    Calls Try.prog 5 #[.slice a0 len0 cap0, .slice a1 len1 cap1] w fun e w' => e = .returned (.bool true) ∧ Below w.heap.size w w' := by
  by_cases c0 : (1048576 : Int) < (len0 : Int)
  · go_enter Try.func5, Try.ntmps5
    go_wp2
    go_ret
    exact ⟨rfl, Below.refl _ _⟩
  by_cases c1 : (1048576 : Int) < (len1 : Int)
  · go_enter Try.func5, Try.ntmps5
    go_wp2
    go_ret
    exact ⟨rfl, Below.refl _ _⟩
  go_enter Try.func5, Try.ntmps5
  go_wp2_with fail
  refine (drawPolScale w a0 len0 cap0 s0).mono ?_
  rintro e wd ⟨c, da, dca, A, rfl, hA, hlA, hbd⟩
  have HA0 := Hid.mk' hA
  have Z0 := Hid.mk' hbd
  have S1 := Hid.mk' (s1.below hbd)
  clear hA hbd s0 s1
  go_wp2_with fail
  refine (drawPolScale wd a1 len1 cap1 S1.out).mono ?_
  rintro e we ⟨d, db, dcb, B, rfl, hB, hlB, hbe⟩
  have HA1 := Hid.mk' (HA0.out.below hbe)
  have HB1 := Hid.mk' hB
  have Z1 := Hid.mk' (bel_next Z0.out hbe)
  clear hB hbe HA0 Z0 S1
  go_wp2_with fail
  refine (scI_L c HA1.out).mono ?_
  rintro e w1 ⟨a2, c3, rfl, b4, r5⟩
  have H6 := Hid.mk' (HA1.out.below b4)
  clear HA1
  have H7 := Hid.mk' (HB1.out.below b4)
  clear HB1
  have Z8 := Hid.mk' (bel_next Z1.out b4)
  clear Z1
  have H9 : Hid (RL w1 a2 c3 (scV c A)) := r5
  clear r5
  clear b4
  go_wp2_with fail
  refine (scS_L c H6.out).mono ?_
  rintro e w10 ⟨a11, c12, rfl, b13, r14⟩
  have H15 := Hid.mk' (H6.out.below b13)
  clear H6
  have H16 := Hid.mk' (H7.out.below b13)
  clear H7
  have H17 := Hid.mk' (H9.out.below b13)
  clear H9
  have Z18 := Hid.mk' (bel_next Z8.out b13)
  clear Z8
  have H19 : Hid (RL w10 a11 c12 (scV c A)) := r14
  clear r14
  clear b13
  go_wp2_with fail
  refine (he_L H17.out H19.out).mono ?_
  rw [sq_same]
  rintro e w20 ⟨rfl, b21⟩
  have H22 := Hid.mk' (H15.out.below b21)
  clear H15
  have H23 := Hid.mk' (H16.out.below b21)
  clear H16
  have H24 := Hid.mk' (H17.out.below b21)
  clear H17
  have H25 := Hid.mk' (H19.out.below b21)
  clear H19
  have Z26 := Hid.mk' (bel_next Z18.out b21)
  clear Z18
  clear b21
  generalize hX : scV c A = X at *
  cases oA : okL A
  · go_wp2_with fail
    refine (okS_L H22.out).mono ?_
    rw [oA]
    rintro e w27 ⟨rfl, b28⟩
    have H29 := Hid.mk' (H22.out.below b28)
    clear H22
    have H30 := Hid.mk' (H23.out.below b28)
    clear H23
    have H31 := Hid.mk' (H24.out.below b28)
    clear H24
    have H32 := Hid.mk' (H25.out.below b28)
    clear H25
    have Z33 := Hid.mk' (bel_next Z26.out b28)
    clear Z26
    clear b28
    have hx : X = [] := by rw [← hX]; exact scV_bad oA
    clear hX
    subst hx
    go_wp2_with fail
    refine (okS_L H29.out).mono ?_
    rw [oA]
    rintro e w34 ⟨rfl, b35⟩
    have H36 := Hid.mk' (H29.out.below b35)
    clear H29
    have H37 := Hid.mk' (H30.out.below b35)
    clear H30
    have H38 := Hid.mk' (H31.out.below b35)
    clear H31
    have H39 := Hid.mk' (H32.out.below b35)
    clear H32
    have Z40 := Hid.mk' (bel_next Z33.out b35)
    clear Z33
    clear b35
    go_wp2_with fail
    refine (heOk_L _ ).mono ?_
    rintro e w41 ⟨rfl, b42⟩
    have H43 := Hid.mk' (H36.out.below b42)
    clear H36
    have H44 := Hid.mk' (H37.out.below b42)
    clear H37
    have H45 := Hid.mk' (H38.out.below b42)
    clear H38
    have H46 := Hid.mk' (H39.out.below b42)
    clear H39
    have Z47 := Hid.mk' (bel_next Z40.out b42)
    clear Z40
    clear b42
    go_wp2
    go_ret
    exact ⟨rfl, Z47.out⟩
  · cases oB : okL B
    · go_wp2_with fail
      refine (okS_L H22.out).mono ?_
      rw [oA]
      rintro e w48 ⟨rfl, b49⟩
      have H50 := Hid.mk' (H22.out.below b49)
      clear H22
      have H51 := Hid.mk' (H23.out.below b49)
      clear H23
      have H52 := Hid.mk' (H24.out.below b49)
      clear H24
      have H53 := Hid.mk' (H25.out.below b49)
      clear H25
      have Z54 := Hid.mk' (bel_next Z26.out b49)
      clear Z26
      clear b49
      go_wp2_with fail
      refine (okS_L H51.out).mono ?_
      rw [oB]
      rintro e w55 ⟨rfl, b56⟩
      have H57 := Hid.mk' (H50.out.below b56)
      clear H50
      have H58 := Hid.mk' (H51.out.below b56)
      clear H51
      have H59 := Hid.mk' (H52.out.below b56)
      clear H52
      have H60 := Hid.mk' (H53.out.below b56)
      clear H53
      have Z61 := Hid.mk' (bel_next Z54.out b56)
      clear Z54
      clear b56
      have hx := hX
      go_wp2_with fail
      refine (okS_L H57.out).mono ?_
      rw [oA]
      rintro e w62 ⟨rfl, b63⟩
      have H64 := Hid.mk' (H57.out.below b63)
      clear H57
      have H65 := Hid.mk' (H58.out.below b63)
      clear H58
      have H66 := Hid.mk' (H59.out.below b63)
      clear H59
      have H67 := Hid.mk' (H60.out.below b63)
      clear H60
      have Z68 := Hid.mk' (bel_next Z61.out b63)
      clear Z61
      clear b63
      by_cases oc : 0 ≤ c ∧ c ≤ 100
      · go_wp2_with fail
        refine (okS_in _ _ oc.1 oc.2).mono ?_
        rintro e w' ⟨rfl, hw'⟩
        obtain rfl := hw'.symm
        clear hw'
        go_wp2_with fail
        refine (heOk_L _ ).mono ?_
        rintro e w69 ⟨rfl, b70⟩
        have H71 := Hid.mk' (H64.out.below b70)
        clear H64
        have H72 := Hid.mk' (H65.out.below b70)
        clear H65
        have H73 := Hid.mk' (H66.out.below b70)
        clear H66
        have H74 := Hid.mk' (H67.out.below b70)
        clear H67
        have Z75 := Hid.mk' (bel_next Z68.out b70)
        clear Z68
        clear b70
        go_wp2
        go_ret
        exact ⟨rfl, Z75.out⟩
      · have hx2 : X = [] := by rw [← hX]; exact scV_out oc
        clear hX hx
        subst hx2
        go_wp2_with fail
        refine (okS_out _ _ (by omega)).mono ?_
        rintro e w' ⟨rfl, hw'⟩
        obtain rfl := hw'.symm
        clear hw'
        go_wp2_with fail
        refine (heOk_L _ ).mono ?_
        rintro e w76 ⟨rfl, b77⟩
        have H78 := Hid.mk' (H64.out.below b77)
        clear H64
        have H79 := Hid.mk' (H65.out.below b77)
        clear H65
        have H80 := Hid.mk' (H66.out.below b77)
        clear H66
        have H81 := Hid.mk' (H67.out.below b77)
        clear H67
        have Z82 := Hid.mk' (bel_next Z68.out b77)
        clear Z68
        clear b77
        go_wp2
        go_ret
        exact ⟨rfl, Z82.out⟩
    · by_cases oc : 0 ≤ c ∧ c ≤ 100
      · by_cases od : 0 ≤ d ∧ d ≤ 100
        · go_wp2_with fail
          refine (okS_L H22.out).mono ?_
          rw [oA]
          rintro e w83 ⟨rfl, b84⟩
          have H85 := Hid.mk' (H22.out.below b84)
          clear H22
          have H86 := Hid.mk' (H23.out.below b84)
          clear H23
          have H87 := Hid.mk' (H24.out.below b84)
          clear H24
          have H88 := Hid.mk' (H25.out.below b84)
          clear H25
          have Z89 := Hid.mk' (bel_next Z26.out b84)
          clear Z26
          clear b84
          go_wp2_with fail
          refine (okS_L H86.out).mono ?_
          rw [oB]
          rintro e w90 ⟨rfl, b91⟩
          have H92 := Hid.mk' (H85.out.below b91)
          clear H85
          have H93 := Hid.mk' (H86.out.below b91)
          clear H86
          have H94 := Hid.mk' (H87.out.below b91)
          clear H87
          have H95 := Hid.mk' (H88.out.below b91)
          clear H88
          have Z96 := Hid.mk' (bel_next Z89.out b91)
          clear Z89
          clear b91
          go_wp2_with fail
          refine (okS_in _ _ oc.1 oc.2).mono ?_
          rintro e w' ⟨rfl, hw'⟩
          obtain rfl := hw'.symm
          clear hw'
          go_wp2_with fail
          refine (okS_in _ _ od.1 od.2).mono ?_
          rintro e w' ⟨rfl, hw'⟩
          obtain rfl := hw'.symm
          clear hw'
          have lA := (okL_falls oA).1
          have hs : (addL A B).length ≤ 400 := by have := addL_len A B; omega
          have fA := (okL_falls oA).2
          have fB := (okL_falls oB).2
          have f1 := scV_facts oc.1 oc.2 oA
          have f2 := scV_facts oc.1 oc.2 oB
          have f3 := scV_facts od.1 od.2 oA
          have e1 : addV A B = (addL A B, true) := addV_ok oA oB hs
          have e2 : addV X (scV c B) = (addL X (scV c B), true) := by rw [← hX]; exact addV_ok (okL_of (by omega) f1.1) (okL_of (by omega) f2.1) (by have := addL_len (scV c A) (scV c B); omega)
          have e3 : addV X (scV d A) = (addL X (scV d A), true) := by rw [← hX]; exact addV_ok (okL_of (by omega) f1.1) (okL_of (by omega) f3.1) (by have := addL_len (scV c A) (scV d A); omega)
          have e4 : scV c (addL A B) = addL X (scV c B) := by rw [← hX]; exact sc_sum oc.1 oc.2 oA oB hs
          have e5 : scV d X = scV (fMul c d) A := by rw [← hX]; exact sc_twice oc.1 oc.2 od.1 od.2 oA
          have e6 : scV (fAdd c d) A = addL X (scV d A) := by rw [← hX]; exact sc_plus oc.1 oc.2 od.1 od.2 oA
          have e7 : scV 1 A = A := sc_one oA
          clear f1 f2 f3 hs lA hX
          go_wp2_with fail
          refine (addI_L H92.out H93.out).mono ?_
          rw [e1]
          rintro e w97 ⟨a98, c99, rfl, b100, r101⟩
          have H102 := Hid.mk' (H92.out.below b100)
          clear H92
          have H103 := Hid.mk' (H93.out.below b100)
          clear H93
          have H104 := Hid.mk' (H94.out.below b100)
          clear H94
          have H105 := Hid.mk' (H95.out.below b100)
          clear H95
          have Z106 := Hid.mk' (bel_next Z96.out b100)
          clear Z96
          have H107 : Hid (RL w97 a98 c99 (addL A B)) := r101
          clear r101
          clear b100
          go_wp2_with fail
          refine (scI_L c H103.out).mono ?_
          rintro e w108 ⟨a109, c110, rfl, b111, r112⟩
          have H113 := Hid.mk' (H102.out.below b111)
          clear H102
          have H114 := Hid.mk' (H103.out.below b111)
          clear H103
          have H115 := Hid.mk' (H104.out.below b111)
          clear H104
          have H116 := Hid.mk' (H105.out.below b111)
          clear H105
          have H117 := Hid.mk' (H107.out.below b111)
          clear H107
          have Z118 := Hid.mk' (bel_next Z106.out b111)
          clear Z106
          have H119 : Hid (RL w108 a109 c110 (scV c B)) := r112
          clear r112
          clear b111
          go_wp2_with fail
          refine (addI_L H115.out H119.out).mono ?_
          rw [e2]
          rintro e w120 ⟨a121, c122, rfl, b123, r124⟩
          have H125 := Hid.mk' (H113.out.below b123)
          clear H113
          have H126 := Hid.mk' (H114.out.below b123)
          clear H114
          have H127 := Hid.mk' (H115.out.below b123)
          clear H115
          have H128 := Hid.mk' (H116.out.below b123)
          clear H116
          have H129 := Hid.mk' (H117.out.below b123)
          clear H117
          have H130 := Hid.mk' (H119.out.below b123)
          clear H119
          have Z131 := Hid.mk' (bel_next Z118.out b123)
          clear Z118
          have H132 : Hid (RL w120 a121 c122 (addL X (scV c B))) := r124
          clear r124
          clear b123
          go_wp2_with fail
          refine (scI_L d H125.out).mono ?_
          rintro e w133 ⟨a134, c135, rfl, b136, r137⟩
          have H138 := Hid.mk' (H125.out.below b136)
          clear H125
          have H139 := Hid.mk' (H126.out.below b136)
          clear H126
          have H140 := Hid.mk' (H127.out.below b136)
          clear H127
          have H141 := Hid.mk' (H128.out.below b136)
          clear H128
          have H142 := Hid.mk' (H129.out.below b136)
          clear H129
          have H143 := Hid.mk' (H130.out.below b136)
          clear H130
          have H144 := Hid.mk' (H132.out.below b136)
          clear H132
          have Z145 := Hid.mk' (bel_next Z131.out b136)
          clear Z131
          have H146 : Hid (RL w133 a134 c135 (scV d A)) := r137
          clear r137
          clear b136
          go_wp2_with fail
          refine (addI_L H140.out H146.out).mono ?_
          rw [e3]
          rintro e w147 ⟨a148, c149, rfl, b150, r151⟩
          have H152 := Hid.mk' (H138.out.below b150)
          clear H138
          have H153 := Hid.mk' (H139.out.below b150)
          clear H139
          have H154 := Hid.mk' (H140.out.below b150)
          clear H140
          have H155 := Hid.mk' (H141.out.below b150)
          clear H141
          have H156 := Hid.mk' (H142.out.below b150)
          clear H142
          have H157 := Hid.mk' (H143.out.below b150)
          clear H143
          have H158 := Hid.mk' (H144.out.below b150)
          clear H144
          have H159 := Hid.mk' (H146.out.below b150)
          clear H146
          have Z160 := Hid.mk' (bel_next Z145.out b150)
          clear Z145
          have H161 : Hid (RL w147 a148 c149 (addL X (scV d A))) := r151
          clear r151
          clear b150
          go_wp2_with fail
          refine (scI_L c H156.out).mono ?_
          rw [e4]
          rintro e w162 ⟨a163, c164, rfl, b165, r166⟩
          have H167 := Hid.mk' (H152.out.below b165)
          clear H152
          have H168 := Hid.mk' (H153.out.below b165)
          clear H153
          have H169 := Hid.mk' (H154.out.below b165)
          clear H154
          have H170 := Hid.mk' (H155.out.below b165)
          clear H155
          have H171 := Hid.mk' (H156.out.below b165)
          clear H156
          have H172 := Hid.mk' (H157.out.below b165)
          clear H157
          have H173 := Hid.mk' (H158.out.below b165)
          clear H158
          have H174 := Hid.mk' (H159.out.below b165)
          clear H159
          have H175 := Hid.mk' (H161.out.below b165)
          clear H161
          have Z176 := Hid.mk' (bel_next Z160.out b165)
          clear Z160
          have H177 : Hid (RL w162 a163 c164 (addL X (scV c B))) := r166
          clear r166
          clear b165
          go_wp2_with fail
          refine (he_L H177.out H173.out).mono ?_
          rw [sq_same]
          rintro e w178 ⟨rfl, b179⟩
          have H180 := Hid.mk' (H167.out.below b179)
          clear H167
          have H181 := Hid.mk' (H168.out.below b179)
          clear H168
          have H182 := Hid.mk' (H169.out.below b179)
          clear H169
          have H183 := Hid.mk' (H170.out.below b179)
          clear H170
          have H184 := Hid.mk' (H171.out.below b179)
          clear H171
          have H185 := Hid.mk' (H172.out.below b179)
          clear H172
          have H186 := Hid.mk' (H173.out.below b179)
          clear H173
          have H187 := Hid.mk' (H174.out.below b179)
          clear H174
          have H188 := Hid.mk' (H175.out.below b179)
          clear H175
          have H189 := Hid.mk' (H177.out.below b179)
          clear H177
          have Z190 := Hid.mk' (bel_next Z176.out b179)
          clear Z176
          clear b179
          go_wp2_with fail
          refine (scI_L d H182.out).mono ?_
          rw [e5]
          rintro e w191 ⟨a192, c193, rfl, b194, r195⟩
          have H196 := Hid.mk' (H180.out.below b194)
          clear H180
          have H197 := Hid.mk' (H181.out.below b194)
          clear H181
          have H198 := Hid.mk' (H182.out.below b194)
          clear H182
          have H199 := Hid.mk' (H183.out.below b194)
          clear H183
          have H200 := Hid.mk' (H184.out.below b194)
          clear H184
          have H201 := Hid.mk' (H185.out.below b194)
          clear H185
          have H202 := Hid.mk' (H186.out.below b194)
          clear H186
          have H203 := Hid.mk' (H187.out.below b194)
          clear H187
          have H204 := Hid.mk' (H188.out.below b194)
          clear H188
          have H205 := Hid.mk' (H189.out.below b194)
          clear H189
          have Z206 := Hid.mk' (bel_next Z190.out b194)
          clear Z190
          have H207 : Hid (RL w191 a192 c193 (scV (fMul c d) A)) := r195
          clear r195
          clear b194
          go_wp2_with fail
          refine (mulI c d _).mono ?_
          rintro e w' ⟨rfl, hw'⟩
          obtain rfl := hw'.symm
          clear hw'
          go_wp2_with fail
          refine (scI_L (fMul c d) H196.out).mono ?_
          rintro e w208 ⟨a209, c210, rfl, b211, r212⟩
          have H213 := Hid.mk' (H196.out.below b211)
          clear H196
          have H214 := Hid.mk' (H197.out.below b211)
          clear H197
          have H215 := Hid.mk' (H198.out.below b211)
          clear H198
          have H216 := Hid.mk' (H199.out.below b211)
          clear H199
          have H217 := Hid.mk' (H200.out.below b211)
          clear H200
          have H218 := Hid.mk' (H201.out.below b211)
          clear H201
          have H219 := Hid.mk' (H202.out.below b211)
          clear H202
          have H220 := Hid.mk' (H203.out.below b211)
          clear H203
          have H221 := Hid.mk' (H204.out.below b211)
          clear H204
          have H222 := Hid.mk' (H205.out.below b211)
          clear H205
          have H223 := Hid.mk' (H207.out.below b211)
          clear H207
          have Z224 := Hid.mk' (bel_next Z206.out b211)
          clear Z206
          have H225 : Hid (RL w208 a209 c210 (scV (fMul c d) A)) := r212
          clear r212
          clear b211
          go_wp2_with fail
          refine (he_L H223.out H225.out).mono ?_
          rw [sq_same]
          rintro e w226 ⟨rfl, b227⟩
          have H228 := Hid.mk' (H213.out.below b227)
          clear H213
          have H229 := Hid.mk' (H214.out.below b227)
          clear H214
          have H230 := Hid.mk' (H215.out.below b227)
          clear H215
          have H231 := Hid.mk' (H216.out.below b227)
          clear H216
          have H232 := Hid.mk' (H217.out.below b227)
          clear H217
          have H233 := Hid.mk' (H218.out.below b227)
          clear H218
          have H234 := Hid.mk' (H219.out.below b227)
          clear H219
          have H235 := Hid.mk' (H220.out.below b227)
          clear H220
          have H236 := Hid.mk' (H221.out.below b227)
          clear H221
          have H237 := Hid.mk' (H222.out.below b227)
          clear H222
          have H238 := Hid.mk' (H223.out.below b227)
          clear H223
          have H239 := Hid.mk' (H225.out.below b227)
          clear H225
          have Z240 := Hid.mk' (bel_next Z224.out b227)
          clear Z224
          clear b227
          go_wp2_with fail
          refine (addI c d _).mono ?_
          rintro e w' ⟨rfl, hw'⟩
          obtain rfl := hw'.symm
          clear hw'
          go_wp2_with fail
          refine (scI_L (fAdd c d) H228.out).mono ?_
          rw [e6]
          rintro e w241 ⟨a242, c243, rfl, b244, r245⟩
          have H246 := Hid.mk' (H228.out.below b244)
          clear H228
          have H247 := Hid.mk' (H229.out.below b244)
          clear H229
          have H248 := Hid.mk' (H230.out.below b244)
          clear H230
          have H249 := Hid.mk' (H231.out.below b244)
          clear H231
          have H250 := Hid.mk' (H232.out.below b244)
          clear H232
          have H251 := Hid.mk' (H233.out.below b244)
          clear H233
          have H252 := Hid.mk' (H234.out.below b244)
          clear H234
          have H253 := Hid.mk' (H235.out.below b244)
          clear H235
          have H254 := Hid.mk' (H236.out.below b244)
          clear H236
          have H255 := Hid.mk' (H237.out.below b244)
          clear H237
          have H256 := Hid.mk' (H238.out.below b244)
          clear H238
          have H257 := Hid.mk' (H239.out.below b244)
          clear H239
          have Z258 := Hid.mk' (bel_next Z240.out b244)
          clear Z240
          have H259 : Hid (RL w241 a242 c243 (addL X (scV d A))) := r245
          clear r245
          clear b244
          go_wp2_with fail
          refine (he_L H259.out H254.out).mono ?_
          rw [sq_same]
          rintro e w260 ⟨rfl, b261⟩
          have H262 := Hid.mk' (H246.out.below b261)
          clear H246
          have H263 := Hid.mk' (H247.out.below b261)
          clear H247
          have H264 := Hid.mk' (H248.out.below b261)
          clear H248
          have H265 := Hid.mk' (H249.out.below b261)
          clear H249
          have H266 := Hid.mk' (H250.out.below b261)
          clear H250
          have H267 := Hid.mk' (H251.out.below b261)
          clear H251
          have H268 := Hid.mk' (H252.out.below b261)
          clear H252
          have H269 := Hid.mk' (H253.out.below b261)
          clear H253
          have H270 := Hid.mk' (H254.out.below b261)
          clear H254
          have H271 := Hid.mk' (H255.out.below b261)
          clear H255
          have H272 := Hid.mk' (H256.out.below b261)
          clear H256
          have H273 := Hid.mk' (H257.out.below b261)
          clear H257
          have H274 := Hid.mk' (H259.out.below b261)
          clear H259
          have Z275 := Hid.mk' (bel_next Z258.out b261)
          clear Z258
          clear b261
          go_wp2_with fail
          refine (scI_L 1 H262.out).mono ?_
          rw [e7]
          rintro e w276 ⟨a277, c278, rfl, b279, r280⟩
          have H281 := Hid.mk' (H262.out.below b279)
          clear H262
          have H282 := Hid.mk' (H263.out.below b279)
          clear H263
          have H283 := Hid.mk' (H264.out.below b279)
          clear H264
          have H284 := Hid.mk' (H265.out.below b279)
          clear H265
          have H285 := Hid.mk' (H266.out.below b279)
          clear H266
          have H286 := Hid.mk' (H267.out.below b279)
          clear H267
          have H287 := Hid.mk' (H268.out.below b279)
          clear H268
          have H288 := Hid.mk' (H269.out.below b279)
          clear H269
          have H289 := Hid.mk' (H270.out.below b279)
          clear H270
          have H290 := Hid.mk' (H271.out.below b279)
          clear H271
          have H291 := Hid.mk' (H272.out.below b279)
          clear H272
          have H292 := Hid.mk' (H273.out.below b279)
          clear H273
          have H293 := Hid.mk' (H274.out.below b279)
          clear H274
          have Z294 := Hid.mk' (bel_next Z275.out b279)
          clear Z275
          have H295 : Hid (RL w276 a277 c278 A) := r280
          clear r280
          clear b279
          go_wp2_with fail
          refine (he_L H295.out H281.out).mono ?_
          rw [sq_same]
          rintro e w296 ⟨rfl, b297⟩
          have H298 := Hid.mk' (H281.out.below b297)
          clear H281
          have H299 := Hid.mk' (H282.out.below b297)
          clear H282
          have H300 := Hid.mk' (H283.out.below b297)
          clear H283
          have H301 := Hid.mk' (H284.out.below b297)
          clear H284
          have H302 := Hid.mk' (H285.out.below b297)
          clear H285
          have H303 := Hid.mk' (H286.out.below b297)
          clear H286
          have H304 := Hid.mk' (H287.out.below b297)
          clear H287
          have H305 := Hid.mk' (H288.out.below b297)
          clear H288
          have H306 := Hid.mk' (H289.out.below b297)
          clear H289
          have H307 := Hid.mk' (H290.out.below b297)
          clear H290
          have H308 := Hid.mk' (H291.out.below b297)
          clear H291
          have H309 := Hid.mk' (H292.out.below b297)
          clear H292
          have H310 := Hid.mk' (H293.out.below b297)
          clear H293
          have H311 := Hid.mk' (H295.out.below b297)
          clear H295
          have Z312 := Hid.mk' (bel_next Z294.out b297)
          clear Z294
          clear b297
          go_wp2_with fail
          refine (scI_L 0 H298.out).mono ?_
          rw [scV_zero]
          rintro e w313 ⟨a314, c315, rfl, b316, r317⟩
          have H318 := Hid.mk' (H298.out.below b316)
          clear H298
          have H319 := Hid.mk' (H299.out.below b316)
          clear H299
          have H320 := Hid.mk' (H300.out.below b316)
          clear H300
          have H321 := Hid.mk' (H301.out.below b316)
          clear H301
          have H322 := Hid.mk' (H302.out.below b316)
          clear H302
          have H323 := Hid.mk' (H303.out.below b316)
          clear H303
          have H324 := Hid.mk' (H304.out.below b316)
          clear H304
          have H325 := Hid.mk' (H305.out.below b316)
          clear H305
          have H326 := Hid.mk' (H306.out.below b316)
          clear H306
          have H327 := Hid.mk' (H307.out.below b316)
          clear H307
          have H328 := Hid.mk' (H308.out.below b316)
          clear H308
          have H329 := Hid.mk' (H309.out.below b316)
          clear H309
          have H330 := Hid.mk' (H310.out.below b316)
          clear H310
          have H331 := Hid.mk' (H311.out.below b316)
          clear H311
          have Z332 := Hid.mk' (bel_next Z312.out b316)
          clear Z312
          have H333 : Hid (RL w313 a314 c315 []) := r317
          clear r317
          clear b316
          go_wp2_with fail
          refine (heOk_L _ ).mono ?_
          rintro e w334 ⟨rfl, b335⟩
          have H336 := Hid.mk' (H318.out.below b335)
          clear H318
          have H337 := Hid.mk' (H319.out.below b335)
          clear H319
          have H338 := Hid.mk' (H320.out.below b335)
          clear H320
          have H339 := Hid.mk' (H321.out.below b335)
          clear H321
          have H340 := Hid.mk' (H322.out.below b335)
          clear H322
          have H341 := Hid.mk' (H323.out.below b335)
          clear H323
          have H342 := Hid.mk' (H324.out.below b335)
          clear H324
          have H343 := Hid.mk' (H325.out.below b335)
          clear H325
          have H344 := Hid.mk' (H326.out.below b335)
          clear H326
          have H345 := Hid.mk' (H327.out.below b335)
          clear H327
          have H346 := Hid.mk' (H328.out.below b335)
          clear H328
          have H347 := Hid.mk' (H329.out.below b335)
          clear H329
          have H348 := Hid.mk' (H330.out.below b335)
          clear H330
          have H349 := Hid.mk' (H331.out.below b335)
          clear H331
          have H350 := Hid.mk' (H333.out.below b335)
          clear H333
          have Z351 := Hid.mk' (bel_next Z332.out b335)
          clear Z332
          clear b335
          go_wp2
          go_ret
          exact ⟨rfl, Z351.out⟩
        · go_wp2_with fail
          refine (okS_L H22.out).mono ?_
          rw [oA]
          rintro e w352 ⟨rfl, b353⟩
          have H354 := Hid.mk' (H22.out.below b353)
          clear H22
          have H355 := Hid.mk' (H23.out.below b353)
          clear H23
          have H356 := Hid.mk' (H24.out.below b353)
          clear H24
          have H357 := Hid.mk' (H25.out.below b353)
          clear H25
          have Z358 := Hid.mk' (bel_next Z26.out b353)
          clear Z26
          clear b353
          go_wp2_with fail
          refine (okS_L H355.out).mono ?_
          rw [oB]
          rintro e w359 ⟨rfl, b360⟩
          have H361 := Hid.mk' (H354.out.below b360)
          clear H354
          have H362 := Hid.mk' (H355.out.below b360)
          clear H355
          have H363 := Hid.mk' (H356.out.below b360)
          clear H356
          have H364 := Hid.mk' (H357.out.below b360)
          clear H357
          have Z365 := Hid.mk' (bel_next Z358.out b360)
          clear Z358
          clear b360
          go_wp2_with fail
          refine (okS_in _ _ oc.1 oc.2).mono ?_
          rintro e w' ⟨rfl, hw'⟩
          obtain rfl := hw'.symm
          clear hw'
          go_wp2_with fail
          refine (okS_out _ _ (by omega)).mono ?_
          rintro e w' ⟨rfl, hw'⟩
          obtain rfl := hw'.symm
          clear hw'
          have hx := hX
          go_wp2_with fail
          refine (okS_L H361.out).mono ?_
          rw [oA]
          rintro e w366 ⟨rfl, b367⟩
          have H368 := Hid.mk' (H361.out.below b367)
          clear H361
          have H369 := Hid.mk' (H362.out.below b367)
          clear H362
          have H370 := Hid.mk' (H363.out.below b367)
          clear H363
          have H371 := Hid.mk' (H364.out.below b367)
          clear H364
          have Z372 := Hid.mk' (bel_next Z365.out b367)
          clear Z365
          clear b367
          go_wp2_with fail
          refine (okS_in _ _ oc.1 oc.2).mono ?_
          rintro e w' ⟨rfl, hw'⟩
          obtain rfl := hw'.symm
          clear hw'
          go_wp2_with fail
          refine (heOk_L _ ).mono ?_
          rintro e w373 ⟨rfl, b374⟩
          have H375 := Hid.mk' (H368.out.below b374)
          clear H368
          have H376 := Hid.mk' (H369.out.below b374)
          clear H369
          have H377 := Hid.mk' (H370.out.below b374)
          clear H370
          have H378 := Hid.mk' (H371.out.below b374)
          clear H371
          have Z379 := Hid.mk' (bel_next Z372.out b374)
          clear Z372
          clear b374
          go_wp2
          go_ret
          exact ⟨rfl, Z379.out⟩
      · go_wp2_with fail
        refine (okS_L H22.out).mono ?_
        rw [oA]
        rintro e w380 ⟨rfl, b381⟩
        have H382 := Hid.mk' (H22.out.below b381)
        clear H22
        have H383 := Hid.mk' (H23.out.below b381)
        clear H23
        have H384 := Hid.mk' (H24.out.below b381)
        clear H24
        have H385 := Hid.mk' (H25.out.below b381)
        clear H25
        have Z386 := Hid.mk' (bel_next Z26.out b381)
        clear Z26
        clear b381
        go_wp2_with fail
        refine (okS_L H383.out).mono ?_
        rw [oB]
        rintro e w387 ⟨rfl, b388⟩
        have H389 := Hid.mk' (H382.out.below b388)
        clear H382
        have H390 := Hid.mk' (H383.out.below b388)
        clear H383
        have H391 := Hid.mk' (H384.out.below b388)
        clear H384
        have H392 := Hid.mk' (H385.out.below b388)
        clear H385
        have Z393 := Hid.mk' (bel_next Z386.out b388)
        clear Z386
        clear b388
        go_wp2_with fail
        refine (okS_out _ _ (by omega)).mono ?_
        rintro e w' ⟨rfl, hw'⟩
        obtain rfl := hw'.symm
        clear hw'
        have hx : X = [] := by rw [← hX]; exact scV_out oc
        clear hX
        subst hx
        go_wp2_with fail
        refine (okS_L H389.out).mono ?_
        rw [oA]
        rintro e w394 ⟨rfl, b395⟩
        have H396 := Hid.mk' (H389.out.below b395)
        clear H389
        have H397 := Hid.mk' (H390.out.below b395)
        clear H390
        have H398 := Hid.mk' (H391.out.below b395)
        clear H391
        have H399 := Hid.mk' (H392.out.below b395)
        clear H392
        have Z400 := Hid.mk' (bel_next Z393.out b395)
        clear Z393
        clear b395
        go_wp2_with fail
        refine (okS_out _ _ (by omega)).mono ?_
        rintro e w' ⟨rfl, hw'⟩
        obtain rfl := hw'.symm
        clear hw'
        go_wp2_with fail
        refine (heOk_L _ ).mono ?_
        rintro e w401 ⟨rfl, b402⟩
        have H403 := Hid.mk' (H396.out.below b402)
        clear H396
        have H404 := Hid.mk' (H397.out.below b402)
        clear H397
        have H405 := Hid.mk' (H398.out.below b402)
        clear H398
        have H406 := Hid.mk' (H399.out.below b402)
        clear H399
        have Z407 := Hid.mk' (bel_next Z400.out b402)
        clear Z400
        clear b402
        go_wp2
        go_ret
        exact ⟨rfl, Z407.out⟩
end Go.Proofs.Ytddfpjjeoojlmaa
