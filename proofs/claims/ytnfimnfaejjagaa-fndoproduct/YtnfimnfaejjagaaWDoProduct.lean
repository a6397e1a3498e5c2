/-
  The walk of FnDoProduct: whatever the code, it comes out true, and nothing that was there is turned.
-/
import Derived.Test.YtnfimnfaejjagaaGbb
import Derived.Test.YtnfimnfaejjagaaGbc
namespace Go.Proofs.Ytnfimnfaejjagaa
open Go.RowKit
set_option linter.unusedVariables false
set_option maxRecDepth 100000 in
set_option maxHeartbeats 8000000 in
theorem walk_FnDoProduct (w : World) (a0 : Option Addr) (len0 cap0 : Nat) (s0 : Src w a0 len0 cap0) (a1 : Option Addr) (len1 cap1 : Nat) (s1 : Src w a1 len1 cap1) :
    Calls Try.prog 3 #[.slice a0 len0 cap0, .slice a1 len1 cap1] w fun e w' => e = .returned (.bool true) ∧ Below w.heap.size w w' := by
  by_cases c0 : (1048576 : Int) < (len0 : Int)
  · go_enter Try.func3, Try.ntmps3
    go_wp2
    go_ret
    exact ⟨rfl, Below.refl _ _⟩
  by_cases c1 : (1048576 : Int) < (len1 : Int)
  · go_enter Try.func3, Try.ntmps3
    go_wp2
    go_ret
    exact ⟨rfl, Below.refl _ _⟩
  go_enter Try.func3, Try.ntmps3
  go_wp2_with fail
  refine (drawWylDo w a0 len0 cap0 s0).mono ?_
  rintro e wd ⟨da, dca, A, db, dcb, B, rfl, hA, hB, hlA, hlB, hbd⟩
  have HA0 := Hid.mk' hA
  have HB0 := Hid.mk' hB
  have Z0 := Hid.mk' hbd
  have S1 := Hid.mk' (s1.below hbd)
  clear hA hB hbd s0 s1
  go_wp2_with fail
  refine (drawWylDo wd a1 len1 cap1 S1.out).mono ?_
  rintro e we ⟨dc, dcc, C, dd, dcd, D, rfl, hC, hD, hlC, hlD, hbe⟩
  have HC0 := Hid.mk' hC
  clear hC hD S1
  have H1 := Hid.mk' (HA0.out.below hbe)
  clear HA0
  have H2 := Hid.mk' (HB0.out.below hbe)
  clear HB0
  have Z3 := Hid.mk' (bel_next Z0.out hbe)
  clear Z0
  clear hbe
  rcases wdV_if A B with h1 | ⟨X, h1⟩
  · go_wp2_with fail
    refine (wdI_L H1.out H2.out).mono ?_
    rw [h1]
    rintro e w4 ⟨a5, c6, rfl, b7, r8⟩
    have H9 := Hid.mk' (H1.out.below b7)
    clear H1
    have H10 := Hid.mk' (H2.out.below b7)
    clear H2
    have H11 := Hid.mk' (HC0.out.below b7)
    clear HC0
    have Z12 := Hid.mk' (bel_next Z3.out b7)
    clear Z3
    have H13 : Hid (RL w4 a5 c6 []) := r8
    clear r8
    clear b7
    go_wp2_with fail
    refine (wdS_L H9.out H10.out).mono ?_
    rw [h1]
    rintro e w14 ⟨a15, c16, rfl, b17, r18⟩
    have H19 := Hid.mk' (H9.out.below b17)
    clear H9
    have H20 := Hid.mk' (H10.out.below b17)
    clear H10
    have H21 := Hid.mk' (H11.out.below b17)
    clear H11
    have H22 := Hid.mk' (H13.out.below b17)
    clear H13
    have Z23 := Hid.mk' (bel_next Z12.out b17)
    clear Z12
    have H24 : Hid (RL w14 a15 c16 []) := r18
    clear r18
    clear b17
    go_wp2_with fail
    refine (he_L H22.out H24.out).mono ?_
    rw [sq_same]
    rintro e w25 ⟨rfl, b26⟩
    have H27 := Hid.mk' (H19.out.below b26)
    clear H19
    have H28 := Hid.mk' (H20.out.below b26)
    clear H20
    have H29 := Hid.mk' (H21.out.below b26)
    clear H21
    have H30 := Hid.mk' (H22.out.below b26)
    clear H22
    have H31 := Hid.mk' (H24.out.below b26)
    clear H24
    have Z32 := Hid.mk' (bel_next Z23.out b26)
    clear Z23
    clear b26
    rcases wmV_if C A with h2 | ⟨Q, h2⟩
    · go_wp2_with fail
      refine (wmI_L H29.out H27.out).mono ?_
      rw [h2]
      rintro e w33 ⟨a34, c35, rfl, b36, r37⟩
      have H38 := Hid.mk' (H27.out.below b36)
      clear H27
      have H39 := Hid.mk' (H28.out.below b36)
      clear H28
      have H40 := Hid.mk' (H29.out.below b36)
      clear H29
      have H41 := Hid.mk' (H30.out.below b36)
      clear H30
      have H42 := Hid.mk' (H31.out.below b36)
      clear H31
      have Z43 := Hid.mk' (bel_next Z32.out b36)
      clear Z32
      have H44 : Hid (RL w33 a34 c35 []) := r37
      clear r37
      clear b36
      go_wp2_with fail
      refine (heOk_L _ ).mono ?_
      rintro e w45 ⟨rfl, b46⟩
      have H47 := Hid.mk' (H38.out.below b46)
      clear H38
      have H48 := Hid.mk' (H39.out.below b46)
      clear H39
      have H49 := Hid.mk' (H40.out.below b46)
      clear H40
      have H50 := Hid.mk' (H41.out.below b46)
      clear H41
      have H51 := Hid.mk' (H42.out.below b46)
      clear H42
      have H52 := Hid.mk' (H44.out.below b46)
      clear H44
      have Z53 := Hid.mk' (bel_next Z43.out b46)
      clear Z43
      clear b46
      go_wp2
      go_ret
      exact ⟨rfl, Z53.out⟩
    · go_wp2_with fail
      refine (wmI_L H29.out H27.out).mono ?_
      rw [h2]
      rintro e w54 ⟨a55, c56, rfl, b57, r58⟩
      have H59 := Hid.mk' (H27.out.below b57)
      clear H27
      have H60 := Hid.mk' (H28.out.below b57)
      clear H28
      have H61 := Hid.mk' (H29.out.below b57)
      clear H29
      have H62 := Hid.mk' (H30.out.below b57)
      clear H30
      have H63 := Hid.mk' (H31.out.below b57)
      clear H31
      have Z64 := Hid.mk' (bel_next Z32.out b57)
      clear Z32
      have H65 : Hid (RL w54 a55 c56 Q) := r58
      clear r58
      clear b57
      go_wp2_with fail
      refine (heOk_L _ ).mono ?_
      rintro e w66 ⟨rfl, b67⟩
      have H68 := Hid.mk' (H59.out.below b67)
      clear H59
      have H69 := Hid.mk' (H60.out.below b67)
      clear H60
      have H70 := Hid.mk' (H61.out.below b67)
      clear H61
      have H71 := Hid.mk' (H62.out.below b67)
      clear H62
      have H72 := Hid.mk' (H63.out.below b67)
      clear H63
      have H73 := Hid.mk' (H65.out.below b67)
      clear H65
      have Z74 := Hid.mk' (bel_next Z64.out b67)
      clear Z64
      clear b67
      go_wp2
      go_ret
      exact ⟨rfl, Z74.out⟩
  · go_wp2_with fail
    refine (wdI_L H1.out H2.out).mono ?_
    rw [h1]
    rintro e w75 ⟨a76, c77, rfl, b78, r79⟩
    have H80 := Hid.mk' (H1.out.below b78)
    clear H1
    have H81 := Hid.mk' (H2.out.below b78)
    clear H2
    have H82 := Hid.mk' (HC0.out.below b78)
    clear HC0
    have Z83 := Hid.mk' (bel_next Z3.out b78)
    clear Z3
    have H84 : Hid (RL w75 a76 c77 X) := r79
    clear r79
    clear b78
    go_wp2_with fail
    refine (wdS_L H80.out H81.out).mono ?_
    rw [h1]
    rintro e w85 ⟨a86, c87, rfl, b88, r89⟩
    have H90 := Hid.mk' (H80.out.below b88)
    clear H80
    have H91 := Hid.mk' (H81.out.below b88)
    clear H81
    have H92 := Hid.mk' (H82.out.below b88)
    clear H82
    have H93 := Hid.mk' (H84.out.below b88)
    clear H84
    have Z94 := Hid.mk' (bel_next Z83.out b88)
    clear Z83
    have H95 : Hid (RL w85 a86 c87 X) := r89
    clear r89
    clear b88
    go_wp2_with fail
    refine (he_L H93.out H95.out).mono ?_
    rw [sq_same]
    rintro e w96 ⟨rfl, b97⟩
    have H98 := Hid.mk' (H90.out.below b97)
    clear H90
    have H99 := Hid.mk' (H91.out.below b97)
    clear H91
    have H100 := Hid.mk' (H92.out.below b97)
    clear H92
    have H101 := Hid.mk' (H93.out.below b97)
    clear H93
    have H102 := Hid.mk' (H95.out.below b97)
    clear H95
    have Z103 := Hid.mk' (bel_next Z94.out b97)
    clear Z94
    clear b97
    rcases wmV_if C A with h2 | ⟨Q, h2⟩
    · go_wp2_with fail
      refine (wmI_L H100.out H98.out).mono ?_
      rw [h2]
      rintro e w104 ⟨a105, c106, rfl, b107, r108⟩
      have H109 := Hid.mk' (H98.out.below b107)
      clear H98
      have H110 := Hid.mk' (H99.out.below b107)
      clear H99
      have H111 := Hid.mk' (H100.out.below b107)
      clear H100
      have H112 := Hid.mk' (H101.out.below b107)
      clear H101
      have H113 := Hid.mk' (H102.out.below b107)
      clear H102
      have Z114 := Hid.mk' (bel_next Z103.out b107)
      clear Z103
      have H115 : Hid (RL w104 a105 c106 []) := r108
      clear r108
      clear b107
      go_wp2_with fail
      refine (heOk_L _ ).mono ?_
      rintro e w116 ⟨rfl, b117⟩
      have H118 := Hid.mk' (H109.out.below b117)
      clear H109
      have H119 := Hid.mk' (H110.out.below b117)
      clear H110
      have H120 := Hid.mk' (H111.out.below b117)
      clear H111
      have H121 := Hid.mk' (H112.out.below b117)
      clear H112
      have H122 := Hid.mk' (H113.out.below b117)
      clear H113
      have H123 := Hid.mk' (H115.out.below b117)
      clear H115
      have Z124 := Hid.mk' (bel_next Z114.out b117)
      clear Z114
      clear b117
      go_wp2
      go_ret
      exact ⟨rfl, Z124.out⟩
    · go_wp2_with fail
      refine (wmI_L H100.out H98.out).mono ?_
      rw [h2]
      rintro e w125 ⟨a126, c127, rfl, b128, r129⟩
      have H130 := Hid.mk' (H98.out.below b128)
      clear H98
      have H131 := Hid.mk' (H99.out.below b128)
      clear H99
      have H132 := Hid.mk' (H100.out.below b128)
      clear H100
      have H133 := Hid.mk' (H101.out.below b128)
      clear H101
      have H134 := Hid.mk' (H102.out.below b128)
      clear H102
      have Z135 := Hid.mk' (bel_next Z103.out b128)
      clear Z103
      have H136 : Hid (RL w125 a126 c127 Q) := r129
      clear r129
      clear b128
      have fX := wd_free h1
      obtain ⟨YY, o1, k1⟩ : ∃ L o, wdV C X = (L, o) := ⟨_, _, rfl⟩
      go_wp2_with fail
      refine (wdI_L H132.out H133.out).mono ?_
      rw [k1]
      rintro e w137 ⟨a138, c139, rfl, b140, r141⟩
      have H142 := Hid.mk' (H130.out.below b140)
      clear H130
      have H143 := Hid.mk' (H131.out.below b140)
      clear H131
      have H144 := Hid.mk' (H132.out.below b140)
      clear H132
      have H145 := Hid.mk' (H133.out.below b140)
      clear H133
      have H146 := Hid.mk' (H134.out.below b140)
      clear H134
      have H147 := Hid.mk' (H136.out.below b140)
      clear H136
      have Z148 := Hid.mk' (bel_next Z135.out b140)
      clear Z135
      have H149 : Hid (RL w137 a138 c139 YY) := r141
      clear r141
      clear b140
      obtain ⟨ZZ, o2, k2⟩ : ∃ L o, wdV Q B = (L, o) := ⟨_, _, rfl⟩
      go_wp2_with fail
      refine (wdI_L H147.out H143.out).mono ?_
      rw [k2]
      rintro e w150 ⟨a151, c152, rfl, b153, r154⟩
      have H155 := Hid.mk' (H142.out.below b153)
      clear H142
      have H156 := Hid.mk' (H143.out.below b153)
      clear H143
      have H157 := Hid.mk' (H144.out.below b153)
      clear H144
      have H158 := Hid.mk' (H145.out.below b153)
      clear H145
      have H159 := Hid.mk' (H146.out.below b153)
      clear H146
      have H160 := Hid.mk' (H147.out.below b153)
      clear H147
      have H161 := Hid.mk' (H149.out.below b153)
      clear H149
      have Z162 := Hid.mk' (bel_next Z148.out b153)
      clear Z148
      have H163 : Hid (RL w150 a151 c152 ZZ) := r154
      clear r154
      clear b153
      cases o1
      · go_wp2_with fail
        refine (freeI_L H158.out).mono ?_
        rw [fX]
        rintro e w164 ⟨rfl, b165⟩
        have H166 := Hid.mk' (H155.out.below b165)
        clear H155
        have H167 := Hid.mk' (H156.out.below b165)
        clear H156
        have H168 := Hid.mk' (H157.out.below b165)
        clear H157
        have H169 := Hid.mk' (H158.out.below b165)
        clear H158
        have H170 := Hid.mk' (H159.out.below b165)
        clear H159
        have H171 := Hid.mk' (H160.out.below b165)
        clear H160
        have H172 := Hid.mk' (H161.out.below b165)
        clear H161
        have H173 := Hid.mk' (H163.out.below b165)
        clear H163
        have Z174 := Hid.mk' (bel_next Z162.out b165)
        clear Z162
        clear b165
        go_wp2_with fail
        refine (heOk_L _ ).mono ?_
        rintro e w175 ⟨rfl, b176⟩
        have H177 := Hid.mk' (H166.out.below b176)
        clear H166
        have H178 := Hid.mk' (H167.out.below b176)
        clear H167
        have H179 := Hid.mk' (H168.out.below b176)
        clear H168
        have H180 := Hid.mk' (H169.out.below b176)
        clear H169
        have H181 := Hid.mk' (H170.out.below b176)
        clear H170
        have H182 := Hid.mk' (H171.out.below b176)
        clear H171
        have H183 := Hid.mk' (H172.out.below b176)
        clear H172
        have H184 := Hid.mk' (H173.out.below b176)
        clear H173
        have Z185 := Hid.mk' (bel_next Z174.out b176)
        clear Z174
        clear b176
        go_wp2
        go_ret
        exact ⟨rfl, Z185.out⟩
      · cases o2
        · go_wp2_with fail
          refine (freeI_L H158.out).mono ?_
          rw [fX]
          rintro e w186 ⟨rfl, b187⟩
          have H188 := Hid.mk' (H155.out.below b187)
          clear H155
          have H189 := Hid.mk' (H156.out.below b187)
          clear H156
          have H190 := Hid.mk' (H157.out.below b187)
          clear H157
          have H191 := Hid.mk' (H158.out.below b187)
          clear H158
          have H192 := Hid.mk' (H159.out.below b187)
          clear H159
          have H193 := Hid.mk' (H160.out.below b187)
          clear H160
          have H194 := Hid.mk' (H161.out.below b187)
          clear H161
          have H195 := Hid.mk' (H163.out.below b187)
          clear H163
          have Z196 := Hid.mk' (bel_next Z162.out b187)
          clear Z162
          clear b187
          go_wp2_with fail
          refine (heOk_L _ ).mono ?_
          rintro e w197 ⟨rfl, b198⟩
          have H199 := Hid.mk' (H188.out.below b198)
          clear H188
          have H200 := Hid.mk' (H189.out.below b198)
          clear H189
          have H201 := Hid.mk' (H190.out.below b198)
          clear H190
          have H202 := Hid.mk' (H191.out.below b198)
          clear H191
          have H203 := Hid.mk' (H192.out.below b198)
          clear H192
          have H204 := Hid.mk' (H193.out.below b198)
          clear H193
          have H205 := Hid.mk' (H194.out.below b198)
          clear H194
          have H206 := Hid.mk' (H195.out.below b198)
          clear H195
          have Z207 := Hid.mk' (bel_next Z196.out b198)
          clear Z196
          clear b198
          go_wp2
          go_ret
          exact ⟨rfl, Z207.out⟩
        · have e3 : YY = ZZ := wd_mul h1 h2 k1 k2
          subst e3
          go_wp2_with fail
          refine (he_L H161.out H163.out).mono ?_
          rw [sq_same]
          rintro e w208 ⟨rfl, b209⟩
          have H210 := Hid.mk' (H155.out.below b209)
          clear H155
          have H211 := Hid.mk' (H156.out.below b209)
          clear H156
          have H212 := Hid.mk' (H157.out.below b209)
          clear H157
          have H213 := Hid.mk' (H158.out.below b209)
          clear H158
          have H214 := Hid.mk' (H159.out.below b209)
          clear H159
          have H215 := Hid.mk' (H160.out.below b209)
          clear H160
          have H216 := Hid.mk' (H161.out.below b209)
          clear H161
          have H217 := Hid.mk' (H163.out.below b209)
          clear H163
          have Z218 := Hid.mk' (bel_next Z162.out b209)
          clear Z162
          clear b209
          go_wp2_with fail
          refine (freeI_L H213.out).mono ?_
          rw [fX]
          rintro e w219 ⟨rfl, b220⟩
          have H221 := Hid.mk' (H210.out.below b220)
          clear H210
          have H222 := Hid.mk' (H211.out.below b220)
          clear H211
          have H223 := Hid.mk' (H212.out.below b220)
          clear H212
          have H224 := Hid.mk' (H213.out.below b220)
          clear H213
          have H225 := Hid.mk' (H214.out.below b220)
          clear H214
          have H226 := Hid.mk' (H215.out.below b220)
          clear H215
          have H227 := Hid.mk' (H216.out.below b220)
          clear H216
          have H228 := Hid.mk' (H217.out.below b220)
          clear H217
          have Z229 := Hid.mk' (bel_next Z218.out b220)
          clear Z218
          clear b220
          go_wp2_with fail
          refine (heOk_L _ ).mono ?_
          rintro e w230 ⟨rfl, b231⟩
          have H232 := Hid.mk' (H221.out.below b231)
          clear H221
          have H233 := Hid.mk' (H222.out.below b231)
          clear H222
          have H234 := Hid.mk' (H223.out.below b231)
          clear H223
          have H235 := Hid.mk' (H224.out.below b231)
          clear H224
          have H236 := Hid.mk' (H225.out.below b231)
          clear H225
          have H237 := Hid.mk' (H226.out.below b231)
          clear H226
          have H238 := Hid.mk' (H227.out.below b231)
          clear H227
          have H239 := Hid.mk' (H228.out.below b231)
          clear H228
          have Z240 := Hid.mk' (bel_next Z229.out b231)
          clear Z229
          clear b231
          go_wp2
          go_ret
          exact ⟨rfl, Z240.out⟩
end Go.Proofs.Ytnfimnfaejjagaa
