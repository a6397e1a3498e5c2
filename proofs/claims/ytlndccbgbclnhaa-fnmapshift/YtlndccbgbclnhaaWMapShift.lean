/-
  The walk of FnMapShift: whatever the code, it comes out true, and nothing that was there is turned.
-/
import Derived.Test.YtlndccbgbclnhaaGbc
namespace Go.Proofs.Ytlndccbgbclnhaa
open Go.RowKit
set_option linter.unusedVariables false
set_option maxRecDepth 100000 in
set_option maxHeartbeats 8000000 in
theorem walk_FnMapShift (w : World) (a0 : Option Addr) (len0 cap0 : Nat) (s0 : Src w a0 len0 cap0) (a1 : Option Addr) (len1 cap1 : Nat) (s1 : Src w a1 len1 cap1) :
    Calls Try.prog 3 #[.slice a0 len0 cap0, .slice a1 len1 cap1] w fun e w' => e = .returned (.bool true) ∧ Below w.heap.size w w' := by
  by_cases c0 : (1048576 : Int) < (len0 : Int)
  · go_enter Try.func3, Try.ntmps3
    go_wp2
    go_ret
    exact ⟨rfl, Below.refl _ _⟩
  by_cases c1 : (1048576 : Int) < (len1 : Int)
  · go_enter Try.func3, Try.ntmps3
    go_wp2
    go_ret
    exact ⟨rfl, Below.refl _ _⟩
  go_enter Try.func3, Try.ntmps3
  go_wp2_with fail
  refine (drawMapShift w a0 len0 cap0 s0).mono ?_
  rintro e wd ⟨da, dca, A, n1, n2, rfl, hA, hlA, hbd⟩
  have HA0 := Hid.mk' hA
  have Z0 := Hid.mk' hbd
  have S1 := Hid.mk' (s1.below hbd)
  clear hA hbd s0 s1
  go_wp2_with fail
  refine (drawMapShift wd a1 len1 cap1 S1.out).mono ?_
  rintro e we ⟨db, dcb, B, n3, n4, rfl, hB, hlB, hbe⟩
  have HB0 := Hid.mk' hB
  clear hB S1
  have H1 := Hid.mk' (HA0.out.below hbe)
  clear HA0
  have Z2 := Hid.mk' (bel_next Z0.out hbe)
  clear Z0
  clear hbe
  rcases shVl_if A n1 n2 with h1 | ⟨X, h1⟩
  · go_wp2_with fail
    refine (shI_L n1 n2 H1.out).mono ?_
    rw [h1]
    rintro e w3 ⟨a4, c5, rfl, b6, r7⟩
    have H8 := Hid.mk' (H1.out.below b6)
    clear H1
    have H9 := Hid.mk' (HB0.out.below b6)
    clear HB0
    have Z10 := Hid.mk' (bel_next Z2.out b6)
    clear Z2
    have H11 : Hid (RL w3 a4 c5 []) := r7
    clear r7
    clear b6
    go_wp2_with fail
    refine (shS_L n1 n2 H8.out).mono ?_
    rw [h1]
    rintro e w12 ⟨a13, c14, rfl, b15, r16⟩
    have H17 := Hid.mk' (H8.out.below b15)
    clear H8
    have H18 := Hid.mk' (H9.out.below b15)
    clear H9
    have H19 := Hid.mk' (H11.out.below b15)
    clear H11
    have Z20 := Hid.mk' (bel_next Z10.out b15)
    clear Z10
    have H21 : Hid (RL w12 a13 c14 []) := r16
    clear r16
    clear b15
    go_wp2_with fail
    refine (he_L H19.out H21.out).mono ?_
    rw [sq_same]
    rintro e w22 ⟨rfl, b23⟩
    have H24 := Hid.mk' (H17.out.below b23)
    clear H17
    have H25 := Hid.mk' (H18.out.below b23)
    clear H18
    have H26 := Hid.mk' (H19.out.below b23)
    clear H19
    have H27 := Hid.mk' (H21.out.below b23)
    clear H21
    have Z28 := Hid.mk' (bel_next Z20.out b23)
    clear Z20
    clear b23
    go_wp2_with fail
    refine (heOk_L _ ).mono ?_
    rintro e w29 ⟨rfl, b30⟩
    have H31 := Hid.mk' (H24.out.below b30)
    clear H24
    have H32 := Hid.mk' (H25.out.below b30)
    clear H25
    have H33 := Hid.mk' (H26.out.below b30)
    clear H26
    have H34 := Hid.mk' (H27.out.below b30)
    clear H27
    have Z35 := Hid.mk' (bel_next Z28.out b30)
    clear Z28
    clear b30
    go_wp2
    go_ret
    exact ⟨rfl, Z35.out⟩
  · go_wp2_with fail
    refine (shI_L n1 n2 H1.out).mono ?_
    rw [h1]
    rintro e w36 ⟨a37, c38, rfl, b39, r40⟩
    have H41 := Hid.mk' (H1.out.below b39)
    clear H1
    have H42 := Hid.mk' (HB0.out.below b39)
    clear HB0
    have Z43 := Hid.mk' (bel_next Z2.out b39)
    clear Z2
    have H44 : Hid (RL w36 a37 c38 X) := r40
    clear r40
    clear b39
    go_wp2_with fail
    refine (shS_L n1 n2 H41.out).mono ?_
    rw [h1]
    rintro e w45 ⟨a46, c47, rfl, b48, r49⟩
    have H50 := Hid.mk' (H41.out.below b48)
    clear H41
    have H51 := Hid.mk' (H42.out.below b48)
    clear H42
    have H52 := Hid.mk' (H44.out.below b48)
    clear H44
    have Z53 := Hid.mk' (bel_next Z43.out b48)
    clear Z43
    have H54 : Hid (RL w45 a46 c47 X) := r49
    clear r49
    clear b48
    go_wp2_with fail
    refine (he_L H52.out H54.out).mono ?_
    rw [sq_same]
    rintro e w55 ⟨rfl, b56⟩
    have H57 := Hid.mk' (H50.out.below b56)
    clear H50
    have H58 := Hid.mk' (H51.out.below b56)
    clear H51
    have H59 := Hid.mk' (H52.out.below b56)
    clear H52
    have H60 := Hid.mk' (H54.out.below b56)
    clear H54
    have Z61 := Hid.mk' (bel_next Z53.out b56)
    clear Z53
    clear b56
    have e0 := sh_zero (sh_facts h1).2.1
    go_wp2_with fail
    refine (shI_L 0 0 H57.out).mono ?_
    rw [e0]
    rintro e w62 ⟨a63, c64, rfl, b65, r66⟩
    have H67 := Hid.mk' (H57.out.below b65)
    clear H57
    have H68 := Hid.mk' (H58.out.below b65)
    clear H58
    have H69 := Hid.mk' (H59.out.below b65)
    clear H59
    have H70 := Hid.mk' (H60.out.below b65)
    clear H60
    have Z71 := Hid.mk' (bel_next Z61.out b65)
    clear Z61
    have H72 : Hid (RL w62 a63 c64 A) := r66
    clear r66
    clear b65
    go_wp2_with fail
    refine (he_L H72.out H67.out).mono ?_
    rw [sq_same]
    rintro e w73 ⟨rfl, b74⟩
    have H75 := Hid.mk' (H67.out.below b74)
    clear H67
    have H76 := Hid.mk' (H68.out.below b74)
    clear H68
    have H77 := Hid.mk' (H69.out.below b74)
    clear H69
    have H78 := Hid.mk' (H70.out.below b74)
    clear H70
    have H79 := Hid.mk' (H72.out.below b74)
    clear H72
    have Z80 := Hid.mk' (bel_next Z71.out b74)
    clear Z71
    clear b74
    obtain ⟨YY, o1, h2⟩ : ∃ L o, shVl B n1 n2 = (L, o) := ⟨_, _, rfl⟩
    go_wp2_with fail
    refine (shI_L n1 n2 H76.out).mono ?_
    rw [h2]
    rintro e w81 ⟨a82, c83, rfl, b84, r85⟩
    have H86 := Hid.mk' (H75.out.below b84)
    clear H75
    have H87 := Hid.mk' (H76.out.below b84)
    clear H76
    have H88 := Hid.mk' (H77.out.below b84)
    clear H77
    have H89 := Hid.mk' (H78.out.below b84)
    clear H78
    have H90 := Hid.mk' (H79.out.below b84)
    clear H79
    have Z91 := Hid.mk' (bel_next Z80.out b84)
    clear Z80
    have H92 : Hid (RL w81 a82 c83 YY) := r85
    clear r85
    clear b84
    obtain ⟨AB, o2, h3⟩ : ∃ L o, wmV A B = (L, o) := ⟨_, _, rfl⟩
    go_wp2_with fail
    refine (wmI_L H86.out H87.out).mono ?_
    rw [h3]
    rintro e w93 ⟨a94, c95, rfl, b96, r97⟩
    have H98 := Hid.mk' (H86.out.below b96)
    clear H86
    have H99 := Hid.mk' (H87.out.below b96)
    clear H87
    have H100 := Hid.mk' (H88.out.below b96)
    clear H88
    have H101 := Hid.mk' (H89.out.below b96)
    clear H89
    have H102 := Hid.mk' (H90.out.below b96)
    clear H90
    have H103 := Hid.mk' (H92.out.below b96)
    clear H92
    have Z104 := Hid.mk' (bel_next Z91.out b96)
    clear Z91
    have H105 : Hid (RL w93 a94 c95 AB) := r97
    clear r97
    clear b96
    cases o1
    · obtain ⟨ZZ, o5, k5⟩ : ∃ L o, shVl X n3 n4 = (L, o) := ⟨_, _, rfl⟩
      go_wp2_with fail
      refine (shI_L n3 n4 H100.out).mono ?_
      rw [k5]
      rintro e w106 ⟨a107, c108, rfl, b109, r110⟩
      have H111 := Hid.mk' (H98.out.below b109)
      clear H98
      have H112 := Hid.mk' (H99.out.below b109)
      clear H99
      have H113 := Hid.mk' (H100.out.below b109)
      clear H100
      have H114 := Hid.mk' (H101.out.below b109)
      clear H101
      have H115 := Hid.mk' (H102.out.below b109)
      clear H102
      have H116 := Hid.mk' (H103.out.below b109)
      clear H103
      have H117 := Hid.mk' (H105.out.below b109)
      clear H105
      have Z118 := Hid.mk' (bel_next Z104.out b109)
      clear Z104
      have H119 : Hid (RL w106 a107 c108 ZZ) := r110
      clear r110
      clear b109
      go_wp2_with fail
      refine (addI n1 n3 _).mono ?_
      rintro e w' ⟨rfl, hw'⟩
      obtain rfl := hw'.symm
      clear hw'
      go_wp2_with fail
      refine (addI n2 n4 _).mono ?_
      rintro e w' ⟨rfl, hw'⟩
      obtain rfl := hw'.symm
      clear hw'
      obtain ⟨WW, o6, k6⟩ : ∃ L o, shVl A (fAdd n1 n3) (fAdd n2 n4) = (L, o) := ⟨_, _, rfl⟩
      go_wp2_with fail
      refine (shI_L (fAdd n1 n3) (fAdd n2 n4) H111.out).mono ?_
      rw [k6]
      rintro e w120 ⟨a121, c122, rfl, b123, r124⟩
      have H125 := Hid.mk' (H111.out.below b123)
      clear H111
      have H126 := Hid.mk' (H112.out.below b123)
      clear H112
      have H127 := Hid.mk' (H113.out.below b123)
      clear H113
      have H128 := Hid.mk' (H114.out.below b123)
      clear H114
      have H129 := Hid.mk' (H115.out.below b123)
      clear H115
      have H130 := Hid.mk' (H116.out.below b123)
      clear H116
      have H131 := Hid.mk' (H117.out.below b123)
      clear H117
      have H132 := Hid.mk' (H119.out.below b123)
      clear H119
      have Z133 := Hid.mk' (bel_next Z118.out b123)
      clear Z118
      have H134 : Hid (RL w120 a121 c122 WW) := r124
      clear r124
      clear b123
      cases o5
      · go_wp2_with fail
        refine (heOk_L _ ).mono ?_
        rintro e w135 ⟨rfl, b136⟩
        have H137 := Hid.mk' (H125.out.below b136)
        clear H125
        have H138 := Hid.mk' (H126.out.below b136)
        clear H126
        have H139 := Hid.mk' (H127.out.below b136)
        clear H127
        have H140 := Hid.mk' (H128.out.below b136)
        clear H128
        have H141 := Hid.mk' (H129.out.below b136)
        clear H129
        have H142 := Hid.mk' (H130.out.below b136)
        clear H130
        have H143 := Hid.mk' (H131.out.below b136)
        clear H131
        have H144 := Hid.mk' (H132.out.below b136)
        clear H132
        have H145 := Hid.mk' (H134.out.below b136)
        clear H134
        have Z146 := Hid.mk' (bel_next Z133.out b136)
        clear Z133
        clear b136
        go_wp2
        go_ret
        exact ⟨rfl, Z146.out⟩
      · cases o6
        · go_wp2_with fail
          refine (heOk_L _ ).mono ?_
          rintro e w147 ⟨rfl, b148⟩
          have H149 := Hid.mk' (H125.out.below b148)
          clear H125
          have H150 := Hid.mk' (H126.out.below b148)
          clear H126
          have H151 := Hid.mk' (H127.out.below b148)
          clear H127
          have H152 := Hid.mk' (H128.out.below b148)
          clear H128
          have H153 := Hid.mk' (H129.out.below b148)
          clear H129
          have H154 := Hid.mk' (H130.out.below b148)
          clear H130
          have H155 := Hid.mk' (H131.out.below b148)
          clear H131
          have H156 := Hid.mk' (H132.out.below b148)
          clear H132
          have H157 := Hid.mk' (H134.out.below b148)
          clear H134
          have Z158 := Hid.mk' (bel_next Z133.out b148)
          clear Z133
          clear b148
          go_wp2
          go_ret
          exact ⟨rfl, Z158.out⟩
        · have e6 : ZZ = WW := sh_add h1 k5 k6
          have hr := (sh_facts k5).1
          go_wp2_with fail
          refine (okS_in n3 _ hr.1.1 hr.1.2).mono ?_
          rintro e w' ⟨rfl, hw'⟩
          obtain rfl := hw'.symm
          clear hw'
          go_wp2_with fail
          refine (okS_in n4 _ hr.2.1 hr.2.2).mono ?_
          rintro e w' ⟨rfl, hw'⟩
          obtain rfl := hw'.symm
          clear hw'
          subst e6
          go_wp2_with fail
          refine (he_L H132.out H134.out).mono ?_
          rw [sq_same]
          rintro e w159 ⟨rfl, b160⟩
          have H161 := Hid.mk' (H125.out.below b160)
          clear H125
          have H162 := Hid.mk' (H126.out.below b160)
          clear H126
          have H163 := Hid.mk' (H127.out.below b160)
          clear H127
          have H164 := Hid.mk' (H128.out.below b160)
          clear H128
          have H165 := Hid.mk' (H129.out.below b160)
          clear H129
          have H166 := Hid.mk' (H130.out.below b160)
          clear H130
          have H167 := Hid.mk' (H131.out.below b160)
          clear H131
          have H168 := Hid.mk' (H132.out.below b160)
          clear H132
          have H169 := Hid.mk' (H134.out.below b160)
          clear H134
          have Z170 := Hid.mk' (bel_next Z133.out b160)
          clear Z133
          clear b160
          go_wp2_with fail
          refine (heOk_L _ ).mono ?_
          rintro e w171 ⟨rfl, b172⟩
          have H173 := Hid.mk' (H161.out.below b172)
          clear H161
          have H174 := Hid.mk' (H162.out.below b172)
          clear H162
          have H175 := Hid.mk' (H163.out.below b172)
          clear H163
          have H176 := Hid.mk' (H164.out.below b172)
          clear H164
          have H177 := Hid.mk' (H165.out.below b172)
          clear H165
          have H178 := Hid.mk' (H166.out.below b172)
          clear H166
          have H179 := Hid.mk' (H167.out.below b172)
          clear H167
          have H180 := Hid.mk' (H168.out.below b172)
          clear H168
          have H181 := Hid.mk' (H169.out.below b172)
          clear H169
          have Z182 := Hid.mk' (bel_next Z170.out b172)
          clear Z170
          clear b172
          go_wp2
          go_ret
          exact ⟨rfl, Z182.out⟩
    · cases o2
      · obtain ⟨ZZ, o5, k5⟩ : ∃ L o, shVl X n3 n4 = (L, o) := ⟨_, _, rfl⟩
        go_wp2_with fail
        refine (shI_L n3 n4 H100.out).mono ?_
        rw [k5]
        rintro e w183 ⟨a184, c185, rfl, b186, r187⟩
        have H188 := Hid.mk' (H98.out.below b186)
        clear H98
        have H189 := Hid.mk' (H99.out.below b186)
        clear H99
        have H190 := Hid.mk' (H100.out.below b186)
        clear H100
        have H191 := Hid.mk' (H101.out.below b186)
        clear H101
        have H192 := Hid.mk' (H102.out.below b186)
        clear H102
        have H193 := Hid.mk' (H103.out.below b186)
        clear H103
        have H194 := Hid.mk' (H105.out.below b186)
        clear H105
        have Z195 := Hid.mk' (bel_next Z104.out b186)
        clear Z104
        have H196 : Hid (RL w183 a184 c185 ZZ) := r187
        clear r187
        clear b186
        go_wp2_with fail
        refine (addI n1 n3 _).mono ?_
        rintro e w' ⟨rfl, hw'⟩
        obtain rfl := hw'.symm
        clear hw'
        go_wp2_with fail
        refine (addI n2 n4 _).mono ?_
        rintro e w' ⟨rfl, hw'⟩
        obtain rfl := hw'.symm
        clear hw'
        obtain ⟨WW, o6, k6⟩ : ∃ L o, shVl A (fAdd n1 n3) (fAdd n2 n4) = (L, o) := ⟨_, _, rfl⟩
        go_wp2_with fail
        refine (shI_L (fAdd n1 n3) (fAdd n2 n4) H188.out).mono ?_
        rw [k6]
        rintro e w197 ⟨a198, c199, rfl, b200, r201⟩
        have H202 := Hid.mk' (H188.out.below b200)
        clear H188
        have H203 := Hid.mk' (H189.out.below b200)
        clear H189
        have H204 := Hid.mk' (H190.out.below b200)
        clear H190
        have H205 := Hid.mk' (H191.out.below b200)
        clear H191
        have H206 := Hid.mk' (H192.out.below b200)
        clear H192
        have H207 := Hid.mk' (H193.out.below b200)
        clear H193
        have H208 := Hid.mk' (H194.out.below b200)
        clear H194
        have H209 := Hid.mk' (H196.out.below b200)
        clear H196
        have Z210 := Hid.mk' (bel_next Z195.out b200)
        clear Z195
        have H211 : Hid (RL w197 a198 c199 WW) := r201
        clear r201
        clear b200
        cases o5
        · go_wp2_with fail
          refine (heOk_L _ ).mono ?_
          rintro e w212 ⟨rfl, b213⟩
          have H214 := Hid.mk' (H202.out.below b213)
          clear H202
          have H215 := Hid.mk' (H203.out.below b213)
          clear H203
          have H216 := Hid.mk' (H204.out.below b213)
          clear H204
          have H217 := Hid.mk' (H205.out.below b213)
          clear H205
          have H218 := Hid.mk' (H206.out.below b213)
          clear H206
          have H219 := Hid.mk' (H207.out.below b213)
          clear H207
          have H220 := Hid.mk' (H208.out.below b213)
          clear H208
          have H221 := Hid.mk' (H209.out.below b213)
          clear H209
          have H222 := Hid.mk' (H211.out.below b213)
          clear H211
          have Z223 := Hid.mk' (bel_next Z210.out b213)
          clear Z210
          clear b213
          go_wp2
          go_ret
          exact ⟨rfl, Z223.out⟩
        · cases o6
          · go_wp2_with fail
            refine (heOk_L _ ).mono ?_
            rintro e w224 ⟨rfl, b225⟩
            have H226 := Hid.mk' (H202.out.below b225)
            clear H202
            have H227 := Hid.mk' (H203.out.below b225)
            clear H203
            have H228 := Hid.mk' (H204.out.below b225)
            clear H204
            have H229 := Hid.mk' (H205.out.below b225)
            clear H205
            have H230 := Hid.mk' (H206.out.below b225)
            clear H206
            have H231 := Hid.mk' (H207.out.below b225)
            clear H207
            have H232 := Hid.mk' (H208.out.below b225)
            clear H208
            have H233 := Hid.mk' (H209.out.below b225)
            clear H209
            have H234 := Hid.mk' (H211.out.below b225)
            clear H211
            have Z235 := Hid.mk' (bel_next Z210.out b225)
            clear Z210
            clear b225
            go_wp2
            go_ret
            exact ⟨rfl, Z235.out⟩
          · have e6 : ZZ = WW := sh_add h1 k5 k6
            have hr := (sh_facts k5).1
            go_wp2_with fail
            refine (okS_in n3 _ hr.1.1 hr.1.2).mono ?_
            rintro e w' ⟨rfl, hw'⟩
            obtain rfl := hw'.symm
            clear hw'
            go_wp2_with fail
            refine (okS_in n4 _ hr.2.1 hr.2.2).mono ?_
            rintro e w' ⟨rfl, hw'⟩
            obtain rfl := hw'.symm
            clear hw'
            subst e6
            go_wp2_with fail
            refine (he_L H209.out H211.out).mono ?_
            rw [sq_same]
            rintro e w236 ⟨rfl, b237⟩
            have H238 := Hid.mk' (H202.out.below b237)
            clear H202
            have H239 := Hid.mk' (H203.out.below b237)
            clear H203
            have H240 := Hid.mk' (H204.out.below b237)
            clear H204
            have H241 := Hid.mk' (H205.out.below b237)
            clear H205
            have H242 := Hid.mk' (H206.out.below b237)
            clear H206
            have H243 := Hid.mk' (H207.out.below b237)
            clear H207
            have H244 := Hid.mk' (H208.out.below b237)
            clear H208
            have H245 := Hid.mk' (H209.out.below b237)
            clear H209
            have H246 := Hid.mk' (H211.out.below b237)
            clear H211
            have Z247 := Hid.mk' (bel_next Z210.out b237)
            clear Z210
            clear b237
            go_wp2_with fail
            refine (heOk_L _ ).mono ?_
            rintro e w248 ⟨rfl, b249⟩
            have H250 := Hid.mk' (H238.out.below b249)
            clear H238
            have H251 := Hid.mk' (H239.out.below b249)
            clear H239
            have H252 := Hid.mk' (H240.out.below b249)
            clear H240
            have H253 := Hid.mk' (H241.out.below b249)
            clear H241
            have H254 := Hid.mk' (H242.out.below b249)
            clear H242
            have H255 := Hid.mk' (H243.out.below b249)
            clear H243
            have H256 := Hid.mk' (H244.out.below b249)
            clear H244
            have H257 := Hid.mk' (H245.out.below b249)
            clear H245
            have H258 := Hid.mk' (H246.out.below b249)
            clear H246
            have Z259 := Hid.mk' (bel_next Z247.out b249)
            clear Z247
            clear b249
            go_wp2
            go_ret
            exact ⟨rfl, Z259.out⟩
      · obtain ⟨UU, o3, k3⟩ : ∃ L o, shVl AB n1 n2 = (L, o) := ⟨_, _, rfl⟩
        go_wp2_with fail
        refine (shI_L n1 n2 H105.out).mono ?_
        rw [k3]
        rintro e w260 ⟨a261, c262, rfl, b263, r264⟩
        have H265 := Hid.mk' (H98.out.below b263)
        clear H98
        have H266 := Hid.mk' (H99.out.below b263)
        clear H99
        have H267 := Hid.mk' (H100.out.below b263)
        clear H100
        have H268 := Hid.mk' (H101.out.below b263)
        clear H101
        have H269 := Hid.mk' (H102.out.below b263)
        clear H102
        have H270 := Hid.mk' (H103.out.below b263)
        clear H103
        have H271 := Hid.mk' (H105.out.below b263)
        clear H105
        have Z272 := Hid.mk' (bel_next Z104.out b263)
        clear Z104
        have H273 : Hid (RL w260 a261 c262 UU) := r264
        clear r264
        clear b263
        obtain ⟨VV, o4, k4⟩ : ∃ L o, wmV X YY = (L, o) := ⟨_, _, rfl⟩
        go_wp2_with fail
        refine (wmI_L H267.out H270.out).mono ?_
        rw [k4]
        rintro e w274 ⟨a275, c276, rfl, b277, r278⟩
        have H279 := Hid.mk' (H265.out.below b277)
        clear H265
        have H280 := Hid.mk' (H266.out.below b277)
        clear H266
        have H281 := Hid.mk' (H267.out.below b277)
        clear H267
        have H282 := Hid.mk' (H268.out.below b277)
        clear H268
        have H283 := Hid.mk' (H269.out.below b277)
        clear H269
        have H284 := Hid.mk' (H270.out.below b277)
        clear H270
        have H285 := Hid.mk' (H271.out.below b277)
        clear H271
        have H286 := Hid.mk' (H273.out.below b277)
        clear H273
        have Z287 := Hid.mk' (bel_next Z272.out b277)
        clear Z272
        have H288 : Hid (RL w274 a275 c276 VV) := r278
        clear r278
        clear b277
        cases o3
        · obtain ⟨ZZ, o5, k5⟩ : ∃ L o, shVl X n3 n4 = (L, o) := ⟨_, _, rfl⟩
          go_wp2_with fail
          refine (shI_L n3 n4 H281.out).mono ?_
          rw [k5]
          rintro e w289 ⟨a290, c291, rfl, b292, r293⟩
          have H294 := Hid.mk' (H279.out.below b292)
          clear H279
          have H295 := Hid.mk' (H280.out.below b292)
          clear H280
          have H296 := Hid.mk' (H281.out.below b292)
          clear H281
          have H297 := Hid.mk' (H282.out.below b292)
          clear H282
          have H298 := Hid.mk' (H283.out.below b292)
          clear H283
          have H299 := Hid.mk' (H284.out.below b292)
          clear H284
          have H300 := Hid.mk' (H285.out.below b292)
          clear H285
          have H301 := Hid.mk' (H286.out.below b292)
          clear H286
          have H302 := Hid.mk' (H288.out.below b292)
          clear H288
          have Z303 := Hid.mk' (bel_next Z287.out b292)
          clear Z287
          have H304 : Hid (RL w289 a290 c291 ZZ) := r293
          clear r293
          clear b292
          go_wp2_with fail
          refine (addI n1 n3 _).mono ?_
          rintro e w' ⟨rfl, hw'⟩
          obtain rfl := hw'.symm
          clear hw'
          go_wp2_with fail
          refine (addI n2 n4 _).mono ?_
          rintro e w' ⟨rfl, hw'⟩
          obtain rfl := hw'.symm
          clear hw'
          obtain ⟨WW, o6, k6⟩ : ∃ L o, shVl A (fAdd n1 n3) (fAdd n2 n4) = (L, o) := ⟨_, _, rfl⟩
          go_wp2_with fail
          refine (shI_L (fAdd n1 n3) (fAdd n2 n4) H294.out).mono ?_
          rw [k6]
          rintro e w305 ⟨a306, c307, rfl, b308, r309⟩
          have H310 := Hid.mk' (H294.out.below b308)
          clear H294
          have H311 := Hid.mk' (H295.out.below b308)
          clear H295
          have H312 := Hid.mk' (H296.out.below b308)
          clear H296
          have H313 := Hid.mk' (H297.out.below b308)
          clear H297
          have H314 := Hid.mk' (H298.out.below b308)
          clear H298
          have H315 := Hid.mk' (H299.out.below b308)
          clear H299
          have H316 := Hid.mk' (H300.out.below b308)
          clear H300
          have H317 := Hid.mk' (H301.out.below b308)
          clear H301
          have H318 := Hid.mk' (H302.out.below b308)
          clear H302
          have H319 := Hid.mk' (H304.out.below b308)
          clear H304
          have Z320 := Hid.mk' (bel_next Z303.out b308)
          clear Z303
          have H321 : Hid (RL w305 a306 c307 WW) := r309
          clear r309
          clear b308
          cases o5
          · go_wp2_with fail
            refine (heOk_L _ ).mono ?_
            rintro e w322 ⟨rfl, b323⟩
            have H324 := Hid.mk' (H310.out.below b323)
            clear H310
            have H325 := Hid.mk' (H311.out.below b323)
            clear H311
            have H326 := Hid.mk' (H312.out.below b323)
            clear H312
            have H327 := Hid.mk' (H313.out.below b323)
            clear H313
            have H328 := Hid.mk' (H314.out.below b323)
            clear H314
            have H329 := Hid.mk' (H315.out.below b323)
            clear H315
            have H330 := Hid.mk' (H316.out.below b323)
            clear H316
            have H331 := Hid.mk' (H317.out.below b323)
            clear H317
            have H332 := Hid.mk' (H318.out.below b323)
            clear H318
            have H333 := Hid.mk' (H319.out.below b323)
            clear H319
            have H334 := Hid.mk' (H321.out.below b323)
            clear H321
            have Z335 := Hid.mk' (bel_next Z320.out b323)
            clear Z320
            clear b323
            go_wp2
            go_ret
            exact ⟨rfl, Z335.out⟩
          · cases o6
            · go_wp2_with fail
              refine (heOk_L _ ).mono ?_
              rintro e w336 ⟨rfl, b337⟩
              have H338 := Hid.mk' (H310.out.below b337)
              clear H310
              have H339 := Hid.mk' (H311.out.below b337)
              clear H311
              have H340 := Hid.mk' (H312.out.below b337)
              clear H312
              have H341 := Hid.mk' (H313.out.below b337)
              clear H313
              have H342 := Hid.mk' (H314.out.below b337)
              clear H314
              have H343 := Hid.mk' (H315.out.below b337)
              clear H315
              have H344 := Hid.mk' (H316.out.below b337)
              clear H316
              have H345 := Hid.mk' (H317.out.below b337)
              clear H317
              have H346 := Hid.mk' (H318.out.below b337)
              clear H318
              have H347 := Hid.mk' (H319.out.below b337)
              clear H319
              have H348 := Hid.mk' (H321.out.below b337)
              clear H321
              have Z349 := Hid.mk' (bel_next Z320.out b337)
              clear Z320
              clear b337
              go_wp2
              go_ret
              exact ⟨rfl, Z349.out⟩
            · have e6 : ZZ = WW := sh_add h1 k5 k6
              have hr := (sh_facts k5).1
              go_wp2_with fail
              refine (okS_in n3 _ hr.1.1 hr.1.2).mono ?_
              rintro e w' ⟨rfl, hw'⟩
              obtain rfl := hw'.symm
              clear hw'
              go_wp2_with fail
              refine (okS_in n4 _ hr.2.1 hr.2.2).mono ?_
              rintro e w' ⟨rfl, hw'⟩
              obtain rfl := hw'.symm
              clear hw'
              subst e6
              go_wp2_with fail
              refine (he_L H319.out H321.out).mono ?_
              rw [sq_same]
              rintro e w350 ⟨rfl, b351⟩
              have H352 := Hid.mk' (H310.out.below b351)
              clear H310
              have H353 := Hid.mk' (H311.out.below b351)
              clear H311
              have H354 := Hid.mk' (H312.out.below b351)
              clear H312
              have H355 := Hid.mk' (H313.out.below b351)
              clear H313
              have H356 := Hid.mk' (H314.out.below b351)
              clear H314
              have H357 := Hid.mk' (H315.out.below b351)
              clear H315
              have H358 := Hid.mk' (H316.out.below b351)
              clear H316
              have H359 := Hid.mk' (H317.out.below b351)
              clear H317
              have H360 := Hid.mk' (H318.out.below b351)
              clear H318
              have H361 := Hid.mk' (H319.out.below b351)
              clear H319
              have H362 := Hid.mk' (H321.out.below b351)
              clear H321
              have Z363 := Hid.mk' (bel_next Z320.out b351)
              clear Z320
              clear b351
              go_wp2_with fail
              refine (heOk_L _ ).mono ?_
              rintro e w364 ⟨rfl, b365⟩
              have H366 := Hid.mk' (H352.out.below b365)
              clear H352
              have H367 := Hid.mk' (H353.out.below b365)
              clear H353
              have H368 := Hid.mk' (H354.out.below b365)
              clear H354
              have H369 := Hid.mk' (H355.out.below b365)
              clear H355
              have H370 := Hid.mk' (H356.out.below b365)
              clear H356
              have H371 := Hid.mk' (H357.out.below b365)
              clear H357
              have H372 := Hid.mk' (H358.out.below b365)
              clear H358
              have H373 := Hid.mk' (H359.out.below b365)
              clear H359
              have H374 := Hid.mk' (H360.out.below b365)
              clear H360
              have H375 := Hid.mk' (H361.out.below b365)
              clear H361
              have H376 := Hid.mk' (H362.out.below b365)
              clear H362
              have Z377 := Hid.mk' (bel_next Z363.out b365)
              clear Z363
              clear b365
              go_wp2
              go_ret
              exact ⟨rfl, Z377.out⟩
        · cases o4
          · obtain ⟨ZZ, o5, k5⟩ : ∃ L o, shVl X n3 n4 = (L, o) := ⟨_, _, rfl⟩
            go_wp2_with fail
            refine (shI_L n3 n4 H281.out).mono ?_
            rw [k5]
            rintro e w378 ⟨a379, c380, rfl, b381, r382⟩
            have H383 := Hid.mk' (H279.out.below b381)
            clear H279
            have H384 := Hid.mk' (H280.out.below b381)
            clear H280
            have H385 := Hid.mk' (H281.out.below b381)
            clear H281
            have H386 := Hid.mk' (H282.out.below b381)
            clear H282
            have H387 := Hid.mk' (H283.out.below b381)
            clear H283
            have H388 := Hid.mk' (H284.out.below b381)
            clear H284
            have H389 := Hid.mk' (H285.out.below b381)
            clear H285
            have H390 := Hid.mk' (H286.out.below b381)
            clear H286
            have H391 := Hid.mk' (H288.out.below b381)
            clear H288
            have Z392 := Hid.mk' (bel_next Z287.out b381)
            clear Z287
            have H393 : Hid (RL w378 a379 c380 ZZ) := r382
            clear r382
            clear b381
            go_wp2_with fail
            refine (addI n1 n3 _).mono ?_
            rintro e w' ⟨rfl, hw'⟩
            obtain rfl := hw'.symm
            clear hw'
            go_wp2_with fail
            refine (addI n2 n4 _).mono ?_
            rintro e w' ⟨rfl, hw'⟩
            obtain rfl := hw'.symm
            clear hw'
            obtain ⟨WW, o6, k6⟩ : ∃ L o, shVl A (fAdd n1 n3) (fAdd n2 n4) = (L, o) := ⟨_, _, rfl⟩
            go_wp2_with fail
            refine (shI_L (fAdd n1 n3) (fAdd n2 n4) H383.out).mono ?_
            rw [k6]
            rintro e w394 ⟨a395, c396, rfl, b397, r398⟩
            have H399 := Hid.mk' (H383.out.below b397)
            clear H383
            have H400 := Hid.mk' (H384.out.below b397)
            clear H384
            have H401 := Hid.mk' (H385.out.below b397)
            clear H385
            have H402 := Hid.mk' (H386.out.below b397)
            clear H386
            have H403 := Hid.mk' (H387.out.below b397)
            clear H387
            have H404 := Hid.mk' (H388.out.below b397)
            clear H388
            have H405 := Hid.mk' (H389.out.below b397)
            clear H389
            have H406 := Hid.mk' (H390.out.below b397)
            clear H390
            have H407 := Hid.mk' (H391.out.below b397)
            clear H391
            have H408 := Hid.mk' (H393.out.below b397)
            clear H393
            have Z409 := Hid.mk' (bel_next Z392.out b397)
            clear Z392
            have H410 : Hid (RL w394 a395 c396 WW) := r398
            clear r398
            clear b397
            cases o5
            · go_wp2_with fail
              refine (heOk_L _ ).mono ?_
              rintro e w411 ⟨rfl, b412⟩
              have H413 := Hid.mk' (H399.out.below b412)
              clear H399
              have H414 := Hid.mk' (H400.out.below b412)
              clear H400
              have H415 := Hid.mk' (H401.out.below b412)
              clear H401
              have H416 := Hid.mk' (H402.out.below b412)
              clear H402
              have H417 := Hid.mk' (H403.out.below b412)
              clear H403
              have H418 := Hid.mk' (H404.out.below b412)
              clear H404
              have H419 := Hid.mk' (H405.out.below b412)
              clear H405
              have H420 := Hid.mk' (H406.out.below b412)
              clear H406
              have H421 := Hid.mk' (H407.out.below b412)
              clear H407
              have H422 := Hid.mk' (H408.out.below b412)
              clear H408
              have H423 := Hid.mk' (H410.out.below b412)
              clear H410
              have Z424 := Hid.mk' (bel_next Z409.out b412)
              clear Z409
              clear b412
              go_wp2
              go_ret
              exact ⟨rfl, Z424.out⟩
            · cases o6
              · go_wp2_with fail
                refine (heOk_L _ ).mono ?_
                rintro e w425 ⟨rfl, b426⟩
                have H427 := Hid.mk' (H399.out.below b426)
                clear H399
                have H428 := Hid.mk' (H400.out.below b426)
                clear H400
                have H429 := Hid.mk' (H401.out.below b426)
                clear H401
                have H430 := Hid.mk' (H402.out.below b426)
                clear H402
                have H431 := Hid.mk' (H403.out.below b426)
                clear H403
                have H432 := Hid.mk' (H404.out.below b426)
                clear H404
                have H433 := Hid.mk' (H405.out.below b426)
                clear H405
                have H434 := Hid.mk' (H406.out.below b426)
                clear H406
                have H435 := Hid.mk' (H407.out.below b426)
                clear H407
                have H436 := Hid.mk' (H408.out.below b426)
                clear H408
                have H437 := Hid.mk' (H410.out.below b426)
                clear H410
                have Z438 := Hid.mk' (bel_next Z409.out b426)
                clear Z409
                clear b426
                go_wp2
                go_ret
                exact ⟨rfl, Z438.out⟩
              · have e6 : ZZ = WW := sh_add h1 k5 k6
                have hr := (sh_facts k5).1
                go_wp2_with fail
                refine (okS_in n3 _ hr.1.1 hr.1.2).mono ?_
                rintro e w' ⟨rfl, hw'⟩
                obtain rfl := hw'.symm
                clear hw'
                go_wp2_with fail
                refine (okS_in n4 _ hr.2.1 hr.2.2).mono ?_
                rintro e w' ⟨rfl, hw'⟩
                obtain rfl := hw'.symm
                clear hw'
                subst e6
                go_wp2_with fail
                refine (he_L H408.out H410.out).mono ?_
                rw [sq_same]
                rintro e w439 ⟨rfl, b440⟩
                have H441 := Hid.mk' (H399.out.below b440)
                clear H399
                have H442 := Hid.mk' (H400.out.below b440)
                clear H400
                have H443 := Hid.mk' (H401.out.below b440)
                clear H401
                have H444 := Hid.mk' (H402.out.below b440)
                clear H402
                have H445 := Hid.mk' (H403.out.below b440)
                clear H403
                have H446 := Hid.mk' (H404.out.below b440)
                clear H404
                have H447 := Hid.mk' (H405.out.below b440)
                clear H405
                have H448 := Hid.mk' (H406.out.below b440)
                clear H406
                have H449 := Hid.mk' (H407.out.below b440)
                clear H407
                have H450 := Hid.mk' (H408.out.below b440)
                clear H408
                have H451 := Hid.mk' (H410.out.below b440)
                clear H410
                have Z452 := Hid.mk' (bel_next Z409.out b440)
                clear Z409
                clear b440
                go_wp2_with fail
                refine (heOk_L _ ).mono ?_
                rintro e w453 ⟨rfl, b454⟩
                have H455 := Hid.mk' (H441.out.below b454)
                clear H441
                have H456 := Hid.mk' (H442.out.below b454)
                clear H442
                have H457 := Hid.mk' (H443.out.below b454)
                clear H443
                have H458 := Hid.mk' (H444.out.below b454)
                clear H444
                have H459 := Hid.mk' (H445.out.below b454)
                clear H445
                have H460 := Hid.mk' (H446.out.below b454)
                clear H446
                have H461 := Hid.mk' (H447.out.below b454)
                clear H447
                have H462 := Hid.mk' (H448.out.below b454)
                clear H448
                have H463 := Hid.mk' (H449.out.below b454)
                clear H449
                have H464 := Hid.mk' (H450.out.below b454)
                clear H450
                have H465 := Hid.mk' (H451.out.below b454)
                clear H451
                have Z466 := Hid.mk' (bel_next Z452.out b454)
                clear Z452
                clear b454
                go_wp2
                go_ret
                exact ⟨rfl, Z466.out⟩
          · have e4 : UU = VV := sh_mul h1 h2 h3 k3 k4
            subst e4
            go_wp2_with fail
            refine (he_L H286.out H288.out).mono ?_
            rw [sq_same]
            rintro e w467 ⟨rfl, b468⟩
            have H469 := Hid.mk' (H279.out.below b468)
            clear H279
            have H470 := Hid.mk' (H280.out.below b468)
            clear H280
            have H471 := Hid.mk' (H281.out.below b468)
            clear H281
            have H472 := Hid.mk' (H282.out.below b468)
            clear H282
            have H473 := Hid.mk' (H283.out.below b468)
            clear H283
            have H474 := Hid.mk' (H284.out.below b468)
            clear H284
            have H475 := Hid.mk' (H285.out.below b468)
            clear H285
            have H476 := Hid.mk' (H286.out.below b468)
            clear H286
            have H477 := Hid.mk' (H288.out.below b468)
            clear H288
            have Z478 := Hid.mk' (bel_next Z287.out b468)
            clear Z287
            clear b468
            obtain ⟨ZZ, o5, k5⟩ : ∃ L o, shVl X n3 n4 = (L, o) := ⟨_, _, rfl⟩
            go_wp2_with fail
            refine (shI_L n3 n4 H471.out).mono ?_
            rw [k5]
            rintro e w479 ⟨a480, c481, rfl, b482, r483⟩
            have H484 := Hid.mk' (H469.out.below b482)
            clear H469
            have H485 := Hid.mk' (H470.out.below b482)
            clear H470
            have H486 := Hid.mk' (H471.out.below b482)
            clear H471
            have H487 := Hid.mk' (H472.out.below b482)
            clear H472
            have H488 := Hid.mk' (H473.out.below b482)
            clear H473
            have H489 := Hid.mk' (H474.out.below b482)
            clear H474
            have H490 := Hid.mk' (H475.out.below b482)
            clear H475
            have H491 := Hid.mk' (H476.out.below b482)
            clear H476
            have H492 := Hid.mk' (H477.out.below b482)
            clear H477
            have Z493 := Hid.mk' (bel_next Z478.out b482)
            clear Z478
            have H494 : Hid (RL w479 a480 c481 ZZ) := r483
            clear r483
            clear b482
            go_wp2_with fail
            refine (addI n1 n3 _).mono ?_
            rintro e w' ⟨rfl, hw'⟩
            obtain rfl := hw'.symm
            clear hw'
            go_wp2_with fail
            refine (addI n2 n4 _).mono ?_
            rintro e w' ⟨rfl, hw'⟩
            obtain rfl := hw'.symm
            clear hw'
            obtain ⟨WW, o6, k6⟩ : ∃ L o, shVl A (fAdd n1 n3) (fAdd n2 n4) = (L, o) := ⟨_, _, rfl⟩
            go_wp2_with fail
            refine (shI_L (fAdd n1 n3) (fAdd n2 n4) H484.out).mono ?_
            rw [k6]
            rintro e w495 ⟨a496, c497, rfl, b498, r499⟩
            have H500 := Hid.mk' (H484.out.below b498)
            clear H484
            have H501 := Hid.mk' (H485.out.below b498)
            clear H485
            have H502 := Hid.mk' (H486.out.below b498)
            clear H486
            have H503 := Hid.mk' (H487.out.below b498)
            clear H487
            have H504 := Hid.mk' (H488.out.below b498)
            clear H488
            have H505 := Hid.mk' (H489.out.below b498)
            clear H489
            have H506 := Hid.mk' (H490.out.below b498)
            clear H490
            have H507 := Hid.mk' (H491.out.below b498)
            clear H491
            have H508 := Hid.mk' (H492.out.below b498)
            clear H492
            have H509 := Hid.mk' (H494.out.below b498)
            clear H494
            have Z510 := Hid.mk' (bel_next Z493.out b498)
            clear Z493
            have H511 : Hid (RL w495 a496 c497 WW) := r499
            clear r499
            clear b498
            cases o5
            · go_wp2_with fail
              refine (heOk_L _ ).mono ?_
              rintro e w512 ⟨rfl, b513⟩
              have H514 := Hid.mk' (H500.out.below b513)
              clear H500
              have H515 := Hid.mk' (H501.out.below b513)
              clear H501
              have H516 := Hid.mk' (H502.out.below b513)
              clear H502
              have H517 := Hid.mk' (H503.out.below b513)
              clear H503
              have H518 := Hid.mk' (H504.out.below b513)
              clear H504
              have H519 := Hid.mk' (H505.out.below b513)
              clear H505
              have H520 := Hid.mk' (H506.out.below b513)
              clear H506
              have H521 := Hid.mk' (H507.out.below b513)
              clear H507
              have H522 := Hid.mk' (H508.out.below b513)
              clear H508
              have H523 := Hid.mk' (H509.out.below b513)
              clear H509
              have H524 := Hid.mk' (H511.out.below b513)
              clear H511
              have Z525 := Hid.mk' (bel_next Z510.out b513)
              clear Z510
              clear b513
              go_wp2
              go_ret
              exact ⟨rfl, Z525.out⟩
            · cases o6
              · go_wp2_with fail
                refine (heOk_L _ ).mono ?_
                rintro e w526 ⟨rfl, b527⟩
                have H528 := Hid.mk' (H500.out.below b527)
                clear H500
                have H529 := Hid.mk' (H501.out.below b527)
                clear H501
                have H530 := Hid.mk' (H502.out.below b527)
                clear H502
                have H531 := Hid.mk' (H503.out.below b527)
                clear H503
                have H532 := Hid.mk' (H504.out.below b527)
                clear H504
                have H533 := Hid.mk' (H505.out.below b527)
                clear H505
                have H534 := Hid.mk' (H506.out.below b527)
                clear H506
                have H535 := Hid.mk' (H507.out.below b527)
                clear H507
                have H536 := Hid.mk' (H508.out.below b527)
                clear H508
                have H537 := Hid.mk' (H509.out.below b527)
                clear H509
                have H538 := Hid.mk' (H511.out.below b527)
                clear H511
                have Z539 := Hid.mk' (bel_next Z510.out b527)
                clear Z510
                clear b527
                go_wp2
                go_ret
                exact ⟨rfl, Z539.out⟩
              · have e6 : ZZ = WW := sh_add h1 k5 k6
                have hr := (sh_facts k5).1
                go_wp2_with fail
                refine (okS_in n3 _ hr.1.1 hr.1.2).mono ?_
                rintro e w' ⟨rfl, hw'⟩
                obtain rfl := hw'.symm
                clear hw'
                go_wp2_with fail
                refine (okS_in n4 _ hr.2.1 hr.2.2).mono ?_
                rintro e w' ⟨rfl, hw'⟩
                obtain rfl := hw'.symm
                clear hw'
                subst e6
                go_wp2_with fail
                refine (he_L H509.out H511.out).mono ?_
                rw [sq_same]
                rintro e w540 ⟨rfl, b541⟩
                have H542 := Hid.mk' (H500.out.below b541)
                clear H500
                have H543 := Hid.mk' (H501.out.below b541)
                clear H501
                have H544 := Hid.mk' (H502.out.below b541)
                clear H502
                have H545 := Hid.mk' (H503.out.below b541)
                clear H503
                have H546 := Hid.mk' (H504.out.below b541)
                clear H504
                have H547 := Hid.mk' (H505.out.below b541)
                clear H505
                have H548 := Hid.mk' (H506.out.below b541)
                clear H506
                have H549 := Hid.mk' (H507.out.below b541)
                clear H507
                have H550 := Hid.mk' (H508.out.below b541)
                clear H508
                have H551 := Hid.mk' (H509.out.below b541)
                clear H509
                have H552 := Hid.mk' (H511.out.below b541)
                clear H511
                have Z553 := Hid.mk' (bel_next Z510.out b541)
                clear Z510
                clear b541
                go_wp2_with fail
                refine (heOk_L _ ).mono ?_
                rintro e w554 ⟨rfl, b555⟩
                have H556 := Hid.mk' (H542.out.below b555)
                clear H542
                have H557 := Hid.mk' (H543.out.below b555)
                clear H543
                have H558 := Hid.mk' (H544.out.below b555)
                clear H544
                have H559 := Hid.mk' (H545.out.below b555)
                clear H545
                have H560 := Hid.mk' (H546.out.below b555)
                clear H546
                have H561 := Hid.mk' (H547.out.below b555)
                clear H547
                have H562 := Hid.mk' (H548.out.below b555)
                clear H548
                have H563 := Hid.mk' (H549.out.below b555)
                clear H549
                have H564 := Hid.mk' (H550.out.below b555)
                clear H550
                have H565 := Hid.mk' (H551.out.below b555)
                clear H551
                have H566 := Hid.mk' (H552.out.below b555)
                clear H552
                have Z567 := Hid.mk' (bel_next Z553.out b555)
                clear Z553
                clear b555
                go_wp2
                go_ret
                exact ⟨rfl, Z567.out⟩
end Go.Proofs.Ytlndccbgbclnhaa
