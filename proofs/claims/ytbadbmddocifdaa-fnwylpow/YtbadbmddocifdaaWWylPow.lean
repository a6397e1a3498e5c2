/-
  The walk of FnWylPow: whatever the code, it comes out true, and nothing that was there is turned.
-/
import Derived.Test.YtbadbmddocifdaaDrawWp
import Derived.Test.YtbadbmddocifdaaGaz
namespace Go.Proofs.Ytbadbmddocifdaa
open Go.RowKit
set_option linter.unusedVariables false
set_option maxRecDepth 100000 in
set_option maxHeartbeats 8000000 in
theorem walk_FnWylPow (w : World) (a0 : Option Addr) (len0 cap0 : Nat) (s0 : Src w a0 len0 cap0) :
    Calls Try.prog 5 #[.slice a0 len0 cap0] w fun e w' => e = .returned (.bool true) ∧ Below w.heap.size w w' := by
  by_cases c0 : (1048576 : Int) < (len0 : Int)
  · go_enter Try.func5, Try.ntmps5
    go_wp2
    go_ret
    exact ⟨rfl, Below.refl _ _⟩
  go_enter Try.func5, Try.ntmps5
  go_wp2_with fail
  refine (drawWylPow w a0 len0 cap0 s0).mono ?_
  rintro e wd ⟨da, dca, A, n0, rfl, hA, hlA, hbd⟩
  have HA0 := Hid.mk' hA
  have Z0 := Hid.mk' hbd
  clear hA hbd s0
  rcases wpV_if A n0 with h1 | ⟨X, h1⟩
  · go_wp2_with fail
    refine (wpI_L n0 HA0.out).mono ?_
    rw [h1]
    rintro e w1 ⟨a2, c3, rfl, b4, r5⟩
    have H6 := Hid.mk' (HA0.out.below b4)
    clear HA0
    have Z7 := Hid.mk' (bel_next Z0.out b4)
    clear Z0
    have H8 : Hid (RL w1 a2 c3 []) := r5
    clear r5
    clear b4
    go_wp2_with fail
    refine (wpS_L n0 H6.out).mono ?_
    rw [h1]
    rintro e w9 ⟨a10, c11, rfl, b12, r13⟩
    have H14 := Hid.mk' (H6.out.below b12)
    clear H6
    have H15 := Hid.mk' (H8.out.below b12)
    clear H8
    have Z16 := Hid.mk' (bel_next Z7.out b12)
    clear Z7
    have H17 : Hid (RL w9 a10 c11 []) := r13
    clear r13
    clear b12
    go_wp2_with fail
    refine (he_L H15.out H17.out).mono ?_
    rw [sq_same]
    rintro e w18 ⟨rfl, b19⟩
    have H20 := Hid.mk' (H14.out.below b19)
    clear H14
    have H21 := Hid.mk' (H15.out.below b19)
    clear H15
    have H22 := Hid.mk' (H17.out.below b19)
    clear H17
    have Z23 := Hid.mk' (bel_next Z16.out b19)
    clear Z16
    clear b19
    go_wp2_with fail
    refine (heOk_L _ ).mono ?_
    rintro e w24 ⟨rfl, b25⟩
    have H26 := Hid.mk' (H20.out.below b25)
    clear H20
    have H27 := Hid.mk' (H21.out.below b25)
    clear H21
    have H28 := Hid.mk' (H22.out.below b25)
    clear H22
    have Z29 := Hid.mk' (bel_next Z23.out b25)
    clear Z23
    clear b25
    go_wp2
    go_ret
    exact ⟨rfl, Z29.out⟩
  · go_wp2_with fail
    refine (wpI_L n0 HA0.out).mono ?_
    rw [h1]
    rintro e w30 ⟨a31, c32, rfl, b33, r34⟩
    have H35 := Hid.mk' (HA0.out.below b33)
    clear HA0
    have Z36 := Hid.mk' (bel_next Z0.out b33)
    clear Z0
    have H37 : Hid (RL w30 a31 c32 X) := r34
    clear r34
    clear b33
    go_wp2_with fail
    refine (wpS_L n0 H35.out).mono ?_
    rw [h1]
    rintro e w38 ⟨a39, c40, rfl, b41, r42⟩
    have H43 := Hid.mk' (H35.out.below b41)
    clear H35
    have H44 := Hid.mk' (H37.out.below b41)
    clear H37
    have Z45 := Hid.mk' (bel_next Z36.out b41)
    clear Z36
    have H46 : Hid (RL w38 a39 c40 X) := r42
    clear r42
    clear b41
    go_wp2_with fail
    refine (he_L H44.out H46.out).mono ?_
    rw [sq_same]
    rintro e w47 ⟨rfl, b48⟩
    have H49 := Hid.mk' (H43.out.below b48)
    clear H43
    have H50 := Hid.mk' (H44.out.below b48)
    clear H44
    have H51 := Hid.mk' (H46.out.below b48)
    clear H46
    have Z52 := Hid.mk' (bel_next Z45.out b48)
    clear Z45
    clear b48
    obtain ⟨m, hm⟩ : ∃ m, (len0 : Int).tmod 3 = m := ⟨_, rfl⟩
    have hm0 : 0 ≤ m ∧ m < 3 := by rw [Int.tmod_eq_emod_of_nonneg (by omega)] at hm; omega
    have hn0 : 0 ≤ n0 ∧ n0 ≤ 8 := ⟨(wp_facts h1).2.1, (wp_facts h1).2.2.1⟩
    have hwm : IntKind.i64.wrap (n0 + m) = n0 + m := by rw [IntKind.wrap_i64]; omega
    have e0 := wp_zero (wp_facts h1).1
    obtain ⟨YY, o1, k1⟩ : ∃ L o, wpV A m = (L, o) := ⟨_, _, rfl⟩
    go_wp2_with fail
    refine (wpI_L _ H49.out).mono ?_
    rw [k1]
    rintro e w53 ⟨a54, c55, rfl, b56, r57⟩
    have H58 := Hid.mk' (H49.out.below b56)
    clear H49
    have H59 := Hid.mk' (H50.out.below b56)
    clear H50
    have H60 := Hid.mk' (H51.out.below b56)
    clear H51
    have Z61 := Hid.mk' (bel_next Z52.out b56)
    clear Z52
    have H62 : Hid (RL w53 a54 c55 YY) := r57
    clear r57
    clear b56
    obtain ⟨ZZ, o2, k2⟩ : ∃ L o, wpV A (n0 + m) = (L, o) := ⟨_, _, rfl⟩
    go_wp2_with fail
    refine (wpI_L _ H58.out).mono ?_
    rw [k2]
    rintro e w63 ⟨a64, c65, rfl, b66, r67⟩
    have H68 := Hid.mk' (H58.out.below b66)
    clear H58
    have H69 := Hid.mk' (H59.out.below b66)
    clear H59
    have H70 := Hid.mk' (H60.out.below b66)
    clear H60
    have H71 := Hid.mk' (H62.out.below b66)
    clear H62
    have Z72 := Hid.mk' (bel_next Z61.out b66)
    clear Z61
    have H73 : Hid (RL w63 a64 c65 ZZ) := r67
    clear r67
    clear b66
    obtain ⟨UU, o3, k3⟩ : ∃ L o, wmV X YY = (L, o) := ⟨_, _, rfl⟩
    go_wp2_with fail
    refine (wmI_L H69.out H71.out).mono ?_
    rw [k3]
    rintro e w74 ⟨a75, c76, rfl, b77, r78⟩
    have H79 := Hid.mk' (H68.out.below b77)
    clear H68
    have H80 := Hid.mk' (H69.out.below b77)
    clear H69
    have H81 := Hid.mk' (H70.out.below b77)
    clear H70
    have H82 := Hid.mk' (H71.out.below b77)
    clear H71
    have H83 := Hid.mk' (H73.out.below b77)
    clear H73
    have Z84 := Hid.mk' (bel_next Z72.out b77)
    clear Z72
    have H85 : Hid (RL w74 a75 c76 UU) := r78
    clear r78
    clear b77
    go_wp2_with fail
    refine (wpI_L 0 H79.out).mono ?_
    rw [e0]
    rintro e w86 ⟨a87, c88, rfl, b89, r90⟩
    have H91 := Hid.mk' (H79.out.below b89)
    clear H79
    have H92 := Hid.mk' (H80.out.below b89)
    clear H80
    have H93 := Hid.mk' (H81.out.below b89)
    clear H81
    have H94 := Hid.mk' (H82.out.below b89)
    clear H82
    have H95 := Hid.mk' (H83.out.below b89)
    clear H83
    have H96 := Hid.mk' (H85.out.below b89)
    clear H85
    have Z97 := Hid.mk' (bel_next Z84.out b89)
    clear Z84
    have H98 : Hid (RL w86 a87 c88 [⟨1, ⟨0, 0, 0, 0⟩⟩]) := r90
    clear r90
    clear b89
    cases o1
    · go_wp2_with fail
      refine (heOne_L2 _ ).mono ?_
      rintro e w99 ⟨a100, c101, rfl, b102, r103⟩
      have H104 := Hid.mk' (H91.out.below b102)
      clear H91
      have H105 := Hid.mk' (H92.out.below b102)
      clear H92
      have H106 := Hid.mk' (H93.out.below b102)
      clear H93
      have H107 := Hid.mk' (H94.out.below b102)
      clear H94
      have H108 := Hid.mk' (H95.out.below b102)
      clear H95
      have H109 := Hid.mk' (H96.out.below b102)
      clear H96
      have H110 := Hid.mk' (H98.out.below b102)
      clear H98
      have Z111 := Hid.mk' (bel_next Z97.out b102)
      clear Z97
      have H112 : Hid (RL w99 a100 c101 [⟨1, ⟨0, 0, 0, 0⟩⟩]) := r103
      clear r103
      clear b102
      go_wp2_with fail
      refine (he_L H110.out H112.out).mono ?_
      rw [sq_same]
      rintro e w113 ⟨rfl, b114⟩
      have H115 := Hid.mk' (H104.out.below b114)
      clear H104
      have H116 := Hid.mk' (H105.out.below b114)
      clear H105
      have H117 := Hid.mk' (H106.out.below b114)
      clear H106
      have H118 := Hid.mk' (H107.out.below b114)
      clear H107
      have H119 := Hid.mk' (H108.out.below b114)
      clear H108
      have H120 := Hid.mk' (H109.out.below b114)
      clear H109
      have H121 := Hid.mk' (H110.out.below b114)
      clear H110
      have H122 := Hid.mk' (H112.out.below b114)
      clear H112
      have Z123 := Hid.mk' (bel_next Z111.out b114)
      clear Z111
      clear b114
      go_wp2
      go_ret
      exact ⟨rfl, Z123.out⟩
    · cases o2
      · go_wp2_with fail
        refine (heOne_L2 _ ).mono ?_
        rintro e w124 ⟨a125, c126, rfl, b127, r128⟩
        have H129 := Hid.mk' (H91.out.below b127)
        clear H91
        have H130 := Hid.mk' (H92.out.below b127)
        clear H92
        have H131 := Hid.mk' (H93.out.below b127)
        clear H93
        have H132 := Hid.mk' (H94.out.below b127)
        clear H94
        have H133 := Hid.mk' (H95.out.below b127)
        clear H95
        have H134 := Hid.mk' (H96.out.below b127)
        clear H96
        have H135 := Hid.mk' (H98.out.below b127)
        clear H98
        have Z136 := Hid.mk' (bel_next Z97.out b127)
        clear Z97
        have H137 : Hid (RL w124 a125 c126 [⟨1, ⟨0, 0, 0, 0⟩⟩]) := r128
        clear r128
        clear b127
        go_wp2_with fail
        refine (he_L H135.out H137.out).mono ?_
        rw [sq_same]
        rintro e w138 ⟨rfl, b139⟩
        have H140 := Hid.mk' (H129.out.below b139)
        clear H129
        have H141 := Hid.mk' (H130.out.below b139)
        clear H130
        have H142 := Hid.mk' (H131.out.below b139)
        clear H131
        have H143 := Hid.mk' (H132.out.below b139)
        clear H132
        have H144 := Hid.mk' (H133.out.below b139)
        clear H133
        have H145 := Hid.mk' (H134.out.below b139)
        clear H134
        have H146 := Hid.mk' (H135.out.below b139)
        clear H135
        have H147 := Hid.mk' (H137.out.below b139)
        clear H137
        have Z148 := Hid.mk' (bel_next Z136.out b139)
        clear Z136
        clear b139
        go_wp2
        go_ret
        exact ⟨rfl, Z148.out⟩
      · cases o3
        · go_wp2_with fail
          refine (heOne_L2 _ ).mono ?_
          rintro e w149 ⟨a150, c151, rfl, b152, r153⟩
          have H154 := Hid.mk' (H91.out.below b152)
          clear H91
          have H155 := Hid.mk' (H92.out.below b152)
          clear H92
          have H156 := Hid.mk' (H93.out.below b152)
          clear H93
          have H157 := Hid.mk' (H94.out.below b152)
          clear H94
          have H158 := Hid.mk' (H95.out.below b152)
          clear H95
          have H159 := Hid.mk' (H96.out.below b152)
          clear H96
          have H160 := Hid.mk' (H98.out.below b152)
          clear H98
          have Z161 := Hid.mk' (bel_next Z97.out b152)
          clear Z97
          have H162 : Hid (RL w149 a150 c151 [⟨1, ⟨0, 0, 0, 0⟩⟩]) := r153
          clear r153
          clear b152
          go_wp2_with fail
          refine (he_L H160.out H162.out).mono ?_
          rw [sq_same]
          rintro e w163 ⟨rfl, b164⟩
          have H165 := Hid.mk' (H154.out.below b164)
          clear H154
          have H166 := Hid.mk' (H155.out.below b164)
          clear H155
          have H167 := Hid.mk' (H156.out.below b164)
          clear H156
          have H168 := Hid.mk' (H157.out.below b164)
          clear H157
          have H169 := Hid.mk' (H158.out.below b164)
          clear H158
          have H170 := Hid.mk' (H159.out.below b164)
          clear H159
          have H171 := Hid.mk' (H160.out.below b164)
          clear H160
          have H172 := Hid.mk' (H162.out.below b164)
          clear H162
          have Z173 := Hid.mk' (bel_next Z161.out b164)
          clear Z161
          clear b164
          go_wp2
          go_ret
          exact ⟨rfl, Z173.out⟩
        · have e5 : UU = ZZ := wp_add h1 k1 k2 k3
          subst e5
          go_wp2_with fail
          refine (he_L H96.out H95.out).mono ?_
          rw [sq_same]
          rintro e w174 ⟨rfl, b175⟩
          have H176 := Hid.mk' (H91.out.below b175)
          clear H91
          have H177 := Hid.mk' (H92.out.below b175)
          clear H92
          have H178 := Hid.mk' (H93.out.below b175)
          clear H93
          have H179 := Hid.mk' (H94.out.below b175)
          clear H94
          have H180 := Hid.mk' (H95.out.below b175)
          clear H95
          have H181 := Hid.mk' (H96.out.below b175)
          clear H96
          have H182 := Hid.mk' (H98.out.below b175)
          clear H98
          have Z183 := Hid.mk' (bel_next Z97.out b175)
          clear Z97
          clear b175
          go_wp2_with fail
          refine (heOne_L2 _ ).mono ?_
          rintro e w184 ⟨a185, c186, rfl, b187, r188⟩
          have H189 := Hid.mk' (H176.out.below b187)
          clear H176
          have H190 := Hid.mk' (H177.out.below b187)
          clear H177
          have H191 := Hid.mk' (H178.out.below b187)
          clear H178
          have H192 := Hid.mk' (H179.out.below b187)
          clear H179
          have H193 := Hid.mk' (H180.out.below b187)
          clear H180
          have H194 := Hid.mk' (H181.out.below b187)
          clear H181
          have H195 := Hid.mk' (H182.out.below b187)
          clear H182
          have Z196 := Hid.mk' (bel_next Z183.out b187)
          clear Z183
          have H197 : Hid (RL w184 a185 c186 [⟨1, ⟨0, 0, 0, 0⟩⟩]) := r188
          clear r188
          clear b187
          go_wp2_with fail
          refine (he_L H195.out H197.out).mono ?_
          rw [sq_same]
          rintro e w198 ⟨rfl, b199⟩
          have H200 := Hid.mk' (H189.out.below b199)
          clear H189
          have H201 := Hid.mk' (H190.out.below b199)
          clear H190
          have H202 := Hid.mk' (H191.out.below b199)
          clear H191
          have H203 := Hid.mk' (H192.out.below b199)
          clear H192
          have H204 := Hid.mk' (H193.out.below b199)
          clear H193
          have H205 := Hid.mk' (H194.out.below b199)
          clear H194
          have H206 := Hid.mk' (H195.out.below b199)
          clear H195
          have H207 := Hid.mk' (H197.out.below b199)
          clear H197
          have Z208 := Hid.mk' (bel_next Z196.out b199)
          clear Z196
          clear b199
          go_wp2
          go_ret
          exact ⟨rfl, Z208.out⟩
end Go.Proofs.Ytbadbmddocifdaa
