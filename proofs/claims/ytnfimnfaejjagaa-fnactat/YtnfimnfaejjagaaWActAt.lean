/-
  The walk of FnActAt: whatever the code, it comes out true, and nothing that was there is turned.
-/
import Derived.Test.YtnfimnfaejjagaaAtL
import Derived.Test.YtnfimnfaejjagaaGbc
namespace Go.Proofs.Ytnfimnfaejjagaa
open Go.RowKit
set_option linter.unusedVariables false
set_option maxRecDepth 100000 in
set_option maxHeartbeats 8000000 in
theorem walk_FnActAt (w : World) (a0 : Option Addr) (len0 cap0 : Nat) (s0 : Src w a0 len0 cap0) (a1 : Option Addr) (len1 cap1 : Nat) (s1 : Src w a1 len1 cap1) :
    Calls Try.prog 7 #[.slice a0 len0 cap0, .slice a1 len1 cap1] w fun e w' => e = .returned (.bool true) ∧ Below w.heap.size w w' := by
  by_cases c0 : (1048576 : Int) < (len0 : Int)
  · go_enter Try.func7, Try.ntmps7
    go_wp2
    go_ret
    exact ⟨rfl, Below.refl _ _⟩
  by_cases c1 : (1048576 : Int) < (len1 : Int)
  · go_enter Try.func7, Try.ntmps7
    go_wp2
    go_ret
    exact ⟨rfl, Below.refl _ _⟩
  go_enter Try.func7, Try.ntmps7
  go_wp2_with fail
  refine (drawActAt w a0 len0 cap0 s0).mono ?_
  rintro e wd ⟨da, dca, A, x, y, rfl, hA, hlA, hbd⟩
  have HA0 := Hid.mk' hA
  have Z0 := Hid.mk' hbd
  have S1 := Hid.mk' (s1.below hbd)
  clear hA hbd s0 s1
  go_wp2_with fail
  refine (drawActAt wd a1 len1 cap1 S1.out).mono ?_
  rintro e we ⟨db, dcb, B, z1, z2, rfl, hB, hlB, hbe⟩
  have HB0 := Hid.mk' hB
  clear hB S1
  have H1 := Hid.mk' (HA0.out.below hbe)
  clear HA0
  have Z2 := Hid.mk' (bel_next Z0.out hbe)
  clear Z0
  clear hbe
  have hnn : (atV A x y != atV A x y) = false := by simp
  have hbd := at_bd A x y
  go_wp2_with fail
  refine (atI_L x y H1.out).mono ?_
  rintro e w3 ⟨rfl, b4⟩
  have H5 := Hid.mk' (H1.out.below b4)
  clear H1
  have H6 := Hid.mk' (HB0.out.below b4)
  clear HB0
  have Z7 := Hid.mk' (bel_next Z2.out b4)
  clear Z2
  clear b4
  go_wp2_with fail
  refine (atS_L x y H5.out).mono ?_
  rintro e w8 ⟨rfl, b9⟩
  have H10 := Hid.mk' (H5.out.below b9)
  clear H5
  have H11 := Hid.mk' (H6.out.below b9)
  clear H6
  have Z12 := Hid.mk' (bel_next Z7.out b9)
  clear Z7
  clear b9
  cases fA : freeL A
  · go_wp2_with fail
    refine (freeS_L H10.out).mono ?_
    rw [fA]
    rintro e w13 ⟨rfl, b14⟩
    have H15 := Hid.mk' (H10.out.below b14)
    clear H10
    have H16 := Hid.mk' (H11.out.below b14)
    clear H11
    have Z17 := Hid.mk' (bel_next Z12.out b14)
    clear Z12
    clear b14
    go_wp2_with fail
    refine (okI_in _ _ hbd.1 hbd.2).mono ?_
    rintro e w' ⟨rfl, hw'⟩
    obtain rfl := hw'.symm
    clear hw'
    go_wp2_with fail
    refine (heOk_L _ ).mono ?_
    rintro e w18 ⟨rfl, b19⟩
    have H20 := Hid.mk' (H15.out.below b19)
    clear H15
    have H21 := Hid.mk' (H16.out.below b19)
    clear H16
    have Z22 := Hid.mk' (bel_next Z17.out b19)
    clear Z17
    clear b19
    go_wp2
    go_ret
    exact ⟨rfl, Z22.out⟩
  · cases fB : freeL B
    · go_wp2_with fail
      refine (freeS_L H10.out).mono ?_
      rw [fA]
      rintro e w23 ⟨rfl, b24⟩
      have H25 := Hid.mk' (H10.out.below b24)
      clear H10
      have H26 := Hid.mk' (H11.out.below b24)
      clear H11
      have Z27 := Hid.mk' (bel_next Z12.out b24)
      clear Z12
      clear b24
      go_wp2_with fail
      refine (freeS_L H26.out).mono ?_
      rw [fB]
      rintro e w28 ⟨rfl, b29⟩
      have H30 := Hid.mk' (H25.out.below b29)
      clear H25
      have H31 := Hid.mk' (H26.out.below b29)
      clear H26
      have Z32 := Hid.mk' (bel_next Z27.out b29)
      clear Z27
      clear b29
      go_wp2_with fail
      refine (okI_in _ _ hbd.1 hbd.2).mono ?_
      rintro e w' ⟨rfl, hw'⟩
      obtain rfl := hw'.symm
      clear hw'
      go_wp2_with fail
      refine (heOk_L _ ).mono ?_
      rintro e w33 ⟨rfl, b34⟩
      have H35 := Hid.mk' (H30.out.below b34)
      clear H30
      have H36 := Hid.mk' (H31.out.below b34)
      clear H31
      have Z37 := Hid.mk' (bel_next Z32.out b34)
      clear Z32
      clear b34
      go_wp2
      go_ret
      exact ⟨rfl, Z37.out⟩
    · cases hx : okB x
      · go_wp2_with fail
        refine (freeS_L H10.out).mono ?_
        rw [fA]
        rintro e w38 ⟨rfl, b39⟩
        have H40 := Hid.mk' (H10.out.below b39)
        clear H10
        have H41 := Hid.mk' (H11.out.below b39)
        clear H11
        have Z42 := Hid.mk' (bel_next Z12.out b39)
        clear Z12
        clear b39
        go_wp2_with fail
        refine (freeS_L H41.out).mono ?_
        rw [fB]
        rintro e w43 ⟨rfl, b44⟩
        have H45 := Hid.mk' (H40.out.below b44)
        clear H40
        have H46 := Hid.mk' (H41.out.below b44)
        clear H41
        have Z47 := Hid.mk' (bel_next Z42.out b44)
        clear Z42
        clear b44
        go_wp2_with fail
        refine (okS x _).mono ?_
        rw [hx]
        rintro e w' ⟨rfl, hw'⟩
        obtain rfl := hw'.symm
        clear hw'
        go_wp2_with fail
        refine (okI_in _ _ hbd.1 hbd.2).mono ?_
        rintro e w' ⟨rfl, hw'⟩
        obtain rfl := hw'.symm
        clear hw'
        go_wp2_with fail
        refine (heOk_L _ ).mono ?_
        rintro e w48 ⟨rfl, b49⟩
        have H50 := Hid.mk' (H45.out.below b49)
        clear H45
        have H51 := Hid.mk' (H46.out.below b49)
        clear H46
        have Z52 := Hid.mk' (bel_next Z47.out b49)
        clear Z47
        clear b49
        go_wp2
        go_ret
        exact ⟨rfl, Z52.out⟩
      · cases hy : okB y
        · go_wp2_with fail
          refine (freeS_L H10.out).mono ?_
          rw [fA]
          rintro e w53 ⟨rfl, b54⟩
          have H55 := Hid.mk' (H10.out.below b54)
          clear H10
          have H56 := Hid.mk' (H11.out.below b54)
          clear H11
          have Z57 := Hid.mk' (bel_next Z12.out b54)
          clear Z12
          clear b54
          go_wp2_with fail
          refine (freeS_L H56.out).mono ?_
          rw [fB]
          rintro e w58 ⟨rfl, b59⟩
          have H60 := Hid.mk' (H55.out.below b59)
          clear H55
          have H61 := Hid.mk' (H56.out.below b59)
          clear H56
          have Z62 := Hid.mk' (bel_next Z57.out b59)
          clear Z57
          clear b59
          go_wp2_with fail
          refine (okS x _).mono ?_
          rw [hx]
          rintro e w' ⟨rfl, hw'⟩
          obtain rfl := hw'.symm
          clear hw'
          go_wp2_with fail
          refine (okS y _).mono ?_
          rw [hy]
          rintro e w' ⟨rfl, hw'⟩
          obtain rfl := hw'.symm
          clear hw'
          go_wp2_with fail
          refine (okI_in _ _ hbd.1 hbd.2).mono ?_
          rintro e w' ⟨rfl, hw'⟩
          obtain rfl := hw'.symm
          clear hw'
          go_wp2_with fail
          refine (heOk_L _ ).mono ?_
          rintro e w63 ⟨rfl, b64⟩
          have H65 := Hid.mk' (H60.out.below b64)
          clear H60
          have H66 := Hid.mk' (H61.out.below b64)
          clear H61
          have Z67 := Hid.mk' (bel_next Z62.out b64)
          clear Z62
          clear b64
          go_wp2
          go_ret
          exact ⟨rfl, Z67.out⟩
        · have f1 := at_add fA fB hx hy (show A.length + B.length ≤ 400 by omega)
          have f2 := at_x3 hx hy
          have hof : polOf 3 ⟨1, 0, 0, 0⟩ = x3 := rfl
          have P1 := Hid.mk' f1
          have P2 := Hid.mk' f2
          have P3 := Hid.mk' hof
          clear f1 f2 hof
          go_wp2_with fail
          refine (freeS_L H10.out).mono ?_
          rw [fA]
          rintro e w68 ⟨rfl, b69⟩
          have H70 := Hid.mk' (H10.out.below b69)
          clear H10
          have H71 := Hid.mk' (H11.out.below b69)
          clear H11
          have Z72 := Hid.mk' (bel_next Z12.out b69)
          clear Z12
          clear b69
          go_wp2_with fail
          refine (freeS_L H71.out).mono ?_
          rw [fB]
          rintro e w73 ⟨rfl, b74⟩
          have H75 := Hid.mk' (H70.out.below b74)
          clear H70
          have H76 := Hid.mk' (H71.out.below b74)
          clear H71
          have Z77 := Hid.mk' (bel_next Z72.out b74)
          clear Z72
          clear b74
          go_wp2_with fail
          refine (okS x _).mono ?_
          rw [hx]
          rintro e w' ⟨rfl, hw'⟩
          obtain rfl := hw'.symm
          clear hw'
          go_wp2_with fail
          refine (okS y _).mono ?_
          rw [hy]
          rintro e w' ⟨rfl, hw'⟩
          obtain rfl := hw'.symm
          clear hw'
          go_wp2_with fail
          refine (atI_L x y H76.out).mono ?_
          rintro e w78 ⟨rfl, b79⟩
          have H80 := Hid.mk' (H75.out.below b79)
          clear H75
          have H81 := Hid.mk' (H76.out.below b79)
          clear H76
          have Z82 := Hid.mk' (bel_next Z77.out b79)
          clear Z77
          clear b79
          go_wp2_with fail
          refine (addI_L H80.out H81.out).mono ?_
          rw [P1.out.1]
          rintro e w83 ⟨a84, c85, rfl, b86, r87⟩
          have H88 := Hid.mk' (H80.out.below b86)
          clear H80
          have H89 := Hid.mk' (H81.out.below b86)
          clear H81
          have Z90 := Hid.mk' (bel_next Z82.out b86)
          clear Z82
          have H91 : Hid (RL w83 a84 c85 (addL A B)) := r87
          clear r87
          clear b86
          rcases wmV_if A B with h1 | ⟨P, h1⟩
          · go_wp2_with fail
            refine (wmI_L H88.out H89.out).mono ?_
            rw [h1]
            rintro e w92 ⟨a93, c94, rfl, b95, r96⟩
            have H97 := Hid.mk' (H88.out.below b95)
            clear H88
            have H98 := Hid.mk' (H89.out.below b95)
            clear H89
            have H99 := Hid.mk' (H91.out.below b95)
            clear H91
            have Z100 := Hid.mk' (bel_next Z90.out b95)
            clear Z90
            have H101 : Hid (RL w92 a93 c94 []) := r96
            clear r96
            clear b95
            have hee : (fAdd (atV A x y) (atV B x y) == fAdd (atV A x y) (atV B x y)) = true := by simp
            have hef : (fMul 3 x == fMul 3 x) = true := by simp
            go_wp2_with fail
            refine (atI_L x y H99.out).mono ?_
            rw [P1.out.2]
            rintro e w102 ⟨rfl, b103⟩
            have H104 := Hid.mk' (H97.out.below b103)
            clear H97
            have H105 := Hid.mk' (H98.out.below b103)
            clear H98
            have H106 := Hid.mk' (H99.out.below b103)
            clear H99
            have H107 := Hid.mk' (H101.out.below b103)
            clear H101
            have Z108 := Hid.mk' (bel_next Z100.out b103)
            clear Z100
            clear b103
            go_wp2_with fail
            refine (addI _ _ _).mono ?_
            rintro e w' ⟨rfl, hw'⟩
            obtain rfl := hw'.symm
            clear hw'
            go_wp2_with fail
            refine (ofI_L 3 1 0 0 0 _ ).mono ?_
            rw [P3.out]
            rintro e w109 ⟨a110, c111, rfl, b112, r113⟩
            have H114 := Hid.mk' (H104.out.below b112)
            clear H104
            have H115 := Hid.mk' (H105.out.below b112)
            clear H105
            have H116 := Hid.mk' (H106.out.below b112)
            clear H106
            have H117 := Hid.mk' (H107.out.below b112)
            clear H107
            have Z118 := Hid.mk' (bel_next Z108.out b112)
            clear Z108
            have H119 : Hid (RL w109 a110 c111 x3) := r113
            clear r113
            clear b112
            go_wp2_with fail
            refine (atI_L x y H119.out).mono ?_
            rw [P2.out]
            rintro e w120 ⟨rfl, b121⟩
            have H122 := Hid.mk' (H114.out.below b121)
            clear H114
            have H123 := Hid.mk' (H115.out.below b121)
            clear H115
            have H124 := Hid.mk' (H116.out.below b121)
            clear H116
            have H125 := Hid.mk' (H117.out.below b121)
            clear H117
            have H126 := Hid.mk' (H119.out.below b121)
            clear H119
            have Z127 := Hid.mk' (bel_next Z118.out b121)
            clear Z118
            clear b121
            go_wp2_with fail
            refine (mulI 3 x _).mono ?_
            rintro e w' ⟨rfl, hw'⟩
            obtain rfl := hw'.symm
            clear hw'
            go_wp2_with fail
            refine (heOk_L _ ).mono ?_
            rintro e w128 ⟨rfl, b129⟩
            have H130 := Hid.mk' (H122.out.below b129)
            clear H122
            have H131 := Hid.mk' (H123.out.below b129)
            clear H123
            have H132 := Hid.mk' (H124.out.below b129)
            clear H124
            have H133 := Hid.mk' (H125.out.below b129)
            clear H125
            have H134 := Hid.mk' (H126.out.below b129)
            clear H126
            have Z135 := Hid.mk' (bel_next Z127.out b129)
            clear Z127
            clear b129
            go_wp2
            go_ret
            exact ⟨rfl, Z135.out⟩
          · go_wp2_with fail
            refine (wmI_L H88.out H89.out).mono ?_
            rw [h1]
            rintro e w136 ⟨a137, c138, rfl, b139, r140⟩
            have H141 := Hid.mk' (H88.out.below b139)
            clear H88
            have H142 := Hid.mk' (H89.out.below b139)
            clear H89
            have H143 := Hid.mk' (H91.out.below b139)
            clear H91
            have Z144 := Hid.mk' (bel_next Z90.out b139)
            clear Z90
            have H145 : Hid (RL w136 a137 c138 P) := r140
            clear r140
            clear b139
            have P4 := Hid.mk' (at_mul fA fB hx hy h1)
            have hee : (fAdd (atV A x y) (atV B x y) == fAdd (atV A x y) (atV B x y)) = true := by simp
            have heg : (fMul (atV A x y) (atV B x y) == fMul (atV A x y) (atV B x y)) = true := by simp
            have hef : (fMul 3 x == fMul 3 x) = true := by simp
            go_wp2_with fail
            refine (atI_L x y H143.out).mono ?_
            rw [P1.out.2]
            rintro e w146 ⟨rfl, b147⟩
            have H148 := Hid.mk' (H141.out.below b147)
            clear H141
            have H149 := Hid.mk' (H142.out.below b147)
            clear H142
            have H150 := Hid.mk' (H143.out.below b147)
            clear H143
            have H151 := Hid.mk' (H145.out.below b147)
            clear H145
            have Z152 := Hid.mk' (bel_next Z144.out b147)
            clear Z144
            clear b147
            go_wp2_with fail
            refine (addI _ _ _).mono ?_
            rintro e w' ⟨rfl, hw'⟩
            obtain rfl := hw'.symm
            clear hw'
            go_wp2_with fail
            refine (atI_L x y H151.out).mono ?_
            rw [P4.out]
            rintro e w153 ⟨rfl, b154⟩
            have H155 := Hid.mk' (H148.out.below b154)
            clear H148
            have H156 := Hid.mk' (H149.out.below b154)
            clear H149
            have H157 := Hid.mk' (H150.out.below b154)
            clear H150
            have H158 := Hid.mk' (H151.out.below b154)
            clear H151
            have Z159 := Hid.mk' (bel_next Z152.out b154)
            clear Z152
            clear b154
            go_wp2_with fail
            refine (mulI _ _ _).mono ?_
            rintro e w' ⟨rfl, hw'⟩
            obtain rfl := hw'.symm
            clear hw'
            go_wp2_with fail
            refine (ofI_L 3 1 0 0 0 _ ).mono ?_
            rw [P3.out]
            rintro e w160 ⟨a161, c162, rfl, b163, r164⟩
            have H165 := Hid.mk' (H155.out.below b163)
            clear H155
            have H166 := Hid.mk' (H156.out.below b163)
            clear H156
            have H167 := Hid.mk' (H157.out.below b163)
            clear H157
            have H168 := Hid.mk' (H158.out.below b163)
            clear H158
            have Z169 := Hid.mk' (bel_next Z159.out b163)
            clear Z159
            have H170 : Hid (RL w160 a161 c162 x3) := r164
            clear r164
            clear b163
            go_wp2_with fail
            refine (atI_L x y H170.out).mono ?_
            rw [P2.out]
            rintro e w171 ⟨rfl, b172⟩
            have H173 := Hid.mk' (H165.out.below b172)
            clear H165
            have H174 := Hid.mk' (H166.out.below b172)
            clear H166
            have H175 := Hid.mk' (H167.out.below b172)
            clear H167
            have H176 := Hid.mk' (H168.out.below b172)
            clear H168
            have H177 := Hid.mk' (H170.out.below b172)
            clear H170
            have Z178 := Hid.mk' (bel_next Z169.out b172)
            clear Z169
            clear b172
            go_wp2_with fail
            refine (mulI 3 x _).mono ?_
            rintro e w' ⟨rfl, hw'⟩
            obtain rfl := hw'.symm
            clear hw'
            go_wp2_with fail
            refine (heOk_L _ ).mono ?_
            rintro e w179 ⟨rfl, b180⟩
            have H181 := Hid.mk' (H173.out.below b180)
            clear H173
            have H182 := Hid.mk' (H174.out.below b180)
            clear H174
            have H183 := Hid.mk' (H175.out.below b180)
            clear H175
            have H184 := Hid.mk' (H176.out.below b180)
            clear H176
            have H185 := Hid.mk' (H177.out.below b180)
            clear H177
            have Z186 := Hid.mk' (bel_next Z178.out b180)
            clear Z178
            clear b180
            go_wp2
            go_ret
            exact ⟨rfl, Z186.out⟩
end Go.Proofs.Ytnfimnfaejjagaa
