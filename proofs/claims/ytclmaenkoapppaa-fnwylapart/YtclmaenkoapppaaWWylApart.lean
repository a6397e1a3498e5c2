/-
  The walk of FnWylApart: whatever the code, it comes out true, and nothing that was there is turned.
-/
import Derived.Test.YtclmaenkoapppaaGax
import Derived.Test.YtclmaenkoapppaaGba
namespace Go.Proofs.Ytclmaenkoapppaa
open Go.RowKit
set_option linter.unusedVariables false
set_option maxRecDepth 100000 in
set_option maxHeartbeats 8000000 in
theorem walk_FnWylApart (w : World) (a0 : Option Addr) (len0 cap0 : Nat) (s0 : Src w a0 len0 cap0) :
    Calls Try.prog 4 #[.slice a0 len0 cap0] w fun e w' => e = .returned (.bool true) ∧ Below w.heap.size w w' := by
  by_cases c0 : (1048576 : Int) < (len0 : Int)
  · go_enter Try.func4, Try.ntmps4
    go_wp2
    go_ret
    exact ⟨rfl, Below.refl _ _⟩
  go_enter Try.func4, Try.ntmps4
  go_wp2_with fail
  refine (drawWylApart w a0 len0 cap0 s0).mono ?_
  rintro e wd ⟨da, dca, A, db, dcb, B, rfl, hA, hB, hlA, hlB, hbd⟩
  have HA0 := Hid.mk' hA
  have HB0 := Hid.mk' hB
  have Z0 := Hid.mk' hbd
  clear hA hB hbd s0
  rcases apV_case A B with h | ⟨P, Q, hP, hQ, oP, oQ, hl, h⟩
  · have _h := h
    go_wp2_with fail
    refine (apI_L HA0.out HB0.out).mono ?_
    rw [h]
    rintro e w1 ⟨a2, c3, rfl, b4, r5⟩
    have H6 := Hid.mk' (HA0.out.below b4)
    clear HA0
    have H7 := Hid.mk' (HB0.out.below b4)
    clear HB0
    have Z8 := Hid.mk' (bel_next Z0.out b4)
    clear Z0
    have H9 : Hid (RL w1 a2 c3 []) := r5
    clear r5
    clear b4
    go_wp2_with fail
    refine (apS_L H6.out H7.out).mono ?_
    rw [h]
    rintro e w10 ⟨a11, c12, rfl, b13, r14⟩
    have H15 := Hid.mk' (H6.out.below b13)
    clear H6
    have H16 := Hid.mk' (H7.out.below b13)
    clear H7
    have H17 := Hid.mk' (H9.out.below b13)
    clear H9
    have Z18 := Hid.mk' (bel_next Z8.out b13)
    clear Z8
    have H19 : Hid (RL w10 a11 c12 []) := r14
    clear r14
    clear b13
    go_wp2_with fail
    refine (he_L H17.out H19.out).mono ?_
    rw [sq_same]
    rintro e w20 ⟨rfl, b21⟩
    have H22 := Hid.mk' (H15.out.below b21)
    clear H15
    have H23 := Hid.mk' (H16.out.below b21)
    clear H16
    have H24 := Hid.mk' (H17.out.below b21)
    clear H17
    have H25 := Hid.mk' (H19.out.below b21)
    clear H19
    have Z26 := Hid.mk' (bel_next Z18.out b21)
    clear Z18
    clear b21
    go_wp2_with fail
    refine (heOk_L _ ).mono ?_
    rintro e w27 ⟨rfl, b28⟩
    have H29 := Hid.mk' (H22.out.below b28)
    clear H22
    have H30 := Hid.mk' (H23.out.below b28)
    clear H23
    have H31 := Hid.mk' (H24.out.below b28)
    clear H24
    have H32 := Hid.mk' (H25.out.below b28)
    clear H25
    have Z33 := Hid.mk' (bel_next Z26.out b28)
    clear Z26
    clear b28
    go_wp2
    go_ret
    exact ⟨rfl, Z33.out⟩
  · have fP := (okL_falls oP).2
    have fQ := (okL_falls oQ).2
    have fX := (subL_facts fP fQ).1
    have fN := scL_falls (c := 100) (by omega) (by omega) fX
    have oX := okL_of hl fX
    have oN : okL (scL 100 (subL P Q)) = true := okL_of (by rw [scL_len]; exact hl) fN
    have e1 : apV B A = (scL 100 (subL P Q), true) := by rw [apV_of hQ hP, subV_ok oQ oP (by rw [sub_swap fP fQ, scL_len]; exact hl), sub_swap fP fQ]
    have e2 : addV Q (subL P Q) = (P, true) := by rw [addV_ok oQ oX (by rw [add_sub fP fQ]; exact (okL_falls oP).1), add_sub fP fQ]
    have e3 : addV (subL P Q) (scL 100 (subL P Q)) = ([], true) := by rw [addV_ok oX oN (by rw [add_neg fX]; simp), add_neg fX]
    have e4 : scV 100 (subL P Q) = scL 100 (subL P Q) := scV_is (by omega) (by omega) oX
    go_wp2_with fail
    refine (apI_L HA0.out HB0.out).mono ?_
    rw [h]
    rintro e w34 ⟨a35, c36, rfl, b37, r38⟩
    have H39 := Hid.mk' (HA0.out.below b37)
    clear HA0
    have H40 := Hid.mk' (HB0.out.below b37)
    clear HB0
    have Z41 := Hid.mk' (bel_next Z0.out b37)
    clear Z0
    have H42 : Hid (RL w34 a35 c36 (subL P Q)) := r38
    clear r38
    clear b37
    go_wp2_with fail
    refine (apS_L H39.out H40.out).mono ?_
    rw [h]
    rintro e w43 ⟨a44, c45, rfl, b46, r47⟩
    have H48 := Hid.mk' (H39.out.below b46)
    clear H39
    have H49 := Hid.mk' (H40.out.below b46)
    clear H40
    have H50 := Hid.mk' (H42.out.below b46)
    clear H42
    have Z51 := Hid.mk' (bel_next Z41.out b46)
    clear Z41
    have H52 : Hid (RL w43 a44 c45 (subL P Q)) := r47
    clear r47
    clear b46
    go_wp2_with fail
    refine (he_L H50.out H52.out).mono ?_
    rw [sq_same]
    rintro e w53 ⟨rfl, b54⟩
    have H55 := Hid.mk' (H48.out.below b54)
    clear H48
    have H56 := Hid.mk' (H49.out.below b54)
    clear H49
    have H57 := Hid.mk' (H50.out.below b54)
    clear H50
    have H58 := Hid.mk' (H52.out.below b54)
    clear H52
    have Z59 := Hid.mk' (bel_next Z51.out b54)
    clear Z51
    clear b54
    go_wp2_with fail
    refine (apI_L H56.out H55.out).mono ?_
    rw [e1]
    rintro e w60 ⟨a61, c62, rfl, b63, r64⟩
    have H65 := Hid.mk' (H55.out.below b63)
    clear H55
    have H66 := Hid.mk' (H56.out.below b63)
    clear H56
    have H67 := Hid.mk' (H57.out.below b63)
    clear H57
    have H68 := Hid.mk' (H58.out.below b63)
    clear H58
    have Z69 := Hid.mk' (bel_next Z59.out b63)
    clear Z59
    have H70 : Hid (RL w60 a61 c62 (scL 100 (subL P Q))) := r64
    clear r64
    clear b63
    go_wp2_with fail
    refine (wmI_L H66.out H65.out).mono ?_
    rw [hQ]
    rintro e w71 ⟨a72, c73, rfl, b74, r75⟩
    have H76 := Hid.mk' (H65.out.below b74)
    clear H65
    have H77 := Hid.mk' (H66.out.below b74)
    clear H66
    have H78 := Hid.mk' (H67.out.below b74)
    clear H67
    have H79 := Hid.mk' (H68.out.below b74)
    clear H68
    have H80 := Hid.mk' (H70.out.below b74)
    clear H70
    have Z81 := Hid.mk' (bel_next Z69.out b74)
    clear Z69
    have H82 : Hid (RL w71 a72 c73 Q) := r75
    clear r75
    clear b74
    go_wp2_with fail
    refine (addI_L H82.out H78.out).mono ?_
    rw [e2]
    rintro e w83 ⟨a84, c85, rfl, b86, r87⟩
    have H88 := Hid.mk' (H76.out.below b86)
    clear H76
    have H89 := Hid.mk' (H77.out.below b86)
    clear H77
    have H90 := Hid.mk' (H78.out.below b86)
    clear H78
    have H91 := Hid.mk' (H79.out.below b86)
    clear H79
    have H92 := Hid.mk' (H80.out.below b86)
    clear H80
    have H93 := Hid.mk' (H82.out.below b86)
    clear H82
    have Z94 := Hid.mk' (bel_next Z81.out b86)
    clear Z81
    have H95 : Hid (RL w83 a84 c85 P) := r87
    clear r87
    clear b86
    go_wp2_with fail
    refine (wmI_L H88.out H89.out).mono ?_
    rw [hP]
    rintro e w96 ⟨a97, c98, rfl, b99, r100⟩
    have H101 := Hid.mk' (H88.out.below b99)
    clear H88
    have H102 := Hid.mk' (H89.out.below b99)
    clear H89
    have H103 := Hid.mk' (H90.out.below b99)
    clear H90
    have H104 := Hid.mk' (H91.out.below b99)
    clear H91
    have H105 := Hid.mk' (H92.out.below b99)
    clear H92
    have H106 := Hid.mk' (H93.out.below b99)
    clear H93
    have H107 := Hid.mk' (H95.out.below b99)
    clear H95
    have Z108 := Hid.mk' (bel_next Z94.out b99)
    clear Z94
    have H109 : Hid (RL w96 a97 c98 P) := r100
    clear r100
    clear b99
    go_wp2_with fail
    refine (addI_L H103.out H105.out).mono ?_
    rw [e3]
    rintro e w110 ⟨a111, c112, rfl, b113, r114⟩
    have H115 := Hid.mk' (H101.out.below b113)
    clear H101
    have H116 := Hid.mk' (H102.out.below b113)
    clear H102
    have H117 := Hid.mk' (H103.out.below b113)
    clear H103
    have H118 := Hid.mk' (H104.out.below b113)
    clear H104
    have H119 := Hid.mk' (H105.out.below b113)
    clear H105
    have H120 := Hid.mk' (H106.out.below b113)
    clear H106
    have H121 := Hid.mk' (H107.out.below b113)
    clear H107
    have H122 := Hid.mk' (H109.out.below b113)
    clear H109
    have Z123 := Hid.mk' (bel_next Z108.out b113)
    clear Z108
    have H124 : Hid (RL w110 a111 c112 []) := r114
    clear r114
    clear b113
    go_wp2_with fail
    refine (scI_L 100 H117.out).mono ?_
    rw [e4]
    rintro e w125 ⟨a126, c127, rfl, b128, r129⟩
    have H130 := Hid.mk' (H115.out.below b128)
    clear H115
    have H131 := Hid.mk' (H116.out.below b128)
    clear H116
    have H132 := Hid.mk' (H117.out.below b128)
    clear H117
    have H133 := Hid.mk' (H118.out.below b128)
    clear H118
    have H134 := Hid.mk' (H119.out.below b128)
    clear H119
    have H135 := Hid.mk' (H120.out.below b128)
    clear H120
    have H136 := Hid.mk' (H121.out.below b128)
    clear H121
    have H137 := Hid.mk' (H122.out.below b128)
    clear H122
    have H138 := Hid.mk' (H124.out.below b128)
    clear H124
    have Z139 := Hid.mk' (bel_next Z123.out b128)
    clear Z123
    have H140 : Hid (RL w125 a126 c127 (scL 100 (subL P Q))) := r129
    clear r129
    clear b128
    go_wp2_with fail
    refine (he_L H134.out H140.out).mono ?_
    rw [sq_same]
    rintro e w141 ⟨rfl, b142⟩
    have H143 := Hid.mk' (H130.out.below b142)
    clear H130
    have H144 := Hid.mk' (H131.out.below b142)
    clear H131
    have H145 := Hid.mk' (H132.out.below b142)
    clear H132
    have H146 := Hid.mk' (H133.out.below b142)
    clear H133
    have H147 := Hid.mk' (H134.out.below b142)
    clear H134
    have H148 := Hid.mk' (H135.out.below b142)
    clear H135
    have H149 := Hid.mk' (H136.out.below b142)
    clear H136
    have H150 := Hid.mk' (H137.out.below b142)
    clear H137
    have H151 := Hid.mk' (H138.out.below b142)
    clear H138
    have H152 := Hid.mk' (H140.out.below b142)
    clear H140
    have Z153 := Hid.mk' (bel_next Z139.out b142)
    clear Z139
    clear b142
    go_wp2_with fail
    refine (he_L H149.out H150.out).mono ?_
    rw [sq_same]
    rintro e w154 ⟨rfl, b155⟩
    have H156 := Hid.mk' (H143.out.below b155)
    clear H143
    have H157 := Hid.mk' (H144.out.below b155)
    clear H144
    have H158 := Hid.mk' (H145.out.below b155)
    clear H145
    have H159 := Hid.mk' (H146.out.below b155)
    clear H146
    have H160 := Hid.mk' (H147.out.below b155)
    clear H147
    have H161 := Hid.mk' (H148.out.below b155)
    clear H148
    have H162 := Hid.mk' (H149.out.below b155)
    clear H149
    have H163 := Hid.mk' (H150.out.below b155)
    clear H150
    have H164 := Hid.mk' (H151.out.below b155)
    clear H151
    have H165 := Hid.mk' (H152.out.below b155)
    clear H152
    have Z166 := Hid.mk' (bel_next Z153.out b155)
    clear Z153
    clear b155
    go_wp2_with fail
    refine (heOk_L _ ).mono ?_
    rintro e w167 ⟨rfl, b168⟩
    have H169 := Hid.mk' (H156.out.below b168)
    clear H156
    have H170 := Hid.mk' (H157.out.below b168)
    clear H157
    have H171 := Hid.mk' (H158.out.below b168)
    clear H158
    have H172 := Hid.mk' (H159.out.below b168)
    clear H159
    have H173 := Hid.mk' (H160.out.below b168)
    clear H160
    have H174 := Hid.mk' (H161.out.below b168)
    clear H161
    have H175 := Hid.mk' (H162.out.below b168)
    clear H162
    have H176 := Hid.mk' (H163.out.below b168)
    clear H163
    have H177 := Hid.mk' (H164.out.below b168)
    clear H164
    have H178 := Hid.mk' (H165.out.below b168)
    clear H165
    have Z179 := Hid.mk' (bel_next Z166.out b168)
    clear Z166
    clear b168
    go_wp2
    go_ret
    exact ⟨rfl, Z179.out⟩
end Go.Proofs.Ytclmaenkoapppaa
