/-
  The walk of FnDoEuler: whatever the code, it comes out true, and nothing that was there is turned.
-/
import Derived.Test.YtnfimnfaejjagaaEulL
import Derived.Test.YtnfimnfaejjagaaGbc
namespace Go.Proofs.Ytnfimnfaejjagaa
open Go.RowKit
set_option linter.unusedVariables false
set_option maxRecDepth 100000 in
set_option maxHeartbeats 8000000 in
theorem walk_FnDoEuler (w : World) (a0 : Option Addr) (len0 cap0 : Nat) (s0 : Src w a0 len0 cap0) :
    Calls Try.prog 8 #[.slice a0 len0 cap0] w fun e w' => e = .returned (.bool true) ∧ Below w.heap.size w w' := by
  by_cases c0 : (1048576 : Int) < (len0 : Int)
  · go_enter Try.func8, Try.ntmps8
    go_wp2
    go_ret
    exact ⟨rfl, Below.refl _ _⟩
  go_enter Try.func8, Try.ntmps8
  go_wp2_with fail
  refine (drawWylDo w a0 len0 cap0 s0).mono ?_
  rintro e wd ⟨da, dca, A, db, dcb, B, rfl, hA, hB, hlA, hlB, hbd⟩
  have HA0 := Hid.mk' hA
  have HB0 := Hid.mk' hB
  have Z0 := Hid.mk' hbd
  clear hA hB hbd s0
  have P0 := Hid.mk' eul_add
  go_wp2_with fail
  refine (ofI_L 1 1 0 1 0 _ ).mono ?_
  rw [show polOf 1 ⟨1, 0, 1, 0⟩ = [⟨1, ⟨1, 0, 1, 0⟩⟩] from rfl]
  rintro e w1 ⟨a2, c3, rfl, b4, r5⟩
  have H6 := Hid.mk' (HA0.out.below b4)
  clear HA0
  have H7 := Hid.mk' (HB0.out.below b4)
  clear HB0
  have Z8 := Hid.mk' (bel_next Z0.out b4)
  clear Z0
  have H9 : Hid (RL w1 a2 c3 [⟨1, ⟨1, 0, 1, 0⟩⟩]) := r5
  clear r5
  clear b4
  go_wp2_with fail
  refine (ofI_L 1 0 1 0 1 _ ).mono ?_
  rw [show polOf 1 ⟨0, 1, 0, 1⟩ = [⟨1, ⟨0, 1, 0, 1⟩⟩] from rfl]
  rintro e w10 ⟨a11, c12, rfl, b13, r14⟩
  have H15 := Hid.mk' (H6.out.below b13)
  clear H6
  have H16 := Hid.mk' (H7.out.below b13)
  clear H7
  have H17 := Hid.mk' (H9.out.below b13)
  clear H9
  have Z18 := Hid.mk' (bel_next Z8.out b13)
  clear Z8
  have H19 : Hid (RL w10 a11 c12 [⟨1, ⟨0, 1, 0, 1⟩⟩]) := r14
  clear r14
  clear b13
  go_wp2_with fail
  refine (addI_L H17.out H19.out).mono ?_
  rw [P0.out]
  rintro e w20 ⟨a21, c22, rfl, b23, r24⟩
  have H25 := Hid.mk' (H15.out.below b23)
  clear H15
  have H26 := Hid.mk' (H16.out.below b23)
  clear H16
  have H27 := Hid.mk' (H17.out.below b23)
  clear H17
  have H28 := Hid.mk' (H19.out.below b23)
  clear H19
  have Z29 := Hid.mk' (bel_next Z18.out b23)
  clear Z18
  have H30 : Hid (RL w20 a21 c22 eul) := r24
  clear r24
  clear b23
  cases fB : freeL B
  · have h1 := eul_no fB
    go_wp2_with fail
    refine (wdI_L H30.out H26.out).mono ?_
    rw [h1]
    rintro e w31 ⟨a32, c33, rfl, b34, r35⟩
    have H36 := Hid.mk' (H25.out.below b34)
    clear H25
    have H37 := Hid.mk' (H26.out.below b34)
    clear H26
    have H38 := Hid.mk' (H27.out.below b34)
    clear H27
    have H39 := Hid.mk' (H28.out.below b34)
    clear H28
    have H40 := Hid.mk' (H30.out.below b34)
    clear H30
    have Z41 := Hid.mk' (bel_next Z29.out b34)
    clear Z29
    have H42 : Hid (RL w31 a32 c33 []) := r35
    clear r35
    clear b34
    go_wp2_with fail
    refine (wdS_L H40.out H37.out).mono ?_
    rw [h1]
    rintro e w43 ⟨a44, c45, rfl, b46, r47⟩
    have H48 := Hid.mk' (H36.out.below b46)
    clear H36
    have H49 := Hid.mk' (H37.out.below b46)
    clear H37
    have H50 := Hid.mk' (H38.out.below b46)
    clear H38
    have H51 := Hid.mk' (H39.out.below b46)
    clear H39
    have H52 := Hid.mk' (H40.out.below b46)
    clear H40
    have H53 := Hid.mk' (H42.out.below b46)
    clear H42
    have Z54 := Hid.mk' (bel_next Z41.out b46)
    clear Z41
    have H55 : Hid (RL w43 a44 c45 []) := r47
    clear r47
    clear b46
    go_wp2_with fail
    refine (he_L H53.out H55.out).mono ?_
    rw [sq_same]
    rintro e w56 ⟨rfl, b57⟩
    have H58 := Hid.mk' (H48.out.below b57)
    clear H48
    have H59 := Hid.mk' (H49.out.below b57)
    clear H49
    have H60 := Hid.mk' (H50.out.below b57)
    clear H50
    have H61 := Hid.mk' (H51.out.below b57)
    clear H51
    have H62 := Hid.mk' (H52.out.below b57)
    clear H52
    have H63 := Hid.mk' (H53.out.below b57)
    clear H53
    have H64 := Hid.mk' (H55.out.below b57)
    clear H55
    have Z65 := Hid.mk' (bel_next Z54.out b57)
    clear Z54
    clear b57
    go_wp2_with fail
    refine (freeS_L H59.out).mono ?_
    rw [fB]
    rintro e w66 ⟨rfl, b67⟩
    have H68 := Hid.mk' (H58.out.below b67)
    clear H58
    have H69 := Hid.mk' (H59.out.below b67)
    clear H59
    have H70 := Hid.mk' (H60.out.below b67)
    clear H60
    have H71 := Hid.mk' (H61.out.below b67)
    clear H61
    have H72 := Hid.mk' (H62.out.below b67)
    clear H62
    have H73 := Hid.mk' (H63.out.below b67)
    clear H63
    have H74 := Hid.mk' (H64.out.below b67)
    clear H64
    have Z75 := Hid.mk' (bel_next Z65.out b67)
    clear Z65
    clear b67
    go_wp2_with fail
    refine (heOk_L _ ).mono ?_
    rintro e w76 ⟨rfl, b77⟩
    have H78 := Hid.mk' (H68.out.below b77)
    clear H68
    have H79 := Hid.mk' (H69.out.below b77)
    clear H69
    have H80 := Hid.mk' (H70.out.below b77)
    clear H70
    have H81 := Hid.mk' (H71.out.below b77)
    clear H71
    have H82 := Hid.mk' (H72.out.below b77)
    clear H72
    have H83 := Hid.mk' (H73.out.below b77)
    clear H73
    have H84 := Hid.mk' (H74.out.below b77)
    clear H74
    have Z85 := Hid.mk' (bel_next Z75.out b77)
    clear Z75
    clear b77
    go_wp2
    go_ret
    exact ⟨rfl, Z85.out⟩
  · obtain ⟨X, h1⟩ := eul_yes fB
    have fX := wd_free h1
    go_wp2_with fail
    refine (wdI_L H30.out H26.out).mono ?_
    rw [h1]
    rintro e w86 ⟨a87, c88, rfl, b89, r90⟩
    have H91 := Hid.mk' (H25.out.below b89)
    clear H25
    have H92 := Hid.mk' (H26.out.below b89)
    clear H26
    have H93 := Hid.mk' (H27.out.below b89)
    clear H27
    have H94 := Hid.mk' (H28.out.below b89)
    clear H28
    have H95 := Hid.mk' (H30.out.below b89)
    clear H30
    have Z96 := Hid.mk' (bel_next Z29.out b89)
    clear Z29
    have H97 : Hid (RL w86 a87 c88 X) := r90
    clear r90
    clear b89
    go_wp2_with fail
    refine (wdS_L H95.out H92.out).mono ?_
    rw [h1]
    rintro e w98 ⟨a99, c100, rfl, b101, r102⟩
    have H103 := Hid.mk' (H91.out.below b101)
    clear H91
    have H104 := Hid.mk' (H92.out.below b101)
    clear H92
    have H105 := Hid.mk' (H93.out.below b101)
    clear H93
    have H106 := Hid.mk' (H94.out.below b101)
    clear H94
    have H107 := Hid.mk' (H95.out.below b101)
    clear H95
    have H108 := Hid.mk' (H97.out.below b101)
    clear H97
    have Z109 := Hid.mk' (bel_next Z96.out b101)
    clear Z96
    have H110 : Hid (RL w98 a99 c100 X) := r102
    clear r102
    clear b101
    go_wp2_with fail
    refine (he_L H108.out H110.out).mono ?_
    rw [sq_same]
    rintro e w111 ⟨rfl, b112⟩
    have H113 := Hid.mk' (H103.out.below b112)
    clear H103
    have H114 := Hid.mk' (H104.out.below b112)
    clear H104
    have H115 := Hid.mk' (H105.out.below b112)
    clear H105
    have H116 := Hid.mk' (H106.out.below b112)
    clear H106
    have H117 := Hid.mk' (H107.out.below b112)
    clear H107
    have H118 := Hid.mk' (H108.out.below b112)
    clear H108
    have H119 := Hid.mk' (H110.out.below b112)
    clear H110
    have Z120 := Hid.mk' (bel_next Z109.out b112)
    clear Z109
    clear b112
    go_wp2
    go_loopw [11] (fun v wr => ∃ n : Nat, n ≤ 12 ∧ v = .int .i64 (n : Int) ∧ Below w.heap.size w wr ∧ RL wr db dcb B ∧ RL wr a87 c88 X ∧ RL wr a21 c22 eul) (fun v _ => 12 - (intOf v).toNat)
    case atStart => exact ⟨0, by omega, rfl, Z120.out, H114.out, H118.out, H117.out⟩
    case round =>
      obtain ⟨n, hn, rfl, hBw, kB, kX, kE⟩ := hrel
      have KB := Hid.mk' kB
      have KX := Hid.mk' kX
      have KE := Hid.mk' kE
      have KW := Hid.mk' hBw
      clear kB kX kE hBw
      by_cases hlt : n < 12
      · have hil : (n : Int) < 12 := by omega
        have P1 := Hid.mk' (eul_part fB (n := (n : Int)) (by omega) (by omega))
        go_wp2_with fail
        refine (partI_L (n : Int) KB.out).mono ?_
        rintro e w121 ⟨a122, c123, rfl, b124, r125⟩
        have H126 := Hid.mk' (KB.out.below b124)
        clear KB
        have H127 := Hid.mk' (KX.out.below b124)
        clear KX
        have H128 := Hid.mk' (KE.out.below b124)
        clear KE
        have Z129 := Hid.mk' (bel_next KW.out b124)
        clear KW
        have H130 : Hid (RL w121 a122 c123 (partV (n : Int) B)) := r125
        clear r125
        clear b124
        go_wp2_with fail
        refine (wdI_L H128.out H130.out).mono ?_
        rw [P1.out]
        rintro e w131 ⟨a132, c133, rfl, b134, r135⟩
        have H136 := Hid.mk' (H126.out.below b134)
        clear H126
        have H137 := Hid.mk' (H127.out.below b134)
        clear H127
        have H138 := Hid.mk' (H128.out.below b134)
        clear H128
        have H139 := Hid.mk' (H130.out.below b134)
        clear H130
        have Z140 := Hid.mk' (bel_next Z129.out b134)
        clear Z129
        have H141 : Hid (RL w131 a132 c133 (scV (n : Int) (partV (n : Int) B))) := r135
        clear r135
        clear b134
        go_wp2_with fail
        refine (scI_L (n : Int) H139.out).mono ?_
        rintro e w142 ⟨a143, c144, rfl, b145, r146⟩
        have H147 := Hid.mk' (H136.out.below b145)
        clear H136
        have H148 := Hid.mk' (H137.out.below b145)
        clear H137
        have H149 := Hid.mk' (H138.out.below b145)
        clear H138
        have H150 := Hid.mk' (H139.out.below b145)
        clear H139
        have H151 := Hid.mk' (H141.out.below b145)
        clear H141
        have Z152 := Hid.mk' (bel_next Z140.out b145)
        clear Z140
        have H153 : Hid (RL w142 a143 c144 (scV (n : Int) (partV (n : Int) B))) := r146
        clear r146
        clear b145
        go_wp2_with fail
        refine (he_L H151.out H153.out).mono ?_
        rw [sq_same]
        rintro e w154 ⟨rfl, b155⟩
        have H156 := Hid.mk' (H147.out.below b155)
        clear H147
        have H157 := Hid.mk' (H148.out.below b155)
        clear H148
        have H158 := Hid.mk' (H149.out.below b155)
        clear H149
        have H159 := Hid.mk' (H150.out.below b155)
        clear H150
        have H160 := Hid.mk' (H151.out.below b155)
        clear H151
        have H161 := Hid.mk' (H153.out.below b155)
        clear H153
        have Z162 := Hid.mk' (bel_next Z152.out b155)
        clear Z152
        clear b155
        go_wp2
        go_roundw
        case rel => exact ⟨n + 1, by omega, by go_num, Z162.out, H156.out, H157.out, H158.out⟩
        case measure => simp [intOf]; omega
      · have hni : ¬ (n : Int) < 12 := by omega
        go_wp2_with fail
        refine (freeI_L KX.out).mono ?_
        rw [fX]
        rintro e w213 ⟨rfl, b214⟩
        have H215 := Hid.mk' (KB.out.below b214)
        clear KB
        have H216 := Hid.mk' (KX.out.below b214)
        clear KX
        have H217 := Hid.mk' (KE.out.below b214)
        clear KE
        have Z218 := Hid.mk' (bel_next KW.out b214)
        clear KW
        clear b214
        go_wp2_with fail
        refine (heOk_L _ ).mono ?_
        rintro e w219 ⟨rfl, b220⟩
        have H221 := Hid.mk' (H215.out.below b220)
        clear H215
        have H222 := Hid.mk' (H216.out.below b220)
        clear H216
        have H223 := Hid.mk' (H217.out.below b220)
        clear H217
        have Z224 := Hid.mk' (bel_next Z218.out b220)
        clear Z218
        clear b220
        go_wp2
        go_ret
        exact ⟨rfl, Z224.out⟩
end Go.Proofs.Ytnfimnfaejjagaa
