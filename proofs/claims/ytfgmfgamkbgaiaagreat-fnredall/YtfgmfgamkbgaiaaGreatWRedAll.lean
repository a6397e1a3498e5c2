/-
  The walk of FnRedAll: whatever the code, it comes out true, and nothing that was there is turned.
-/
import Derived.Test.YtfgmfgamkbgaiaaGreatDrawRA
import Derived.Test.YtfgmfgamkbgaiaaGreatGbh
import Derived.Test.YtfgmfgamkbgaiaaGreatFreeI
import Derived.Test.YtfgmfgamkbgaiaaGreatGba
namespace Go.Proofs.YtfgmfgamkbgaiaaGreat
open Go.RowKit
set_option linter.unusedVariables false
set_option maxRecDepth 100000 in
set_option maxHeartbeats 8000000 in
theorem walk_FnRedAll (w : World) (a0 : Option Addr) (len0 cap0 : Nat) (s0 : Src w a0 len0 cap0) :
    Calls Tryz.prog 3 #[.slice a0 len0 cap0] w fun e w' => e = .returned (.bool true) ∧ Below w.heap.size w w' := by
  by_cases c0 : (1048576 : Int) < (len0 : Int)
  · go_enter Tryz.func3, Tryz.ntmps3
    go_wp2
    go_ret
    exact ⟨rfl, Below.refl _ _⟩
  go_enter Tryz.func3, Tryz.ntmps3
  go_wp2_with fail
  refine (drawRedAll w a0 len0 cap0 s0).mono ?_
  rintro e wd ⟨o, pa, pc, p, la0, n, lc0, ad0, cp0, L, rfl, hP, hG, hlp, hln, hbd⟩
  have HP0 := Hid.mk' hP
  have HG0 := Hid.mk' hG
  have Z0 := Hid.mk' hbd
  clear hP hG hbd s0
  have hn5 : (n : Int) ≤ 5 := by omega
  have hp5 : (p.length : Int) ≤ 5 := by omega
  obtain ⟨R, hR⟩ : ∃ R, redAll o p n (lN L) (fN L) = R := ⟨_, rfl⟩
  rcases R with _ | S
  · have HR := Hid.mk' hR
    clear hR
    go_wp2_with fail
    refine (redI_no HP0.out HG0.out HR.out).mono ?_
    rintro e w1 ⟨qa2, qc3, ad4, cp5, la6, lc7, rfl, b8, hq9, hl10⟩
    have H11 := Hid.mk' (HP0.out.below b8)
    clear HP0
    have H12 := Hid.mk' (HG0.out.below b8)
    clear HG0
    have Z13 := Hid.mk' (bel_next Z0.out b8)
    clear Z0
    have H14 : Hid (RL w1 la6 lc7 []) := hl10
    clear hl10
    have H15 : Hid (RdS w1 qa2 0 qc3 ad4 (lN (fun _ => [])) cp5 (fN (fun _ => []))) := hq9
    clear hq9
    clear b8
    go_wp2_with fail
    refine (redS_no H11.out H12.out HR.out).mono ?_
    rintro e w16 ⟨qa17, qc18, ad19, cp20, la21, lc22, rfl, b23, hq24, hl25⟩
    have H26 := Hid.mk' (H11.out.below b23)
    clear H11
    have H27 := Hid.mk' (H12.out.below b23)
    clear H12
    have H28 := Hid.mk' (H14.out.below b23)
    clear H14
    have H29 := Hid.mk' (H15.out.below b23)
    clear H15
    have Z30 := Hid.mk' (bel_next Z13.out b23)
    clear Z13
    have H31 : Hid (RL w16 la21 lc22 []) := hl25
    clear hl25
    have H32 : Hid (RdS w16 qa17 0 qc18 ad19 (lN (fun _ => [])) cp20 (fN (fun _ => []))) := hq24
    clear hq24
    clear b23
    go_wp2_with fail
    refine (heListT _ _ _ _ _ _ _ _ _ _ _ _ _ H29.out H32.out).mono ?_
    rw [lsq_same]
    rintro e w33 ⟨rfl, b34⟩
    have H35 := Hid.mk' (H26.out.below b34)
    clear H26
    have H36 := Hid.mk' (H27.out.below b34)
    clear H27
    have H37 := Hid.mk' (H28.out.below b34)
    clear H28
    have H38 := Hid.mk' (H29.out.below b34)
    clear H29
    have H39 := Hid.mk' (H31.out.below b34)
    clear H31
    have H40 := Hid.mk' (H32.out.below b34)
    clear H32
    have Z41 := Hid.mk' (bel_next Z30.out b34)
    clear Z30
    clear b34
    go_wp2_with fail
    refine (he_L H37.out H39.out).mono ?_
    rw [sq_same]
    rintro e w42 ⟨rfl, b43⟩
    have H44 := Hid.mk' (H35.out.below b43)
    clear H35
    have H45 := Hid.mk' (H36.out.below b43)
    clear H36
    have H46 := Hid.mk' (H37.out.below b43)
    clear H37
    have H47 := Hid.mk' (H38.out.below b43)
    clear H38
    have H48 := Hid.mk' (H39.out.below b43)
    clear H39
    have H49 := Hid.mk' (H40.out.below b43)
    clear H40
    have Z50 := Hid.mk' (bel_next Z41.out b43)
    clear Z41
    clear b43
    go_wp2_with fail
    refine (heOk_L _ ).mono ?_
    rintro e w51 ⟨rfl, b52⟩
    have H53 := Hid.mk' (H44.out.below b52)
    clear H44
    have H54 := Hid.mk' (H45.out.below b52)
    clear H45
    have H55 := Hid.mk' (H46.out.below b52)
    clear H46
    have H56 := Hid.mk' (H47.out.below b52)
    clear H47
    have H57 := Hid.mk' (H48.out.below b52)
    clear H48
    have H58 := Hid.mk' (H49.out.below b52)
    clear H49
    have Z59 := Hid.mk' (bel_next Z50.out b52)
    clear Z50
    clear b52
    go_wp2
    go_ret
    exact ⟨rfl, Z59.out⟩
  · have HR := Hid.mk' hR
    clear hR
    obtain ⟨K, ok1, hK⟩ : ∃ K k, redSum n (lN S.q) (fN S.q) n (lN L) (fN L) = (K, k) := ⟨_, _, rfl⟩
    obtain ⟨A, ok2, hA⟩ : ∃ K2 k, addV K S.r = (K2, k) := ⟨_, _, rfl⟩
    have hfree := redFree_left HR.out
    have HAP : Hid (ok1 = true → ok2 = true → A = p) := fun e1 e2 => by subst e1 e2; exact red_all HR.out hK hA
    have HK := Hid.mk' hK
    have HA := Hid.mk' hA
    have HF := Hid.mk' hfree
    clear hK hA hfree
    go_wp2_with fail
    refine (redI_yes HP0.out HG0.out HR.out).mono ?_
    rintro e w60 ⟨qa61, qc62, ad63, cp64, la65, lc66, rfl, b67, hq68, hl69⟩
    have H70 := Hid.mk' (HP0.out.below b67)
    clear HP0
    have H71 := Hid.mk' (HG0.out.below b67)
    clear HG0
    have Z72 := Hid.mk' (bel_next Z0.out b67)
    clear Z0
    have H73 : Hid (RL w60 la65 lc66 S.r) := hl69
    clear hl69
    have H74 : Hid (RdS w60 qa61 n qc62 ad63 (lN S.q) cp64 (fN S.q)) := hq68
    clear hq68
    clear b67
    go_wp2_with fail
    refine (redS_yes H70.out H71.out HR.out).mono ?_
    rintro e w75 ⟨qa76, qc77, ad78, cp79, la80, lc81, rfl, b82, hq83, hl84⟩
    have H85 := Hid.mk' (H70.out.below b82)
    clear H70
    have H86 := Hid.mk' (H71.out.below b82)
    clear H71
    have H87 := Hid.mk' (H73.out.below b82)
    clear H73
    have H88 := Hid.mk' (H74.out.below b82)
    clear H74
    have Z89 := Hid.mk' (bel_next Z72.out b82)
    clear Z72
    have H90 : Hid (RL w75 la80 lc81 S.r) := hl84
    clear hl84
    have H91 : Hid (RdS w75 qa76 n qc77 ad78 (lN S.q) cp79 (fN S.q)) := hq83
    clear hq83
    clear b82
    go_wp2_with fail
    refine (heListT _ _ _ _ _ _ _ _ _ _ _ _ _ H88.out H91.out).mono ?_
    rw [lsq_same]
    rintro e w92 ⟨rfl, b93⟩
    have H94 := Hid.mk' (H85.out.below b93)
    clear H85
    have H95 := Hid.mk' (H86.out.below b93)
    clear H86
    have H96 := Hid.mk' (H87.out.below b93)
    clear H87
    have H97 := Hid.mk' (H88.out.below b93)
    clear H88
    have H98 := Hid.mk' (H90.out.below b93)
    clear H90
    have H99 := Hid.mk' (H91.out.below b93)
    clear H91
    have Z100 := Hid.mk' (bel_next Z89.out b93)
    clear Z89
    clear b93
    go_wp2_with fail
    refine (he_L H96.out H98.out).mono ?_
    rw [sq_same]
    rintro e w101 ⟨rfl, b102⟩
    have H103 := Hid.mk' (H94.out.below b102)
    clear H94
    have H104 := Hid.mk' (H95.out.below b102)
    clear H95
    have H105 := Hid.mk' (H96.out.below b102)
    clear H96
    have H106 := Hid.mk' (H97.out.below b102)
    clear H97
    have H107 := Hid.mk' (H98.out.below b102)
    clear H98
    have H108 := Hid.mk' (H99.out.below b102)
    clear H99
    have Z109 := Hid.mk' (bel_next Z100.out b102)
    clear Z100
    clear b102
    go_wp2_with fail
    refine (sumI_L H106.out H104.out).mono ?_
    rw [HK.out]
    rintro e w110 ⟨a111, c112, rfl, b113, r114⟩
    have H115 := Hid.mk' (H103.out.below b113)
    clear H103
    have H116 := Hid.mk' (H104.out.below b113)
    clear H104
    have H117 := Hid.mk' (H105.out.below b113)
    clear H105
    have H118 := Hid.mk' (H106.out.below b113)
    clear H106
    have H119 := Hid.mk' (H107.out.below b113)
    clear H107
    have H120 := Hid.mk' (H108.out.below b113)
    clear H108
    have Z121 := Hid.mk' (bel_next Z109.out b113)
    clear Z109
    have H122 : Hid (RL w110 a111 c112 K) := r114
    clear r114
    clear b113
    go_wp2_with fail
    refine (addI_L H122.out H117.out).mono ?_
    rw [HA.out]
    rintro e w123 ⟨a124, c125, rfl, b126, r127⟩
    have H128 := Hid.mk' (H115.out.below b126)
    clear H115
    have H129 := Hid.mk' (H116.out.below b126)
    clear H116
    have H130 := Hid.mk' (H117.out.below b126)
    clear H117
    have H131 := Hid.mk' (H118.out.below b126)
    clear H118
    have H132 := Hid.mk' (H119.out.below b126)
    clear H119
    have H133 := Hid.mk' (H120.out.below b126)
    clear H120
    have H134 := Hid.mk' (H122.out.below b126)
    clear H122
    have Z135 := Hid.mk' (bel_next Z121.out b126)
    clear Z121
    have H136 : Hid (RL w123 a124 c125 A) := r127
    clear r127
    clear b126
    have hnn : ((n : Int) == (n : Int)) = true := by simp
    cases ok1
    · go_wp2_with fail
      refine (freeI_S o H130.out H129.out).mono ?_
      rw [HF.out]
      rintro e w137 ⟨rfl, b138⟩
      have H139 := Hid.mk' (H128.out.below b138)
      clear H128
      have H140 := Hid.mk' (H129.out.below b138)
      clear H129
      have H141 := Hid.mk' (H130.out.below b138)
      clear H130
      have H142 := Hid.mk' (H131.out.below b138)
      clear H131
      have H143 := Hid.mk' (H132.out.below b138)
      clear H132
      have H144 := Hid.mk' (H133.out.below b138)
      clear H133
      have H145 := Hid.mk' (H134.out.below b138)
      clear H134
      have H146 := Hid.mk' (H136.out.below b138)
      clear H136
      have Z147 := Hid.mk' (bel_next Z135.out b138)
      clear Z135
      clear b138
      go_wp2
      go_ret
      exact ⟨rfl, Z147.out⟩
    · cases ok2
      · go_wp2_with fail
        refine (freeI_S o H130.out H129.out).mono ?_
        rw [HF.out]
        rintro e w148 ⟨rfl, b149⟩
        have H150 := Hid.mk' (H128.out.below b149)
        clear H128
        have H151 := Hid.mk' (H129.out.below b149)
        clear H129
        have H152 := Hid.mk' (H130.out.below b149)
        clear H130
        have H153 := Hid.mk' (H131.out.below b149)
        clear H131
        have H154 := Hid.mk' (H132.out.below b149)
        clear H132
        have H155 := Hid.mk' (H133.out.below b149)
        clear H133
        have H156 := Hid.mk' (H134.out.below b149)
        clear H134
        have H157 := Hid.mk' (H136.out.below b149)
        clear H136
        have Z158 := Hid.mk' (bel_next Z135.out b149)
        clear Z135
        clear b149
        go_wp2
        go_ret
        exact ⟨rfl, Z158.out⟩
      · have hAp := HAP.out rfl rfl
        subst hAp
        go_wp2_with fail
        refine (he_L H136.out H128.out).mono ?_
        rw [sq_same]
        rintro e w159 ⟨rfl, b160⟩
        have H161 := Hid.mk' (H128.out.below b160)
        clear H128
        have H162 := Hid.mk' (H129.out.below b160)
        clear H129
        have H163 := Hid.mk' (H130.out.below b160)
        clear H130
        have H164 := Hid.mk' (H131.out.below b160)
        clear H131
        have H165 := Hid.mk' (H132.out.below b160)
        clear H132
        have H166 := Hid.mk' (H133.out.below b160)
        clear H133
        have H167 := Hid.mk' (H134.out.below b160)
        clear H134
        have H168 := Hid.mk' (H136.out.below b160)
        clear H136
        have Z169 := Hid.mk' (bel_next Z135.out b160)
        clear Z135
        clear b160
        go_wp2_with fail
        refine (freeI_S o H163.out H162.out).mono ?_
        rw [HF.out]
        rintro e w170 ⟨rfl, b171⟩
        have H172 := Hid.mk' (H161.out.below b171)
        clear H161
        have H173 := Hid.mk' (H162.out.below b171)
        clear H162
        have H174 := Hid.mk' (H163.out.below b171)
        clear H163
        have H175 := Hid.mk' (H164.out.below b171)
        clear H164
        have H176 := Hid.mk' (H165.out.below b171)
        clear H165
        have H177 := Hid.mk' (H166.out.below b171)
        clear H166
        have H178 := Hid.mk' (H167.out.below b171)
        clear H167
        have H179 := Hid.mk' (H168.out.below b171)
        clear H168
        have Z180 := Hid.mk' (bel_next Z169.out b171)
        clear Z169
        clear b171
        go_wp2
        go_ret
        exact ⟨rfl, Z180.out⟩
end Go.Proofs.YtfgmfgamkbgaiaaGreat
