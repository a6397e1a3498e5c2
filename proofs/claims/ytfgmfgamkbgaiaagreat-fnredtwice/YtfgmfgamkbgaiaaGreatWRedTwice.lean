/-
  The walk of FnRedTwice: whatever the code, it comes out true, and nothing that was there is turned.
-/
import Derived.Test.YtfgmfgamkbgaiaaGreatDrawRA
import Derived.Test.YtfgmfgamkbgaiaaGreatGbh
import Derived.Test.YtfgmfgamkbgaiaaGreatFreeI
import Derived.Test.YtfgmfgamkbgaiaaGreatGba
namespace Go.Proofs.YtfgmfgamkbgaiaaGreat
open Go.RowKit
set_option linter.unusedVariables false
set_option maxRecDepth 100000 in
set_option maxHeartbeats 8000000 in
theorem walk_FnRedTwice (w : World) (a0 : Option Addr) (len0 cap0 : Nat) (s0 : Src w a0 len0 cap0) :
    Calls Tryz.prog 5 #[.slice a0 len0 cap0] w fun e w' => e = .returned (.bool true) ∧ Below w.heap.size w w' := by
  by_cases c0 : (1048576 : Int) < (len0 : Int)
  · go_enter Tryz.func5, Tryz.ntmps5
    go_wp2
    go_ret
    exact ⟨rfl, Below.refl _ _⟩
  go_enter Tryz.func5, Tryz.ntmps5
  go_wp2_with fail
  refine (drawRedAll w a0 len0 cap0 s0).mono ?_
  rintro e wd ⟨o, pa, pc, p, la0, n, lc0, ad0, cp0, L, rfl, hP, hG, hlp, hln, hbd⟩
  have HP0 := Hid.mk' hP
  have HG0 := Hid.mk' hG
  have Z0 := Hid.mk' hbd
  clear hP hG hbd s0
  have hn5 : (n : Int) ≤ 5 := by omega
  have hp5 : (p.length : Int) ≤ 5 := by omega
  obtain ⟨R, hR⟩ : ∃ R, redAll o p n (lN L) (fN L) = R := ⟨_, rfl⟩
  rcases R with _ | S
  · have HR := Hid.mk' hR
    clear hR
    go_wp2_with fail
    refine (redI_no HP0.out HG0.out HR.out).mono ?_
    rintro e w1 ⟨qa2, qc3, ad4, cp5, la6, lc7, rfl, b8, hq9, hl10⟩
    have H11 := Hid.mk' (HP0.out.below b8)
    clear HP0
    have H12 := Hid.mk' (HG0.out.below b8)
    clear HG0
    have Z13 := Hid.mk' (bel_next Z0.out b8)
    clear Z0
    have H14 : Hid (RL w1 la6 lc7 []) := hl10
    clear hl10
    have H15 : Hid (RdS w1 qa2 0 qc3 ad4 (lN (fun _ => [])) cp5 (fN (fun _ => []))) := hq9
    clear hq9
    clear b8
    go_wp2_with fail
    refine (redS_no H11.out H12.out HR.out).mono ?_
    rintro e w16 ⟨qa17, qc18, ad19, cp20, la21, lc22, rfl, b23, hq24, hl25⟩
    have H26 := Hid.mk' (H11.out.below b23)
    clear H11
    have H27 := Hid.mk' (H12.out.below b23)
    clear H12
    have H28 := Hid.mk' (H14.out.below b23)
    clear H14
    have H29 := Hid.mk' (H15.out.below b23)
    clear H15
    have Z30 := Hid.mk' (bel_next Z13.out b23)
    clear Z13
    have H31 : Hid (RL w16 la21 lc22 []) := hl25
    clear hl25
    have H32 : Hid (RdS w16 qa17 0 qc18 ad19 (lN (fun _ => [])) cp20 (fN (fun _ => []))) := hq24
    clear hq24
    clear b23
    go_wp2_with fail
    refine (he_L H28.out H31.out).mono ?_
    rw [sq_same]
    rintro e w33 ⟨rfl, b34⟩
    have H35 := Hid.mk' (H26.out.below b34)
    clear H26
    have H36 := Hid.mk' (H27.out.below b34)
    clear H27
    have H37 := Hid.mk' (H28.out.below b34)
    clear H28
    have H38 := Hid.mk' (H29.out.below b34)
    clear H29
    have H39 := Hid.mk' (H31.out.below b34)
    clear H31
    have H40 := Hid.mk' (H32.out.below b34)
    clear H32
    have Z41 := Hid.mk' (bel_next Z30.out b34)
    clear Z30
    clear b34
    go_wp2_with fail
    refine (heOk_L _ ).mono ?_
    rintro e w42 ⟨rfl, b43⟩
    have H44 := Hid.mk' (H35.out.below b43)
    clear H35
    have H45 := Hid.mk' (H36.out.below b43)
    clear H36
    have H46 := Hid.mk' (H37.out.below b43)
    clear H37
    have H47 := Hid.mk' (H38.out.below b43)
    clear H38
    have H48 := Hid.mk' (H39.out.below b43)
    clear H39
    have H49 := Hid.mk' (H40.out.below b43)
    clear H40
    have Z50 := Hid.mk' (bel_next Z41.out b43)
    clear Z41
    clear b43
    go_wp2
    go_ret
    exact ⟨rfl, Z50.out⟩
  · have HR := Hid.mk' hR
    clear hR
    have HAG := Hid.mk' (redAll_again HR.out)
    obtain ⟨ho, hpo, hlo, _⟩ := redAll_some HR.out
    have HZ := Hid.mk' (redAll_free (o := o) (p := []) (n := n) (L := L) ho okL_nil hlo (by simp) (fun t ht => by cases ht))
    have HN := Hid.mk' (redAll_free (o := o) (p := p) (n := 0) (L := fun _ => []) ho hpo (decide_eq_true ⟨by omega, fun i hi => by omega⟩) (by omega) (fun t ht i hi => by omega))
    go_wp2_with fail
    refine (redI_yes HP0.out HG0.out HR.out).mono ?_
    rintro e w51 ⟨qa52, qc53, ad54, cp55, la56, lc57, rfl, b58, hq59, hl60⟩
    have H61 := Hid.mk' (HP0.out.below b58)
    clear HP0
    have H62 := Hid.mk' (HG0.out.below b58)
    clear HG0
    have Z63 := Hid.mk' (bel_next Z0.out b58)
    clear Z0
    have H64 : Hid (RL w51 la56 lc57 S.r) := hl60
    clear hl60
    have H65 : Hid (RdS w51 qa52 n qc53 ad54 (lN S.q) cp55 (fN S.q)) := hq59
    clear hq59
    clear b58
    go_wp2_with fail
    refine (redS_yes H61.out H62.out HR.out).mono ?_
    rintro e w66 ⟨qa67, qc68, ad69, cp70, la71, lc72, rfl, b73, hq74, hl75⟩
    have H76 := Hid.mk' (H61.out.below b73)
    clear H61
    have H77 := Hid.mk' (H62.out.below b73)
    clear H62
    have H78 := Hid.mk' (H64.out.below b73)
    clear H64
    have H79 := Hid.mk' (H65.out.below b73)
    clear H65
    have Z80 := Hid.mk' (bel_next Z63.out b73)
    clear Z63
    have H81 : Hid (RL w66 la71 lc72 S.r) := hl75
    clear hl75
    have H82 : Hid (RdS w66 qa67 n qc68 ad69 (lN S.q) cp70 (fN S.q)) := hq74
    clear hq74
    clear b73
    go_wp2_with fail
    refine (he_L H78.out H81.out).mono ?_
    rw [sq_same]
    rintro e w83 ⟨rfl, b84⟩
    have H85 := Hid.mk' (H76.out.below b84)
    clear H76
    have H86 := Hid.mk' (H77.out.below b84)
    clear H77
    have H87 := Hid.mk' (H78.out.below b84)
    clear H78
    have H88 := Hid.mk' (H79.out.below b84)
    clear H79
    have H89 := Hid.mk' (H81.out.below b84)
    clear H81
    have H90 := Hid.mk' (H82.out.below b84)
    clear H82
    have Z91 := Hid.mk' (bel_next Z80.out b84)
    clear Z80
    clear b84
    go_wp2_with fail
    refine (redI_yes H87.out H86.out HAG.out).mono ?_
    rintro e w92 ⟨qa93, qc94, ad95, cp96, la97, lc98, rfl, b99, hq100, hl101⟩
    have H102 := Hid.mk' (H85.out.below b99)
    clear H85
    have H103 := Hid.mk' (H86.out.below b99)
    clear H86
    have H104 := Hid.mk' (H87.out.below b99)
    clear H87
    have H105 := Hid.mk' (H88.out.below b99)
    clear H88
    have H106 := Hid.mk' (H89.out.below b99)
    clear H89
    have H107 := Hid.mk' (H90.out.below b99)
    clear H90
    have Z108 := Hid.mk' (bel_next Z91.out b99)
    clear Z91
    have H109 : Hid (RL w92 la97 lc98 S.r) := hl101
    clear hl101
    have H110 : Hid (RdS w92 qa93 n qc94 ad95 (lN (fun _ => [])) cp96 (fN (fun _ => []))) := hq100
    clear hq100
    clear b99
    go_wp2
    go_loopw [15] (fun v wr => ∃ i : Nat, i ≤ n ∧ v = .int .i64 (i : Int) ∧ Below w92.heap.size w92 wr) (fun v _ => n - (intOf v).toNat)
    case atStart => exact ⟨0, Nat.zero_le _, rfl, Below.refl _ _⟩
    case round =>
      obtain ⟨i, hi, rfl, hBel⟩ := hrel
      by_cases hlt : i < n
      · have hil : (i : Int) < (n : Int) := by omega
        have HBel := Hid.mk' hBel
        rcases (H110.out.below hBel).2.2.1 with h0 | ⟨bb, off, rfl, hblt, hcl⟩
        · omega
        have g0 : wr.cell? ⟨bb, off + i, none⟩ = some (.slice (ad95 i) 0 (cp96 i)) := hcl i hlt
        clear hcl hBel
        go_wp2
        go_roundw
        case rel => exact ⟨i + 1, by omega, by go_num, HBel.out⟩
        case measure => simp [intOf]; omega
      · have hnl : ¬ (i : Int) < (n : Int) := by omega
        clear H105
        clear H107
        clear H106
        clear H110
        have H111 := Hid.mk' (H102.out.below hBel)
        clear H102
        have H112 := Hid.mk' (H103.out.below hBel)
        clear H103
        have H113 := Hid.mk' (H104.out.below hBel)
        clear H104
        have H114 := Hid.mk' (H109.out.below hBel)
        clear H109
        have Z115 := Hid.mk' (bel_next Z108.out hBel)
        clear Z108
        clear hBel
        have HE0 : Hid (RL (wr.alloc (.cells #[] 40)) (some ⟨wr.heap.size, 0, none⟩) 0 []) := ⟨Nat.le_refl _, by simp, .inl rfl⟩
        have hbE := bel_one wr (.cells #[] 40)
        have H116 := Hid.mk' (H111.out.below hbE)
        clear H111
        have H117 := Hid.mk' (H112.out.below hbE)
        clear H112
        have H118 := Hid.mk' (H113.out.below hbE)
        clear H113
        have H119 := Hid.mk' (H114.out.below hbE)
        clear H114
        have Z120 := Hid.mk' (bel_next Z115.out hbE)
        clear Z115
        clear hbE
        go_wp2_with fail
        refine (redI_yes HE0.out H117.out HZ.out).mono ?_
        rintro e w91 ⟨qa91, qc91, ad91, cp91, la91, lc91, rfl, hb91, hq91, hl91⟩
        clear hq91 hl91 HE0
        have H121 := Hid.mk' (H116.out.below hb91)
        clear H116
        have H122 := Hid.mk' (H117.out.below hb91)
        clear H117
        have H123 := Hid.mk' (H118.out.below hb91)
        clear H118
        have H124 := Hid.mk' (H119.out.below hb91)
        clear H119
        have Z125 := Hid.mk' (bel_next Z120.out hb91)
        clear Z120
        clear hb91
        have HE1 : Hid (RdS (w91.alloc (.cells #[] 23)) (some ⟨w91.heap.size, 0, none⟩) 0 0 (fun _ => none) (lN (fun _ => [])) (fun _ => 0) (fN (fun _ => []))) := ⟨Nat.le_refl _, by simp, .inl rfl, fun i hi => absurd hi (Nat.not_lt_zero _)⟩
        have hbF := bel_one w91 (.cells #[] 23)
        have H126 := Hid.mk' (H121.out.below hbF)
        clear H121
        have H127 := Hid.mk' (H122.out.below hbF)
        clear H122
        have H128 := Hid.mk' (H123.out.below hbF)
        clear H123
        have H129 := Hid.mk' (H124.out.below hbF)
        clear H124
        have Z130 := Hid.mk' (bel_next Z125.out hbF)
        clear Z125
        clear hbF
        go_wp2_with fail
        refine (redI_yes H126.out HE1.out HN.out).mono ?_
        rintro e w92 ⟨qa92, qc92, ad92, cp92, la92, lc92, rfl, hb92, hq92, hl92⟩
        clear hq92 HE1
        have H131 := Hid.mk' (H126.out.below hb92)
        clear H126
        have H132 := Hid.mk' (H127.out.below hb92)
        clear H127
        have H133 := Hid.mk' (H128.out.below hb92)
        clear H128
        have H134 := Hid.mk' (H129.out.below hb92)
        clear H129
        have Z135 := Hid.mk' (bel_next Z130.out hb92)
        clear Z130
        have H136 : Hid (RL w92 la92 lc92 p) := hl92
        clear hl92
        clear hb92
        go_wp2_with fail
        refine (he_L H134.out H133.out).mono ?_
        rw [sq_same]
        rintro e w137 ⟨rfl, b138⟩
        have H139 := Hid.mk' (H131.out.below b138)
        clear H131
        have H140 := Hid.mk' (H132.out.below b138)
        clear H132
        have H141 := Hid.mk' (H133.out.below b138)
        clear H133
        have H142 := Hid.mk' (H134.out.below b138)
        clear H134
        have H143 := Hid.mk' (H136.out.below b138)
        clear H136
        have Z144 := Hid.mk' (bel_next Z135.out b138)
        clear Z135
        clear b138
        go_wp2_with fail
        refine (he_L H143.out H139.out).mono ?_
        rw [sq_same]
        rintro e w145 ⟨rfl, b146⟩
        have H147 := Hid.mk' (H139.out.below b146)
        clear H139
        have H148 := Hid.mk' (H140.out.below b146)
        clear H140
        have H149 := Hid.mk' (H141.out.below b146)
        clear H141
        have H150 := Hid.mk' (H142.out.below b146)
        clear H142
        have H151 := Hid.mk' (H143.out.below b146)
        clear H143
        have Z152 := Hid.mk' (bel_next Z144.out b146)
        clear Z144
        clear b146
        have hp9 : (p.length : Int) ≤ 9 := by omega
        go_wp2
        go_ret
        exact ⟨rfl, Z152.out⟩
end Go.Proofs.YtfgmfgamkbgaiaaGreat
