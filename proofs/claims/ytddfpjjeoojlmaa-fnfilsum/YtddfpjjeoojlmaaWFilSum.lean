/-
  The walk of FnFilSum: whatever the code, it comes out true, and nothing that was there is turned.
-/
import Derived.Test.YtddfpjjeoojlmaaGar
import Derived.Test.YtddfpjjeoojlmaaGat
import Derived.Test.YtddfpjjeoojlmaaGau
namespace Go.Proofs.Ytddfpjjeoojlmaa
open Go.RowKit
set_option linter.unusedVariables false
set_option maxRecDepth 100000 in
set_option maxHeartbeats 8000000 in
theorem walk_FnFilSum (w : World) (a0 : Option Addr) (len0 cap0 : Nat) (s0 : Src w a0 len0 cap0) :
    Calls Try.prog 8 #[.slice a0 len0 cap0] w fun e w' => e = .returned (.bool true) ∧ Below w.heap.size w w' := by
  by_cases c0 : (1048576 : Int) < (len0 : Int)
  · go_enter Try.func8, Try.ntmps8
    go_wp2
    go_ret
    exact ⟨rfl, Below.refl _ _⟩
  go_enter Try.func8, Try.ntmps8
  go_wp2_with fail
  refine (drawPolAdd w a0 len0 cap0 s0).mono ?_
  rintro e wd ⟨da, dca, A, db, dcb, B, rfl, hA, hB, hlA, hlB, hbd⟩
  have HA0 := Hid.mk' hA
  have HB0 := Hid.mk' hB
  have Z0 := Hid.mk' hbd
  clear hA hB hbd s0
  rcases addV_case A B with h | ⟨oA, oB, hl, h⟩
  · have _h := h
    go_wp2_with fail
    refine (addI_L HA0.out HB0.out).mono ?_
    rw [h]
    rintro e w1 ⟨a2, c3, rfl, b4, r5⟩
    have H6 := Hid.mk' (HA0.out.below b4)
    clear HA0
    have H7 := Hid.mk' (HB0.out.below b4)
    clear HB0
    have Z8 := Hid.mk' (bel_next Z0.out b4)
    clear Z0
    have H9 : Hid (RL w1 a2 c3 []) := r5
    clear r5
    clear b4
    go_wp2_with fail
    refine (addS_L H6.out H7.out).mono ?_
    rw [h]
    rintro e w10 ⟨a11, c12, rfl, b13, r14⟩
    have H15 := Hid.mk' (H6.out.below b13)
    clear H6
    have H16 := Hid.mk' (H7.out.below b13)
    clear H7
    have H17 := Hid.mk' (H9.out.below b13)
    clear H9
    have Z18 := Hid.mk' (bel_next Z8.out b13)
    clear Z8
    have H19 : Hid (RL w10 a11 c12 []) := r14
    clear r14
    clear b13
    go_wp2_with fail
    refine (he_L H17.out H19.out).mono ?_
    rw [sq_same]
    rintro e w20 ⟨rfl, b21⟩
    have H22 := Hid.mk' (H15.out.below b21)
    clear H15
    have H23 := Hid.mk' (H16.out.below b21)
    clear H16
    have H24 := Hid.mk' (H17.out.below b21)
    clear H17
    have H25 := Hid.mk' (H19.out.below b21)
    clear H19
    have Z26 := Hid.mk' (bel_next Z18.out b21)
    clear Z18
    clear b21
    go_wp2_with fail
    refine (heOk_L _ ).mono ?_
    rintro e w27 ⟨rfl, b28⟩
    have H29 := Hid.mk' (H22.out.below b28)
    clear H22
    have H30 := Hid.mk' (H23.out.below b28)
    clear H23
    have H31 := Hid.mk' (H24.out.below b28)
    clear H24
    have H32 := Hid.mk' (H25.out.below b28)
    clear H25
    have Z33 := Hid.mk' (bel_next Z26.out b28)
    clear Z26
    clear b28
    go_wp2
    go_ret
    exact ⟨rfl, Z33.out⟩
  · have q1 := mo_sum_le (q := slp) oA oB hl
    have q2 := mo_sum_le (q := dgr) oA oB hl
    have q3 := mo_sum_ne (q := slp) oA oB hl
    have q4 := mo_sum_ne (q := dgr) oA oB hl
    go_wp2_with fail
    refine (addI_L HA0.out HB0.out).mono ?_
    rw [h]
    rintro e w34 ⟨a35, c36, rfl, b37, r38⟩
    have H39 := Hid.mk' (HA0.out.below b37)
    clear HA0
    have H40 := Hid.mk' (HB0.out.below b37)
    clear HB0
    have Z41 := Hid.mk' (bel_next Z0.out b37)
    clear Z0
    have H42 : Hid (RL w34 a35 c36 (addL A B)) := r38
    clear r38
    clear b37
    go_wp2_with fail
    refine (addS_L H39.out H40.out).mono ?_
    rw [h]
    rintro e w43 ⟨a44, c45, rfl, b46, r47⟩
    have H48 := Hid.mk' (H39.out.below b46)
    clear H39
    have H49 := Hid.mk' (H40.out.below b46)
    clear H40
    have H50 := Hid.mk' (H42.out.below b46)
    clear H42
    have Z51 := Hid.mk' (bel_next Z41.out b46)
    clear Z41
    have H52 : Hid (RL w43 a44 c45 (addL A B)) := r47
    clear r47
    clear b46
    go_wp2_with fail
    refine (he_L H50.out H52.out).mono ?_
    rw [sq_same]
    rintro e w53 ⟨rfl, b54⟩
    have H55 := Hid.mk' (H48.out.below b54)
    clear H48
    have H56 := Hid.mk' (H49.out.below b54)
    clear H49
    have H57 := Hid.mk' (H50.out.below b54)
    clear H50
    have H58 := Hid.mk' (H52.out.below b54)
    clear H52
    have Z59 := Hid.mk' (bel_next Z51.out b54)
    clear Z51
    clear b54
    go_wp2_with fail
    refine (ordI_L H55.out).mono ?_
    rintro e w60 ⟨rfl, b61⟩
    have H62 := Hid.mk' (H55.out.below b61)
    clear H55
    have H63 := Hid.mk' (H56.out.below b61)
    clear H56
    have H64 := Hid.mk' (H57.out.below b61)
    clear H57
    have H65 := Hid.mk' (H58.out.below b61)
    clear H58
    have Z66 := Hid.mk' (bel_next Z59.out b61)
    clear Z59
    clear b61
    go_wp2_with fail
    refine (ordI_L H63.out).mono ?_
    rintro e w67 ⟨rfl, b68⟩
    have H69 := Hid.mk' (H62.out.below b68)
    clear H62
    have H70 := Hid.mk' (H63.out.below b68)
    clear H63
    have H71 := Hid.mk' (H64.out.below b68)
    clear H64
    have H72 := Hid.mk' (H65.out.below b68)
    clear H65
    have Z73 := Hid.mk' (bel_next Z66.out b68)
    clear Z66
    clear b68
    go_wp2_with fail
    refine (ordI_L H71.out).mono ?_
    rintro e w74 ⟨rfl, b75⟩
    have H76 := Hid.mk' (H69.out.below b75)
    clear H69
    have H77 := Hid.mk' (H70.out.below b75)
    clear H70
    have H78 := Hid.mk' (H71.out.below b75)
    clear H71
    have H79 := Hid.mk' (H72.out.below b75)
    clear H72
    have Z80 := Hid.mk' (bel_next Z73.out b75)
    clear Z73
    clear b75
    go_wp2_with fail
    refine (degI_L H76.out).mono ?_
    rintro e w81 ⟨rfl, b82⟩
    have H83 := Hid.mk' (H76.out.below b82)
    clear H76
    have H84 := Hid.mk' (H77.out.below b82)
    clear H77
    have H85 := Hid.mk' (H78.out.below b82)
    clear H78
    have H86 := Hid.mk' (H79.out.below b82)
    clear H79
    have Z87 := Hid.mk' (bel_next Z80.out b82)
    clear Z80
    clear b82
    go_wp2_with fail
    refine (degI_L H84.out).mono ?_
    rintro e w88 ⟨rfl, b89⟩
    have H90 := Hid.mk' (H83.out.below b89)
    clear H83
    have H91 := Hid.mk' (H84.out.below b89)
    clear H84
    have H92 := Hid.mk' (H85.out.below b89)
    clear H85
    have H93 := Hid.mk' (H86.out.below b89)
    clear H86
    have Z94 := Hid.mk' (bel_next Z87.out b89)
    clear Z87
    clear b89
    go_wp2_with fail
    refine (degI_L H92.out).mono ?_
    rintro e w95 ⟨rfl, b96⟩
    have H97 := Hid.mk' (H90.out.below b96)
    clear H90
    have H98 := Hid.mk' (H91.out.below b96)
    clear H91
    have H99 := Hid.mk' (H92.out.below b96)
    clear H92
    have H100 := Hid.mk' (H93.out.below b96)
    clear H93
    have Z101 := Hid.mk' (bel_next Z94.out b96)
    clear Z94
    clear b96
    generalize moL slp A = n at *
    generalize moL slp B = m at *
    generalize moL slp (addL A B) = k at *
    generalize moL dgr A = d at *
    generalize moL dgr B = e at *
    generalize moL dgr (addL A B) = f at *
    have y1 : k ≤ max n m := q1
    have y2 : f ≤ max d e := q2
    have y3 : ((n == m) = true) ∨ ((n == m) = false ∧ (k == max n m) = true) := by
      by_cases hnm : n = m
      · exact .inl (by simp [hnm])
      · refine .inr ⟨by simp [hnm], ?_⟩
        have := q3 hnm
        rw [this]; simp
    have y4 : ((d == e) = true) ∨ ((d == e) = false ∧ (f == max d e) = true) := by
      by_cases hnm : d = e
      · exact .inl (by simp [hnm])
      · refine .inr ⟨by simp [hnm], ?_⟩
        have := q4 hnm
        rw [this]; simp
    clear q1 q2 q3 q4
    rcases y3 with y3 | ⟨y3, y5⟩ <;> rcases y4 with y4 | ⟨y4, y6⟩
    · go_wp2_with fail
      refine (heOk_L _ ).mono ?_
      rintro e w102 ⟨rfl, b103⟩
      have H104 := Hid.mk' (H97.out.below b103)
      clear H97
      have H105 := Hid.mk' (H98.out.below b103)
      clear H98
      have H106 := Hid.mk' (H99.out.below b103)
      clear H99
      have H107 := Hid.mk' (H100.out.below b103)
      clear H100
      have Z108 := Hid.mk' (bel_next Z101.out b103)
      clear Z101
      clear b103
      go_wp2
      go_ret
      exact ⟨rfl, Z108.out⟩
    · go_wp2_with fail
      refine (heOk_L _ ).mono ?_
      rintro e w109 ⟨rfl, b110⟩
      have H111 := Hid.mk' (H97.out.below b110)
      clear H97
      have H112 := Hid.mk' (H98.out.below b110)
      clear H98
      have H113 := Hid.mk' (H99.out.below b110)
      clear H99
      have H114 := Hid.mk' (H100.out.below b110)
      clear H100
      have Z115 := Hid.mk' (bel_next Z101.out b110)
      clear Z101
      clear b110
      go_wp2
      go_ret
      exact ⟨rfl, Z115.out⟩
    · go_wp2_with fail
      refine (heOk_L _ ).mono ?_
      rintro e w116 ⟨rfl, b117⟩
      have H118 := Hid.mk' (H97.out.below b117)
      clear H97
      have H119 := Hid.mk' (H98.out.below b117)
      clear H98
      have H120 := Hid.mk' (H99.out.below b117)
      clear H99
      have H121 := Hid.mk' (H100.out.below b117)
      clear H100
      have Z122 := Hid.mk' (bel_next Z101.out b117)
      clear Z101
      clear b117
      go_wp2
      go_ret
      exact ⟨rfl, Z122.out⟩
    · go_wp2_with fail
      refine (heOk_L _ ).mono ?_
      rintro e w123 ⟨rfl, b124⟩
      have H125 := Hid.mk' (H97.out.below b124)
      clear H97
      have H126 := Hid.mk' (H98.out.below b124)
      clear H98
      have H127 := Hid.mk' (H99.out.below b124)
      clear H99
      have H128 := Hid.mk' (H100.out.below b124)
      clear H100
      have Z129 := Hid.mk' (bel_next Z101.out b124)
      clear Z101
      clear b124
      go_wp2
      go_ret
      exact ⟨rfl, Z129.out⟩
end Go.Proofs.Ytddfpjjeoojlmaa
