/-
  The walk of FnWylDegree: whatever the code, it comes out true, and nothing that was there is turned.
-/
import Derived.Test.YtlndccbgbclnhaaDegL
import Derived.Test.YtlndccbgbclnhaaGbc
namespace Go.Proofs.Ytlndccbgbclnhaa
open Go.RowKit
set_option linter.unusedVariables false
theorem wm_zl {B P : List T} (h : wmV [] B = (P, true)) : P = [] := by
  have h1 := Rp_mul stdG h
  rw [Rp_nil, Lq.nil_mul] at h1
  exact nil_of_Rp (wm_falls h) h1
theorem wm_zr {A P : List T} (h : wmV A [] = (P, true)) : P = [] := by
  have h1 := Rp_mul stdG h
  rw [Rp_nil, Lq.mul_nil] at h1
  exact nil_of_Rp (wm_falls h) h1
set_option maxRecDepth 100000 in
set_option maxHeartbeats 8000000 in
theorem walk_FnWylDegree (w : World) (a0 : Option Addr) (len0 cap0 : Nat) (s0 : Src w a0 len0 cap0) :
    Calls Try.prog 6 #[.slice a0 len0 cap0] w fun e w' => e = .returned (.bool true) ∧ Below w.heap.size w w' := by
  by_cases c0 : (1048576 : Int) < (len0 : Int)
  · go_enter Try.func6, Try.ntmps6
    go_wp2
    go_ret
    exact ⟨rfl, Below.refl _ _⟩
  go_enter Try.func6, Try.ntmps6
  go_wp2_with fail
  refine (drawWylMul w a0 len0 cap0 s0).mono ?_
  rintro e wd ⟨da, dca, A, db, dcb, B, rfl, hA, hB, hlA, hlB, hbd⟩
  have HA0 := Hid.mk' hA
  have HB0 := Hid.mk' hB
  have Z0 := Hid.mk' hbd
  clear hA hB hbd s0
  rcases wmV_if A B with h1 | ⟨P, h1⟩
  · go_wp2_with fail
    refine (wmI_L HA0.out HB0.out).mono ?_
    rw [h1]
    rintro e w1 ⟨a2, c3, rfl, b4, r5⟩
    have H6 := Hid.mk' (HA0.out.below b4)
    clear HA0
    have H7 := Hid.mk' (HB0.out.below b4)
    clear HB0
    have Z8 := Hid.mk' (bel_next Z0.out b4)
    clear Z0
    have H9 : Hid (RL w1 a2 c3 []) := r5
    clear r5
    clear b4
    go_wp2_with fail
    refine (wmS_L H6.out H7.out).mono ?_
    rw [h1]
    rintro e w10 ⟨a11, c12, rfl, b13, r14⟩
    have H15 := Hid.mk' (H6.out.below b13)
    clear H6
    have H16 := Hid.mk' (H7.out.below b13)
    clear H7
    have H17 := Hid.mk' (H9.out.below b13)
    clear H9
    have Z18 := Hid.mk' (bel_next Z8.out b13)
    clear Z8
    have H19 : Hid (RL w10 a11 c12 []) := r14
    clear r14
    clear b13
    go_wp2_with fail
    refine (he_L H17.out H19.out).mono ?_
    rw [sq_same]
    rintro e w20 ⟨rfl, b21⟩
    have H22 := Hid.mk' (H15.out.below b21)
    clear H15
    have H23 := Hid.mk' (H16.out.below b21)
    clear H16
    have H24 := Hid.mk' (H17.out.below b21)
    clear H17
    have H25 := Hid.mk' (H19.out.below b21)
    clear H19
    have Z26 := Hid.mk' (bel_next Z18.out b21)
    clear Z18
    clear b21
    have hdd : (moL dgr A != moL dgr A) = false := by simp
    go_wp2_with fail
    refine (degI_L H22.out).mono ?_
    rintro e w27 ⟨rfl, b28⟩
    have H29 := Hid.mk' (H22.out.below b28)
    clear H22
    have H30 := Hid.mk' (H23.out.below b28)
    clear H23
    have H31 := Hid.mk' (H24.out.below b28)
    clear H24
    have H32 := Hid.mk' (H25.out.below b28)
    clear H25
    have Z33 := Hid.mk' (bel_next Z26.out b28)
    clear Z26
    clear b28
    go_wp2_with fail
    refine (degS_L2 H29.out).mono ?_
    rintro e w34 ⟨rfl, b35⟩
    have H36 := Hid.mk' (H29.out.below b35)
    clear H29
    have H37 := Hid.mk' (H30.out.below b35)
    clear H30
    have H38 := Hid.mk' (H31.out.below b35)
    clear H31
    have H39 := Hid.mk' (H32.out.below b35)
    clear H32
    have Z40 := Hid.mk' (bel_next Z33.out b35)
    clear Z33
    clear b35
    go_wp2_with fail
    refine (heOk_L _ ).mono ?_
    rintro e w41 ⟨rfl, b42⟩
    have H43 := Hid.mk' (H36.out.below b42)
    clear H36
    have H44 := Hid.mk' (H37.out.below b42)
    clear H37
    have H45 := Hid.mk' (H38.out.below b42)
    clear H38
    have H46 := Hid.mk' (H39.out.below b42)
    clear H39
    have Z47 := Hid.mk' (bel_next Z40.out b42)
    clear Z40
    clear b42
    go_wp2
    go_ret
    exact ⟨rfl, Z47.out⟩
  · go_wp2_with fail
    refine (wmI_L HA0.out HB0.out).mono ?_
    rw [h1]
    rintro e w48 ⟨a49, c50, rfl, b51, r52⟩
    have H53 := Hid.mk' (HA0.out.below b51)
    clear HA0
    have H54 := Hid.mk' (HB0.out.below b51)
    clear HB0
    have Z55 := Hid.mk' (bel_next Z0.out b51)
    clear Z0
    have H56 : Hid (RL w48 a49 c50 P) := r52
    clear r52
    clear b51
    go_wp2_with fail
    refine (wmS_L H53.out H54.out).mono ?_
    rw [h1]
    rintro e w57 ⟨a58, c59, rfl, b60, r61⟩
    have H62 := Hid.mk' (H53.out.below b60)
    clear H53
    have H63 := Hid.mk' (H54.out.below b60)
    clear H54
    have H64 := Hid.mk' (H56.out.below b60)
    clear H56
    have Z65 := Hid.mk' (bel_next Z55.out b60)
    clear Z55
    have H66 : Hid (RL w57 a58 c59 P) := r61
    clear r61
    clear b60
    go_wp2_with fail
    refine (he_L H64.out H66.out).mono ?_
    rw [sq_same]
    rintro e w67 ⟨rfl, b68⟩
    have H69 := Hid.mk' (H62.out.below b68)
    clear H62
    have H70 := Hid.mk' (H63.out.below b68)
    clear H63
    have H71 := Hid.mk' (H64.out.below b68)
    clear H64
    have H72 := Hid.mk' (H66.out.below b68)
    clear H66
    have Z73 := Hid.mk' (bel_next Z65.out b68)
    clear Z65
    clear b68
    have hdd : (moL dgr A != moL dgr A) = false := by simp
    go_wp2_with fail
    refine (degI_L H69.out).mono ?_
    rintro e w74 ⟨rfl, b75⟩
    have H76 := Hid.mk' (H69.out.below b75)
    clear H69
    have H77 := Hid.mk' (H70.out.below b75)
    clear H70
    have H78 := Hid.mk' (H71.out.below b75)
    clear H71
    have H79 := Hid.mk' (H72.out.below b75)
    clear H72
    have Z80 := Hid.mk' (bel_next Z73.out b75)
    clear Z73
    clear b75
    go_wp2_with fail
    refine (degS_L2 H76.out).mono ?_
    rintro e w81 ⟨rfl, b82⟩
    have H83 := Hid.mk' (H76.out.below b82)
    clear H76
    have H84 := Hid.mk' (H77.out.below b82)
    clear H77
    have H85 := Hid.mk' (H78.out.below b82)
    clear H78
    have H86 := Hid.mk' (H79.out.below b82)
    clear H79
    have Z87 := Hid.mk' (bel_next Z80.out b82)
    clear Z80
    clear b82
    by_cases eA : A = []
    · subst eA
      have eP := wm_zl h1
      subst eP
      go_wp2_with fail
      refine (heOk_L _ ).mono ?_
      rintro e w88 ⟨rfl, b89⟩
      have H90 := Hid.mk' (H83.out.below b89)
      clear H83
      have H91 := Hid.mk' (H84.out.below b89)
      clear H84
      have H92 := Hid.mk' (H85.out.below b89)
      clear H85
      have H93 := Hid.mk' (H86.out.below b89)
      clear H86
      have Z94 := Hid.mk' (bel_next Z87.out b89)
      clear Z87
      clear b89
      go_wp2
      go_ret
      exact ⟨rfl, Z94.out⟩
    · by_cases eB : B = []
      · subst eB
        have eP := wm_zr h1
        subst eP
        have hla : ((A.length : Int) == 0) = true ∨ ((A.length : Int) == 0) = false := by cases ((A.length : Int) == 0) <;> simp
        rcases hla with hla | hla
        · go_wp2_with fail
          refine (heOk_L _ ).mono ?_
          rintro e w95 ⟨rfl, b96⟩
          have H97 := Hid.mk' (H83.out.below b96)
          clear H83
          have H98 := Hid.mk' (H84.out.below b96)
          clear H84
          have H99 := Hid.mk' (H85.out.below b96)
          clear H85
          have H100 := Hid.mk' (H86.out.below b96)
          clear H86
          have Z101 := Hid.mk' (bel_next Z87.out b96)
          clear Z87
          clear b96
          go_wp2
          go_ret
          exact ⟨rfl, Z101.out⟩
        · go_wp2_with fail
          refine (heOk_L _ ).mono ?_
          rintro e w102 ⟨rfl, b103⟩
          have H104 := Hid.mk' (H83.out.below b103)
          clear H83
          have H105 := Hid.mk' (H84.out.below b103)
          clear H84
          have H106 := Hid.mk' (H85.out.below b103)
          clear H85
          have H107 := Hid.mk' (H86.out.below b103)
          clear H86
          have Z108 := Hid.mk' (bel_next Z87.out b103)
          clear Z87
          clear b103
          go_wp2
          go_ret
          exact ⟨rfl, Z108.out⟩
      · have hla : ((A.length : Int) == 0) = false := by have := List.length_pos_iff.2 eA; rw [beq_eq_false_iff_ne]; omega
        have hlb : ((B.length : Int) == 0) = false := by have := List.length_pos_iff.2 eB; rw [beq_eq_false_iff_ne]; omega
        have q1 := (mo_prod dgr_cnt dgr_nn h1 eA eB).2
        have q2 := (mo_prod slp_cnt slp_nn h1 eA eB).2
        have r1 := mo_bd dgr_hi (wm_args h1).1
        have r2 := mo_bd dgr_hi (wm_args h1).2
        have r3 := mo_bd slp_hi (wm_args h1).1
        have r4 := mo_bd slp_hi (wm_args h1).2
        go_wp2_with fail
        refine (degI_L H85.out).mono ?_
        rintro e w109 ⟨rfl, b110⟩
        have H111 := Hid.mk' (H83.out.below b110)
        clear H83
        have H112 := Hid.mk' (H84.out.below b110)
        clear H84
        have H113 := Hid.mk' (H85.out.below b110)
        clear H85
        have H114 := Hid.mk' (H86.out.below b110)
        clear H86
        have Z115 := Hid.mk' (bel_next Z87.out b110)
        clear Z87
        clear b110
        go_wp2_with fail
        refine (degI_L H111.out).mono ?_
        rintro e w116 ⟨rfl, b117⟩
        have H118 := Hid.mk' (H111.out.below b117)
        clear H111
        have H119 := Hid.mk' (H112.out.below b117)
        clear H112
        have H120 := Hid.mk' (H113.out.below b117)
        clear H113
        have H121 := Hid.mk' (H114.out.below b117)
        clear H114
        have Z122 := Hid.mk' (bel_next Z115.out b117)
        clear Z115
        clear b117
        go_wp2_with fail
        refine (degI_L H119.out).mono ?_
        rintro e w123 ⟨rfl, b124⟩
        have H125 := Hid.mk' (H118.out.below b124)
        clear H118
        have H126 := Hid.mk' (H119.out.below b124)
        clear H119
        have H127 := Hid.mk' (H120.out.below b124)
        clear H120
        have H128 := Hid.mk' (H121.out.below b124)
        clear H121
        have Z129 := Hid.mk' (bel_next Z122.out b124)
        clear Z122
        clear b124
        have v1 : (moL dgr P == IntKind.i64.wrap (moL dgr A + moL dgr B)) = true := by rw [q1, IntKind.wrap_i64, beq_iff_eq]; omega
        go_wp2_with fail
        refine (ordI_L H127.out).mono ?_
        rintro e w130 ⟨rfl, b131⟩
        have H132 := Hid.mk' (H125.out.below b131)
        clear H125
        have H133 := Hid.mk' (H126.out.below b131)
        clear H126
        have H134 := Hid.mk' (H127.out.below b131)
        clear H127
        have H135 := Hid.mk' (H128.out.below b131)
        clear H128
        have Z136 := Hid.mk' (bel_next Z129.out b131)
        clear Z129
        clear b131
        go_wp2_with fail
        refine (ordI_L H132.out).mono ?_
        rintro e w137 ⟨rfl, b138⟩
        have H139 := Hid.mk' (H132.out.below b138)
        clear H132
        have H140 := Hid.mk' (H133.out.below b138)
        clear H133
        have H141 := Hid.mk' (H134.out.below b138)
        clear H134
        have H142 := Hid.mk' (H135.out.below b138)
        clear H135
        have Z143 := Hid.mk' (bel_next Z136.out b138)
        clear Z136
        clear b138
        go_wp2_with fail
        refine (ordI_L H140.out).mono ?_
        rintro e w144 ⟨rfl, b145⟩
        have H146 := Hid.mk' (H139.out.below b145)
        clear H139
        have H147 := Hid.mk' (H140.out.below b145)
        clear H140
        have H148 := Hid.mk' (H141.out.below b145)
        clear H141
        have H149 := Hid.mk' (H142.out.below b145)
        clear H142
        have Z150 := Hid.mk' (bel_next Z143.out b145)
        clear Z143
        clear b145
        have v2 : (moL slp P == IntKind.i64.wrap (moL slp A + moL slp B)) = true := by rw [q2, IntKind.wrap_i64, beq_iff_eq]; omega
        go_wp2
        go_ret
        exact ⟨rfl, Z150.out⟩
end Go.Proofs.Ytlndccbgbclnhaa
