/-
  The walk of FnGrbLeft: whatever the code, it comes out true, and nothing that was there is turned.
-/
import Derived.Test.YtncffcaabnjioaaGreatDrawIn
import Derived.Test.YtncffcaabnjioaaGreatGbL
import Derived.Test.YtncffcaabnjioaaGreatGbu
import Derived.Test.YtncffcaabnjioaaGreatGba
import Derived.Test.YtncffcaabnjioaaGreatGay
namespace Go.Proofs.YtncffcaabnjioaaGreat
open Go.RowKit
set_option linter.unusedVariables false
set_option maxRecDepth 100000 in
set_option maxHeartbeats 8000000 in
theorem walk_FnGrbLeft (w : World) (a0 : Option Addr) (len0 cap0 : Nat) (s0 : Src w a0 len0 cap0) (a1 : Option Addr) (len1 cap1 : Nat) (s1 : Src w a1 len1 cap1) :
    Calls Tryz.prog 7 #[.slice a0 len0 cap0, .slice a1 len1 cap1] w fun e w' => e = .returned (.bool true) ∧ Below w.heap.size w w' := by
  by_cases c0 : (1048576 : Int) < (len0 : Int)
  · go_enter Tryz.func7, Tryz.ntmps7
    go_wp2
    go_ret
    exact ⟨rfl, Below.refl _ _⟩
  by_cases c1 : (1048576 : Int) < (len1 : Int)
  · go_enter Tryz.func7, Tryz.ntmps7
    go_wp2
    go_ret
    exact ⟨rfl, Below.refl _ _⟩
  go_enter Tryz.func7, Tryz.ntmps7
  go_wp2_with fail
  refine (drawGrbIn w a0 len0 cap0 s0).mono ?_
  rintro e wd ⟨o, pa, pc, p, la0, n, lc0, ad0, cp0, L, rfl, hP, hG, hlp, hln, hbd⟩
  have HP0 := Hid.mk' hP
  have HG0 := Hid.mk' hG
  have Z0 := Hid.mk' hbd
  have S1 := Hid.mk' (s1.below hbd)
  clear hP hG hbd s0 s1
  have hn5 : (n : Int) ≤ 12 := by omega
  have hp5 : (p.length : Int) ≤ 400 := by omega
  obtain ⟨R, hR⟩ : ∃ R, redAll o p n (lN L) (fN L) = R := ⟨_, rfl⟩
  have HR := Hid.mk' (hR)
  clear hR
  obtain ⟨gk, hgk⟩ : ∃ b, grbOk o n L = b := ⟨_, rfl⟩
  have HGK := Hid.mk' (hgk)
  clear hgk
  go_wp2_with fail
  refine (drawWylMul wd a1 len1 cap1 S1.out).mono ?_
  rintro e we ⟨dc, dcc, C, dd, dcd, D, rfl, hC, hD, hlC, hlD, hbe⟩
  have HC0 := Hid.mk' hC
  clear hC hD S1
  have H1 := Hid.mk' (HP0.out.below hbe)
  clear HP0
  have H2 := Hid.mk' (HG0.out.below hbe)
  clear HG0
  have Z3 := Hid.mk' (bel_next Z0.out hbe)
  clear Z0
  clear hbe
  obtain ⟨X, o1, h1⟩ : ∃ Q q, wmV C p = (Q, q) := ⟨_, _, rfl⟩
  have KW1 := Hid.mk' (h1)
  clear h1
  rcases R with _ | S
  · go_wp2_with fail
    refine (grbInI _ o _ _ _ _ n _ _ (lN L) _ (fN L) H1.out H2.out HR.out).mono ?_
    rw [show gin none = false from rfl]
    rintro e w4 ⟨rfl, b5⟩
    have H6 := Hid.mk' (H1.out.below b5)
    clear H1
    have H7 := Hid.mk' (H2.out.below b5)
    clear H2
    have H8 := Hid.mk' (HC0.out.below b5)
    clear HC0
    have Z9 := Hid.mk' (bel_next Z3.out b5)
    clear Z3
    clear b5
    go_wp2_with fail
    refine (grbInS _ o _ _ _ _ n _ _ (lN L) _ (fN L) H6.out H7.out HR.out).mono ?_
    rw [show gin none = false from rfl]
    rintro e w10 ⟨rfl, b11⟩
    have H12 := Hid.mk' (H6.out.below b11)
    clear H6
    have H13 := Hid.mk' (H7.out.below b11)
    clear H7
    have H14 := Hid.mk' (H8.out.below b11)
    clear H8
    have Z15 := Hid.mk' (bel_next Z9.out b11)
    clear Z9
    clear b11
    go_wp2_with fail
    refine (wmI_L H14.out H12.out).mono ?_
    rw [KW1.out]
    rintro e w16 ⟨a17, c18, rfl, b19, r20⟩
    have H21 := Hid.mk' (H12.out.below b19)
    clear H12
    have H22 := Hid.mk' (H13.out.below b19)
    clear H13
    have H23 := Hid.mk' (H14.out.below b19)
    clear H14
    have Z24 := Hid.mk' (bel_next Z15.out b19)
    clear Z15
    have H25 : Hid (RL w16 a17 c18 X) := r20
    clear r20
    clear b19
    go_wp2_with fail
    refine (heOk_L _ ).mono ?_
    rintro e w26 ⟨rfl, b27⟩
    have H28 := Hid.mk' (H21.out.below b27)
    clear H21
    have H29 := Hid.mk' (H22.out.below b27)
    clear H22
    have H30 := Hid.mk' (H23.out.below b27)
    clear H23
    have H31 := Hid.mk' (H25.out.below b27)
    clear H25
    have Z32 := Hid.mk' (bel_next Z24.out b27)
    clear Z24
    clear b27
    go_wp2
    go_ret
    exact ⟨rfl, Z32.out⟩
  · by_cases hr0 : S.r = []
    · have HGI := Hid.mk' (gin_nil hr0)
      have HR0 := Hid.mk' (hr0)
      have hl0 : (S.r.length : Int) = 0 := by rw [hr0]; rfl
      have HL0 := Hid.mk' (hl0)
      have hq0 : ((S.r.length : Int) == 0) = true := by rw [hl0]; rfl
      clear hr0 hl0
      go_wp2_with fail
      refine (grbInI _ o _ _ _ _ n _ _ (lN L) _ (fN L) H1.out H2.out HR.out).mono ?_
      rw [HGI.out]
      rintro e w33 ⟨rfl, b34⟩
      have H35 := Hid.mk' (H1.out.below b34)
      clear H1
      have H36 := Hid.mk' (H2.out.below b34)
      clear H2
      have H37 := Hid.mk' (HC0.out.below b34)
      clear HC0
      have Z38 := Hid.mk' (bel_next Z3.out b34)
      clear Z3
      clear b34
      go_wp2_with fail
      refine (grbInS _ o _ _ _ _ n _ _ (lN L) _ (fN L) H35.out H36.out HR.out).mono ?_
      rw [HGI.out]
      rintro e w39 ⟨rfl, b40⟩
      have H41 := Hid.mk' (H35.out.below b40)
      clear H35
      have H42 := Hid.mk' (H36.out.below b40)
      clear H36
      have H43 := Hid.mk' (H37.out.below b40)
      clear H37
      have Z44 := Hid.mk' (bel_next Z38.out b40)
      clear Z38
      clear b40
      go_wp2_with fail
      refine (wmI_L H43.out H41.out).mono ?_
      rw [KW1.out]
      rintro e w45 ⟨a46, c47, rfl, b48, r49⟩
      have H50 := Hid.mk' (H41.out.below b48)
      clear H41
      have H51 := Hid.mk' (H42.out.below b48)
      clear H42
      have H52 := Hid.mk' (H43.out.below b48)
      clear H43
      have Z53 := Hid.mk' (bel_next Z44.out b48)
      clear Z44
      have H54 : Hid (RL w45 a46 c47 X) := r49
      clear r49
      clear b48
      cases o1
      · go_wp2_with fail
        refine (heOk_L _ ).mono ?_
        rintro e w55 ⟨rfl, b56⟩
        have H57 := Hid.mk' (H50.out.below b56)
        clear H50
        have H58 := Hid.mk' (H51.out.below b56)
        clear H51
        have H59 := Hid.mk' (H52.out.below b56)
        clear H52
        have H60 := Hid.mk' (H54.out.below b56)
        clear H54
        have Z61 := Hid.mk' (bel_next Z53.out b56)
        clear Z53
        clear b56
        go_wp2
        go_ret
        exact ⟨rfl, Z61.out⟩
      · go_wp2_with fail
        refine (grbOkI _ o _ n _ _ _ L H51.out).mono ?_
        rw [HGK.out]
        rintro e w62 ⟨rfl, b63⟩
        have H64 := Hid.mk' (H50.out.below b63)
        clear H50
        have H65 := Hid.mk' (H51.out.below b63)
        clear H51
        have H66 := Hid.mk' (H52.out.below b63)
        clear H52
        have H67 := Hid.mk' (H54.out.below b63)
        clear H54
        have Z68 := Hid.mk' (bel_next Z53.out b63)
        clear Z53
        clear b63
        cases gk
        · go_wp2_with fail
          refine (heOk_L _ ).mono ?_
          rintro e w69 ⟨rfl, b70⟩
          have H71 := Hid.mk' (H64.out.below b70)
          clear H64
          have H72 := Hid.mk' (H65.out.below b70)
          clear H65
          have H73 := Hid.mk' (H66.out.below b70)
          clear H66
          have H74 := Hid.mk' (H67.out.below b70)
          clear H67
          have Z75 := Hid.mk' (bel_next Z68.out b70)
          clear Z68
          clear b70
          go_wp2
          go_ret
          exact ⟨rfl, Z75.out⟩
        · obtain ⟨hBas, ho3, hlst⟩ := bas_ok HGK.out
          have HBAS := Hid.mk' (hBas)
          clear hBas ho3 hlst
          obtain ⟨R2, hR2⟩ : ∃ R, redAll o X n (lN L) (fN L) = R := ⟨_, rfl⟩
          have HR2 := Hid.mk' (hR2)
          clear hR2
          rcases R2 with _ | D2
          · go_wp2_with fail
            refine (grbInI _ o _ _ _ _ n _ _ (lN L) _ (fN L) H67.out H65.out HR2.out).mono ?_
            rw [show gin none = false from rfl]
            rintro e w76 ⟨rfl, b77⟩
            have H78 := Hid.mk' (H64.out.below b77)
            clear H64
            have H79 := Hid.mk' (H65.out.below b77)
            clear H65
            have H80 := Hid.mk' (H66.out.below b77)
            clear H66
            have H81 := Hid.mk' (H67.out.below b77)
            clear H67
            have Z82 := Hid.mk' (bel_next Z68.out b77)
            clear Z68
            clear b77
            go_wp2
            go_ret
            exact ⟨rfl, Z82.out⟩
          · have HLAW := Hid.mk' (law_left HBAS.out HR.out HR0.out KW1.out HR2.out)
            go_wp2_with fail
            refine (grbInI _ o _ _ _ _ n _ _ (lN L) _ (fN L) H67.out H65.out HR2.out).mono ?_
            rw [HLAW.out]
            rintro e w83 ⟨rfl, b84⟩
            have H85 := Hid.mk' (H64.out.below b84)
            clear H64
            have H86 := Hid.mk' (H65.out.below b84)
            clear H65
            have H87 := Hid.mk' (H66.out.below b84)
            clear H66
            have H88 := Hid.mk' (H67.out.below b84)
            clear H67
            have Z89 := Hid.mk' (bel_next Z68.out b84)
            clear Z68
            clear b84
            go_wp2
            go_ret
            exact ⟨rfl, Z89.out⟩
    · have HGI := Hid.mk' (gin_not hr0)
      have hq0 : ((S.r.length : Int) == 0) = false := beq_eq_false_iff_ne.2 (fun e => hr0 (List.length_eq_zero_iff.1 (by omega)))
      clear hr0
      go_wp2_with fail
      refine (grbInI _ o _ _ _ _ n _ _ (lN L) _ (fN L) H1.out H2.out HR.out).mono ?_
      rw [HGI.out]
      rintro e w90 ⟨rfl, b91⟩
      have H92 := Hid.mk' (H1.out.below b91)
      clear H1
      have H93 := Hid.mk' (H2.out.below b91)
      clear H2
      have H94 := Hid.mk' (HC0.out.below b91)
      clear HC0
      have Z95 := Hid.mk' (bel_next Z3.out b91)
      clear Z3
      clear b91
      go_wp2_with fail
      refine (grbInS _ o _ _ _ _ n _ _ (lN L) _ (fN L) H92.out H93.out HR.out).mono ?_
      rw [HGI.out]
      rintro e w96 ⟨rfl, b97⟩
      have H98 := Hid.mk' (H92.out.below b97)
      clear H92
      have H99 := Hid.mk' (H93.out.below b97)
      clear H93
      have H100 := Hid.mk' (H94.out.below b97)
      clear H94
      have Z101 := Hid.mk' (bel_next Z95.out b97)
      clear Z95
      clear b97
      go_wp2_with fail
      refine (wmI_L H100.out H98.out).mono ?_
      rw [KW1.out]
      rintro e w102 ⟨a103, c104, rfl, b105, r106⟩
      have H107 := Hid.mk' (H98.out.below b105)
      clear H98
      have H108 := Hid.mk' (H99.out.below b105)
      clear H99
      have H109 := Hid.mk' (H100.out.below b105)
      clear H100
      have Z110 := Hid.mk' (bel_next Z101.out b105)
      clear Z101
      have H111 : Hid (RL w102 a103 c104 X) := r106
      clear r106
      clear b105
      go_wp2_with fail
      refine (heOk_L _ ).mono ?_
      rintro e w112 ⟨rfl, b113⟩
      have H114 := Hid.mk' (H107.out.below b113)
      clear H107
      have H115 := Hid.mk' (H108.out.below b113)
      clear H108
      have H116 := Hid.mk' (H109.out.below b113)
      clear H109
      have H117 := Hid.mk' (H111.out.below b113)
      clear H111
      have Z118 := Hid.mk' (bel_next Z110.out b113)
      clear Z110
      clear b113
      go_wp2
      go_ret
      exact ⟨rfl, Z118.out⟩
end Go.Proofs.YtncffcaabnjioaaGreat
