/-
  The walk of FnGrbTell: whatever the code, it comes out true, and nothing that was there is turned.
-/
import Derived.Test.YtncffcaabnjioaaGreatDrawIn
import Derived.Test.YtncffcaabnjioaaGreatGbL
import Derived.Test.YtncffcaabnjioaaGreatGbu
import Derived.Test.YtncffcaabnjioaaGreatGba
import Derived.Test.YtncffcaabnjioaaGreatGay
namespace Go.Proofs.YtncffcaabnjioaaGreat
open Go.RowKit
set_option linter.unusedVariables false
set_option maxRecDepth 100000 in
set_option maxHeartbeats 8000000 in
theorem walk_FnGrbTell (w : World) (a0 : Option Addr) (len0 cap0 : Nat) (s0 : Src w a0 len0 cap0) (a1 : Option Addr) (len1 cap1 : Nat) (s1 : Src w a1 len1 cap1) :
    Calls Tryz.prog 4 #[.slice a0 len0 cap0, .slice a1 len1 cap1] w fun e w' => e = .returned (.bool true) ∧ Below w.heap.size w w' := by
  by_cases c0 : (1048576 : Int) < (len0 : Int)
  · go_enter Tryz.func4, Tryz.ntmps4
    go_wp2
    go_ret
    exact ⟨rfl, Below.refl _ _⟩
  by_cases c1 : (1048576 : Int) < (len1 : Int)
  · go_enter Tryz.func4, Tryz.ntmps4
    go_wp2
    go_ret
    exact ⟨rfl, Below.refl _ _⟩
  go_enter Tryz.func4, Tryz.ntmps4
  go_wp2_with fail
  refine (drawGrbIn w a0 len0 cap0 s0).mono ?_
  rintro e wd ⟨o, pa, pc, p, la0, n, lc0, ad0, cp0, L, rfl, hP, hG, hlp, hln, hbd⟩
  have HP0 := Hid.mk' hP
  have HG0 := Hid.mk' hG
  have Z0 := Hid.mk' hbd
  have S1 := Hid.mk' (s1.below hbd)
  clear hP hG hbd s0 s1
  have hn5 : (n : Int) ≤ 12 := by omega
  have hp5 : (p.length : Int) ≤ 400 := by omega
  obtain ⟨R, hR⟩ : ∃ R, redAll o p n (lN L) (fN L) = R := ⟨_, rfl⟩
  have HR := Hid.mk' (hR)
  clear hR
  obtain ⟨gk, hgk⟩ : ∃ b, grbOk o n L = b := ⟨_, rfl⟩
  have HGK := Hid.mk' (hgk)
  clear hgk
  go_wp2_with fail
  refine (drawGrbIn wd a1 len1 cap1 S1.out).mono ?_
  rintro e we ⟨oq, qa, qc, q, lq, nq, lcq, adq, cpq, Lq9, rfl, hQ, hG9, hlq, hlnq, hbe⟩
  have HQ0 := Hid.mk' hQ
  have hq5 : (q.length : Int) ≤ 400 := by omega
  clear hQ hG9 S1
  have H1 := Hid.mk' (HP0.out.below hbe)
  clear HP0
  have H2 := Hid.mk' (HG0.out.below hbe)
  clear HG0
  have Z3 := Hid.mk' (bel_next Z0.out hbe)
  clear Z0
  clear hbe
  rcases R with _ | S
  · go_wp2_with fail
    refine (grbInI _ o _ _ _ _ n _ _ (lN L) _ (fN L) H1.out H2.out HR.out).mono ?_
    rw [show gin none = false from rfl]
    rintro e w4 ⟨rfl, b5⟩
    have H6 := Hid.mk' (H1.out.below b5)
    clear H1
    have H7 := Hid.mk' (H2.out.below b5)
    clear H2
    have H8 := Hid.mk' (HQ0.out.below b5)
    clear HQ0
    have Z9 := Hid.mk' (bel_next Z3.out b5)
    clear Z3
    clear b5
    go_wp2_with fail
    refine (grbInS _ o _ _ _ _ n _ _ (lN L) _ (fN L) H6.out H7.out HR.out).mono ?_
    rw [show gin none = false from rfl]
    rintro e w10 ⟨rfl, b11⟩
    have H12 := Hid.mk' (H6.out.below b11)
    clear H6
    have H13 := Hid.mk' (H7.out.below b11)
    clear H7
    have H14 := Hid.mk' (H8.out.below b11)
    clear H8
    have Z15 := Hid.mk' (bel_next Z9.out b11)
    clear Z9
    clear b11
    go_wp2_with fail
    refine (heOk_L _ ).mono ?_
    rintro e w16 ⟨rfl, b17⟩
    have H18 := Hid.mk' (H12.out.below b17)
    clear H12
    have H19 := Hid.mk' (H13.out.below b17)
    clear H13
    have H20 := Hid.mk' (H14.out.below b17)
    clear H14
    have Z21 := Hid.mk' (bel_next Z15.out b17)
    clear Z15
    clear b17
    go_wp2
    go_ret
    exact ⟨rfl, Z21.out⟩
  · by_cases hr0 : S.r = []
    · have HGI := Hid.mk' (gin_nil hr0)
      have HR0 := Hid.mk' (hr0)
      have hl0 : (S.r.length : Int) = 0 := by rw [hr0]; rfl
      have HL0 := Hid.mk' (hl0)
      have hq0 : ((S.r.length : Int) == 0) = true := by rw [hl0]; rfl
      clear hr0 hl0
      go_wp2_with fail
      refine (grbInI _ o _ _ _ _ n _ _ (lN L) _ (fN L) H1.out H2.out HR.out).mono ?_
      rw [HGI.out]
      rintro e w22 ⟨rfl, b23⟩
      have H24 := Hid.mk' (H1.out.below b23)
      clear H1
      have H25 := Hid.mk' (H2.out.below b23)
      clear H2
      have H26 := Hid.mk' (HQ0.out.below b23)
      clear HQ0
      have Z27 := Hid.mk' (bel_next Z3.out b23)
      clear Z3
      clear b23
      go_wp2_with fail
      refine (grbInS _ o _ _ _ _ n _ _ (lN L) _ (fN L) H24.out H25.out HR.out).mono ?_
      rw [HGI.out]
      rintro e w28 ⟨rfl, b29⟩
      have H30 := Hid.mk' (H24.out.below b29)
      clear H24
      have H31 := Hid.mk' (H25.out.below b29)
      clear H25
      have H32 := Hid.mk' (H26.out.below b29)
      clear H26
      have Z33 := Hid.mk' (bel_next Z27.out b29)
      clear Z27
      clear b29
      go_wp2_with fail
      refine (grbOkI _ o _ n _ _ _ L H31.out).mono ?_
      rw [HGK.out]
      rintro e w34 ⟨rfl, b35⟩
      have H36 := Hid.mk' (H30.out.below b35)
      clear H30
      have H37 := Hid.mk' (H31.out.below b35)
      clear H31
      have H38 := Hid.mk' (H32.out.below b35)
      clear H32
      have Z39 := Hid.mk' (bel_next Z33.out b35)
      clear Z33
      clear b35
      cases gk
      · go_wp2_with fail
        refine (heOk_L _ ).mono ?_
        rintro e w40 ⟨rfl, b41⟩
        have H42 := Hid.mk' (H36.out.below b41)
        clear H36
        have H43 := Hid.mk' (H37.out.below b41)
        clear H37
        have H44 := Hid.mk' (H38.out.below b41)
        clear H38
        have Z45 := Hid.mk' (bel_next Z39.out b41)
        clear Z39
        clear b41
        go_wp2
        go_ret
        exact ⟨rfl, Z45.out⟩
      · obtain ⟨hBas, ho3, hlst⟩ := bas_ok HGK.out
        have HBAS := Hid.mk' (hBas)
        clear hBas ho3 hlst
        obtain ⟨R2, hR2⟩ : ∃ R, redAll o q n (lN L) (fN L) = R := ⟨_, rfl⟩
        have HR2 := Hid.mk' (hR2)
        clear hR2
        obtain ⟨d, o3, h3⟩ : ∃ Q q9, subV p q = (Q, q9) := ⟨_, _, rfl⟩
        have H3 := Hid.mk' (h3)
        clear h3
        obtain ⟨R3, hR3⟩ : ∃ R, redAll o d n (lN L) (fN L) = R := ⟨_, rfl⟩
        have HR3 := Hid.mk' (hR3)
        clear hR3
        rcases R2 with _ | S2
        · go_wp2_with fail
          refine (redI_yes H36.out H37.out HR.out).mono ?_
          rintro e w46 ⟨qa47, qc48, ad49, cp50, la51, lc52, rfl, b53, hq54, hl55⟩
          have H56 := Hid.mk' (H36.out.below b53)
          clear H36
          have H57 := Hid.mk' (H37.out.below b53)
          clear H37
          have H58 := Hid.mk' (H38.out.below b53)
          clear H38
          have Z59 := Hid.mk' (bel_next Z39.out b53)
          clear Z39
          have H60 : Hid (RL w46 la51 lc52 S.r) := hl55
          clear hl55
          have H61 : Hid (RdS w46 qa47 n qc48 ad49 (lN S.q) cp50 (fN S.q)) := hq54
          clear hq54
          clear b53
          clear H61
          go_wp2_with fail
          refine (redI_no H58.out H57.out HR2.out).mono ?_
          rintro e w62 ⟨qa63, qc64, ad65, cp66, la67, lc68, rfl, b69, hq70, hl71⟩
          have H72 := Hid.mk' (H56.out.below b69)
          clear H56
          have H73 := Hid.mk' (H57.out.below b69)
          clear H57
          have H74 := Hid.mk' (H58.out.below b69)
          clear H58
          have H75 := Hid.mk' (H60.out.below b69)
          clear H60
          have Z76 := Hid.mk' (bel_next Z59.out b69)
          clear Z59
          have H77 : Hid (RL w62 la67 lc68 []) := hl71
          clear hl71
          have H78 : Hid (RdS w62 qa63 0 qc64 ad65 (lN (fun _ => [])) cp66 (fN (fun _ => []))) := hq70
          clear hq70
          clear b69
          go_wp2_with fail
          refine (subI_L H72.out H74.out).mono ?_
          rw [H3.out]
          rintro e w79 ⟨a80, c81, rfl, b82, r83⟩
          have H84 := Hid.mk' (H72.out.below b82)
          clear H72
          have H85 := Hid.mk' (H73.out.below b82)
          clear H73
          have H86 := Hid.mk' (H74.out.below b82)
          clear H74
          have H87 := Hid.mk' (H75.out.below b82)
          clear H75
          have H88 := Hid.mk' (H77.out.below b82)
          clear H77
          have H89 := Hid.mk' (H78.out.below b82)
          clear H78
          have Z90 := Hid.mk' (bel_next Z76.out b82)
          clear Z76
          have H91 : Hid (RL w79 a80 c81 d) := r83
          clear r83
          clear b82
          rcases R3 with _ | S3
          · go_wp2_with fail
            refine (grbInI _ o _ _ _ _ n _ _ (lN L) _ (fN L) H91.out H85.out HR3.out).mono ?_
            rw [show gin none = false from rfl]
            rintro e w92 ⟨rfl, b93⟩
            have H94 := Hid.mk' (H84.out.below b93)
            clear H84
            have H95 := Hid.mk' (H85.out.below b93)
            clear H85
            have H96 := Hid.mk' (H86.out.below b93)
            clear H86
            have H97 := Hid.mk' (H87.out.below b93)
            clear H87
            have H98 := Hid.mk' (H88.out.below b93)
            clear H88
            have H99 := Hid.mk' (H89.out.below b93)
            clear H89
            have H100 := Hid.mk' (H91.out.below b93)
            clear H91
            have Z101 := Hid.mk' (bel_next Z90.out b93)
            clear Z90
            clear b93
            go_wp2
            go_ret
            exact ⟨rfl, Z101.out⟩
          · obtain ⟨gg, hgg⟩ : ∃ b, gin (some S3) = b := ⟨_, rfl⟩
            have HGG := Hid.mk' (hgg)
            clear hgg
            go_wp2_with fail
            refine (grbInI _ o _ _ _ _ n _ _ (lN L) _ (fN L) H91.out H85.out HR3.out).mono ?_
            rw [HGG.out]
            rintro e w102 ⟨rfl, b103⟩
            have H104 := Hid.mk' (H84.out.below b103)
            clear H84
            have H105 := Hid.mk' (H85.out.below b103)
            clear H85
            have H106 := Hid.mk' (H86.out.below b103)
            clear H86
            have H107 := Hid.mk' (H87.out.below b103)
            clear H87
            have H108 := Hid.mk' (H88.out.below b103)
            clear H88
            have H109 := Hid.mk' (H89.out.below b103)
            clear H89
            have H110 := Hid.mk' (H91.out.below b103)
            clear H91
            have Z111 := Hid.mk' (bel_next Z90.out b103)
            clear Z90
            clear b103
            go_wp2
            go_ret
            exact ⟨rfl, Z111.out⟩
        · go_wp2_with fail
          refine (redI_yes H36.out H37.out HR.out).mono ?_
          rintro e w112 ⟨qa113, qc114, ad115, cp116, la117, lc118, rfl, b119, hq120, hl121⟩
          have H122 := Hid.mk' (H36.out.below b119)
          clear H36
          have H123 := Hid.mk' (H37.out.below b119)
          clear H37
          have H124 := Hid.mk' (H38.out.below b119)
          clear H38
          have Z125 := Hid.mk' (bel_next Z39.out b119)
          clear Z39
          have H126 : Hid (RL w112 la117 lc118 S.r) := hl121
          clear hl121
          have H127 : Hid (RdS w112 qa113 n qc114 ad115 (lN S.q) cp116 (fN S.q)) := hq120
          clear hq120
          clear b119
          clear H127
          go_wp2_with fail
          refine (redI_yes H124.out H123.out HR2.out).mono ?_
          rintro e w128 ⟨qa129, qc130, ad131, cp132, la133, lc134, rfl, b135, hq136, hl137⟩
          have H138 := Hid.mk' (H122.out.below b135)
          clear H122
          have H139 := Hid.mk' (H123.out.below b135)
          clear H123
          have H140 := Hid.mk' (H124.out.below b135)
          clear H124
          have H141 := Hid.mk' (H126.out.below b135)
          clear H126
          have Z142 := Hid.mk' (bel_next Z125.out b135)
          clear Z125
          have H143 : Hid (RL w128 la133 lc134 S2.r) := hl137
          clear hl137
          have H144 : Hid (RdS w128 qa129 n qc130 ad131 (lN S2.q) cp132 (fN S2.q)) := hq136
          clear hq136
          clear b135
          clear H144
          go_wp2_with fail
          refine (subI_L H138.out H140.out).mono ?_
          rw [H3.out]
          rintro e w145 ⟨a146, c147, rfl, b148, r149⟩
          have H150 := Hid.mk' (H138.out.below b148)
          clear H138
          have H151 := Hid.mk' (H139.out.below b148)
          clear H139
          have H152 := Hid.mk' (H140.out.below b148)
          clear H140
          have H153 := Hid.mk' (H141.out.below b148)
          clear H141
          have H154 := Hid.mk' (H143.out.below b148)
          clear H143
          have Z155 := Hid.mk' (bel_next Z142.out b148)
          clear Z142
          have H156 : Hid (RL w145 a146 c147 d) := r149
          clear r149
          clear b148
          rcases R3 with _ | S3
          · go_wp2_with fail
            refine (grbInI _ o _ _ _ _ n _ _ (lN L) _ (fN L) H156.out H151.out HR3.out).mono ?_
            rw [show gin none = false from rfl]
            rintro e w157 ⟨rfl, b158⟩
            have H159 := Hid.mk' (H150.out.below b158)
            clear H150
            have H160 := Hid.mk' (H151.out.below b158)
            clear H151
            have H161 := Hid.mk' (H152.out.below b158)
            clear H152
            have H162 := Hid.mk' (H153.out.below b158)
            clear H153
            have H163 := Hid.mk' (H154.out.below b158)
            clear H154
            have H164 := Hid.mk' (H156.out.below b158)
            clear H156
            have Z165 := Hid.mk' (bel_next Z155.out b158)
            clear Z155
            clear b158
            cases o3
            · go_wp2
              go_ret
              exact ⟨rfl, Z165.out⟩
            · go_wp2
              go_ret
              exact ⟨rfl, Z165.out⟩
          · cases o3
            · obtain ⟨gg, hgg⟩ : ∃ b, gin (some S3) = b := ⟨_, rfl⟩
              have HGG := Hid.mk' (hgg)
              clear hgg
              go_wp2_with fail
              refine (grbInI _ o _ _ _ _ n _ _ (lN L) _ (fN L) H156.out H151.out HR3.out).mono ?_
              rw [HGG.out]
              rintro e w166 ⟨rfl, b167⟩
              have H168 := Hid.mk' (H150.out.below b167)
              clear H150
              have H169 := Hid.mk' (H151.out.below b167)
              clear H151
              have H170 := Hid.mk' (H152.out.below b167)
              clear H152
              have H171 := Hid.mk' (H153.out.below b167)
              clear H153
              have H172 := Hid.mk' (H154.out.below b167)
              clear H154
              have H173 := Hid.mk' (H156.out.below b167)
              clear H156
              have Z174 := Hid.mk' (bel_next Z155.out b167)
              clear Z155
              clear b167
              go_wp2
              go_ret
              exact ⟨rfl, Z174.out⟩
            · have HLAW := Hid.mk' (law_tell HBAS.out HR.out HR2.out H3.out HR3.out)
              obtain ⟨gg, hgg⟩ : ∃ b, sq S.r S2.r = b := ⟨_, rfl⟩
              have HGG := Hid.mk' (hgg)
              have HGI3 := Hid.mk' (HLAW.out.trans hgg)
              clear hgg
              go_wp2_with fail
              refine (grbInI _ o _ _ _ _ n _ _ (lN L) _ (fN L) H156.out H151.out HR3.out).mono ?_
              rw [HGI3.out]
              rintro e w175 ⟨rfl, b176⟩
              have H177 := Hid.mk' (H150.out.below b176)
              clear H150
              have H178 := Hid.mk' (H151.out.below b176)
              clear H151
              have H179 := Hid.mk' (H152.out.below b176)
              clear H152
              have H180 := Hid.mk' (H153.out.below b176)
              clear H153
              have H181 := Hid.mk' (H154.out.below b176)
              clear H154
              have H182 := Hid.mk' (H156.out.below b176)
              clear H156
              have Z183 := Hid.mk' (bel_next Z155.out b176)
              clear Z155
              clear b176
              go_wp2_with fail
              refine (he_L H180.out H181.out).mono ?_
              rw [HGG.out]
              rintro e w184 ⟨rfl, b185⟩
              have H186 := Hid.mk' (H177.out.below b185)
              clear H177
              have H187 := Hid.mk' (H178.out.below b185)
              clear H178
              have H188 := Hid.mk' (H179.out.below b185)
              clear H179
              have H189 := Hid.mk' (H180.out.below b185)
              clear H180
              have H190 := Hid.mk' (H181.out.below b185)
              clear H181
              have H191 := Hid.mk' (H182.out.below b185)
              clear H182
              have Z192 := Hid.mk' (bel_next Z183.out b185)
              clear Z183
              clear b185
              have hgb : (gg == gg) = true := by simp
              go_wp2
              go_ret
              exact ⟨rfl, Z192.out⟩
    · have HGI := Hid.mk' (gin_not hr0)
      have hq0 : ((S.r.length : Int) == 0) = false := beq_eq_false_iff_ne.2 (fun e => hr0 (List.length_eq_zero_iff.1 (by omega)))
      clear hr0
      go_wp2_with fail
      refine (grbInI _ o _ _ _ _ n _ _ (lN L) _ (fN L) H1.out H2.out HR.out).mono ?_
      rw [HGI.out]
      rintro e w193 ⟨rfl, b194⟩
      have H195 := Hid.mk' (H1.out.below b194)
      clear H1
      have H196 := Hid.mk' (H2.out.below b194)
      clear H2
      have H197 := Hid.mk' (HQ0.out.below b194)
      clear HQ0
      have Z198 := Hid.mk' (bel_next Z3.out b194)
      clear Z3
      clear b194
      go_wp2_with fail
      refine (grbInS _ o _ _ _ _ n _ _ (lN L) _ (fN L) H195.out H196.out HR.out).mono ?_
      rw [HGI.out]
      rintro e w199 ⟨rfl, b200⟩
      have H201 := Hid.mk' (H195.out.below b200)
      clear H195
      have H202 := Hid.mk' (H196.out.below b200)
      clear H196
      have H203 := Hid.mk' (H197.out.below b200)
      clear H197
      have Z204 := Hid.mk' (bel_next Z198.out b200)
      clear Z198
      clear b200
      go_wp2_with fail
      refine (grbOkI _ o _ n _ _ _ L H202.out).mono ?_
      rw [HGK.out]
      rintro e w205 ⟨rfl, b206⟩
      have H207 := Hid.mk' (H201.out.below b206)
      clear H201
      have H208 := Hid.mk' (H202.out.below b206)
      clear H202
      have H209 := Hid.mk' (H203.out.below b206)
      clear H203
      have Z210 := Hid.mk' (bel_next Z204.out b206)
      clear Z204
      clear b206
      cases gk
      · go_wp2_with fail
        refine (heOk_L _ ).mono ?_
        rintro e w211 ⟨rfl, b212⟩
        have H213 := Hid.mk' (H207.out.below b212)
        clear H207
        have H214 := Hid.mk' (H208.out.below b212)
        clear H208
        have H215 := Hid.mk' (H209.out.below b212)
        clear H209
        have Z216 := Hid.mk' (bel_next Z210.out b212)
        clear Z210
        clear b212
        go_wp2
        go_ret
        exact ⟨rfl, Z216.out⟩
      · obtain ⟨hBas, ho3, hlst⟩ := bas_ok HGK.out
        have HBAS := Hid.mk' (hBas)
        clear hBas ho3 hlst
        obtain ⟨R2, hR2⟩ : ∃ R, redAll o q n (lN L) (fN L) = R := ⟨_, rfl⟩
        have HR2 := Hid.mk' (hR2)
        clear hR2
        obtain ⟨d, o3, h3⟩ : ∃ Q q9, subV p q = (Q, q9) := ⟨_, _, rfl⟩
        have H3 := Hid.mk' (h3)
        clear h3
        obtain ⟨R3, hR3⟩ : ∃ R, redAll o d n (lN L) (fN L) = R := ⟨_, rfl⟩
        have HR3 := Hid.mk' (hR3)
        clear hR3
        rcases R2 with _ | S2
        · go_wp2_with fail
          refine (redI_yes H207.out H208.out HR.out).mono ?_
          rintro e w217 ⟨qa218, qc219, ad220, cp221, la222, lc223, rfl, b224, hq225, hl226⟩
          have H227 := Hid.mk' (H207.out.below b224)
          clear H207
          have H228 := Hid.mk' (H208.out.below b224)
          clear H208
          have H229 := Hid.mk' (H209.out.below b224)
          clear H209
          have Z230 := Hid.mk' (bel_next Z210.out b224)
          clear Z210
          have H231 : Hid (RL w217 la222 lc223 S.r) := hl226
          clear hl226
          have H232 : Hid (RdS w217 qa218 n qc219 ad220 (lN S.q) cp221 (fN S.q)) := hq225
          clear hq225
          clear b224
          clear H232
          go_wp2_with fail
          refine (redI_no H229.out H228.out HR2.out).mono ?_
          rintro e w233 ⟨qa234, qc235, ad236, cp237, la238, lc239, rfl, b240, hq241, hl242⟩
          have H243 := Hid.mk' (H227.out.below b240)
          clear H227
          have H244 := Hid.mk' (H228.out.below b240)
          clear H228
          have H245 := Hid.mk' (H229.out.below b240)
          clear H229
          have H246 := Hid.mk' (H231.out.below b240)
          clear H231
          have Z247 := Hid.mk' (bel_next Z230.out b240)
          clear Z230
          have H248 : Hid (RL w233 la238 lc239 []) := hl242
          clear hl242
          have H249 : Hid (RdS w233 qa234 0 qc235 ad236 (lN (fun _ => [])) cp237 (fN (fun _ => []))) := hq241
          clear hq241
          clear b240
          go_wp2_with fail
          refine (subI_L H243.out H245.out).mono ?_
          rw [H3.out]
          rintro e w250 ⟨a251, c252, rfl, b253, r254⟩
          have H255 := Hid.mk' (H243.out.below b253)
          clear H243
          have H256 := Hid.mk' (H244.out.below b253)
          clear H244
          have H257 := Hid.mk' (H245.out.below b253)
          clear H245
          have H258 := Hid.mk' (H246.out.below b253)
          clear H246
          have H259 := Hid.mk' (H248.out.below b253)
          clear H248
          have H260 := Hid.mk' (H249.out.below b253)
          clear H249
          have Z261 := Hid.mk' (bel_next Z247.out b253)
          clear Z247
          have H262 : Hid (RL w250 a251 c252 d) := r254
          clear r254
          clear b253
          rcases R3 with _ | S3
          · go_wp2_with fail
            refine (grbInI _ o _ _ _ _ n _ _ (lN L) _ (fN L) H262.out H256.out HR3.out).mono ?_
            rw [show gin none = false from rfl]
            rintro e w263 ⟨rfl, b264⟩
            have H265 := Hid.mk' (H255.out.below b264)
            clear H255
            have H266 := Hid.mk' (H256.out.below b264)
            clear H256
            have H267 := Hid.mk' (H257.out.below b264)
            clear H257
            have H268 := Hid.mk' (H258.out.below b264)
            clear H258
            have H269 := Hid.mk' (H259.out.below b264)
            clear H259
            have H270 := Hid.mk' (H260.out.below b264)
            clear H260
            have H271 := Hid.mk' (H262.out.below b264)
            clear H262
            have Z272 := Hid.mk' (bel_next Z261.out b264)
            clear Z261
            clear b264
            go_wp2
            go_ret
            exact ⟨rfl, Z272.out⟩
          · obtain ⟨gg, hgg⟩ : ∃ b, gin (some S3) = b := ⟨_, rfl⟩
            have HGG := Hid.mk' (hgg)
            clear hgg
            go_wp2_with fail
            refine (grbInI _ o _ _ _ _ n _ _ (lN L) _ (fN L) H262.out H256.out HR3.out).mono ?_
            rw [HGG.out]
            rintro e w273 ⟨rfl, b274⟩
            have H275 := Hid.mk' (H255.out.below b274)
            clear H255
            have H276 := Hid.mk' (H256.out.below b274)
            clear H256
            have H277 := Hid.mk' (H257.out.below b274)
            clear H257
            have H278 := Hid.mk' (H258.out.below b274)
            clear H258
            have H279 := Hid.mk' (H259.out.below b274)
            clear H259
            have H280 := Hid.mk' (H260.out.below b274)
            clear H260
            have H281 := Hid.mk' (H262.out.below b274)
            clear H262
            have Z282 := Hid.mk' (bel_next Z261.out b274)
            clear Z261
            clear b274
            go_wp2
            go_ret
            exact ⟨rfl, Z282.out⟩
        · go_wp2_with fail
          refine (redI_yes H207.out H208.out HR.out).mono ?_
          rintro e w283 ⟨qa284, qc285, ad286, cp287, la288, lc289, rfl, b290, hq291, hl292⟩
          have H293 := Hid.mk' (H207.out.below b290)
          clear H207
          have H294 := Hid.mk' (H208.out.below b290)
          clear H208
          have H295 := Hid.mk' (H209.out.below b290)
          clear H209
          have Z296 := Hid.mk' (bel_next Z210.out b290)
          clear Z210
          have H297 : Hid (RL w283 la288 lc289 S.r) := hl292
          clear hl292
          have H298 : Hid (RdS w283 qa284 n qc285 ad286 (lN S.q) cp287 (fN S.q)) := hq291
          clear hq291
          clear b290
          clear H298
          go_wp2_with fail
          refine (redI_yes H295.out H294.out HR2.out).mono ?_
          rintro e w299 ⟨qa300, qc301, ad302, cp303, la304, lc305, rfl, b306, hq307, hl308⟩
          have H309 := Hid.mk' (H293.out.below b306)
          clear H293
          have H310 := Hid.mk' (H294.out.below b306)
          clear H294
          have H311 := Hid.mk' (H295.out.below b306)
          clear H295
          have H312 := Hid.mk' (H297.out.below b306)
          clear H297
          have Z313 := Hid.mk' (bel_next Z296.out b306)
          clear Z296
          have H314 : Hid (RL w299 la304 lc305 S2.r) := hl308
          clear hl308
          have H315 : Hid (RdS w299 qa300 n qc301 ad302 (lN S2.q) cp303 (fN S2.q)) := hq307
          clear hq307
          clear b306
          clear H315
          go_wp2_with fail
          refine (subI_L H309.out H311.out).mono ?_
          rw [H3.out]
          rintro e w316 ⟨a317, c318, rfl, b319, r320⟩
          have H321 := Hid.mk' (H309.out.below b319)
          clear H309
          have H322 := Hid.mk' (H310.out.below b319)
          clear H310
          have H323 := Hid.mk' (H311.out.below b319)
          clear H311
          have H324 := Hid.mk' (H312.out.below b319)
          clear H312
          have H325 := Hid.mk' (H314.out.below b319)
          clear H314
          have Z326 := Hid.mk' (bel_next Z313.out b319)
          clear Z313
          have H327 : Hid (RL w316 a317 c318 d) := r320
          clear r320
          clear b319
          rcases R3 with _ | S3
          · go_wp2_with fail
            refine (grbInI _ o _ _ _ _ n _ _ (lN L) _ (fN L) H327.out H322.out HR3.out).mono ?_
            rw [show gin none = false from rfl]
            rintro e w328 ⟨rfl, b329⟩
            have H330 := Hid.mk' (H321.out.below b329)
            clear H321
            have H331 := Hid.mk' (H322.out.below b329)
            clear H322
            have H332 := Hid.mk' (H323.out.below b329)
            clear H323
            have H333 := Hid.mk' (H324.out.below b329)
            clear H324
            have H334 := Hid.mk' (H325.out.below b329)
            clear H325
            have H335 := Hid.mk' (H327.out.below b329)
            clear H327
            have Z336 := Hid.mk' (bel_next Z326.out b329)
            clear Z326
            clear b329
            cases o3
            · go_wp2
              go_ret
              exact ⟨rfl, Z336.out⟩
            · go_wp2
              go_ret
              exact ⟨rfl, Z336.out⟩
          · cases o3
            · obtain ⟨gg, hgg⟩ : ∃ b, gin (some S3) = b := ⟨_, rfl⟩
              have HGG := Hid.mk' (hgg)
              clear hgg
              go_wp2_with fail
              refine (grbInI _ o _ _ _ _ n _ _ (lN L) _ (fN L) H327.out H322.out HR3.out).mono ?_
              rw [HGG.out]
              rintro e w337 ⟨rfl, b338⟩
              have H339 := Hid.mk' (H321.out.below b338)
              clear H321
              have H340 := Hid.mk' (H322.out.below b338)
              clear H322
              have H341 := Hid.mk' (H323.out.below b338)
              clear H323
              have H342 := Hid.mk' (H324.out.below b338)
              clear H324
              have H343 := Hid.mk' (H325.out.below b338)
              clear H325
              have H344 := Hid.mk' (H327.out.below b338)
              clear H327
              have Z345 := Hid.mk' (bel_next Z326.out b338)
              clear Z326
              clear b338
              go_wp2
              go_ret
              exact ⟨rfl, Z345.out⟩
            · have HLAW := Hid.mk' (law_tell HBAS.out HR.out HR2.out H3.out HR3.out)
              obtain ⟨gg, hgg⟩ : ∃ b, sq S.r S2.r = b := ⟨_, rfl⟩
              have HGG := Hid.mk' (hgg)
              have HGI3 := Hid.mk' (HLAW.out.trans hgg)
              clear hgg
              go_wp2_with fail
              refine (grbInI _ o _ _ _ _ n _ _ (lN L) _ (fN L) H327.out H322.out HR3.out).mono ?_
              rw [HGI3.out]
              rintro e w346 ⟨rfl, b347⟩
              have H348 := Hid.mk' (H321.out.below b347)
              clear H321
              have H349 := Hid.mk' (H322.out.below b347)
              clear H322
              have H350 := Hid.mk' (H323.out.below b347)
              clear H323
              have H351 := Hid.mk' (H324.out.below b347)
              clear H324
              have H352 := Hid.mk' (H325.out.below b347)
              clear H325
              have H353 := Hid.mk' (H327.out.below b347)
              clear H327
              have Z354 := Hid.mk' (bel_next Z326.out b347)
              clear Z326
              clear b347
              go_wp2_with fail
              refine (he_L H351.out H352.out).mono ?_
              rw [HGG.out]
              rintro e w355 ⟨rfl, b356⟩
              have H357 := Hid.mk' (H348.out.below b356)
              clear H348
              have H358 := Hid.mk' (H349.out.below b356)
              clear H349
              have H359 := Hid.mk' (H350.out.below b356)
              clear H350
              have H360 := Hid.mk' (H351.out.below b356)
              clear H351
              have H361 := Hid.mk' (H352.out.below b356)
              clear H352
              have H362 := Hid.mk' (H353.out.below b356)
              clear H353
              have Z363 := Hid.mk' (bel_next Z354.out b356)
              clear Z354
              clear b356
              have hgb : (gg == gg) = true := by simp
              go_wp2
              go_ret
              exact ⟨rfl, Z363.out⟩
end Go.Proofs.YtncffcaabnjioaaGreat
