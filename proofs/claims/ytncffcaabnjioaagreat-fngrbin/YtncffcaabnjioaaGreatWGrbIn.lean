/-
  The walk of FnGrbIn: whatever the code, it comes out true, and nothing that was there is turned.
-/
import Derived.Test.YtncffcaabnjioaaGreatDrawIn
import Derived.Test.YtncffcaabnjioaaGreatGbL
import Derived.Test.YtncffcaabnjioaaGreatGbu
import Derived.Test.YtncffcaabnjioaaGreatGba
import Derived.Test.YtncffcaabnjioaaGreatGay
namespace Go.Proofs.YtncffcaabnjioaaGreat
open Go.RowKit
set_option linter.unusedVariables false
set_option maxRecDepth 100000 in
set_option maxHeartbeats 8000000 in
theorem walk_FnGrbIn (w : World) (a0 : Option Addr) (len0 cap0 : Nat) (s0 : Src w a0 len0 cap0) (a1 : Option Addr) (len1 cap1 : Nat) (s1 : Src w a1 len1 cap1) :
    Calls Tryz.prog 3 #[.slice a0 len0 cap0, .slice a1 len1 cap1] w fun e w' => e = .returned (.bool true) ∧ Below w.heap.size w w' := by
  by_cases c0 : (1048576 : Int) < (len0 : Int)
  · go_enter Tryz.func3, Tryz.ntmps3
    go_wp2
    go_ret
    exact ⟨rfl, Below.refl _ _⟩
  by_cases c1 : (1048576 : Int) < (len1 : Int)
  · go_enter Tryz.func3, Tryz.ntmps3
    go_wp2
    go_ret
    exact ⟨rfl, Below.refl _ _⟩
  go_enter Tryz.func3, Tryz.ntmps3
  go_wp2_with fail
  refine (drawGrbIn w a0 len0 cap0 s0).mono ?_
  rintro e wd ⟨o, pa, pc, p, la0, n, lc0, ad0, cp0, L, rfl, hP, hG, hlp, hln, hbd⟩
  have HP0 := Hid.mk' hP
  have HG0 := Hid.mk' hG
  have Z0 := Hid.mk' hbd
  have S1 := Hid.mk' (s1.below hbd)
  clear hP hG hbd s0 s1
  have hn5 : (n : Int) ≤ 12 := by omega
  have hp5 : (p.length : Int) ≤ 400 := by omega
  obtain ⟨R, hR⟩ : ∃ R, redAll o p n (lN L) (fN L) = R := ⟨_, rfl⟩
  have HR := Hid.mk' (hR)
  clear hR
  obtain ⟨gk, hgk⟩ : ∃ b, grbOk o n L = b := ⟨_, rfl⟩
  have HGK := Hid.mk' (hgk)
  clear hgk
  rcases R with _ | S
  · go_wp2_with fail
    refine (grbInI _ o _ _ _ _ n _ _ (lN L) _ (fN L) HP0.out HG0.out HR.out).mono ?_
    rw [show gin none = false from rfl]
    rintro e w1 ⟨rfl, b2⟩
    have H3 := Hid.mk' (HP0.out.below b2)
    clear HP0
    have H4 := Hid.mk' (HG0.out.below b2)
    clear HG0
    have X5 := Hid.mk' (S1.out.below b2)
    clear S1
    have Z6 := Hid.mk' (bel_next Z0.out b2)
    clear Z0
    clear b2
    go_wp2_with fail
    refine (grbInS _ o _ _ _ _ n _ _ (lN L) _ (fN L) H3.out H4.out HR.out).mono ?_
    rw [show gin none = false from rfl]
    rintro e w7 ⟨rfl, b8⟩
    have H9 := Hid.mk' (H3.out.below b8)
    clear H3
    have H10 := Hid.mk' (H4.out.below b8)
    clear H4
    have X11 := Hid.mk' (X5.out.below b8)
    clear X5
    have Z12 := Hid.mk' (bel_next Z6.out b8)
    clear Z6
    clear b8
    go_wp2_with fail
    refine (redI_no H9.out H10.out HR.out).mono ?_
    rintro e w13 ⟨qa14, qc15, ad16, cp17, la18, lc19, rfl, b20, hq21, hl22⟩
    have H23 := Hid.mk' (H9.out.below b20)
    clear H9
    have H24 := Hid.mk' (H10.out.below b20)
    clear H10
    have X25 := Hid.mk' (X11.out.below b20)
    clear X11
    have Z26 := Hid.mk' (bel_next Z12.out b20)
    clear Z12
    have H27 : Hid (RL w13 la18 lc19 []) := hl22
    clear hl22
    have H28 : Hid (RdS w13 qa14 0 qc15 ad16 (lN (fun _ => [])) cp17 (fN (fun _ => []))) := hq21
    clear hq21
    clear b20
    clear H28
    clear H27
    go_wp2_with fail
    refine (grbOkI _ o _ n _ _ _ L H24.out).mono ?_
    rw [HGK.out]
    rintro e w29 ⟨rfl, b30⟩
    have H31 := Hid.mk' (H23.out.below b30)
    clear H23
    have H32 := Hid.mk' (H24.out.below b30)
    clear H24
    have X33 := Hid.mk' (X25.out.below b30)
    clear X25
    have Z34 := Hid.mk' (bel_next Z26.out b30)
    clear Z26
    clear b30
    cases gk
    · go_wp2_with fail
      refine (heOk_L _ ).mono ?_
      rintro e w35 ⟨rfl, b36⟩
      have H37 := Hid.mk' (H31.out.below b36)
      clear H31
      have H38 := Hid.mk' (H32.out.below b36)
      clear H32
      have X39 := Hid.mk' (X33.out.below b36)
      clear X33
      have Z40 := Hid.mk' (bel_next Z34.out b36)
      clear Z34
      clear b36
      go_wp2
      go_ret
      exact ⟨rfl, Z40.out⟩
    · obtain ⟨hBas, ho3, hlst⟩ := bas_ok HGK.out
      have HBAS := Hid.mk' (hBas)
      clear hBas ho3 hlst
      by_cases hn0 : n = 0
      · have hn00 : ((n : Int) == 0) = true := by rw [hn0]; rfl
        clear hn0
        go_wp2_with fail
        refine (heOk_L _ ).mono ?_
        rintro e w41 ⟨rfl, b42⟩
        have H43 := Hid.mk' (H31.out.below b42)
        clear H31
        have H44 := Hid.mk' (H32.out.below b42)
        clear H32
        have X45 := Hid.mk' (X33.out.below b42)
        clear X33
        have Z46 := Hid.mk' (bel_next Z34.out b42)
        clear Z34
        clear b42
        go_wp2
        go_ret
        exact ⟨rfl, Z46.out⟩
      · have hn00 : ((n : Int) == 0) = false := beq_eq_false_iff_ne.2 (by omega)
        have hn0p : (0 : Int) < (n : Int) := by omega
        go_wp2_with fail
        refine (drawWylMul w29 a1 len1 cap1 X33.out).mono ?_
        rintro e we ⟨dc, dcc, C, dd, dcd, D, rfl, hC, hD, hlC, hlD, hbe⟩
        have HC0 := Hid.mk' hC
        clear hC hD X33
        have H47 := Hid.mk' (H31.out.below hbe)
        clear H31
        have H48 := Hid.mk' (H32.out.below hbe)
        clear H32
        have Z49 := Hid.mk' (bel_next Z34.out hbe)
        clear Z34
        clear hbe
        obtain ⟨k, hk⟩ : ∃ k : Nat, (len0 : Int).tmod (n : Int) = (k : Int) := ⟨((len0 : Int).tmod (n : Int)).toNat, by have := (tmod_bd (x := (len0 : Int)) (n := (n : Int)) (by omega) (by omega)).1; omega⟩
        have hkn : k < n := by have := (tmod_bd (x := (len0 : Int)) (n := (n : Int)) (by omega) (by omega)).2; omega
        have hkI : (k : Int) < (n : Int) := by omega
        have hwk : IntKind.i64.wrap (k : Int) = (k : Int) := by rw [IntKind.wrap_i64]; omega
        obtain ⟨m, hm⟩ : ∃ m : Nat, m + 1 = n := ⟨n - 1, by omega⟩
        have hmn : m < n := by omega
        have hmI : (m : Int) < (n : Int) := by omega
        have hwm : IntKind.i64.wrap ((n : Int) - 1) = (m : Int) := by rw [IntKind.wrap_i64]; omega
        have hwm2 : (n : Int) - 1 = (m : Int) := by omega
        clear hm
        obtain ⟨lb, off, rfl, hlb, hcl⟩ := H48.out.2.2.1.resolve_left hn0
        have g0 : we.cell? ⟨lb, off + k, none⟩ = some (.slice (ad0 k) (L k).length (cp0 k)) := hcl k hkn
        have HE : Hid (RL we (ad0 k) (cp0 k) (L k)) := H48.out.2.2.2 k hkn
        clear hcl hlb
        obtain ⟨X, o1, h1⟩ : ∃ Q q, wmV C (L k) = (Q, q) := ⟨_, _, rfl⟩
        have H1 := Hid.mk' (h1)
        clear h1
        go_wp2_with fail
        refine (wmI_L HC0.out HE.out).mono ?_
        rw [H1.out]
        rintro e w50 ⟨a51, c52, rfl, b53, r54⟩
        have H55 := Hid.mk' (H47.out.below b53)
        clear H47
        have H56 := Hid.mk' (H48.out.below b53)
        clear H48
        have H57 := Hid.mk' (HC0.out.below b53)
        clear HC0
        have H58 := Hid.mk' (HE.out.below b53)
        clear HE
        have Z59 := Hid.mk' (bel_next Z49.out b53)
        clear Z49
        have H60 : Hid (RL w50 a51 c52 X) := r54
        clear r54
        clear b53
        clear g0
        obtain ⟨lb2, off2, e2, hlb2, hcl2⟩ := H56.out.2.2.1.resolve_left hn0
        cases e2
        have g1 : w50.cell? ⟨lb, off + m, none⟩ = some (.slice (ad0 m) (L m).length (cp0 m)) := hcl2 m hmn
        have HE2 : Hid (RL w50 (ad0 m) (cp0 m) (L m)) := H56.out.2.2.2 m hmn
        clear hcl2 hlb2
        obtain ⟨Y, o2, h2⟩ : ∃ Q q, wmV p (L m) = (Q, q) := ⟨_, _, rfl⟩
        have H2 := Hid.mk' (h2)
        clear h2
        go_wp2_with fail
        refine (wmI_L H55.out HE2.out).mono ?_
        rw [H2.out]
        rintro e w61 ⟨a62, c63, rfl, b64, r65⟩
        have H66 := Hid.mk' (H55.out.below b64)
        clear H55
        have H67 := Hid.mk' (H56.out.below b64)
        clear H56
        have H68 := Hid.mk' (H57.out.below b64)
        clear H57
        have H69 := Hid.mk' (H58.out.below b64)
        clear H58
        have H70 := Hid.mk' (H60.out.below b64)
        clear H60
        have H71 := Hid.mk' (HE2.out.below b64)
        clear HE2
        have Z72 := Hid.mk' (bel_next Z59.out b64)
        clear Z59
        have H73 : Hid (RL w61 a62 c63 Y) := r65
        clear r65
        clear b64
        clear g1
        obtain ⟨Q3, o3, h3⟩ : ∃ Q q, addV X Y = (Q, q) := ⟨_, _, rfl⟩
        have H3 := Hid.mk' (h3)
        clear h3
        go_wp2_with fail
        refine (addI_L H70.out H73.out).mono ?_
        rw [H3.out]
        rintro e w74 ⟨a75, c76, rfl, b77, r78⟩
        have H79 := Hid.mk' (H66.out.below b77)
        clear H66
        have H80 := Hid.mk' (H67.out.below b77)
        clear H67
        have H81 := Hid.mk' (H68.out.below b77)
        clear H68
        have H82 := Hid.mk' (H69.out.below b77)
        clear H69
        have H83 := Hid.mk' (H70.out.below b77)
        clear H70
        have H84 := Hid.mk' (H71.out.below b77)
        clear H71
        have H85 := Hid.mk' (H73.out.below b77)
        clear H73
        have Z86 := Hid.mk' (bel_next Z72.out b77)
        clear Z72
        have H87 : Hid (RL w74 a75 c76 Q3) := r78
        clear r78
        clear b77
        cases o1
        · go_wp2_with fail
          refine (heOk_L _ ).mono ?_
          rintro e w88 ⟨rfl, b89⟩
          have H90 := Hid.mk' (H79.out.below b89)
          clear H79
          have H91 := Hid.mk' (H80.out.below b89)
          clear H80
          have H92 := Hid.mk' (H81.out.below b89)
          clear H81
          have H93 := Hid.mk' (H82.out.below b89)
          clear H82
          have H94 := Hid.mk' (H83.out.below b89)
          clear H83
          have H95 := Hid.mk' (H84.out.below b89)
          clear H84
          have H96 := Hid.mk' (H85.out.below b89)
          clear H85
          have H97 := Hid.mk' (H87.out.below b89)
          clear H87
          have Z98 := Hid.mk' (bel_next Z86.out b89)
          clear Z86
          clear b89
          go_wp2
          go_ret
          exact ⟨rfl, Z98.out⟩
        · cases o2
          · go_wp2_with fail
            refine (heOk_L _ ).mono ?_
            rintro e w99 ⟨rfl, b100⟩
            have H101 := Hid.mk' (H79.out.below b100)
            clear H79
            have H102 := Hid.mk' (H80.out.below b100)
            clear H80
            have H103 := Hid.mk' (H81.out.below b100)
            clear H81
            have H104 := Hid.mk' (H82.out.below b100)
            clear H82
            have H105 := Hid.mk' (H83.out.below b100)
            clear H83
            have H106 := Hid.mk' (H84.out.below b100)
            clear H84
            have H107 := Hid.mk' (H85.out.below b100)
            clear H85
            have H108 := Hid.mk' (H87.out.below b100)
            clear H87
            have Z109 := Hid.mk' (bel_next Z86.out b100)
            clear Z86
            clear b100
            go_wp2
            go_ret
            exact ⟨rfl, Z109.out⟩
          · cases o3
            · go_wp2_with fail
              refine (heOk_L _ ).mono ?_
              rintro e w110 ⟨rfl, b111⟩
              have H112 := Hid.mk' (H79.out.below b111)
              clear H79
              have H113 := Hid.mk' (H80.out.below b111)
              clear H80
              have H114 := Hid.mk' (H81.out.below b111)
              clear H81
              have H115 := Hid.mk' (H82.out.below b111)
              clear H82
              have H116 := Hid.mk' (H83.out.below b111)
              clear H83
              have H117 := Hid.mk' (H84.out.below b111)
              clear H84
              have H118 := Hid.mk' (H85.out.below b111)
              clear H85
              have H119 := Hid.mk' (H87.out.below b111)
              clear H87
              have Z120 := Hid.mk' (bel_next Z86.out b111)
              clear Z86
              clear b111
              go_wp2
              go_ret
              exact ⟨rfl, Z120.out⟩
            · obtain ⟨R2, hR2⟩ : ∃ R, redAll o Q3 n (lN L) (fN L) = R := ⟨_, rfl⟩
              have HR2 := Hid.mk' (hR2)
              clear hR2
              rcases R2 with _ | D2
              · go_wp2_with fail
                refine (grbInI _ o _ _ _ _ n _ _ (lN L) _ (fN L) H87.out H80.out HR2.out).mono ?_
                rw [show gin none = false from rfl]
                rintro e w121 ⟨rfl, b122⟩
                have H123 := Hid.mk' (H79.out.below b122)
                clear H79
                have H124 := Hid.mk' (H80.out.below b122)
                clear H80
                have H125 := Hid.mk' (H81.out.below b122)
                clear H81
                have H126 := Hid.mk' (H82.out.below b122)
                clear H82
                have H127 := Hid.mk' (H83.out.below b122)
                clear H83
                have H128 := Hid.mk' (H84.out.below b122)
                clear H84
                have H129 := Hid.mk' (H85.out.below b122)
                clear H85
                have H130 := Hid.mk' (H87.out.below b122)
                clear H87
                have Z131 := Hid.mk' (bel_next Z86.out b122)
                clear Z86
                clear b122
                go_wp2
                go_ret
                exact ⟨rfl, Z131.out⟩
              · have HLAW := Hid.mk' (law_in HBAS.out hkn hmn H1.out H2.out H3.out HR2.out)
                go_wp2_with fail
                refine (grbInI _ o _ _ _ _ n _ _ (lN L) _ (fN L) H87.out H80.out HR2.out).mono ?_
                rw [HLAW.out]
                rintro e w132 ⟨rfl, b133⟩
                have H134 := Hid.mk' (H79.out.below b133)
                clear H79
                have H135 := Hid.mk' (H80.out.below b133)
                clear H80
                have H136 := Hid.mk' (H81.out.below b133)
                clear H81
                have H137 := Hid.mk' (H82.out.below b133)
                clear H82
                have H138 := Hid.mk' (H83.out.below b133)
                clear H83
                have H139 := Hid.mk' (H84.out.below b133)
                clear H84
                have H140 := Hid.mk' (H85.out.below b133)
                clear H85
                have H141 := Hid.mk' (H87.out.below b133)
                clear H87
                have Z142 := Hid.mk' (bel_next Z86.out b133)
                clear Z86
                clear b133
                go_wp2
                go_ret
                exact ⟨rfl, Z142.out⟩
  · by_cases hr0 : S.r = []
    · have HGI := Hid.mk' (gin_nil hr0)
      have HR0 := Hid.mk' (hr0)
      have hl0 : (S.r.length : Int) = 0 := by rw [hr0]; rfl
      have HL0 := Hid.mk' (hl0)
      have hq0 : ((S.r.length : Int) == 0) = true := by rw [hl0]; rfl
      clear hr0 hl0
      go_wp2_with fail
      refine (grbInI _ o _ _ _ _ n _ _ (lN L) _ (fN L) HP0.out HG0.out HR.out).mono ?_
      rw [HGI.out]
      rintro e w143 ⟨rfl, b144⟩
      have H145 := Hid.mk' (HP0.out.below b144)
      clear HP0
      have H146 := Hid.mk' (HG0.out.below b144)
      clear HG0
      have X147 := Hid.mk' (S1.out.below b144)
      clear S1
      have Z148 := Hid.mk' (bel_next Z0.out b144)
      clear Z0
      clear b144
      go_wp2_with fail
      refine (grbInS _ o _ _ _ _ n _ _ (lN L) _ (fN L) H145.out H146.out HR.out).mono ?_
      rw [HGI.out]
      rintro e w149 ⟨rfl, b150⟩
      have H151 := Hid.mk' (H145.out.below b150)
      clear H145
      have H152 := Hid.mk' (H146.out.below b150)
      clear H146
      have X153 := Hid.mk' (X147.out.below b150)
      clear X147
      have Z154 := Hid.mk' (bel_next Z148.out b150)
      clear Z148
      clear b150
      go_wp2_with fail
      refine (redI_yes H151.out H152.out HR.out).mono ?_
      rintro e w155 ⟨qa156, qc157, ad158, cp159, la160, lc161, rfl, b162, hq163, hl164⟩
      have H165 := Hid.mk' (H151.out.below b162)
      clear H151
      have H166 := Hid.mk' (H152.out.below b162)
      clear H152
      have X167 := Hid.mk' (X153.out.below b162)
      clear X153
      have Z168 := Hid.mk' (bel_next Z154.out b162)
      clear Z154
      have H169 : Hid (RL w155 la160 lc161 S.r) := hl164
      clear hl164
      have H170 : Hid (RdS w155 qa156 n qc157 ad158 (lN S.q) cp159 (fN S.q)) := hq163
      clear hq163
      clear b162
      clear H170
      clear H169
      go_wp2_with fail
      refine (grbOkI _ o _ n _ _ _ L H166.out).mono ?_
      rw [HGK.out]
      rintro e w171 ⟨rfl, b172⟩
      have H173 := Hid.mk' (H165.out.below b172)
      clear H165
      have H174 := Hid.mk' (H166.out.below b172)
      clear H166
      have X175 := Hid.mk' (X167.out.below b172)
      clear X167
      have Z176 := Hid.mk' (bel_next Z168.out b172)
      clear Z168
      clear b172
      cases gk
      · go_wp2_with fail
        refine (heOk_L _ ).mono ?_
        rintro e w177 ⟨rfl, b178⟩
        have H179 := Hid.mk' (H173.out.below b178)
        clear H173
        have H180 := Hid.mk' (H174.out.below b178)
        clear H174
        have X181 := Hid.mk' (X175.out.below b178)
        clear X175
        have Z182 := Hid.mk' (bel_next Z176.out b178)
        clear Z176
        clear b178
        go_wp2
        go_ret
        exact ⟨rfl, Z182.out⟩
      · obtain ⟨hBas, ho3, hlst⟩ := bas_ok HGK.out
        have HBAS := Hid.mk' (hBas)
        clear hBas ho3 hlst
        by_cases hn0 : n = 0
        · have hn00 : ((n : Int) == 0) = true := by rw [hn0]; rfl
          clear hn0
          go_wp2_with fail
          refine (heOk_L _ ).mono ?_
          rintro e w183 ⟨rfl, b184⟩
          have H185 := Hid.mk' (H173.out.below b184)
          clear H173
          have H186 := Hid.mk' (H174.out.below b184)
          clear H174
          have X187 := Hid.mk' (X175.out.below b184)
          clear X175
          have Z188 := Hid.mk' (bel_next Z176.out b184)
          clear Z176
          clear b184
          go_wp2
          go_ret
          exact ⟨rfl, Z188.out⟩
        · have hn00 : ((n : Int) == 0) = false := beq_eq_false_iff_ne.2 (by omega)
          have hn0p : (0 : Int) < (n : Int) := by omega
          go_wp2_with fail
          refine (drawWylMul w171 a1 len1 cap1 X175.out).mono ?_
          rintro e we ⟨dc, dcc, C, dd, dcd, D, rfl, hC, hD, hlC, hlD, hbe⟩
          have HC0 := Hid.mk' hC
          clear hC hD X175
          have H189 := Hid.mk' (H173.out.below hbe)
          clear H173
          have H190 := Hid.mk' (H174.out.below hbe)
          clear H174
          have Z191 := Hid.mk' (bel_next Z176.out hbe)
          clear Z176
          clear hbe
          obtain ⟨k, hk⟩ : ∃ k : Nat, (len0 : Int).tmod (n : Int) = (k : Int) := ⟨((len0 : Int).tmod (n : Int)).toNat, by have := (tmod_bd (x := (len0 : Int)) (n := (n : Int)) (by omega) (by omega)).1; omega⟩
          have hkn : k < n := by have := (tmod_bd (x := (len0 : Int)) (n := (n : Int)) (by omega) (by omega)).2; omega
          have hkI : (k : Int) < (n : Int) := by omega
          have hwk : IntKind.i64.wrap (k : Int) = (k : Int) := by rw [IntKind.wrap_i64]; omega
          obtain ⟨m, hm⟩ : ∃ m : Nat, m + 1 = n := ⟨n - 1, by omega⟩
          have hmn : m < n := by omega
          have hmI : (m : Int) < (n : Int) := by omega
          have hwm : IntKind.i64.wrap ((n : Int) - 1) = (m : Int) := by rw [IntKind.wrap_i64]; omega
          have hwm2 : (n : Int) - 1 = (m : Int) := by omega
          clear hm
          obtain ⟨lb, off, rfl, hlb, hcl⟩ := H190.out.2.2.1.resolve_left hn0
          have g0 : we.cell? ⟨lb, off + k, none⟩ = some (.slice (ad0 k) (L k).length (cp0 k)) := hcl k hkn
          have HE : Hid (RL we (ad0 k) (cp0 k) (L k)) := H190.out.2.2.2 k hkn
          clear hcl hlb
          obtain ⟨X, o1, h1⟩ : ∃ Q q, wmV C (L k) = (Q, q) := ⟨_, _, rfl⟩
          have H1 := Hid.mk' (h1)
          clear h1
          go_wp2_with fail
          refine (wmI_L HC0.out HE.out).mono ?_
          rw [H1.out]
          rintro e w192 ⟨a193, c194, rfl, b195, r196⟩
          have H197 := Hid.mk' (H189.out.below b195)
          clear H189
          have H198 := Hid.mk' (H190.out.below b195)
          clear H190
          have H199 := Hid.mk' (HC0.out.below b195)
          clear HC0
          have H200 := Hid.mk' (HE.out.below b195)
          clear HE
          have Z201 := Hid.mk' (bel_next Z191.out b195)
          clear Z191
          have H202 : Hid (RL w192 a193 c194 X) := r196
          clear r196
          clear b195
          clear g0
          obtain ⟨lb2, off2, e2, hlb2, hcl2⟩ := H198.out.2.2.1.resolve_left hn0
          cases e2
          have g1 : w192.cell? ⟨lb, off + m, none⟩ = some (.slice (ad0 m) (L m).length (cp0 m)) := hcl2 m hmn
          have HE2 : Hid (RL w192 (ad0 m) (cp0 m) (L m)) := H198.out.2.2.2 m hmn
          clear hcl2 hlb2
          obtain ⟨Y, o2, h2⟩ : ∃ Q q, wmV p (L m) = (Q, q) := ⟨_, _, rfl⟩
          have H2 := Hid.mk' (h2)
          clear h2
          go_wp2_with fail
          refine (wmI_L H197.out HE2.out).mono ?_
          rw [H2.out]
          rintro e w203 ⟨a204, c205, rfl, b206, r207⟩
          have H208 := Hid.mk' (H197.out.below b206)
          clear H197
          have H209 := Hid.mk' (H198.out.below b206)
          clear H198
          have H210 := Hid.mk' (H199.out.below b206)
          clear H199
          have H211 := Hid.mk' (H200.out.below b206)
          clear H200
          have H212 := Hid.mk' (H202.out.below b206)
          clear H202
          have H213 := Hid.mk' (HE2.out.below b206)
          clear HE2
          have Z214 := Hid.mk' (bel_next Z201.out b206)
          clear Z201
          have H215 : Hid (RL w203 a204 c205 Y) := r207
          clear r207
          clear b206
          clear g1
          obtain ⟨Q3, o3, h3⟩ : ∃ Q q, addV X Y = (Q, q) := ⟨_, _, rfl⟩
          have H3 := Hid.mk' (h3)
          clear h3
          go_wp2_with fail
          refine (addI_L H212.out H215.out).mono ?_
          rw [H3.out]
          rintro e w216 ⟨a217, c218, rfl, b219, r220⟩
          have H221 := Hid.mk' (H208.out.below b219)
          clear H208
          have H222 := Hid.mk' (H209.out.below b219)
          clear H209
          have H223 := Hid.mk' (H210.out.below b219)
          clear H210
          have H224 := Hid.mk' (H211.out.below b219)
          clear H211
          have H225 := Hid.mk' (H212.out.below b219)
          clear H212
          have H226 := Hid.mk' (H213.out.below b219)
          clear H213
          have H227 := Hid.mk' (H215.out.below b219)
          clear H215
          have Z228 := Hid.mk' (bel_next Z214.out b219)
          clear Z214
          have H229 : Hid (RL w216 a217 c218 Q3) := r220
          clear r220
          clear b219
          cases o1
          · go_wp2_with fail
            refine (heOk_L _ ).mono ?_
            rintro e w230 ⟨rfl, b231⟩
            have H232 := Hid.mk' (H221.out.below b231)
            clear H221
            have H233 := Hid.mk' (H222.out.below b231)
            clear H222
            have H234 := Hid.mk' (H223.out.below b231)
            clear H223
            have H235 := Hid.mk' (H224.out.below b231)
            clear H224
            have H236 := Hid.mk' (H225.out.below b231)
            clear H225
            have H237 := Hid.mk' (H226.out.below b231)
            clear H226
            have H238 := Hid.mk' (H227.out.below b231)
            clear H227
            have H239 := Hid.mk' (H229.out.below b231)
            clear H229
            have Z240 := Hid.mk' (bel_next Z228.out b231)
            clear Z228
            clear b231
            go_wp2
            go_ret
            exact ⟨rfl, Z240.out⟩
          · cases o2
            · go_wp2_with fail
              refine (heOk_L _ ).mono ?_
              rintro e w241 ⟨rfl, b242⟩
              have H243 := Hid.mk' (H221.out.below b242)
              clear H221
              have H244 := Hid.mk' (H222.out.below b242)
              clear H222
              have H245 := Hid.mk' (H223.out.below b242)
              clear H223
              have H246 := Hid.mk' (H224.out.below b242)
              clear H224
              have H247 := Hid.mk' (H225.out.below b242)
              clear H225
              have H248 := Hid.mk' (H226.out.below b242)
              clear H226
              have H249 := Hid.mk' (H227.out.below b242)
              clear H227
              have H250 := Hid.mk' (H229.out.below b242)
              clear H229
              have Z251 := Hid.mk' (bel_next Z228.out b242)
              clear Z228
              clear b242
              go_wp2
              go_ret
              exact ⟨rfl, Z251.out⟩
            · cases o3
              · go_wp2_with fail
                refine (heOk_L _ ).mono ?_
                rintro e w252 ⟨rfl, b253⟩
                have H254 := Hid.mk' (H221.out.below b253)
                clear H221
                have H255 := Hid.mk' (H222.out.below b253)
                clear H222
                have H256 := Hid.mk' (H223.out.below b253)
                clear H223
                have H257 := Hid.mk' (H224.out.below b253)
                clear H224
                have H258 := Hid.mk' (H225.out.below b253)
                clear H225
                have H259 := Hid.mk' (H226.out.below b253)
                clear H226
                have H260 := Hid.mk' (H227.out.below b253)
                clear H227
                have H261 := Hid.mk' (H229.out.below b253)
                clear H229
                have Z262 := Hid.mk' (bel_next Z228.out b253)
                clear Z228
                clear b253
                go_wp2
                go_ret
                exact ⟨rfl, Z262.out⟩
              · obtain ⟨R2, hR2⟩ : ∃ R, redAll o Q3 n (lN L) (fN L) = R := ⟨_, rfl⟩
                have HR2 := Hid.mk' (hR2)
                clear hR2
                rcases R2 with _ | D2
                · go_wp2_with fail
                  refine (grbInI _ o _ _ _ _ n _ _ (lN L) _ (fN L) H229.out H222.out HR2.out).mono ?_
                  rw [show gin none = false from rfl]
                  rintro e w263 ⟨rfl, b264⟩
                  have H265 := Hid.mk' (H221.out.below b264)
                  clear H221
                  have H266 := Hid.mk' (H222.out.below b264)
                  clear H222
                  have H267 := Hid.mk' (H223.out.below b264)
                  clear H223
                  have H268 := Hid.mk' (H224.out.below b264)
                  clear H224
                  have H269 := Hid.mk' (H225.out.below b264)
                  clear H225
                  have H270 := Hid.mk' (H226.out.below b264)
                  clear H226
                  have H271 := Hid.mk' (H227.out.below b264)
                  clear H227
                  have H272 := Hid.mk' (H229.out.below b264)
                  clear H229
                  have Z273 := Hid.mk' (bel_next Z228.out b264)
                  clear Z228
                  clear b264
                  go_wp2
                  go_ret
                  exact ⟨rfl, Z273.out⟩
                · have HLAW := Hid.mk' (law_in HBAS.out hkn hmn H1.out H2.out H3.out HR2.out)
                  go_wp2_with fail
                  refine (grbInI _ o _ _ _ _ n _ _ (lN L) _ (fN L) H229.out H222.out HR2.out).mono ?_
                  rw [HLAW.out]
                  rintro e w274 ⟨rfl, b275⟩
                  have H276 := Hid.mk' (H221.out.below b275)
                  clear H221
                  have H277 := Hid.mk' (H222.out.below b275)
                  clear H222
                  have H278 := Hid.mk' (H223.out.below b275)
                  clear H223
                  have H279 := Hid.mk' (H224.out.below b275)
                  clear H224
                  have H280 := Hid.mk' (H225.out.below b275)
                  clear H225
                  have H281 := Hid.mk' (H226.out.below b275)
                  clear H226
                  have H282 := Hid.mk' (H227.out.below b275)
                  clear H227
                  have H283 := Hid.mk' (H229.out.below b275)
                  clear H229
                  have Z284 := Hid.mk' (bel_next Z228.out b275)
                  clear Z228
                  clear b275
                  go_wp2
                  go_ret
                  exact ⟨rfl, Z284.out⟩
    · have HGI := Hid.mk' (gin_not hr0)
      have hq0 : ((S.r.length : Int) == 0) = false := beq_eq_false_iff_ne.2 (fun e => hr0 (List.length_eq_zero_iff.1 (by omega)))
      clear hr0
      go_wp2_with fail
      refine (grbInI _ o _ _ _ _ n _ _ (lN L) _ (fN L) HP0.out HG0.out HR.out).mono ?_
      rw [HGI.out]
      rintro e w285 ⟨rfl, b286⟩
      have H287 := Hid.mk' (HP0.out.below b286)
      clear HP0
      have H288 := Hid.mk' (HG0.out.below b286)
      clear HG0
      have X289 := Hid.mk' (S1.out.below b286)
      clear S1
      have Z290 := Hid.mk' (bel_next Z0.out b286)
      clear Z0
      clear b286
      go_wp2_with fail
      refine (grbInS _ o _ _ _ _ n _ _ (lN L) _ (fN L) H287.out H288.out HR.out).mono ?_
      rw [HGI.out]
      rintro e w291 ⟨rfl, b292⟩
      have H293 := Hid.mk' (H287.out.below b292)
      clear H287
      have H294 := Hid.mk' (H288.out.below b292)
      clear H288
      have X295 := Hid.mk' (X289.out.below b292)
      clear X289
      have Z296 := Hid.mk' (bel_next Z290.out b292)
      clear Z290
      clear b292
      go_wp2_with fail
      refine (redI_yes H293.out H294.out HR.out).mono ?_
      rintro e w297 ⟨qa298, qc299, ad300, cp301, la302, lc303, rfl, b304, hq305, hl306⟩
      have H307 := Hid.mk' (H293.out.below b304)
      clear H293
      have H308 := Hid.mk' (H294.out.below b304)
      clear H294
      have X309 := Hid.mk' (X295.out.below b304)
      clear X295
      have Z310 := Hid.mk' (bel_next Z296.out b304)
      clear Z296
      have H311 : Hid (RL w297 la302 lc303 S.r) := hl306
      clear hl306
      have H312 : Hid (RdS w297 qa298 n qc299 ad300 (lN S.q) cp301 (fN S.q)) := hq305
      clear hq305
      clear b304
      clear H312
      clear H311
      go_wp2_with fail
      refine (grbOkI _ o _ n _ _ _ L H308.out).mono ?_
      rw [HGK.out]
      rintro e w313 ⟨rfl, b314⟩
      have H315 := Hid.mk' (H307.out.below b314)
      clear H307
      have H316 := Hid.mk' (H308.out.below b314)
      clear H308
      have X317 := Hid.mk' (X309.out.below b314)
      clear X309
      have Z318 := Hid.mk' (bel_next Z310.out b314)
      clear Z310
      clear b314
      cases gk
      · go_wp2_with fail
        refine (heOk_L _ ).mono ?_
        rintro e w319 ⟨rfl, b320⟩
        have H321 := Hid.mk' (H315.out.below b320)
        clear H315
        have H322 := Hid.mk' (H316.out.below b320)
        clear H316
        have X323 := Hid.mk' (X317.out.below b320)
        clear X317
        have Z324 := Hid.mk' (bel_next Z318.out b320)
        clear Z318
        clear b320
        go_wp2
        go_ret
        exact ⟨rfl, Z324.out⟩
      · obtain ⟨hBas, ho3, hlst⟩ := bas_ok HGK.out
        have HBAS := Hid.mk' (hBas)
        clear hBas ho3 hlst
        by_cases hn0 : n = 0
        · have hn00 : ((n : Int) == 0) = true := by rw [hn0]; rfl
          clear hn0
          go_wp2_with fail
          refine (heOk_L _ ).mono ?_
          rintro e w325 ⟨rfl, b326⟩
          have H327 := Hid.mk' (H315.out.below b326)
          clear H315
          have H328 := Hid.mk' (H316.out.below b326)
          clear H316
          have X329 := Hid.mk' (X317.out.below b326)
          clear X317
          have Z330 := Hid.mk' (bel_next Z318.out b326)
          clear Z318
          clear b326
          go_wp2
          go_ret
          exact ⟨rfl, Z330.out⟩
        · have hn00 : ((n : Int) == 0) = false := beq_eq_false_iff_ne.2 (by omega)
          have hn0p : (0 : Int) < (n : Int) := by omega
          go_wp2_with fail
          refine (drawWylMul w313 a1 len1 cap1 X317.out).mono ?_
          rintro e we ⟨dc, dcc, C, dd, dcd, D, rfl, hC, hD, hlC, hlD, hbe⟩
          have HC0 := Hid.mk' hC
          clear hC hD X317
          have H331 := Hid.mk' (H315.out.below hbe)
          clear H315
          have H332 := Hid.mk' (H316.out.below hbe)
          clear H316
          have Z333 := Hid.mk' (bel_next Z318.out hbe)
          clear Z318
          clear hbe
          obtain ⟨k, hk⟩ : ∃ k : Nat, (len0 : Int).tmod (n : Int) = (k : Int) := ⟨((len0 : Int).tmod (n : Int)).toNat, by have := (tmod_bd (x := (len0 : Int)) (n := (n : Int)) (by omega) (by omega)).1; omega⟩
          have hkn : k < n := by have := (tmod_bd (x := (len0 : Int)) (n := (n : Int)) (by omega) (by omega)).2; omega
          have hkI : (k : Int) < (n : Int) := by omega
          have hwk : IntKind.i64.wrap (k : Int) = (k : Int) := by rw [IntKind.wrap_i64]; omega
          obtain ⟨m, hm⟩ : ∃ m : Nat, m + 1 = n := ⟨n - 1, by omega⟩
          have hmn : m < n := by omega
          have hmI : (m : Int) < (n : Int) := by omega
          have hwm : IntKind.i64.wrap ((n : Int) - 1) = (m : Int) := by rw [IntKind.wrap_i64]; omega
          have hwm2 : (n : Int) - 1 = (m : Int) := by omega
          clear hm
          obtain ⟨lb, off, rfl, hlb, hcl⟩ := H332.out.2.2.1.resolve_left hn0
          have g0 : we.cell? ⟨lb, off + k, none⟩ = some (.slice (ad0 k) (L k).length (cp0 k)) := hcl k hkn
          have HE : Hid (RL we (ad0 k) (cp0 k) (L k)) := H332.out.2.2.2 k hkn
          clear hcl hlb
          obtain ⟨X, o1, h1⟩ : ∃ Q q, wmV C (L k) = (Q, q) := ⟨_, _, rfl⟩
          have H1 := Hid.mk' (h1)
          clear h1
          go_wp2_with fail
          refine (wmI_L HC0.out HE.out).mono ?_
          rw [H1.out]
          rintro e w334 ⟨a335, c336, rfl, b337, r338⟩
          have H339 := Hid.mk' (H331.out.below b337)
          clear H331
          have H340 := Hid.mk' (H332.out.below b337)
          clear H332
          have H341 := Hid.mk' (HC0.out.below b337)
          clear HC0
          have H342 := Hid.mk' (HE.out.below b337)
          clear HE
          have Z343 := Hid.mk' (bel_next Z333.out b337)
          clear Z333
          have H344 : Hid (RL w334 a335 c336 X) := r338
          clear r338
          clear b337
          clear g0
          obtain ⟨lb2, off2, e2, hlb2, hcl2⟩ := H340.out.2.2.1.resolve_left hn0
          cases e2
          have g1 : w334.cell? ⟨lb, off + m, none⟩ = some (.slice (ad0 m) (L m).length (cp0 m)) := hcl2 m hmn
          have HE2 : Hid (RL w334 (ad0 m) (cp0 m) (L m)) := H340.out.2.2.2 m hmn
          clear hcl2 hlb2
          obtain ⟨Y, o2, h2⟩ : ∃ Q q, wmV p (L m) = (Q, q) := ⟨_, _, rfl⟩
          have H2 := Hid.mk' (h2)
          clear h2
          go_wp2_with fail
          refine (wmI_L H339.out HE2.out).mono ?_
          rw [H2.out]
          rintro e w345 ⟨a346, c347, rfl, b348, r349⟩
          have H350 := Hid.mk' (H339.out.below b348)
          clear H339
          have H351 := Hid.mk' (H340.out.below b348)
          clear H340
          have H352 := Hid.mk' (H341.out.below b348)
          clear H341
          have H353 := Hid.mk' (H342.out.below b348)
          clear H342
          have H354 := Hid.mk' (H344.out.below b348)
          clear H344
          have H355 := Hid.mk' (HE2.out.below b348)
          clear HE2
          have Z356 := Hid.mk' (bel_next Z343.out b348)
          clear Z343
          have H357 : Hid (RL w345 a346 c347 Y) := r349
          clear r349
          clear b348
          clear g1
          obtain ⟨Q3, o3, h3⟩ : ∃ Q q, addV X Y = (Q, q) := ⟨_, _, rfl⟩
          have H3 := Hid.mk' (h3)
          clear h3
          go_wp2_with fail
          refine (addI_L H354.out H357.out).mono ?_
          rw [H3.out]
          rintro e w358 ⟨a359, c360, rfl, b361, r362⟩
          have H363 := Hid.mk' (H350.out.below b361)
          clear H350
          have H364 := Hid.mk' (H351.out.below b361)
          clear H351
          have H365 := Hid.mk' (H352.out.below b361)
          clear H352
          have H366 := Hid.mk' (H353.out.below b361)
          clear H353
          have H367 := Hid.mk' (H354.out.below b361)
          clear H354
          have H368 := Hid.mk' (H355.out.below b361)
          clear H355
          have H369 := Hid.mk' (H357.out.below b361)
          clear H357
          have Z370 := Hid.mk' (bel_next Z356.out b361)
          clear Z356
          have H371 : Hid (RL w358 a359 c360 Q3) := r362
          clear r362
          clear b361
          cases o1
          · go_wp2_with fail
            refine (heOk_L _ ).mono ?_
            rintro e w372 ⟨rfl, b373⟩
            have H374 := Hid.mk' (H363.out.below b373)
            clear H363
            have H375 := Hid.mk' (H364.out.below b373)
            clear H364
            have H376 := Hid.mk' (H365.out.below b373)
            clear H365
            have H377 := Hid.mk' (H366.out.below b373)
            clear H366
            have H378 := Hid.mk' (H367.out.below b373)
            clear H367
            have H379 := Hid.mk' (H368.out.below b373)
            clear H368
            have H380 := Hid.mk' (H369.out.below b373)
            clear H369
            have H381 := Hid.mk' (H371.out.below b373)
            clear H371
            have Z382 := Hid.mk' (bel_next Z370.out b373)
            clear Z370
            clear b373
            go_wp2
            go_ret
            exact ⟨rfl, Z382.out⟩
          · cases o2
            · go_wp2_with fail
              refine (heOk_L _ ).mono ?_
              rintro e w383 ⟨rfl, b384⟩
              have H385 := Hid.mk' (H363.out.below b384)
              clear H363
              have H386 := Hid.mk' (H364.out.below b384)
              clear H364
              have H387 := Hid.mk' (H365.out.below b384)
              clear H365
              have H388 := Hid.mk' (H366.out.below b384)
              clear H366
              have H389 := Hid.mk' (H367.out.below b384)
              clear H367
              have H390 := Hid.mk' (H368.out.below b384)
              clear H368
              have H391 := Hid.mk' (H369.out.below b384)
              clear H369
              have H392 := Hid.mk' (H371.out.below b384)
              clear H371
              have Z393 := Hid.mk' (bel_next Z370.out b384)
              clear Z370
              clear b384
              go_wp2
              go_ret
              exact ⟨rfl, Z393.out⟩
            · cases o3
              · go_wp2_with fail
                refine (heOk_L _ ).mono ?_
                rintro e w394 ⟨rfl, b395⟩
                have H396 := Hid.mk' (H363.out.below b395)
                clear H363
                have H397 := Hid.mk' (H364.out.below b395)
                clear H364
                have H398 := Hid.mk' (H365.out.below b395)
                clear H365
                have H399 := Hid.mk' (H366.out.below b395)
                clear H366
                have H400 := Hid.mk' (H367.out.below b395)
                clear H367
                have H401 := Hid.mk' (H368.out.below b395)
                clear H368
                have H402 := Hid.mk' (H369.out.below b395)
                clear H369
                have H403 := Hid.mk' (H371.out.below b395)
                clear H371
                have Z404 := Hid.mk' (bel_next Z370.out b395)
                clear Z370
                clear b395
                go_wp2
                go_ret
                exact ⟨rfl, Z404.out⟩
              · obtain ⟨R2, hR2⟩ : ∃ R, redAll o Q3 n (lN L) (fN L) = R := ⟨_, rfl⟩
                have HR2 := Hid.mk' (hR2)
                clear hR2
                rcases R2 with _ | D2
                · go_wp2_with fail
                  refine (grbInI _ o _ _ _ _ n _ _ (lN L) _ (fN L) H371.out H364.out HR2.out).mono ?_
                  rw [show gin none = false from rfl]
                  rintro e w405 ⟨rfl, b406⟩
                  have H407 := Hid.mk' (H363.out.below b406)
                  clear H363
                  have H408 := Hid.mk' (H364.out.below b406)
                  clear H364
                  have H409 := Hid.mk' (H365.out.below b406)
                  clear H365
                  have H410 := Hid.mk' (H366.out.below b406)
                  clear H366
                  have H411 := Hid.mk' (H367.out.below b406)
                  clear H367
                  have H412 := Hid.mk' (H368.out.below b406)
                  clear H368
                  have H413 := Hid.mk' (H369.out.below b406)
                  clear H369
                  have H414 := Hid.mk' (H371.out.below b406)
                  clear H371
                  have Z415 := Hid.mk' (bel_next Z370.out b406)
                  clear Z370
                  clear b406
                  go_wp2
                  go_ret
                  exact ⟨rfl, Z415.out⟩
                · have HLAW := Hid.mk' (law_in HBAS.out hkn hmn H1.out H2.out H3.out HR2.out)
                  go_wp2_with fail
                  refine (grbInI _ o _ _ _ _ n _ _ (lN L) _ (fN L) H371.out H364.out HR2.out).mono ?_
                  rw [HLAW.out]
                  rintro e w416 ⟨rfl, b417⟩
                  have H418 := Hid.mk' (H363.out.below b417)
                  clear H363
                  have H419 := Hid.mk' (H364.out.below b417)
                  clear H364
                  have H420 := Hid.mk' (H365.out.below b417)
                  clear H365
                  have H421 := Hid.mk' (H366.out.below b417)
                  clear H366
                  have H422 := Hid.mk' (H367.out.below b417)
                  clear H367
                  have H423 := Hid.mk' (H368.out.below b417)
                  clear H368
                  have H424 := Hid.mk' (H369.out.below b417)
                  clear H369
                  have H425 := Hid.mk' (H371.out.below b417)
                  clear H371
                  have Z426 := Hid.mk' (bel_next Z370.out b417)
                  clear Z370
                  clear b417
                  go_wp2
                  go_ret
                  exact ⟨rfl, Z426.out⟩
end Go.Proofs.YtncffcaabnjioaaGreat
