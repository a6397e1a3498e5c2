/-
  The walk of FnRedScale: whatever the code, it comes out true, and nothing that was there is turned.
-/
import Derived.Test.YtfgmfgamkbgaiaaGreatDrawRA
import Derived.Test.YtfgmfgamkbgaiaaGreatGbh
import Derived.Test.YtfgmfgamkbgaiaaGreatFreeI
import Derived.Test.YtfgmfgamkbgaiaaGreatGba
namespace Go.Proofs.YtfgmfgamkbgaiaaGreat
open Go.RowKit
set_option linter.unusedVariables false
abbrev C2k (p1 o1 p2 o2 : Nat) (v1 v2 : Value) (u : World) : Prop := u.cell? ⟨p1, o1, none⟩ = some v1 ∧ u.cell? ⟨p2, o2, none⟩ = some v2
theorem C2k.below {p1 o1 p2 o2 : Nat} {v1 v2 : Value} {u u' : World} (h : C2k p1 o1 p2 o2 v1 v2 u) (hb : Below u.heap.size u u') : C2k p1 o1 p2 o2 v1 v2 u' :=
  ⟨(hb.cell (p := ⟨p1, o1, none⟩) (World.block_lt_of_cell? u _ h.1)).trans h.1, (hb.cell (p := ⟨p2, o2, none⟩) (World.block_lt_of_cell? u _ h.2)).trans h.2⟩
set_option maxRecDepth 100000 in
set_option maxHeartbeats 8000000 in
theorem walk_FnRedScale (w : World) (a0 : Option Addr) (len0 cap0 : Nat) (s0 : Src w a0 len0 cap0) :
    Calls Tryz.prog 6 #[.slice a0 len0 cap0] w fun e w' => e = .returned (.bool true) ∧ Below w.heap.size w w' := by
  by_cases c0 : (1048576 : Int) < (len0 : Int)
  · go_enter Tryz.func6, Tryz.ntmps6
    go_wp2
    go_ret
    exact ⟨rfl, Below.refl _ _⟩
  go_enter Tryz.func6, Tryz.ntmps6
  go_wp2_with fail
  refine (drawRedAll w a0 len0 cap0 s0).mono ?_
  rintro e wd ⟨o, pa, pc, p, la0, n, lc0, ad0, cp0, L, rfl, hP, hG, hlp, hln, hbd⟩
  have HP0 := Hid.mk' hP
  have HG0 := Hid.mk' hG
  have Z0 := Hid.mk' hbd
  clear hP hG hbd s0
  have hn5 : (n : Int) ≤ 5 := by omega
  have hp5 : (p.length : Int) ≤ 5 := by omega
  obtain ⟨m, hm⟩ : ∃ m, (len0 : Int).tmod 100 = m := ⟨_, rfl⟩
  have hm0 : 0 ≤ m ∧ m < 100 := by rw [Int.tmod_eq_emod_of_nonneg (by omega)] at hm; omega
  obtain ⟨c, hc⟩ : ∃ c, 1 + m = c := ⟨_, rfl⟩
  have c1 : 1 ≤ c := by omega
  have c2 : c ≤ 100 := by omega
  clear hm0
  have hwc : IntKind.i64.wrap c = c := by rw [IntKind.wrap_i64]; omega
  cases hpo : okL p
  · obtain ⟨R, hR⟩ : ∃ R, redAll o p n (lN L) (fN L) = R := ⟨_, rfl⟩
    rcases R with _ | S
    · have HR := Hid.mk' hR
      clear hR
      go_wp2_with fail
      refine (redI_no HP0.out HG0.out HR.out).mono ?_
      rintro e w1 ⟨qa2, qc3, ad4, cp5, la6, lc7, rfl, b8, hq9, hl10⟩
      have H11 := Hid.mk' (HP0.out.below b8)
      clear HP0
      have H12 := Hid.mk' (HG0.out.below b8)
      clear HG0
      have Z13 := Hid.mk' (bel_next Z0.out b8)
      clear Z0
      have H14 : Hid (RL w1 la6 lc7 []) := hl10
      clear hl10
      have H15 : Hid (RdS w1 qa2 0 qc3 ad4 (lN (fun _ => [])) cp5 (fN (fun _ => []))) := hq9
      clear hq9
      clear b8
      go_wp2_with fail
      refine (redS_no H11.out H12.out HR.out).mono ?_
      rintro e w16 ⟨qa17, qc18, ad19, cp20, la21, lc22, rfl, b23, hq24, hl25⟩
      have H26 := Hid.mk' (H11.out.below b23)
      clear H11
      have H27 := Hid.mk' (H12.out.below b23)
      clear H12
      have H28 := Hid.mk' (H14.out.below b23)
      clear H14
      have H29 := Hid.mk' (H15.out.below b23)
      clear H15
      have Z30 := Hid.mk' (bel_next Z13.out b23)
      clear Z13
      have H31 : Hid (RL w16 la21 lc22 []) := hl25
      clear hl25
      have H32 : Hid (RdS w16 qa17 0 qc18 ad19 (lN (fun _ => [])) cp20 (fN (fun _ => []))) := hq24
      clear hq24
      clear b23
      go_wp2_with fail
      refine (heListT _ _ _ _ _ _ _ _ _ _ _ _ _ H29.out H32.out).mono ?_
      rw [lsq_same]
      rintro e w33 ⟨rfl, b34⟩
      have H35 := Hid.mk' (H26.out.below b34)
      clear H26
      have H36 := Hid.mk' (H27.out.below b34)
      clear H27
      have H37 := Hid.mk' (H28.out.below b34)
      clear H28
      have H38 := Hid.mk' (H29.out.below b34)
      clear H29
      have H39 := Hid.mk' (H31.out.below b34)
      clear H31
      have H40 := Hid.mk' (H32.out.below b34)
      clear H32
      have Z41 := Hid.mk' (bel_next Z30.out b34)
      clear Z30
      clear b34
      go_wp2_with fail
      refine (he_L H37.out H39.out).mono ?_
      rw [sq_same]
      rintro e w42 ⟨rfl, b43⟩
      have H44 := Hid.mk' (H35.out.below b43)
      clear H35
      have H45 := Hid.mk' (H36.out.below b43)
      clear H36
      have H46 := Hid.mk' (H37.out.below b43)
      clear H37
      have H47 := Hid.mk' (H38.out.below b43)
      clear H38
      have H48 := Hid.mk' (H39.out.below b43)
      clear H39
      have H49 := Hid.mk' (H40.out.below b43)
      clear H40
      have Z50 := Hid.mk' (bel_next Z41.out b43)
      clear Z41
      clear b43
      have HSC := Hid.mk' (scV_bad (c := c) hpo)
      go_wp2_with fail
      refine (scI_L c H44.out).mono ?_
      rw [HSC.out]
      rintro e w51 ⟨a52, c53, rfl, b54, r55⟩
      have H56 := Hid.mk' (H44.out.below b54)
      clear H44
      have H57 := Hid.mk' (H45.out.below b54)
      clear H45
      have H58 := Hid.mk' (H46.out.below b54)
      clear H46
      have H59 := Hid.mk' (H47.out.below b54)
      clear H47
      have H60 := Hid.mk' (H48.out.below b54)
      clear H48
      have H61 := Hid.mk' (H49.out.below b54)
      clear H49
      have Z62 := Hid.mk' (bel_next Z50.out b54)
      clear Z50
      have H63 : Hid (RL w51 a52 c53 []) := r55
      clear r55
      clear b54
      obtain ⟨R2, h2⟩ : ∃ R, redAll o [] n (lN L) (fN L) = R := ⟨_, rfl⟩
      rcases R2 with _ | S2
      · have H2 := Hid.mk' h2
        clear h2
        go_wp2_with fail
        refine (redI_no H63.out H57.out H2.out).mono ?_
        rintro e w64 ⟨qa65, qc66, ad67, cp68, la69, lc70, rfl, b71, hq72, hl73⟩
        have H74 := Hid.mk' (H56.out.below b71)
        clear H56
        have H75 := Hid.mk' (H57.out.below b71)
        clear H57
        have H76 := Hid.mk' (H58.out.below b71)
        clear H58
        have H77 := Hid.mk' (H59.out.below b71)
        clear H59
        have H78 := Hid.mk' (H60.out.below b71)
        clear H60
        have H79 := Hid.mk' (H61.out.below b71)
        clear H61
        have H80 := Hid.mk' (H63.out.below b71)
        clear H63
        have Z81 := Hid.mk' (bel_next Z62.out b71)
        clear Z62
        have H82 : Hid (RL w64 la69 lc70 []) := hl73
        clear hl73
        have H83 : Hid (RdS w64 qa65 0 qc66 ad67 (lN (fun _ => [])) cp68 (fN (fun _ => []))) := hq72
        clear hq72
        clear b71
        go_wp2_with fail
        refine (heOk_L _ ).mono ?_
        rintro e w84 ⟨rfl, b85⟩
        have H86 := Hid.mk' (H74.out.below b85)
        clear H74
        have H87 := Hid.mk' (H75.out.below b85)
        clear H75
        have H88 := Hid.mk' (H76.out.below b85)
        clear H76
        have H89 := Hid.mk' (H77.out.below b85)
        clear H77
        have H90 := Hid.mk' (H78.out.below b85)
        clear H78
        have H91 := Hid.mk' (H79.out.below b85)
        clear H79
        have H92 := Hid.mk' (H80.out.below b85)
        clear H80
        have H93 := Hid.mk' (H82.out.below b85)
        clear H82
        have H94 := Hid.mk' (H83.out.below b85)
        clear H83
        have Z95 := Hid.mk' (bel_next Z81.out b85)
        clear Z81
        clear b85
        go_wp2
        go_ret
        exact ⟨rfl, Z95.out⟩
      · have H2 := Hid.mk' h2
        clear h2
        go_wp2_with fail
        refine (redI_yes H63.out H57.out H2.out).mono ?_
        rintro e w96 ⟨qa97, qc98, ad99, cp100, la101, lc102, rfl, b103, hq104, hl105⟩
        have H106 := Hid.mk' (H56.out.below b103)
        clear H56
        have H107 := Hid.mk' (H57.out.below b103)
        clear H57
        have H108 := Hid.mk' (H58.out.below b103)
        clear H58
        have H109 := Hid.mk' (H59.out.below b103)
        clear H59
        have H110 := Hid.mk' (H60.out.below b103)
        clear H60
        have H111 := Hid.mk' (H61.out.below b103)
        clear H61
        have H112 := Hid.mk' (H63.out.below b103)
        clear H63
        have Z113 := Hid.mk' (bel_next Z62.out b103)
        clear Z62
        have H114 : Hid (RL w96 la101 lc102 S2.r) := hl105
        clear hl105
        have H115 : Hid (RdS w96 qa97 n qc98 ad99 (lN S2.q) cp100 (fN S2.q)) := hq104
        clear hq104
        clear b103
        go_wp2_with fail
        refine (okS_L H106.out).mono ?_
        rw [hpo]
        rintro e w116 ⟨rfl, b117⟩
        have H118 := Hid.mk' (H106.out.below b117)
        clear H106
        have H119 := Hid.mk' (H107.out.below b117)
        clear H107
        have H120 := Hid.mk' (H108.out.below b117)
        clear H108
        have H121 := Hid.mk' (H109.out.below b117)
        clear H109
        have H122 := Hid.mk' (H110.out.below b117)
        clear H110
        have H123 := Hid.mk' (H111.out.below b117)
        clear H111
        have H124 := Hid.mk' (H112.out.below b117)
        clear H112
        have H125 := Hid.mk' (H114.out.below b117)
        clear H114
        have H126 := Hid.mk' (H115.out.below b117)
        clear H115
        have Z127 := Hid.mk' (bel_next Z113.out b117)
        clear Z113
        clear b117
        go_wp2_with fail
        refine (heOk_L _ ).mono ?_
        rintro e w128 ⟨rfl, b129⟩
        have H130 := Hid.mk' (H118.out.below b129)
        clear H118
        have H131 := Hid.mk' (H119.out.below b129)
        clear H119
        have H132 := Hid.mk' (H120.out.below b129)
        clear H120
        have H133 := Hid.mk' (H121.out.below b129)
        clear H121
        have H134 := Hid.mk' (H122.out.below b129)
        clear H122
        have H135 := Hid.mk' (H123.out.below b129)
        clear H123
        have H136 := Hid.mk' (H124.out.below b129)
        clear H124
        have H137 := Hid.mk' (H125.out.below b129)
        clear H125
        have H138 := Hid.mk' (H126.out.below b129)
        clear H126
        have Z139 := Hid.mk' (bel_next Z127.out b129)
        clear Z127
        clear b129
        go_wp2
        go_ret
        exact ⟨rfl, Z139.out⟩
    · have HR := Hid.mk' hR
      clear hR
      exact absurd (redAll_some HR.out).2.1 (by rw [hpo]; simp)
  · have HSC := Hid.mk' (scV_is c1 c2 hpo)
    obtain ⟨R, hR⟩ : ∃ R, redAll o p n (lN L) (fN L) = R := ⟨_, rfl⟩
    rcases R with _ | S
    · have HR := Hid.mk' hR
      clear hR
      have h2 := redAll_sc (o := o) (n := n) (L := L) c1 c2 hpo
      rw [HR.out] at h2
      have H2 : Hid (redAll o (scL c p) n (lN L) (fN L) = none) := h2
      clear h2
      go_wp2_with fail
      refine (redI_no HP0.out HG0.out HR.out).mono ?_
      rintro e w140 ⟨qa141, qc142, ad143, cp144, la145, lc146, rfl, b147, hq148, hl149⟩
      have H150 := Hid.mk' (HP0.out.below b147)
      clear HP0
      have H151 := Hid.mk' (HG0.out.below b147)
      clear HG0
      have Z152 := Hid.mk' (bel_next Z0.out b147)
      clear Z0
      have H153 : Hid (RL w140 la145 lc146 []) := hl149
      clear hl149
      have H154 : Hid (RdS w140 qa141 0 qc142 ad143 (lN (fun _ => [])) cp144 (fN (fun _ => []))) := hq148
      clear hq148
      clear b147
      go_wp2_with fail
      refine (redS_no H150.out H151.out HR.out).mono ?_
      rintro e w155 ⟨qa156, qc157, ad158, cp159, la160, lc161, rfl, b162, hq163, hl164⟩
      have H165 := Hid.mk' (H150.out.below b162)
      clear H150
      have H166 := Hid.mk' (H151.out.below b162)
      clear H151
      have H167 := Hid.mk' (H153.out.below b162)
      clear H153
      have H168 := Hid.mk' (H154.out.below b162)
      clear H154
      have Z169 := Hid.mk' (bel_next Z152.out b162)
      clear Z152
      have H170 : Hid (RL w155 la160 lc161 []) := hl164
      clear hl164
      have H171 : Hid (RdS w155 qa156 0 qc157 ad158 (lN (fun _ => [])) cp159 (fN (fun _ => []))) := hq163
      clear hq163
      clear b162
      go_wp2_with fail
      refine (heListT _ _ _ _ _ _ _ _ _ _ _ _ _ H168.out H171.out).mono ?_
      rw [lsq_same]
      rintro e w172 ⟨rfl, b173⟩
      have H174 := Hid.mk' (H165.out.below b173)
      clear H165
      have H175 := Hid.mk' (H166.out.below b173)
      clear H166
      have H176 := Hid.mk' (H167.out.below b173)
      clear H167
      have H177 := Hid.mk' (H168.out.below b173)
      clear H168
      have H178 := Hid.mk' (H170.out.below b173)
      clear H170
      have H179 := Hid.mk' (H171.out.below b173)
      clear H171
      have Z180 := Hid.mk' (bel_next Z169.out b173)
      clear Z169
      clear b173
      go_wp2_with fail
      refine (he_L H176.out H178.out).mono ?_
      rw [sq_same]
      rintro e w181 ⟨rfl, b182⟩
      have H183 := Hid.mk' (H174.out.below b182)
      clear H174
      have H184 := Hid.mk' (H175.out.below b182)
      clear H175
      have H185 := Hid.mk' (H176.out.below b182)
      clear H176
      have H186 := Hid.mk' (H177.out.below b182)
      clear H177
      have H187 := Hid.mk' (H178.out.below b182)
      clear H178
      have H188 := Hid.mk' (H179.out.below b182)
      clear H179
      have Z189 := Hid.mk' (bel_next Z180.out b182)
      clear Z180
      clear b182
      go_wp2_with fail
      refine (scI_L c H183.out).mono ?_
      rw [HSC.out]
      rintro e w190 ⟨a191, c192, rfl, b193, r194⟩
      have H195 := Hid.mk' (H183.out.below b193)
      clear H183
      have H196 := Hid.mk' (H184.out.below b193)
      clear H184
      have H197 := Hid.mk' (H185.out.below b193)
      clear H185
      have H198 := Hid.mk' (H186.out.below b193)
      clear H186
      have H199 := Hid.mk' (H187.out.below b193)
      clear H187
      have H200 := Hid.mk' (H188.out.below b193)
      clear H188
      have Z201 := Hid.mk' (bel_next Z189.out b193)
      clear Z189
      have H202 : Hid (RL w190 a191 c192 (scL c p)) := r194
      clear r194
      clear b193
      go_wp2_with fail
      refine (redI_no H202.out H196.out H2.out).mono ?_
      rintro e w203 ⟨qa204, qc205, ad206, cp207, la208, lc209, rfl, b210, hq211, hl212⟩
      have H213 := Hid.mk' (H195.out.below b210)
      clear H195
      have H214 := Hid.mk' (H196.out.below b210)
      clear H196
      have H215 := Hid.mk' (H197.out.below b210)
      clear H197
      have H216 := Hid.mk' (H198.out.below b210)
      clear H198
      have H217 := Hid.mk' (H199.out.below b210)
      clear H199
      have H218 := Hid.mk' (H200.out.below b210)
      clear H200
      have H219 := Hid.mk' (H202.out.below b210)
      clear H202
      have Z220 := Hid.mk' (bel_next Z201.out b210)
      clear Z201
      have H221 : Hid (RL w203 la208 lc209 []) := hl212
      clear hl212
      have H222 : Hid (RdS w203 qa204 0 qc205 ad206 (lN (fun _ => [])) cp207 (fN (fun _ => []))) := hq211
      clear hq211
      clear b210
      go_wp2_with fail
      refine (heOk_L _ ).mono ?_
      rintro e w223 ⟨rfl, b224⟩
      have H225 := Hid.mk' (H213.out.below b224)
      clear H213
      have H226 := Hid.mk' (H214.out.below b224)
      clear H214
      have H227 := Hid.mk' (H215.out.below b224)
      clear H215
      have H228 := Hid.mk' (H216.out.below b224)
      clear H216
      have H229 := Hid.mk' (H217.out.below b224)
      clear H217
      have H230 := Hid.mk' (H218.out.below b224)
      clear H218
      have H231 := Hid.mk' (H219.out.below b224)
      clear H219
      have H232 := Hid.mk' (H221.out.below b224)
      clear H221
      have H233 := Hid.mk' (H222.out.below b224)
      clear H222
      have Z234 := Hid.mk' (bel_next Z220.out b224)
      clear Z220
      clear b224
      go_wp2
      go_ret
      exact ⟨rfl, Z234.out⟩
    · have HR := Hid.mk' hR
      clear hR
      have h2 := redAll_sc (o := o) (n := n) (L := L) c1 c2 hpo
      rw [HR.out] at h2
      have H2 : Hid (redAll o (scL c p) n (lN L) (fN L) = some (scD c S)) := h2
      clear h2
      have HOK := Hid.mk' (redAll_ok HR.out).1
      go_wp2_with fail
      refine (redI_yes HP0.out HG0.out HR.out).mono ?_
      rintro e w235 ⟨qa236, qc237, ad238, cp239, la240, lc241, rfl, b242, hq243, hl244⟩
      have H245 := Hid.mk' (HP0.out.below b242)
      clear HP0
      have H246 := Hid.mk' (HG0.out.below b242)
      clear HG0
      have Z247 := Hid.mk' (bel_next Z0.out b242)
      clear Z0
      have H248 : Hid (RL w235 la240 lc241 S.r) := hl244
      clear hl244
      have H249 : Hid (RdS w235 qa236 n qc237 ad238 (lN S.q) cp239 (fN S.q)) := hq243
      clear hq243
      clear b242
      go_wp2_with fail
      refine (redS_yes H245.out H246.out HR.out).mono ?_
      rintro e w250 ⟨qa251, qc252, ad253, cp254, la255, lc256, rfl, b257, hq258, hl259⟩
      have H260 := Hid.mk' (H245.out.below b257)
      clear H245
      have H261 := Hid.mk' (H246.out.below b257)
      clear H246
      have H262 := Hid.mk' (H248.out.below b257)
      clear H248
      have H263 := Hid.mk' (H249.out.below b257)
      clear H249
      have Z264 := Hid.mk' (bel_next Z247.out b257)
      clear Z247
      have H265 : Hid (RL w250 la255 lc256 S.r) := hl259
      clear hl259
      have H266 : Hid (RdS w250 qa251 n qc252 ad253 (lN S.q) cp254 (fN S.q)) := hq258
      clear hq258
      clear b257
      go_wp2_with fail
      refine (heListT _ _ _ _ _ _ _ _ _ _ _ _ _ H263.out H266.out).mono ?_
      rw [lsq_same]
      rintro e w267 ⟨rfl, b268⟩
      have H269 := Hid.mk' (H260.out.below b268)
      clear H260
      have H270 := Hid.mk' (H261.out.below b268)
      clear H261
      have H271 := Hid.mk' (H262.out.below b268)
      clear H262
      have H272 := Hid.mk' (H263.out.below b268)
      clear H263
      have H273 := Hid.mk' (H265.out.below b268)
      clear H265
      have H274 := Hid.mk' (H266.out.below b268)
      clear H266
      have Z275 := Hid.mk' (bel_next Z264.out b268)
      clear Z264
      clear b268
      go_wp2_with fail
      refine (he_L H271.out H273.out).mono ?_
      rw [sq_same]
      rintro e w276 ⟨rfl, b277⟩
      have H278 := Hid.mk' (H269.out.below b277)
      clear H269
      have H279 := Hid.mk' (H270.out.below b277)
      clear H270
      have H280 := Hid.mk' (H271.out.below b277)
      clear H271
      have H281 := Hid.mk' (H272.out.below b277)
      clear H272
      have H282 := Hid.mk' (H273.out.below b277)
      clear H273
      have H283 := Hid.mk' (H274.out.below b277)
      clear H274
      have Z284 := Hid.mk' (bel_next Z275.out b277)
      clear Z275
      clear b277
      go_wp2_with fail
      refine (scI_L c H278.out).mono ?_
      rw [HSC.out]
      rintro e w285 ⟨a286, c287, rfl, b288, r289⟩
      have H290 := Hid.mk' (H278.out.below b288)
      clear H278
      have H291 := Hid.mk' (H279.out.below b288)
      clear H279
      have H292 := Hid.mk' (H280.out.below b288)
      clear H280
      have H293 := Hid.mk' (H281.out.below b288)
      clear H281
      have H294 := Hid.mk' (H282.out.below b288)
      clear H282
      have H295 := Hid.mk' (H283.out.below b288)
      clear H283
      have Z296 := Hid.mk' (bel_next Z284.out b288)
      clear Z284
      have H297 : Hid (RL w285 a286 c287 (scL c p)) := r289
      clear r289
      clear b288
      go_wp2_with fail
      refine (redI_yes H297.out H291.out H2.out).mono ?_
      rintro e w298 ⟨qa299, qc300, ad301, cp302, la303, lc304, rfl, b305, hq306, hl307⟩
      have H308 := Hid.mk' (H290.out.below b305)
      clear H290
      have H309 := Hid.mk' (H291.out.below b305)
      clear H291
      have H310 := Hid.mk' (H292.out.below b305)
      clear H292
      have H311 := Hid.mk' (H293.out.below b305)
      clear H293
      have H312 := Hid.mk' (H294.out.below b305)
      clear H294
      have H313 := Hid.mk' (H295.out.below b305)
      clear H295
      have H314 := Hid.mk' (H297.out.below b305)
      clear H297
      have Z315 := Hid.mk' (bel_next Z296.out b305)
      clear Z296
      have H316 : Hid (RL w298 la303 lc304 (scL c S.r)) := hl307
      clear hl307
      have H317 : Hid (RdS w298 qa299 n qc300 ad301 (lN (fun i => scL c (S.q i))) cp302 (fN (fun i => scL c (S.q i)))) := hq306
      clear hq306
      clear b305
      clear H313
      clear H312
      clear H314
      clear H308
      clear H309
      clear HSC H2 HR
      go_wp2
      go_loopw [16] (fun v wr => ∃ i : Nat, i ≤ n ∧ v = .int .i64 (i : Int) ∧ Below w298.heap.size w298 wr) (fun v _ => n - (intOf v).toNat)
      case atStart => exact ⟨0, Nat.zero_le _, rfl, Below.refl _ _⟩
      case round =>
        obtain ⟨i, hi, rfl, hBel⟩ := hrel
        by_cases hlt : i < n
        · have hil : (i : Int) < (n : Int) := by omega
          have HBel := Hid.mk' hBel
          have hM := H317.out.below hBel
          have hQ := H311.out.below hBel
          have dr : Below wr.heap.size wr wr.drew := (Below.refl _ _).drew
          have HMe : Hid (RL wr.drew (ad301 i) (cp302 i) (scL c (S.q i))) := (hM.2.2.2 i hlt).below dr
          have HQe : Hid (RL wr.drew (ad238 i) (cp239 i) (S.q i)) := (hQ.2.2.2 i hlt).below dr
          rcases hM.2.2.1 with h0 | ⟨b1, o1, rfl, hlt1, hc1⟩
          · omega
          rcases hQ.2.2.1 with h0 | ⟨b2, o2, rfl, hlt2, hc2⟩
          · omega
          obtain ⟨sl, hsl⟩ : ∃ sl, scL c (S.q i) = sl := ⟨_, rfl⟩
          obtain ⟨ql, hql⟩ : ∃ ql, S.q i = ql := ⟨_, rfl⟩
          have hS : C2k b1 (o1 + i) b2 (o2 + i) (.slice (ad301 i) sl.length (cp302 i)) (.slice (ad238 i) ql.length (cp239 i)) wr.drew := ⟨(dr.cell (p := ⟨b1, o1 + i, none⟩) hlt1).trans (by rw [← hsl]; exact hc1 i hlt), (dr.cell (p := ⟨b2, o2 + i, none⟩) hlt2).trans (by rw [← hql]; exact hc2 i hlt)⟩
          have hE : scV c ql = sl := by rw [← hsl, ← hql]; exact scV_is c1 c2 (okL_of (by have := (HOK.out.q i).2; omega) (HOK.out.q i).1)
          rw [hsl] at HMe
          rw [hql] at HQe
          have HE := Hid.mk' hE
          clear hM hQ hc1 hc2 hlt1 hlt2 hsl hql hE
          go_wp2_with fail
          go_region_held3 (fun u => u.cell? ⟨b1, o1 + i, none⟩ = some (.slice (ad301 i) sl.length (cp302 i)) ∧ u.cell? ⟨b2, o2 + i, none⟩ = some (.slice (ad238 i) ql.length (cp239 i))) (first | with_reducible exact hS | with_reducible exact C2k.below hS b5 | with_reducible exact C2k.below (C2k.below hS b5) b6) (first | (go_at_call 19; refine (scI_L c HQe.out).mono ?_; rw [HE.out]; rintro e w5 ⟨za, zc, rfl, b5, hz⟩) | (go_at_call 11; refine (he_L (HMe.out.below b5) hz).mono ?_; rw [sq_same]; rintro e w6 ⟨rfl, b6⟩))
          have HBn := Hid.mk' (bel_next (bel_next (bel_next HBel.out dr) b5) b6)
          clear hS b5 b6 hz dr hBel
          go_wp2
          go_roundw
          case rel => exact ⟨i + 1, by omega, by go_num, HBn.out⟩
          case measure => simp [intOf]; omega
        · have hnl : ¬ (i : Int) < (n : Int) := by omega
          clear H311
          clear H317
          have H318 := Hid.mk' (H310.out.below hBel)
          clear H310
          have H319 := Hid.mk' (H316.out.below hBel)
          clear H316
          have Z320 := Hid.mk' (bel_next Z315.out hBel)
          clear Z315
          clear hBel
          have HE := Hid.mk' (scV_is c1 c2 (okL_of (by have := HOK.out.r.2; omega) HOK.out.r.1))
          go_wp2_with fail
          refine (scI_L c H318.out).mono ?_
          rw [HE.out]
          rintro e w321 ⟨a322, c323, rfl, b324, r325⟩
          have H326 := Hid.mk' (H318.out.below b324)
          clear H318
          have H327 := Hid.mk' (H319.out.below b324)
          clear H319
          have Z328 := Hid.mk' (bel_next Z320.out b324)
          clear Z320
          have H329 : Hid (RL w321 a322 c323 (scL c S.r)) := r325
          clear r325
          clear b324
          go_wp2_with fail
          refine (he_L H327.out H329.out).mono ?_
          rw [sq_same]
          rintro e w330 ⟨rfl, b331⟩
          have H332 := Hid.mk' (H326.out.below b331)
          clear H326
          have H333 := Hid.mk' (H327.out.below b331)
          clear H327
          have H334 := Hid.mk' (H329.out.below b331)
          clear H329
          have Z335 := Hid.mk' (bel_next Z328.out b331)
          clear Z328
          clear b331
          go_wp2_with fail
          refine (heOk_L _ ).mono ?_
          rintro e w336 ⟨rfl, b337⟩
          have H338 := Hid.mk' (H332.out.below b337)
          clear H332
          have H339 := Hid.mk' (H333.out.below b337)
          clear H333
          have H340 := Hid.mk' (H334.out.below b337)
          clear H334
          have Z341 := Hid.mk' (bel_next Z335.out b337)
          clear Z335
          clear b337
          go_wp2
          go_ret
          exact ⟨rfl, Z341.out⟩
end Go.Proofs.YtfgmfgamkbgaiaaGreat
