/-
  The walk of FnPolAdd: whatever the code, it comes out true, and nothing that was there is turned.
-/
import Derived.Test.YtddfpjjeoojlmaaGar
import Derived.Test.YtddfpjjeoojlmaaGat
import Derived.Test.YtddfpjjeoojlmaaGau
namespace Go.Proofs.Ytddfpjjeoojlmaa
open Go.RowKit
set_option linter.unusedVariables false
theorem polAt_coef (L : List T) (m : M) : polAt (lf L) L.length m = coef L m := by
  have h : ∀ (f : Nat → T) (u i : Nat), atFrom f m u i = fromC f u i m := fun f u => by
    induction u with
    | zero => intro i; rfl
    | succ u ih =>
      intro i
      rw [atFrom, fromC, ih]
      by_cases e : (f i).m = m
      · rw [if_pos (M.eqB_iff.2 e), if_pos (meqB_iff.2 e)]
      · rw [if_neg (fun hh => e (M.eqB_iff.1 hh)), if_neg (fun hh => e (meqB_iff.1 hh))]
  rw [polAt, h, fromC_lf]
set_option maxRecDepth 100000 in
set_option maxHeartbeats 8000000 in
theorem walk_FnPolAdd (w : World) (a0 : Option Addr) (len0 cap0 : Nat) (s0 : Src w a0 len0 cap0) (a1 : Option Addr) (len1 cap1 : Nat) (s1 : Src w a1 len1 cap1) :
    Calls Try.prog 3 #[.slice a0 len0 cap0, .slice a1 len1 cap1] w fun e w' => e = .returned (.bool true) ∧ Below w.heap.size w w' := by
  by_cases c0 : (1048576 : Int) < (len0 : Int)
  · go_enter Try.func3, Try.ntmps3
    go_wp2
    go_ret
    exact ⟨rfl, Below.refl _ _⟩
  by_cases c1 : (1048576 : Int) < (len1 : Int)
  · go_enter Try.func3, Try.ntmps3
    go_wp2
    go_ret
    exact ⟨rfl, Below.refl _ _⟩
  go_enter Try.func3, Try.ntmps3
  go_wp2_with fail
  refine (drawPolAdd w a0 len0 cap0 s0).mono ?_
  rintro e wd ⟨da, dca, A, db, dcb, B, rfl, hA, hB, hlA, hlB, hbd⟩
  have HA0 := Hid.mk' hA
  have HB0 := Hid.mk' hB
  have Z0 := Hid.mk' hbd
  have S1 := Hid.mk' (s1.below hbd)
  clear hA hB hbd s0 s1
  go_wp2_with fail
  refine (drawPolAdd wd a1 len1 cap1 S1.out).mono ?_
  rintro e we ⟨dc, dcc, C, dd, dcd, D, rfl, hC, hD, hlC, hlD, hbe⟩
  have HC0 := Hid.mk' hC
  clear hC hD S1
  have H1 := Hid.mk' (HA0.out.below hbe)
  clear HA0
  have H2 := Hid.mk' (HB0.out.below hbe)
  clear HB0
  have Z3 := Hid.mk' (bel_next Z0.out hbe)
  clear Z0
  clear hbe
  cases oA : okL A
  · have h : addV A B = ([], false) := if_neg (fun hh => by have := hh.1; rw [show polOk A.length (lf A) = false from oA] at this; cases this)
    go_wp2_with fail
    refine (addI_L H1.out H2.out).mono ?_
    rw [h]
    rintro e w4 ⟨a5, c6, rfl, b7, r8⟩
    have H9 := Hid.mk' (H1.out.below b7)
    clear H1
    have H10 := Hid.mk' (H2.out.below b7)
    clear H2
    have H11 := Hid.mk' (HC0.out.below b7)
    clear HC0
    have Z12 := Hid.mk' (bel_next Z3.out b7)
    clear Z3
    have H13 : Hid (RL w4 a5 c6 []) := r8
    clear r8
    clear b7
    go_wp2_with fail
    refine (addS_L H9.out H10.out).mono ?_
    rw [h]
    rintro e w14 ⟨a15, c16, rfl, b17, r18⟩
    have H19 := Hid.mk' (H9.out.below b17)
    clear H9
    have H20 := Hid.mk' (H10.out.below b17)
    clear H10
    have H21 := Hid.mk' (H11.out.below b17)
    clear H11
    have H22 := Hid.mk' (H13.out.below b17)
    clear H13
    have Z23 := Hid.mk' (bel_next Z12.out b17)
    clear Z12
    have H24 : Hid (RL w14 a15 c16 []) := r18
    clear r18
    clear b17
    go_wp2_with fail
    refine (he_L H22.out H24.out).mono ?_
    rw [sq_same]
    rintro e w25 ⟨rfl, b26⟩
    have H27 := Hid.mk' (H19.out.below b26)
    clear H19
    have H28 := Hid.mk' (H20.out.below b26)
    clear H20
    have H29 := Hid.mk' (H21.out.below b26)
    clear H21
    have H30 := Hid.mk' (H22.out.below b26)
    clear H22
    have H31 := Hid.mk' (H24.out.below b26)
    clear H24
    have Z32 := Hid.mk' (bel_next Z23.out b26)
    clear Z23
    clear b26
    go_wp2_with fail
    refine (okS_L H27.out).mono ?_
    rw [oA]
    rintro e w33 ⟨rfl, b34⟩
    have H35 := Hid.mk' (H27.out.below b34)
    clear H27
    have H36 := Hid.mk' (H28.out.below b34)
    clear H28
    have H37 := Hid.mk' (H29.out.below b34)
    clear H29
    have H38 := Hid.mk' (H30.out.below b34)
    clear H30
    have H39 := Hid.mk' (H31.out.below b34)
    clear H31
    have Z40 := Hid.mk' (bel_next Z32.out b34)
    clear Z32
    clear b34
    go_wp2_with fail
    refine (heOk_L _ ).mono ?_
    rintro e w41 ⟨rfl, b42⟩
    have H43 := Hid.mk' (H35.out.below b42)
    clear H35
    have H44 := Hid.mk' (H36.out.below b42)
    clear H36
    have H45 := Hid.mk' (H37.out.below b42)
    clear H37
    have H46 := Hid.mk' (H38.out.below b42)
    clear H38
    have H47 := Hid.mk' (H39.out.below b42)
    clear H39
    have Z48 := Hid.mk' (bel_next Z40.out b42)
    clear Z40
    clear b42
    go_wp2
    go_ret
    exact ⟨rfl, Z48.out⟩
  · cases oB : okL B
    · have h : addV A B = ([], false) := if_neg (fun hh => by have := hh.2.1; rw [show polOk B.length (lf B) = false from oB] at this; cases this)
      go_wp2_with fail
      refine (addI_L H1.out H2.out).mono ?_
      rw [h]
      rintro e w49 ⟨a50, c51, rfl, b52, r53⟩
      have H54 := Hid.mk' (H1.out.below b52)
      clear H1
      have H55 := Hid.mk' (H2.out.below b52)
      clear H2
      have H56 := Hid.mk' (HC0.out.below b52)
      clear HC0
      have Z57 := Hid.mk' (bel_next Z3.out b52)
      clear Z3
      have H58 : Hid (RL w49 a50 c51 []) := r53
      clear r53
      clear b52
      go_wp2_with fail
      refine (addS_L H54.out H55.out).mono ?_
      rw [h]
      rintro e w59 ⟨a60, c61, rfl, b62, r63⟩
      have H64 := Hid.mk' (H54.out.below b62)
      clear H54
      have H65 := Hid.mk' (H55.out.below b62)
      clear H55
      have H66 := Hid.mk' (H56.out.below b62)
      clear H56
      have H67 := Hid.mk' (H58.out.below b62)
      clear H58
      have Z68 := Hid.mk' (bel_next Z57.out b62)
      clear Z57
      have H69 : Hid (RL w59 a60 c61 []) := r63
      clear r63
      clear b62
      go_wp2_with fail
      refine (he_L H67.out H69.out).mono ?_
      rw [sq_same]
      rintro e w70 ⟨rfl, b71⟩
      have H72 := Hid.mk' (H64.out.below b71)
      clear H64
      have H73 := Hid.mk' (H65.out.below b71)
      clear H65
      have H74 := Hid.mk' (H66.out.below b71)
      clear H66
      have H75 := Hid.mk' (H67.out.below b71)
      clear H67
      have H76 := Hid.mk' (H69.out.below b71)
      clear H69
      have Z77 := Hid.mk' (bel_next Z68.out b71)
      clear Z68
      clear b71
      go_wp2_with fail
      refine (okS_L H72.out).mono ?_
      rw [oA]
      rintro e w78 ⟨rfl, b79⟩
      have H80 := Hid.mk' (H72.out.below b79)
      clear H72
      have H81 := Hid.mk' (H73.out.below b79)
      clear H73
      have H82 := Hid.mk' (H74.out.below b79)
      clear H74
      have H83 := Hid.mk' (H75.out.below b79)
      clear H75
      have H84 := Hid.mk' (H76.out.below b79)
      clear H76
      have Z85 := Hid.mk' (bel_next Z77.out b79)
      clear Z77
      clear b79
      go_wp2_with fail
      refine (okS_L H81.out).mono ?_
      rw [oB]
      rintro e w86 ⟨rfl, b87⟩
      have H88 := Hid.mk' (H80.out.below b87)
      clear H80
      have H89 := Hid.mk' (H81.out.below b87)
      clear H81
      have H90 := Hid.mk' (H82.out.below b87)
      clear H82
      have H91 := Hid.mk' (H83.out.below b87)
      clear H83
      have H92 := Hid.mk' (H84.out.below b87)
      clear H84
      have Z93 := Hid.mk' (bel_next Z85.out b87)
      clear Z85
      clear b87
      go_wp2_with fail
      refine (heOk_L _ ).mono ?_
      rintro e w94 ⟨rfl, b95⟩
      have H96 := Hid.mk' (H88.out.below b95)
      clear H88
      have H97 := Hid.mk' (H89.out.below b95)
      clear H89
      have H98 := Hid.mk' (H90.out.below b95)
      clear H90
      have H99 := Hid.mk' (H91.out.below b95)
      clear H91
      have H100 := Hid.mk' (H92.out.below b95)
      clear H92
      have Z101 := Hid.mk' (bel_next Z93.out b95)
      clear Z93
      clear b95
      go_wp2
      go_ret
      exact ⟨rfl, Z101.out⟩
    · have fA := (okL_falls oA).2
      have fB := (okL_falls oB).2
      have lA := (okL_falls oA).1
      have hl : (addL A B).length ≤ 400 := by have := addL_len A B; omega
      have h : addV A B = (addL A B, true) := addV_ok oA oB hl
      have e1 : addV B A = (addL A B, true) := by rw [addV_ok oB oA (by have := addL_len B A; omega), addL_comm fB fA]
      have e2 : addV A [] = (A, true) := by rw [addV_ok oA okL_nil (by rw [addL_nil fA]; exact lA), addL_nil fA]
      have aF := addL_facts fA fB
      have oX : okL (addL A B) = true := okL_of hl aF.1
      have HAT : Hid (∀ i, i < A.length → (polAt (lf (addL A B)) (addL A B).length (lf A i).m != fAdd (lf A i).c (polAt (lf B) B.length (lf A i).m)) = false) := fun i hi => by
        have hm : lf A i ∈ A := by rw [lf_eq hi]; exact List.getElem_mem hi
        have hc := (mem_coef fA hm).1
        have hr := fA.2 _ hm
        have hb := coef_range fB (lf A i).m
        rw [polAt_coef, polAt_coef, aF.2, hc, fAdd_in (by omega) hr.2.2 hb.1 hb.2]
        simp
      have fX := aF.1
      have lX := addL_len A B
      go_wp2_with fail
      refine (addI_L H1.out H2.out).mono ?_
      rw [h]
      rintro e w102 ⟨a103, c104, rfl, b105, r106⟩
      have H107 := Hid.mk' (H1.out.below b105)
      clear H1
      have H108 := Hid.mk' (H2.out.below b105)
      clear H2
      have H109 := Hid.mk' (HC0.out.below b105)
      clear HC0
      have Z110 := Hid.mk' (bel_next Z3.out b105)
      clear Z3
      have H111 : Hid (RL w102 a103 c104 (addL A B)) := r106
      clear r106
      clear b105
      go_wp2_with fail
      refine (addS_L H107.out H108.out).mono ?_
      rw [h]
      rintro e w112 ⟨a113, c114, rfl, b115, r116⟩
      have H117 := Hid.mk' (H107.out.below b115)
      clear H107
      have H118 := Hid.mk' (H108.out.below b115)
      clear H108
      have H119 := Hid.mk' (H109.out.below b115)
      clear H109
      have H120 := Hid.mk' (H111.out.below b115)
      clear H111
      have Z121 := Hid.mk' (bel_next Z110.out b115)
      clear Z110
      have H122 : Hid (RL w112 a113 c114 (addL A B)) := r116
      clear r116
      clear b115
      go_wp2_with fail
      refine (he_L H120.out H122.out).mono ?_
      rw [sq_same]
      rintro e w123 ⟨rfl, b124⟩
      have H125 := Hid.mk' (H117.out.below b124)
      clear H117
      have H126 := Hid.mk' (H118.out.below b124)
      clear H118
      have H127 := Hid.mk' (H119.out.below b124)
      clear H119
      have H128 := Hid.mk' (H120.out.below b124)
      clear H120
      have H129 := Hid.mk' (H122.out.below b124)
      clear H122
      have Z130 := Hid.mk' (bel_next Z121.out b124)
      clear Z121
      clear b124
      go_wp2_with fail
      refine (addI_L H126.out H125.out).mono ?_
      rw [e1]
      rintro e w131 ⟨a132, c133, rfl, b134, r135⟩
      have H136 := Hid.mk' (H125.out.below b134)
      clear H125
      have H137 := Hid.mk' (H126.out.below b134)
      clear H126
      have H138 := Hid.mk' (H127.out.below b134)
      clear H127
      have H139 := Hid.mk' (H128.out.below b134)
      clear H128
      have H140 := Hid.mk' (H129.out.below b134)
      clear H129
      have Z141 := Hid.mk' (bel_next Z130.out b134)
      clear Z130
      have H142 : Hid (RL w131 a132 c133 (addL A B)) := r135
      clear r135
      clear b134
      clear aF
      go_wp2
      go_loopw [15] (fun v wr => ∃ i : Nat, i ≤ A.length ∧ v = .int .i64 (i : Int) ∧ Below w.heap.size w wr ∧ RL wr da dca A ∧ RL wr db dcb B ∧ RL wr dc dcc C ∧ RL wr a103 c104 (addL A B) ∧ RL wr a132 c133 (addL A B)) (fun v _ => A.length - (intOf v).toNat)
      case atStart => exact ⟨0, Nat.zero_le _, rfl, Z141.out, H136.out, H137.out, H138.out, H139.out, H142.out⟩
      case round =>
        obtain ⟨i, hi, rfl, hBw, kA, kB, kC, kX, kV⟩ := hrel
        by_cases hlt : i < A.length
        · have hil : (i : Int) < (A.length : Int) := by omega
          rcases kA.2.2 with h0 | ⟨pb, off, hpe, hblt, hcl⟩
          · omega
          have hne := HAT.out i hlt
          have hck := hcl i hlt
          have ne := Ext.there wr
          have s0 : ∀ u : Ext wr, u.1.cell? ⟨pb, off + i * 5, none⟩ = some (.int .i64 (lf A i).c) := fun u => (u.cell hblt).trans hck.1
          have s1 : ∀ u : Ext wr, u.1.cell? ⟨pb, off + i * 5 + 1, none⟩ = some (.int .i64 (lf A i).m.x) := fun u => (u.cell hblt).trans hck.2.1
          have s2 : ∀ u : Ext wr, u.1.cell? ⟨pb, off + i * 5 + 2, none⟩ = some (.int .i64 (lf A i).m.y) := fun u => (u.cell hblt).trans hck.2.2.1
          have s3 : ∀ u : Ext wr, u.1.cell? ⟨pb, off + i * 5 + 3, none⟩ = some (.int .i64 (lf A i).m.d) := fun u => (u.cell hblt).trans hck.2.2.2.1
          have s4 : ∀ u : Ext wr, u.1.cell? ⟨pb, off + i * 5 + 4, none⟩ = some (.int .i64 (lf A i).m.e) := fun u => (u.cell hblt).trans hck.2.2.2.2
          have FX : Hid (∀ u : Ext wr, RL u.1 a103 c104 (addL A B)) := fun u => RL.below kX u.2
          have FB : Hid (∀ u : Ext wr, RL u.1 db dcb B) := fun u => RL.below kB u.2
          have KA := Hid.mk' kA
          have KB := Hid.mk' kB
          have KC := Hid.mk' kC
          have KX := Hid.mk' kX
          have KV := Hid.mk' kV
          have KW := Hid.mk' hBw
          clear kA kB kC kX kV hBw hck hcl
          subst hpe
          go_wp2_with fail
          refine wp_region_ext (by kernel_rfl) (by kernel_rfl) ?_
          repeat (go_big_quiet_step (first | (go_at_call_of 15 (Value.slice a103 (addL A B).length c104); exact ext_grows (polAtI _ _ _ _ _ _ _ _ _ (FX.out _))) | (go_at_call_of 15 (Value.slice db B.length dcb); exact ext_grows (polAtI _ _ _ _ _ _ _ _ _ (FB.out _))) | (go_at_call 16; exact ext_same (addI _ _ _))))
          refine wpQuiet_nil ?_
          rintro _ ⟨u, rfl⟩
          have HU := Hid.mk' u.2
          clear s0 s1 s2 s3 s4 ne
          go_wp2
          go_roundw
          case rel => exact ⟨i + 1, by omega, by go_num, bel_next KW.out HU.out, RL.below KA.out HU.out, RL.below KB.out HU.out, RL.below KC.out HU.out, RL.below KX.out HU.out, RL.below KV.out HU.out⟩
          case measure => simp [intOf]; omega
        · have hni : ¬ (i : Int) < (A.length : Int) := by omega
          have H143 := Hid.mk' (RL.below kA (bel_one wr (.cells #[] 35)))
          have H144 := Hid.mk' (RL.below kB (bel_one wr (.cells #[] 35)))
          have H145 := Hid.mk' (RL.below kC (bel_one wr (.cells #[] 35)))
          have H146 := Hid.mk' (RL.below kX (bel_one wr (.cells #[] 35)))
          have H147 := Hid.mk' (RL.below kV (bel_one wr (.cells #[] 35)))
          have H148 : Hid (RL (wr.alloc (.cells #[] 35)) (some ⟨wr.heap.size, 0, none⟩) 0 []) := ⟨Nat.le_refl _, by simp, .inl rfl⟩
          have Z149 := Hid.mk' (bel_next hBw (bel_one wr (.cells #[] 35)))
          clear kA kB kC kX kV hBw HAT
          go_wp2_with fail
          refine (addI_L H143.out H148.out).mono ?_
          rw [e2]
          rintro e w150 ⟨a151, c152, rfl, b153, r154⟩
          have H155 := Hid.mk' (H143.out.below b153)
          clear H143
          have H156 := Hid.mk' (H144.out.below b153)
          clear H144
          have H157 := Hid.mk' (H145.out.below b153)
          clear H145
          have H158 := Hid.mk' (H146.out.below b153)
          clear H146
          have H159 := Hid.mk' (H147.out.below b153)
          clear H147
          have H160 := Hid.mk' (H148.out.below b153)
          clear H148
          have Z161 := Hid.mk' (bel_next Z149.out b153)
          clear Z149
          have H162 : Hid (RL w150 a151 c152 A) := r154
          clear r154
          clear b153
          cases oC : okL C
          · go_wp2_with fail
            refine (okS_L H157.out).mono ?_
            rw [oC]
            rintro e w163 ⟨rfl, b164⟩
            have H165 := Hid.mk' (H155.out.below b164)
            clear H155
            have H166 := Hid.mk' (H156.out.below b164)
            clear H156
            have H167 := Hid.mk' (H157.out.below b164)
            clear H157
            have H168 := Hid.mk' (H158.out.below b164)
            clear H158
            have H169 := Hid.mk' (H159.out.below b164)
            clear H159
            have H170 := Hid.mk' (H160.out.below b164)
            clear H160
            have H171 := Hid.mk' (H162.out.below b164)
            clear H162
            have Z172 := Hid.mk' (bel_next Z161.out b164)
            clear Z161
            clear b164
            go_wp2_with fail
            refine (he_L H168.out H169.out).mono ?_
            rw [sq_same]
            rintro e w173 ⟨rfl, b174⟩
            have H175 := Hid.mk' (H165.out.below b174)
            clear H165
            have H176 := Hid.mk' (H166.out.below b174)
            clear H166
            have H177 := Hid.mk' (H167.out.below b174)
            clear H167
            have H178 := Hid.mk' (H168.out.below b174)
            clear H168
            have H179 := Hid.mk' (H169.out.below b174)
            clear H169
            have H180 := Hid.mk' (H170.out.below b174)
            clear H170
            have H181 := Hid.mk' (H171.out.below b174)
            clear H171
            have Z182 := Hid.mk' (bel_next Z172.out b174)
            clear Z172
            clear b174
            go_wp2_with fail
            refine (he_L H181.out H175.out).mono ?_
            rw [sq_same]
            rintro e w183 ⟨rfl, b184⟩
            have H185 := Hid.mk' (H175.out.below b184)
            clear H175
            have H186 := Hid.mk' (H176.out.below b184)
            clear H176
            have H187 := Hid.mk' (H177.out.below b184)
            clear H177
            have H188 := Hid.mk' (H178.out.below b184)
            clear H178
            have H189 := Hid.mk' (H179.out.below b184)
            clear H179
            have H190 := Hid.mk' (H180.out.below b184)
            clear H180
            have H191 := Hid.mk' (H181.out.below b184)
            clear H181
            have Z192 := Hid.mk' (bel_next Z182.out b184)
            clear Z182
            clear b184
            go_wp2_with fail
            refine (heOk_L _ ).mono ?_
            rintro e w193 ⟨rfl, b194⟩
            have H195 := Hid.mk' (H185.out.below b194)
            clear H185
            have H196 := Hid.mk' (H186.out.below b194)
            clear H186
            have H197 := Hid.mk' (H187.out.below b194)
            clear H187
            have H198 := Hid.mk' (H188.out.below b194)
            clear H188
            have H199 := Hid.mk' (H189.out.below b194)
            clear H189
            have H200 := Hid.mk' (H190.out.below b194)
            clear H190
            have H201 := Hid.mk' (H191.out.below b194)
            clear H191
            have Z202 := Hid.mk' (bel_next Z192.out b194)
            clear Z192
            clear b194
            go_wp2
            go_ret
            exact ⟨rfl, Z202.out⟩
          · have fC := (okL_falls oC).2
            have e3 : addV (addL A B) C = (addL (addL A B) C, true) := addV_ok oX oC (by have := addL_len (addL A B) C; omega)
            have e4 : addV B C = (addL B C, true) := addV_ok oB oC (by have := addL_len B C; omega)
            have e5 : addV A (addL B C) = (addL (addL A B) C, true) := by rw [addV_ok oA (okL_of (by have := addL_len B C; omega) (addL_facts fB fC).1) (by have := addL_len A (addL B C); have := addL_len B C; omega), addL_assoc fA fB fC]
            go_wp2_with fail
            refine (okS_L H157.out).mono ?_
            rw [oC]
            rintro e w203 ⟨rfl, b204⟩
            have H205 := Hid.mk' (H155.out.below b204)
            clear H155
            have H206 := Hid.mk' (H156.out.below b204)
            clear H156
            have H207 := Hid.mk' (H157.out.below b204)
            clear H157
            have H208 := Hid.mk' (H158.out.below b204)
            clear H158
            have H209 := Hid.mk' (H159.out.below b204)
            clear H159
            have H210 := Hid.mk' (H160.out.below b204)
            clear H160
            have H211 := Hid.mk' (H162.out.below b204)
            clear H162
            have Z212 := Hid.mk' (bel_next Z161.out b204)
            clear Z161
            clear b204
            go_wp2_with fail
            refine (addI_L H208.out H207.out).mono ?_
            rw [e3]
            rintro e w213 ⟨a214, c215, rfl, b216, r217⟩
            have H218 := Hid.mk' (H205.out.below b216)
            clear H205
            have H219 := Hid.mk' (H206.out.below b216)
            clear H206
            have H220 := Hid.mk' (H207.out.below b216)
            clear H207
            have H221 := Hid.mk' (H208.out.below b216)
            clear H208
            have H222 := Hid.mk' (H209.out.below b216)
            clear H209
            have H223 := Hid.mk' (H210.out.below b216)
            clear H210
            have H224 := Hid.mk' (H211.out.below b216)
            clear H211
            have Z225 := Hid.mk' (bel_next Z212.out b216)
            clear Z212
            have H226 : Hid (RL w213 a214 c215 (addL (addL A B) C)) := r217
            clear r217
            clear b216
            go_wp2_with fail
            refine (addI_L H219.out H220.out).mono ?_
            rw [e4]
            rintro e w227 ⟨a228, c229, rfl, b230, r231⟩
            have H232 := Hid.mk' (H218.out.below b230)
            clear H218
            have H233 := Hid.mk' (H219.out.below b230)
            clear H219
            have H234 := Hid.mk' (H220.out.below b230)
            clear H220
            have H235 := Hid.mk' (H221.out.below b230)
            clear H221
            have H236 := Hid.mk' (H222.out.below b230)
            clear H222
            have H237 := Hid.mk' (H223.out.below b230)
            clear H223
            have H238 := Hid.mk' (H224.out.below b230)
            clear H224
            have H239 := Hid.mk' (H226.out.below b230)
            clear H226
            have Z240 := Hid.mk' (bel_next Z225.out b230)
            clear Z225
            have H241 : Hid (RL w227 a228 c229 (addL B C)) := r231
            clear r231
            clear b230
            go_wp2_with fail
            refine (addI_L H232.out H241.out).mono ?_
            rw [e5]
            rintro e w242 ⟨a243, c244, rfl, b245, r246⟩
            have H247 := Hid.mk' (H232.out.below b245)
            clear H232
            have H248 := Hid.mk' (H233.out.below b245)
            clear H233
            have H249 := Hid.mk' (H234.out.below b245)
            clear H234
            have H250 := Hid.mk' (H235.out.below b245)
            clear H235
            have H251 := Hid.mk' (H236.out.below b245)
            clear H236
            have H252 := Hid.mk' (H237.out.below b245)
            clear H237
            have H253 := Hid.mk' (H238.out.below b245)
            clear H238
            have H254 := Hid.mk' (H239.out.below b245)
            clear H239
            have H255 := Hid.mk' (H241.out.below b245)
            clear H241
            have Z256 := Hid.mk' (bel_next Z240.out b245)
            clear Z240
            have H257 : Hid (RL w242 a243 c244 (addL (addL A B) C)) := r246
            clear r246
            clear b245
            go_wp2_with fail
            refine (he_L H250.out H251.out).mono ?_
            rw [sq_same]
            rintro e w258 ⟨rfl, b259⟩
            have H260 := Hid.mk' (H247.out.below b259)
            clear H247
            have H261 := Hid.mk' (H248.out.below b259)
            clear H248
            have H262 := Hid.mk' (H249.out.below b259)
            clear H249
            have H263 := Hid.mk' (H250.out.below b259)
            clear H250
            have H264 := Hid.mk' (H251.out.below b259)
            clear H251
            have H265 := Hid.mk' (H252.out.below b259)
            clear H252
            have H266 := Hid.mk' (H253.out.below b259)
            clear H253
            have H267 := Hid.mk' (H254.out.below b259)
            clear H254
            have H268 := Hid.mk' (H255.out.below b259)
            clear H255
            have H269 := Hid.mk' (H257.out.below b259)
            clear H257
            have Z270 := Hid.mk' (bel_next Z256.out b259)
            clear Z256
            clear b259
            go_wp2_with fail
            refine (he_L H266.out H260.out).mono ?_
            rw [sq_same]
            rintro e w271 ⟨rfl, b272⟩
            have H273 := Hid.mk' (H260.out.below b272)
            clear H260
            have H274 := Hid.mk' (H261.out.below b272)
            clear H261
            have H275 := Hid.mk' (H262.out.below b272)
            clear H262
            have H276 := Hid.mk' (H263.out.below b272)
            clear H263
            have H277 := Hid.mk' (H264.out.below b272)
            clear H264
            have H278 := Hid.mk' (H265.out.below b272)
            clear H265
            have H279 := Hid.mk' (H266.out.below b272)
            clear H266
            have H280 := Hid.mk' (H267.out.below b272)
            clear H267
            have H281 := Hid.mk' (H268.out.below b272)
            clear H268
            have H282 := Hid.mk' (H269.out.below b272)
            clear H269
            have Z283 := Hid.mk' (bel_next Z270.out b272)
            clear Z270
            clear b272
            go_wp2_with fail
            refine (he_L H280.out H282.out).mono ?_
            rw [sq_same]
            rintro e w284 ⟨rfl, b285⟩
            have H286 := Hid.mk' (H273.out.below b285)
            clear H273
            have H287 := Hid.mk' (H274.out.below b285)
            clear H274
            have H288 := Hid.mk' (H275.out.below b285)
            clear H275
            have H289 := Hid.mk' (H276.out.below b285)
            clear H276
            have H290 := Hid.mk' (H277.out.below b285)
            clear H277
            have H291 := Hid.mk' (H278.out.below b285)
            clear H278
            have H292 := Hid.mk' (H279.out.below b285)
            clear H279
            have H293 := Hid.mk' (H280.out.below b285)
            clear H280
            have H294 := Hid.mk' (H281.out.below b285)
            clear H281
            have H295 := Hid.mk' (H282.out.below b285)
            clear H282
            have Z296 := Hid.mk' (bel_next Z283.out b285)
            clear Z283
            clear b285
            go_wp2_with fail
            refine (okI_L H289.out).mono ?_
            rw [oX]
            rintro e w297 ⟨rfl, b298⟩
            have H299 := Hid.mk' (H286.out.below b298)
            clear H286
            have H300 := Hid.mk' (H287.out.below b298)
            clear H287
            have H301 := Hid.mk' (H288.out.below b298)
            clear H288
            have H302 := Hid.mk' (H289.out.below b298)
            clear H289
            have H303 := Hid.mk' (H290.out.below b298)
            clear H290
            have H304 := Hid.mk' (H291.out.below b298)
            clear H291
            have H305 := Hid.mk' (H292.out.below b298)
            clear H292
            have H306 := Hid.mk' (H293.out.below b298)
            clear H293
            have H307 := Hid.mk' (H294.out.below b298)
            clear H294
            have H308 := Hid.mk' (H295.out.below b298)
            clear H295
            have Z309 := Hid.mk' (bel_next Z296.out b298)
            clear Z296
            clear b298
            go_wp2
            go_ret
            exact ⟨rfl, Z309.out⟩
end Go.Proofs.Ytddfpjjeoojlmaa
