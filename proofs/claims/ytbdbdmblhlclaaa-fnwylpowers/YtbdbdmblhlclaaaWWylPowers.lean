/-
  The walk of FnWylPowers: whatever the code, it comes out true, and nothing that was there is turned.
-/
import Derived.Test.YtbdbdmblhlclaaaPowD
namespace Go.Proofs.Ytbdbdmblhlclaaa
open Go.RowKit
set_option linter.unusedVariables false
abbrev Q4 (b : Nat) (x y d e : Int) (u : World) : Prop := u.cell? ⟨b, 0, none⟩ = some (.int .i64 x) ∧ u.cell? ⟨b, 1, none⟩ = some (.int .i64 y) ∧ u.cell? ⟨b, 2, none⟩ = some (.int .i64 d) ∧ u.cell? ⟨b, 3, none⟩ = some (.int .i64 e)
theorem Q4.below {b : Nat} {x y d e : Int} {u u' : World} (h : Q4 b x y d e u) (hb : Below u.heap.size u u') : Q4 b x y d e u' :=
  have hl : b < u.heap.size := World.block_lt_of_cell? u ⟨b, 0, none⟩ h.1
  have hc : ∀ o, u'.cell? ⟨b, o, none⟩ = u.cell? ⟨b, o, none⟩ := fun o => World.cell?_of_block (w := u) (a := ⟨b, o, none⟩) (hb.block b hl)
  ⟨(hc _).trans h.1, (hc _).trans h.2.1, (hc _).trans h.2.2.1, (hc _).trans h.2.2.2⟩
set_option maxRecDepth 100000 in
set_option maxHeartbeats 8000000 in
theorem walk_FnWylPowers (w : World) (a0 : Option Addr) (len0 cap0 : Nat) (s0 : Src w a0 len0 cap0) :
    Calls Try.prog 3 #[.slice a0 len0 cap0] w fun e w' => e = .returned (.bool true) ∧ Below w.heap.size w w' := by
  by_cases c0 : (1048576 : Int) < (len0 : Int)
  · go_enter Try.func3, Try.ntmps3
    go_wp2
    go_ret
    exact ⟨rfl, Below.refl _ _⟩
  go_enter Try.func3, Try.ntmps3
  go_wp2_with fail
  refine (drawWylPow w a0 len0 cap0 s0).mono ?_
  rintro e wd ⟨v0, n0, rfl, hbd⟩
  have Z0 := Hid.mk' hbd
  clear hbd s0
  by_cases hlo : n0 < 1
  · obtain ⟨m, hm⟩ : ∃ m, (len0 : Int).tmod 9 = m := ⟨_, rfl⟩
    have hm0 : 0 ≤ m ∧ m < 9 := by rw [Int.tmod_eq_emod_of_nonneg (by omega)] at hm; omega
    obtain ⟨n, hn⟩ : ∃ n, 1 + m = n := ⟨_, rfl⟩
    have hwm : IntKind.i64.wrap (1 + m) = n := by rw [IntKind.wrap_i64]; omega
    have hn1 : 1 ≤ n ∧ n ≤ 9 := by omega
    obtain ⟨f1, f2, f3, f4, f5, f6, f7, f8, f9, f10⟩ := pw_facts (n := n) (by omega) (by omega)
    have P1 := Hid.mk' f1
    have P2 := Hid.mk' f2
    have P3 := Hid.mk' f3
    have P4 := Hid.mk' f4
    have P5 := Hid.mk' f5
    have P6 := Hid.mk' f6
    have P7 := Hid.mk' f7
    have P8 := Hid.mk' f8
    have P9 := Hid.mk' f9
    have P10 := Hid.mk' f10
    clear f1 f2 f3 f4 f5 f6 f7 f8 f9 f10
    have hwn : IntKind.i64.wrap (n - 1) = n - 1 := by rw [IntKind.wrap_i64]; omega
    have KX : Hid (M4 ((wd.alloc (.cells #[.int .i64 n, .int .i64 0, .int .i64 0, .int .i64 0] 27)).alloc (.cells #[.int .i64 0, .int .i64 0, .int .i64 n, .int .i64 0] 27)) wd.heap.size n 0 0 0) := M4.alloc (M4.box wd 27 n 0 0 0) _
    have KD : Hid (M4 ((wd.alloc (.cells #[.int .i64 n, .int .i64 0, .int .i64 0, .int .i64 0] 27)).alloc (.cells #[.int .i64 0, .int .i64 0, .int .i64 n, .int .i64 0] 27)) (wd.heap.size + 1) 0 0 n 0) := by
      have h := M4.box (wd.alloc (.cells #[.int .i64 n, .int .i64 0, .int .i64 0, .int .i64 0] 27)) 27 0 0 n 0
      rw [show (wd.alloc (.cells #[.int .i64 n, .int .i64 0, .int .i64 0, .int .i64 0] 27)).heap.size = wd.heap.size + 1 from by simp] at h
      exact h
    have KB := Hid.mk' (bel_next Z0.out (bel_two wd (.cells #[.int .i64 n, .int .i64 0, .int .i64 0, .int .i64 0] 27) (.cells #[.int .i64 0, .int .i64 0, .int .i64 n, .int .i64 0] 27)))
    clear Z0
    go_wp2_with fail
    generalize ((wd.alloc (.cells #[.int .i64 n, .int .i64 0, .int .i64 0, .int .i64 0] 27)).alloc (.cells #[.int .i64 0, .int .i64 0, .int .i64 n, .int .i64 0] 27)) = W7 at KX KD KB ⊢
    have hS16 : Q4 wd.heap.size n 0 0 0 W7.drew := M4.drew' KX.out
    go_region_held3 (fun u => u.cell? ⟨wd.heap.size, 0, none⟩ = some (.int .i64 n) ∧ u.cell? ⟨wd.heap.size, 1, none⟩ = some (.int .i64 0) ∧ u.cell? ⟨wd.heap.size, 2, none⟩ = some (.int .i64 0) ∧ u.cell? ⟨wd.heap.size, 3, none⟩ = some (.int .i64 0)) (first | with_reducible exact hS16 | with_reducible exact Q4.below hS16 b10 | with_reducible exact Q4.below (Q4.below hS16 b10) b11 | with_reducible exact Q4.below (Q4.below (Q4.below hS16 b10) b11) b12) (first | (go_at_call 6; refine (polOfI_L _ _ _ _ _ _).mono ?_; first | (rw [polOf_D]; rintro e w1 ⟨a4, c7, rfl, b10, r13⟩) | (rw [P3.out]; rintro e w2 ⟨a5, c8, rfl, b11, r14⟩; have r17 := RL.below r13 b11)) | (go_at_call 5; refine (wmI_L r17 r14).mono ?_; rw [P1.out]; rintro e w3 ⟨a6, c9, rfl, b12, r15⟩))
    have hb18 : Below W7.heap.size W7 w3 := bel_next (Below.refl _ _).drew (bel_next (bel_next b10 b11) b12)
    clear hS16 r13 r17 r14 b10 b11 b12
    have H19 := Hid.mk' (KX.out.below hb18)
    clear KX
    have H20 := Hid.mk' (KD.out.below hb18)
    clear KD
    have Z21 := Hid.mk' (bel_next KB.out hb18)
    clear KB
    have H22 : Hid (RL w3 a6 c9 (sumOf 1 n 1 n (n - 1) 0)) := r15
    clear r15
    clear hb18
    go_wp2_with fail
    have hS38 : Q4 wd.heap.size n 0 0 0 w3.drew := M4.drew' H19.out
    go_region_held3 (fun u => u.cell? ⟨wd.heap.size, 0, none⟩ = some (.int .i64 n) ∧ u.cell? ⟨wd.heap.size, 1, none⟩ = some (.int .i64 0) ∧ u.cell? ⟨wd.heap.size, 2, none⟩ = some (.int .i64 0) ∧ u.cell? ⟨wd.heap.size, 3, none⟩ = some (.int .i64 0)) (first | with_reducible exact hS38 | with_reducible exact Q4.below hS38 b32 | with_reducible exact Q4.below (Q4.below hS38 b32) b33 | with_reducible exact Q4.below (Q4.below (Q4.below hS38 b32) b33) b34) (first | (go_at_call 6; refine (polOfI_L _ _ _ _ _ _).mono ?_; first | (rw [polOf_D]; rintro e w23 ⟨a26, c29, rfl, b32, r35⟩) | (rw [P3.out]; rintro e w24 ⟨a27, c30, rfl, b33, r36⟩; have r39 := RL.below r35 b33)) | (go_at_call 7; refine (wmS_L r39 r36).mono ?_; rw [P1.out]; rintro e w25 ⟨a28, c31, rfl, b34, r37⟩))
    have hb40 : Below w3.heap.size w3 w25 := bel_next (Below.refl _ _).drew (bel_next (bel_next b32 b33) b34)
    clear hS38 r35 r39 r36 b32 b33 b34
    have H41 := Hid.mk' (H19.out.below hb40)
    clear H19
    have H42 := Hid.mk' (H20.out.below hb40)
    clear H20
    have H43 := Hid.mk' (H22.out.below hb40)
    clear H22
    have Z44 := Hid.mk' (bel_next Z21.out hb40)
    clear Z21
    have H45 : Hid (RL w25 a28 c31 (sumOf 1 n 1 n (n - 1) 0)) := r37
    clear r37
    clear hb40
    go_wp2_with fail
    refine (he_L H43.out H45.out).mono ?_
    rw [sq_same]
    rintro e w46 ⟨rfl, b47⟩
    have H48 := Hid.mk' (H41.out.below b47)
    clear H41
    have H49 := Hid.mk' (H42.out.below b47)
    clear H42
    have H50 := Hid.mk' (H43.out.below b47)
    clear H43
    have H51 := Hid.mk' (H45.out.below b47)
    clear H45
    have Z52 := Hid.mk' (bel_next Z44.out b47)
    clear Z44
    clear b47
    go_wp2_with fail
    refine (polOfI_L 1 n 0 1 0 _ ).mono ?_
    rw [P5.out]
    rintro e w53 ⟨a54, c55, rfl, b56, r57⟩
    have H58 := Hid.mk' (H48.out.below b56)
    clear H48
    have H59 := Hid.mk' (H49.out.below b56)
    clear H49
    have H60 := Hid.mk' (H50.out.below b56)
    clear H50
    have H61 := Hid.mk' (H51.out.below b56)
    clear H51
    have Z62 := Hid.mk' (bel_next Z52.out b56)
    clear Z52
    have H63 : Hid (RL w53 a54 c55 [⟨1, ⟨n, 0, 1, 0⟩⟩]) := r57
    clear r57
    clear b56
    go_wp2_with fail
    refine (polOfI_L n (n - 1) 0 0 0 _ ).mono ?_
    rw [P7.out]
    rintro e w64 ⟨a65, c66, rfl, b67, r68⟩
    have H69 := Hid.mk' (H58.out.below b67)
    clear H58
    have H70 := Hid.mk' (H59.out.below b67)
    clear H59
    have H71 := Hid.mk' (H60.out.below b67)
    clear H60
    have H72 := Hid.mk' (H61.out.below b67)
    clear H61
    have H73 := Hid.mk' (H63.out.below b67)
    clear H63
    have Z74 := Hid.mk' (bel_next Z62.out b67)
    clear Z62
    have H75 : Hid (RL w64 a65 c66 [⟨n, ⟨n - 1, 0, 0, 0⟩⟩]) := r68
    clear r68
    clear b67
    go_wp2_with fail
    refine (addI_L H73.out H75.out).mono ?_
    rw [P9.out]
    rintro e w76 ⟨a77, c78, rfl, b79, r80⟩
    have H81 := Hid.mk' (H69.out.below b79)
    clear H69
    have H82 := Hid.mk' (H70.out.below b79)
    clear H70
    have H83 := Hid.mk' (H71.out.below b79)
    clear H71
    have H84 := Hid.mk' (H72.out.below b79)
    clear H72
    have H85 := Hid.mk' (H73.out.below b79)
    clear H73
    have H86 := Hid.mk' (H75.out.below b79)
    clear H75
    have Z87 := Hid.mk' (bel_next Z74.out b79)
    clear Z74
    have H88 : Hid (RL w76 a77 c78 (sumOf 1 n 1 n (n - 1) 0)) := r80
    clear r80
    clear b79
    obtain ⟨z0, z1, z2, z3⟩ := H82.out
    go_wp2_with fail
    refine (polOfI_L 1 0 0 n 0 _ ).mono ?_
    rw [P4.out]
    rintro e w89 ⟨a90, c91, rfl, b92, r93⟩
    have H94 := Hid.mk' (H81.out.below b92)
    clear H81
    have H95 := Hid.mk' (H82.out.below b92)
    clear H82
    have H96 := Hid.mk' (H83.out.below b92)
    clear H83
    have H97 := Hid.mk' (H84.out.below b92)
    clear H84
    have H98 := Hid.mk' (H85.out.below b92)
    clear H85
    have H99 := Hid.mk' (H86.out.below b92)
    clear H86
    have H100 := Hid.mk' (H88.out.below b92)
    clear H88
    have Z101 := Hid.mk' (bel_next Z87.out b92)
    clear Z87
    have H102 : Hid (RL w89 a90 c91 [⟨1, ⟨0, 0, n, 0⟩⟩]) := r93
    clear r93
    clear b92
    clear z0 z1 z2 z3
    go_wp2_with fail
    refine (polOfI_L 1 1 0 0 0 _ ).mono ?_
    rw [polOf_X]
    rintro e w103 ⟨a104, c105, rfl, b106, r107⟩
    have H108 := Hid.mk' (H94.out.below b106)
    clear H94
    have H109 := Hid.mk' (H95.out.below b106)
    clear H95
    have H110 := Hid.mk' (H96.out.below b106)
    clear H96
    have H111 := Hid.mk' (H97.out.below b106)
    clear H97
    have H112 := Hid.mk' (H98.out.below b106)
    clear H98
    have H113 := Hid.mk' (H99.out.below b106)
    clear H99
    have H114 := Hid.mk' (H100.out.below b106)
    clear H100
    have H115 := Hid.mk' (H102.out.below b106)
    clear H102
    have Z116 := Hid.mk' (bel_next Z101.out b106)
    clear Z101
    have H117 : Hid (RL w103 a104 c105 [⟨1, ⟨1, 0, 0, 0⟩⟩]) := r107
    clear r107
    clear b106
    go_wp2_with fail
    refine (wmI_L H115.out H117.out).mono ?_
    rw [P2.out]
    rintro e w118 ⟨a119, c120, rfl, b121, r122⟩
    have H123 := Hid.mk' (H108.out.below b121)
    clear H108
    have H124 := Hid.mk' (H109.out.below b121)
    clear H109
    have H125 := Hid.mk' (H110.out.below b121)
    clear H110
    have H126 := Hid.mk' (H111.out.below b121)
    clear H111
    have H127 := Hid.mk' (H112.out.below b121)
    clear H112
    have H128 := Hid.mk' (H113.out.below b121)
    clear H113
    have H129 := Hid.mk' (H114.out.below b121)
    clear H114
    have H130 := Hid.mk' (H115.out.below b121)
    clear H115
    have H131 := Hid.mk' (H117.out.below b121)
    clear H117
    have Z132 := Hid.mk' (bel_next Z116.out b121)
    clear Z116
    have H133 : Hid (RL w118 a119 c120 (sumOf 1 1 n n 0 (n - 1))) := r122
    clear r122
    clear b121
    go_wp2_with fail
    refine (polOfI_L 1 1 0 n 0 _ ).mono ?_
    rw [P6.out]
    rintro e w134 ⟨a135, c136, rfl, b137, r138⟩
    have H139 := Hid.mk' (H123.out.below b137)
    clear H123
    have H140 := Hid.mk' (H124.out.below b137)
    clear H124
    have H141 := Hid.mk' (H125.out.below b137)
    clear H125
    have H142 := Hid.mk' (H126.out.below b137)
    clear H126
    have H143 := Hid.mk' (H127.out.below b137)
    clear H127
    have H144 := Hid.mk' (H128.out.below b137)
    clear H128
    have H145 := Hid.mk' (H129.out.below b137)
    clear H129
    have H146 := Hid.mk' (H130.out.below b137)
    clear H130
    have H147 := Hid.mk' (H131.out.below b137)
    clear H131
    have H148 := Hid.mk' (H133.out.below b137)
    clear H133
    have Z149 := Hid.mk' (bel_next Z132.out b137)
    clear Z132
    have H150 : Hid (RL w134 a135 c136 [⟨1, ⟨1, 0, n, 0⟩⟩]) := r138
    clear r138
    clear b137
    go_wp2_with fail
    refine (polOfI_L n 0 0 (n - 1) 0 _ ).mono ?_
    rw [P8.out]
    rintro e w151 ⟨a152, c153, rfl, b154, r155⟩
    have H156 := Hid.mk' (H139.out.below b154)
    clear H139
    have H157 := Hid.mk' (H140.out.below b154)
    clear H140
    have H158 := Hid.mk' (H141.out.below b154)
    clear H141
    have H159 := Hid.mk' (H142.out.below b154)
    clear H142
    have H160 := Hid.mk' (H143.out.below b154)
    clear H143
    have H161 := Hid.mk' (H144.out.below b154)
    clear H144
    have H162 := Hid.mk' (H145.out.below b154)
    clear H145
    have H163 := Hid.mk' (H146.out.below b154)
    clear H146
    have H164 := Hid.mk' (H147.out.below b154)
    clear H147
    have H165 := Hid.mk' (H148.out.below b154)
    clear H148
    have H166 := Hid.mk' (H150.out.below b154)
    clear H150
    have Z167 := Hid.mk' (bel_next Z149.out b154)
    clear Z149
    have H168 : Hid (RL w151 a152 c153 [⟨n, ⟨0, 0, n - 1, 0⟩⟩]) := r155
    clear r155
    clear b154
    go_wp2_with fail
    refine (addI_L H166.out H168.out).mono ?_
    rw [P10.out]
    rintro e w169 ⟨a170, c171, rfl, b172, r173⟩
    have H174 := Hid.mk' (H156.out.below b172)
    clear H156
    have H175 := Hid.mk' (H157.out.below b172)
    clear H157
    have H176 := Hid.mk' (H158.out.below b172)
    clear H158
    have H177 := Hid.mk' (H159.out.below b172)
    clear H159
    have H178 := Hid.mk' (H160.out.below b172)
    clear H160
    have H179 := Hid.mk' (H161.out.below b172)
    clear H161
    have H180 := Hid.mk' (H162.out.below b172)
    clear H162
    have H181 := Hid.mk' (H163.out.below b172)
    clear H163
    have H182 := Hid.mk' (H164.out.below b172)
    clear H164
    have H183 := Hid.mk' (H165.out.below b172)
    clear H165
    have H184 := Hid.mk' (H166.out.below b172)
    clear H166
    have H185 := Hid.mk' (H168.out.below b172)
    clear H168
    have Z186 := Hid.mk' (bel_next Z167.out b172)
    clear Z167
    have H187 : Hid (RL w169 a170 c171 (sumOf 1 1 n n 0 (n - 1))) := r173
    clear r173
    clear b172
    go_wp2_with fail
    refine (he_L H176.out H180.out).mono ?_
    rw [sq_same]
    rintro e w188 ⟨rfl, b189⟩
    have H190 := Hid.mk' (H174.out.below b189)
    clear H174
    have H191 := Hid.mk' (H175.out.below b189)
    clear H175
    have H192 := Hid.mk' (H176.out.below b189)
    clear H176
    have H193 := Hid.mk' (H177.out.below b189)
    clear H177
    have H194 := Hid.mk' (H178.out.below b189)
    clear H178
    have H195 := Hid.mk' (H179.out.below b189)
    clear H179
    have H196 := Hid.mk' (H180.out.below b189)
    clear H180
    have H197 := Hid.mk' (H181.out.below b189)
    clear H181
    have H198 := Hid.mk' (H182.out.below b189)
    clear H182
    have H199 := Hid.mk' (H183.out.below b189)
    clear H183
    have H200 := Hid.mk' (H184.out.below b189)
    clear H184
    have H201 := Hid.mk' (H185.out.below b189)
    clear H185
    have H202 := Hid.mk' (H187.out.below b189)
    clear H187
    have Z203 := Hid.mk' (bel_next Z186.out b189)
    clear Z186
    clear b189
    go_wp2_with fail
    refine (he_L H199.out H202.out).mono ?_
    rw [sq_same]
    rintro e w204 ⟨rfl, b205⟩
    have H206 := Hid.mk' (H190.out.below b205)
    clear H190
    have H207 := Hid.mk' (H191.out.below b205)
    clear H191
    have H208 := Hid.mk' (H192.out.below b205)
    clear H192
    have H209 := Hid.mk' (H193.out.below b205)
    clear H193
    have H210 := Hid.mk' (H194.out.below b205)
    clear H194
    have H211 := Hid.mk' (H195.out.below b205)
    clear H195
    have H212 := Hid.mk' (H196.out.below b205)
    clear H196
    have H213 := Hid.mk' (H197.out.below b205)
    clear H197
    have H214 := Hid.mk' (H198.out.below b205)
    clear H198
    have H215 := Hid.mk' (H199.out.below b205)
    clear H199
    have H216 := Hid.mk' (H200.out.below b205)
    clear H200
    have H217 := Hid.mk' (H201.out.below b205)
    clear H201
    have H218 := Hid.mk' (H202.out.below b205)
    clear H202
    have Z219 := Hid.mk' (bel_next Z203.out b205)
    clear Z203
    clear b205
    go_wp2
    go_ret
    exact ⟨rfl, Z219.out⟩
  · by_cases hhi : 9 < n0
    · obtain ⟨m, hm⟩ : ∃ m, (len0 : Int).tmod 9 = m := ⟨_, rfl⟩
      have hm0 : 0 ≤ m ∧ m < 9 := by rw [Int.tmod_eq_emod_of_nonneg (by omega)] at hm; omega
      obtain ⟨n, hn⟩ : ∃ n, 1 + m = n := ⟨_, rfl⟩
      have hwm : IntKind.i64.wrap (1 + m) = n := by rw [IntKind.wrap_i64]; omega
      have hn1 : 1 ≤ n ∧ n ≤ 9 := by omega
      obtain ⟨f1, f2, f3, f4, f5, f6, f7, f8, f9, f10⟩ := pw_facts (n := n) (by omega) (by omega)
      have P1 := Hid.mk' f1
      have P2 := Hid.mk' f2
      have P3 := Hid.mk' f3
      have P4 := Hid.mk' f4
      have P5 := Hid.mk' f5
      have P6 := Hid.mk' f6
      have P7 := Hid.mk' f7
      have P8 := Hid.mk' f8
      have P9 := Hid.mk' f9
      have P10 := Hid.mk' f10
      clear f1 f2 f3 f4 f5 f6 f7 f8 f9 f10
      have hwn : IntKind.i64.wrap (n - 1) = n - 1 := by rw [IntKind.wrap_i64]; omega
      have KX : Hid (M4 ((wd.alloc (.cells #[.int .i64 n, .int .i64 0, .int .i64 0, .int .i64 0] 27)).alloc (.cells #[.int .i64 0, .int .i64 0, .int .i64 n, .int .i64 0] 27)) wd.heap.size n 0 0 0) := M4.alloc (M4.box wd 27 n 0 0 0) _
      have KD : Hid (M4 ((wd.alloc (.cells #[.int .i64 n, .int .i64 0, .int .i64 0, .int .i64 0] 27)).alloc (.cells #[.int .i64 0, .int .i64 0, .int .i64 n, .int .i64 0] 27)) (wd.heap.size + 1) 0 0 n 0) := by
        have h := M4.box (wd.alloc (.cells #[.int .i64 n, .int .i64 0, .int .i64 0, .int .i64 0] 27)) 27 0 0 n 0
        rw [show (wd.alloc (.cells #[.int .i64 n, .int .i64 0, .int .i64 0, .int .i64 0] 27)).heap.size = wd.heap.size + 1 from by simp] at h
        exact h
      have KB := Hid.mk' (bel_next Z0.out (bel_two wd (.cells #[.int .i64 n, .int .i64 0, .int .i64 0, .int .i64 0] 27) (.cells #[.int .i64 0, .int .i64 0, .int .i64 n, .int .i64 0] 27)))
      clear Z0
      go_wp2_with fail
      generalize ((wd.alloc (.cells #[.int .i64 n, .int .i64 0, .int .i64 0, .int .i64 0] 27)).alloc (.cells #[.int .i64 0, .int .i64 0, .int .i64 n, .int .i64 0] 27)) = W7 at KX KD KB ⊢
      have hS235 : Q4 wd.heap.size n 0 0 0 W7.drew := M4.drew' KX.out
      go_region_held3 (fun u => u.cell? ⟨wd.heap.size, 0, none⟩ = some (.int .i64 n) ∧ u.cell? ⟨wd.heap.size, 1, none⟩ = some (.int .i64 0) ∧ u.cell? ⟨wd.heap.size, 2, none⟩ = some (.int .i64 0) ∧ u.cell? ⟨wd.heap.size, 3, none⟩ = some (.int .i64 0)) (first | with_reducible exact hS235 | with_reducible exact Q4.below hS235 b229 | with_reducible exact Q4.below (Q4.below hS235 b229) b230 | with_reducible exact Q4.below (Q4.below (Q4.below hS235 b229) b230) b231) (first | (go_at_call 6; refine (polOfI_L _ _ _ _ _ _).mono ?_; first | (rw [polOf_D]; rintro e w220 ⟨a223, c226, rfl, b229, r232⟩) | (rw [P3.out]; rintro e w221 ⟨a224, c227, rfl, b230, r233⟩; have r236 := RL.below r232 b230)) | (go_at_call 5; refine (wmI_L r236 r233).mono ?_; rw [P1.out]; rintro e w222 ⟨a225, c228, rfl, b231, r234⟩))
      have hb237 : Below W7.heap.size W7 w222 := bel_next (Below.refl _ _).drew (bel_next (bel_next b229 b230) b231)
      clear hS235 r232 r236 r233 b229 b230 b231
      have H238 := Hid.mk' (KX.out.below hb237)
      clear KX
      have H239 := Hid.mk' (KD.out.below hb237)
      clear KD
      have Z240 := Hid.mk' (bel_next KB.out hb237)
      clear KB
      have H241 : Hid (RL w222 a225 c228 (sumOf 1 n 1 n (n - 1) 0)) := r234
      clear r234
      clear hb237
      go_wp2_with fail
      have hS257 : Q4 wd.heap.size n 0 0 0 w222.drew := M4.drew' H238.out
      go_region_held3 (fun u => u.cell? ⟨wd.heap.size, 0, none⟩ = some (.int .i64 n) ∧ u.cell? ⟨wd.heap.size, 1, none⟩ = some (.int .i64 0) ∧ u.cell? ⟨wd.heap.size, 2, none⟩ = some (.int .i64 0) ∧ u.cell? ⟨wd.heap.size, 3, none⟩ = some (.int .i64 0)) (first | with_reducible exact hS257 | with_reducible exact Q4.below hS257 b251 | with_reducible exact Q4.below (Q4.below hS257 b251) b252 | with_reducible exact Q4.below (Q4.below (Q4.below hS257 b251) b252) b253) (first | (go_at_call 6; refine (polOfI_L _ _ _ _ _ _).mono ?_; first | (rw [polOf_D]; rintro e w242 ⟨a245, c248, rfl, b251, r254⟩) | (rw [P3.out]; rintro e w243 ⟨a246, c249, rfl, b252, r255⟩; have r258 := RL.below r254 b252)) | (go_at_call 7; refine (wmS_L r258 r255).mono ?_; rw [P1.out]; rintro e w244 ⟨a247, c250, rfl, b253, r256⟩))
      have hb259 : Below w222.heap.size w222 w244 := bel_next (Below.refl _ _).drew (bel_next (bel_next b251 b252) b253)
      clear hS257 r254 r258 r255 b251 b252 b253
      have H260 := Hid.mk' (H238.out.below hb259)
      clear H238
      have H261 := Hid.mk' (H239.out.below hb259)
      clear H239
      have H262 := Hid.mk' (H241.out.below hb259)
      clear H241
      have Z263 := Hid.mk' (bel_next Z240.out hb259)
      clear Z240
      have H264 : Hid (RL w244 a247 c250 (sumOf 1 n 1 n (n - 1) 0)) := r256
      clear r256
      clear hb259
      go_wp2_with fail
      refine (he_L H262.out H264.out).mono ?_
      rw [sq_same]
      rintro e w265 ⟨rfl, b266⟩
      have H267 := Hid.mk' (H260.out.below b266)
      clear H260
      have H268 := Hid.mk' (H261.out.below b266)
      clear H261
      have H269 := Hid.mk' (H262.out.below b266)
      clear H262
      have H270 := Hid.mk' (H264.out.below b266)
      clear H264
      have Z271 := Hid.mk' (bel_next Z263.out b266)
      clear Z263
      clear b266
      go_wp2_with fail
      refine (polOfI_L 1 n 0 1 0 _ ).mono ?_
      rw [P5.out]
      rintro e w272 ⟨a273, c274, rfl, b275, r276⟩
      have H277 := Hid.mk' (H267.out.below b275)
      clear H267
      have H278 := Hid.mk' (H268.out.below b275)
      clear H268
      have H279 := Hid.mk' (H269.out.below b275)
      clear H269
      have H280 := Hid.mk' (H270.out.below b275)
      clear H270
      have Z281 := Hid.mk' (bel_next Z271.out b275)
      clear Z271
      have H282 : Hid (RL w272 a273 c274 [⟨1, ⟨n, 0, 1, 0⟩⟩]) := r276
      clear r276
      clear b275
      go_wp2_with fail
      refine (polOfI_L n (n - 1) 0 0 0 _ ).mono ?_
      rw [P7.out]
      rintro e w283 ⟨a284, c285, rfl, b286, r287⟩
      have H288 := Hid.mk' (H277.out.below b286)
      clear H277
      have H289 := Hid.mk' (H278.out.below b286)
      clear H278
      have H290 := Hid.mk' (H279.out.below b286)
      clear H279
      have H291 := Hid.mk' (H280.out.below b286)
      clear H280
      have H292 := Hid.mk' (H282.out.below b286)
      clear H282
      have Z293 := Hid.mk' (bel_next Z281.out b286)
      clear Z281
      have H294 : Hid (RL w283 a284 c285 [⟨n, ⟨n - 1, 0, 0, 0⟩⟩]) := r287
      clear r287
      clear b286
      go_wp2_with fail
      refine (addI_L H292.out H294.out).mono ?_
      rw [P9.out]
      rintro e w295 ⟨a296, c297, rfl, b298, r299⟩
      have H300 := Hid.mk' (H288.out.below b298)
      clear H288
      have H301 := Hid.mk' (H289.out.below b298)
      clear H289
      have H302 := Hid.mk' (H290.out.below b298)
      clear H290
      have H303 := Hid.mk' (H291.out.below b298)
      clear H291
      have H304 := Hid.mk' (H292.out.below b298)
      clear H292
      have H305 := Hid.mk' (H294.out.below b298)
      clear H294
      have Z306 := Hid.mk' (bel_next Z293.out b298)
      clear Z293
      have H307 : Hid (RL w295 a296 c297 (sumOf 1 n 1 n (n - 1) 0)) := r299
      clear r299
      clear b298
      obtain ⟨z0, z1, z2, z3⟩ := H301.out
      go_wp2_with fail
      refine (polOfI_L 1 0 0 n 0 _ ).mono ?_
      rw [P4.out]
      rintro e w308 ⟨a309, c310, rfl, b311, r312⟩
      have H313 := Hid.mk' (H300.out.below b311)
      clear H300
      have H314 := Hid.mk' (H301.out.below b311)
      clear H301
      have H315 := Hid.mk' (H302.out.below b311)
      clear H302
      have H316 := Hid.mk' (H303.out.below b311)
      clear H303
      have H317 := Hid.mk' (H304.out.below b311)
      clear H304
      have H318 := Hid.mk' (H305.out.below b311)
      clear H305
      have H319 := Hid.mk' (H307.out.below b311)
      clear H307
      have Z320 := Hid.mk' (bel_next Z306.out b311)
      clear Z306
      have H321 : Hid (RL w308 a309 c310 [⟨1, ⟨0, 0, n, 0⟩⟩]) := r312
      clear r312
      clear b311
      clear z0 z1 z2 z3
      go_wp2_with fail
      refine (polOfI_L 1 1 0 0 0 _ ).mono ?_
      rw [polOf_X]
      rintro e w322 ⟨a323, c324, rfl, b325, r326⟩
      have H327 := Hid.mk' (H313.out.below b325)
      clear H313
      have H328 := Hid.mk' (H314.out.below b325)
      clear H314
      have H329 := Hid.mk' (H315.out.below b325)
      clear H315
      have H330 := Hid.mk' (H316.out.below b325)
      clear H316
      have H331 := Hid.mk' (H317.out.below b325)
      clear H317
      have H332 := Hid.mk' (H318.out.below b325)
      clear H318
      have H333 := Hid.mk' (H319.out.below b325)
      clear H319
      have H334 := Hid.mk' (H321.out.below b325)
      clear H321
      have Z335 := Hid.mk' (bel_next Z320.out b325)
      clear Z320
      have H336 : Hid (RL w322 a323 c324 [⟨1, ⟨1, 0, 0, 0⟩⟩]) := r326
      clear r326
      clear b325
      go_wp2_with fail
      refine (wmI_L H334.out H336.out).mono ?_
      rw [P2.out]
      rintro e w337 ⟨a338, c339, rfl, b340, r341⟩
      have H342 := Hid.mk' (H327.out.below b340)
      clear H327
      have H343 := Hid.mk' (H328.out.below b340)
      clear H328
      have H344 := Hid.mk' (H329.out.below b340)
      clear H329
      have H345 := Hid.mk' (H330.out.below b340)
      clear H330
      have H346 := Hid.mk' (H331.out.below b340)
      clear H331
      have H347 := Hid.mk' (H332.out.below b340)
      clear H332
      have H348 := Hid.mk' (H333.out.below b340)
      clear H333
      have H349 := Hid.mk' (H334.out.below b340)
      clear H334
      have H350 := Hid.mk' (H336.out.below b340)
      clear H336
      have Z351 := Hid.mk' (bel_next Z335.out b340)
      clear Z335
      have H352 : Hid (RL w337 a338 c339 (sumOf 1 1 n n 0 (n - 1))) := r341
      clear r341
      clear b340
      go_wp2_with fail
      refine (polOfI_L 1 1 0 n 0 _ ).mono ?_
      rw [P6.out]
      rintro e w353 ⟨a354, c355, rfl, b356, r357⟩
      have H358 := Hid.mk' (H342.out.below b356)
      clear H342
      have H359 := Hid.mk' (H343.out.below b356)
      clear H343
      have H360 := Hid.mk' (H344.out.below b356)
      clear H344
      have H361 := Hid.mk' (H345.out.below b356)
      clear H345
      have H362 := Hid.mk' (H346.out.below b356)
      clear H346
      have H363 := Hid.mk' (H347.out.below b356)
      clear H347
      have H364 := Hid.mk' (H348.out.below b356)
      clear H348
      have H365 := Hid.mk' (H349.out.below b356)
      clear H349
      have H366 := Hid.mk' (H350.out.below b356)
      clear H350
      have H367 := Hid.mk' (H352.out.below b356)
      clear H352
      have Z368 := Hid.mk' (bel_next Z351.out b356)
      clear Z351
      have H369 : Hid (RL w353 a354 c355 [⟨1, ⟨1, 0, n, 0⟩⟩]) := r357
      clear r357
      clear b356
      go_wp2_with fail
      refine (polOfI_L n 0 0 (n - 1) 0 _ ).mono ?_
      rw [P8.out]
      rintro e w370 ⟨a371, c372, rfl, b373, r374⟩
      have H375 := Hid.mk' (H358.out.below b373)
      clear H358
      have H376 := Hid.mk' (H359.out.below b373)
      clear H359
      have H377 := Hid.mk' (H360.out.below b373)
      clear H360
      have H378 := Hid.mk' (H361.out.below b373)
      clear H361
      have H379 := Hid.mk' (H362.out.below b373)
      clear H362
      have H380 := Hid.mk' (H363.out.below b373)
      clear H363
      have H381 := Hid.mk' (H364.out.below b373)
      clear H364
      have H382 := Hid.mk' (H365.out.below b373)
      clear H365
      have H383 := Hid.mk' (H366.out.below b373)
      clear H366
      have H384 := Hid.mk' (H367.out.below b373)
      clear H367
      have H385 := Hid.mk' (H369.out.below b373)
      clear H369
      have Z386 := Hid.mk' (bel_next Z368.out b373)
      clear Z368
      have H387 : Hid (RL w370 a371 c372 [⟨n, ⟨0, 0, n - 1, 0⟩⟩]) := r374
      clear r374
      clear b373
      go_wp2_with fail
      refine (addI_L H385.out H387.out).mono ?_
      rw [P10.out]
      rintro e w388 ⟨a389, c390, rfl, b391, r392⟩
      have H393 := Hid.mk' (H375.out.below b391)
      clear H375
      have H394 := Hid.mk' (H376.out.below b391)
      clear H376
      have H395 := Hid.mk' (H377.out.below b391)
      clear H377
      have H396 := Hid.mk' (H378.out.below b391)
      clear H378
      have H397 := Hid.mk' (H379.out.below b391)
      clear H379
      have H398 := Hid.mk' (H380.out.below b391)
      clear H380
      have H399 := Hid.mk' (H381.out.below b391)
      clear H381
      have H400 := Hid.mk' (H382.out.below b391)
      clear H382
      have H401 := Hid.mk' (H383.out.below b391)
      clear H383
      have H402 := Hid.mk' (H384.out.below b391)
      clear H384
      have H403 := Hid.mk' (H385.out.below b391)
      clear H385
      have H404 := Hid.mk' (H387.out.below b391)
      clear H387
      have Z405 := Hid.mk' (bel_next Z386.out b391)
      clear Z386
      have H406 : Hid (RL w388 a389 c390 (sumOf 1 1 n n 0 (n - 1))) := r392
      clear r392
      clear b391
      go_wp2_with fail
      refine (he_L H395.out H399.out).mono ?_
      rw [sq_same]
      rintro e w407 ⟨rfl, b408⟩
      have H409 := Hid.mk' (H393.out.below b408)
      clear H393
      have H410 := Hid.mk' (H394.out.below b408)
      clear H394
      have H411 := Hid.mk' (H395.out.below b408)
      clear H395
      have H412 := Hid.mk' (H396.out.below b408)
      clear H396
      have H413 := Hid.mk' (H397.out.below b408)
      clear H397
      have H414 := Hid.mk' (H398.out.below b408)
      clear H398
      have H415 := Hid.mk' (H399.out.below b408)
      clear H399
      have H416 := Hid.mk' (H400.out.below b408)
      clear H400
      have H417 := Hid.mk' (H401.out.below b408)
      clear H401
      have H418 := Hid.mk' (H402.out.below b408)
      clear H402
      have H419 := Hid.mk' (H403.out.below b408)
      clear H403
      have H420 := Hid.mk' (H404.out.below b408)
      clear H404
      have H421 := Hid.mk' (H406.out.below b408)
      clear H406
      have Z422 := Hid.mk' (bel_next Z405.out b408)
      clear Z405
      clear b408
      go_wp2_with fail
      refine (he_L H418.out H421.out).mono ?_
      rw [sq_same]
      rintro e w423 ⟨rfl, b424⟩
      have H425 := Hid.mk' (H409.out.below b424)
      clear H409
      have H426 := Hid.mk' (H410.out.below b424)
      clear H410
      have H427 := Hid.mk' (H411.out.below b424)
      clear H411
      have H428 := Hid.mk' (H412.out.below b424)
      clear H412
      have H429 := Hid.mk' (H413.out.below b424)
      clear H413
      have H430 := Hid.mk' (H414.out.below b424)
      clear H414
      have H431 := Hid.mk' (H415.out.below b424)
      clear H415
      have H432 := Hid.mk' (H416.out.below b424)
      clear H416
      have H433 := Hid.mk' (H417.out.below b424)
      clear H417
      have H434 := Hid.mk' (H418.out.below b424)
      clear H418
      have H435 := Hid.mk' (H419.out.below b424)
      clear H419
      have H436 := Hid.mk' (H420.out.below b424)
      clear H420
      have H437 := Hid.mk' (H421.out.below b424)
      clear H421
      have Z438 := Hid.mk' (bel_next Z422.out b424)
      clear Z422
      clear b424
      go_wp2
      go_ret
      exact ⟨rfl, Z438.out⟩
    · obtain ⟨f1, f2, f3, f4, f5, f6, f7, f8, f9, f10⟩ := pw_facts (n := n0) (by omega) (by omega)
      have P1 := Hid.mk' f1
      have P2 := Hid.mk' f2
      have P3 := Hid.mk' f3
      have P4 := Hid.mk' f4
      have P5 := Hid.mk' f5
      have P6 := Hid.mk' f6
      have P7 := Hid.mk' f7
      have P8 := Hid.mk' f8
      have P9 := Hid.mk' f9
      have P10 := Hid.mk' f10
      clear f1 f2 f3 f4 f5 f6 f7 f8 f9 f10
      have hwn : IntKind.i64.wrap (n0 - 1) = n0 - 1 := by rw [IntKind.wrap_i64]; omega
      have KX : Hid (M4 ((wd.alloc (.cells #[.int .i64 n0, .int .i64 0, .int .i64 0, .int .i64 0] 27)).alloc (.cells #[.int .i64 0, .int .i64 0, .int .i64 n0, .int .i64 0] 27)) wd.heap.size n0 0 0 0) := M4.alloc (M4.box wd 27 n0 0 0 0) _
      have KD : Hid (M4 ((wd.alloc (.cells #[.int .i64 n0, .int .i64 0, .int .i64 0, .int .i64 0] 27)).alloc (.cells #[.int .i64 0, .int .i64 0, .int .i64 n0, .int .i64 0] 27)) (wd.heap.size + 1) 0 0 n0 0) := by
        have h := M4.box (wd.alloc (.cells #[.int .i64 n0, .int .i64 0, .int .i64 0, .int .i64 0] 27)) 27 0 0 n0 0
        rw [show (wd.alloc (.cells #[.int .i64 n0, .int .i64 0, .int .i64 0, .int .i64 0] 27)).heap.size = wd.heap.size + 1 from by simp] at h
        exact h
      have KB := Hid.mk' (bel_next Z0.out (bel_two wd (.cells #[.int .i64 n0, .int .i64 0, .int .i64 0, .int .i64 0] 27) (.cells #[.int .i64 0, .int .i64 0, .int .i64 n0, .int .i64 0] 27)))
      clear Z0
      go_wp2_with fail
      generalize ((wd.alloc (.cells #[.int .i64 n0, .int .i64 0, .int .i64 0, .int .i64 0] 27)).alloc (.cells #[.int .i64 0, .int .i64 0, .int .i64 n0, .int .i64 0] 27)) = W7 at KX KD KB ⊢
      have hS454 : Q4 wd.heap.size n0 0 0 0 W7.drew := M4.drew' KX.out
      go_region_held3 (fun u => u.cell? ⟨wd.heap.size, 0, none⟩ = some (.int .i64 n0) ∧ u.cell? ⟨wd.heap.size, 1, none⟩ = some (.int .i64 0) ∧ u.cell? ⟨wd.heap.size, 2, none⟩ = some (.int .i64 0) ∧ u.cell? ⟨wd.heap.size, 3, none⟩ = some (.int .i64 0)) (first | with_reducible exact hS454 | with_reducible exact Q4.below hS454 b448 | with_reducible exact Q4.below (Q4.below hS454 b448) b449 | with_reducible exact Q4.below (Q4.below (Q4.below hS454 b448) b449) b450) (first | (go_at_call 6; refine (polOfI_L _ _ _ _ _ _).mono ?_; first | (rw [polOf_D]; rintro e w439 ⟨a442, c445, rfl, b448, r451⟩) | (rw [P3.out]; rintro e w440 ⟨a443, c446, rfl, b449, r452⟩; have r455 := RL.below r451 b449)) | (go_at_call 5; refine (wmI_L r455 r452).mono ?_; rw [P1.out]; rintro e w441 ⟨a444, c447, rfl, b450, r453⟩))
      have hb456 : Below W7.heap.size W7 w441 := bel_next (Below.refl _ _).drew (bel_next (bel_next b448 b449) b450)
      clear hS454 r451 r455 r452 b448 b449 b450
      have H457 := Hid.mk' (KX.out.below hb456)
      clear KX
      have H458 := Hid.mk' (KD.out.below hb456)
      clear KD
      have Z459 := Hid.mk' (bel_next KB.out hb456)
      clear KB
      have H460 : Hid (RL w441 a444 c447 (sumOf 1 n0 1 n0 (n0 - 1) 0)) := r453
      clear r453
      clear hb456
      go_wp2_with fail
      have hS476 : Q4 wd.heap.size n0 0 0 0 w441.drew := M4.drew' H457.out
      go_region_held3 (fun u => u.cell? ⟨wd.heap.size, 0, none⟩ = some (.int .i64 n0) ∧ u.cell? ⟨wd.heap.size, 1, none⟩ = some (.int .i64 0) ∧ u.cell? ⟨wd.heap.size, 2, none⟩ = some (.int .i64 0) ∧ u.cell? ⟨wd.heap.size, 3, none⟩ = some (.int .i64 0)) (first | with_reducible exact hS476 | with_reducible exact Q4.below hS476 b470 | with_reducible exact Q4.below (Q4.below hS476 b470) b471 | with_reducible exact Q4.below (Q4.below (Q4.below hS476 b470) b471) b472) (first | (go_at_call 6; refine (polOfI_L _ _ _ _ _ _).mono ?_; first | (rw [polOf_D]; rintro e w461 ⟨a464, c467, rfl, b470, r473⟩) | (rw [P3.out]; rintro e w462 ⟨a465, c468, rfl, b471, r474⟩; have r477 := RL.below r473 b471)) | (go_at_call 7; refine (wmS_L r477 r474).mono ?_; rw [P1.out]; rintro e w463 ⟨a466, c469, rfl, b472, r475⟩))
      have hb478 : Below w441.heap.size w441 w463 := bel_next (Below.refl _ _).drew (bel_next (bel_next b470 b471) b472)
      clear hS476 r473 r477 r474 b470 b471 b472
      have H479 := Hid.mk' (H457.out.below hb478)
      clear H457
      have H480 := Hid.mk' (H458.out.below hb478)
      clear H458
      have H481 := Hid.mk' (H460.out.below hb478)
      clear H460
      have Z482 := Hid.mk' (bel_next Z459.out hb478)
      clear Z459
      have H483 : Hid (RL w463 a466 c469 (sumOf 1 n0 1 n0 (n0 - 1) 0)) := r475
      clear r475
      clear hb478
      go_wp2_with fail
      refine (he_L H481.out H483.out).mono ?_
      rw [sq_same]
      rintro e w484 ⟨rfl, b485⟩
      have H486 := Hid.mk' (H479.out.below b485)
      clear H479
      have H487 := Hid.mk' (H480.out.below b485)
      clear H480
      have H488 := Hid.mk' (H481.out.below b485)
      clear H481
      have H489 := Hid.mk' (H483.out.below b485)
      clear H483
      have Z490 := Hid.mk' (bel_next Z482.out b485)
      clear Z482
      clear b485
      go_wp2_with fail
      refine (polOfI_L 1 n0 0 1 0 _ ).mono ?_
      rw [P5.out]
      rintro e w491 ⟨a492, c493, rfl, b494, r495⟩
      have H496 := Hid.mk' (H486.out.below b494)
      clear H486
      have H497 := Hid.mk' (H487.out.below b494)
      clear H487
      have H498 := Hid.mk' (H488.out.below b494)
      clear H488
      have H499 := Hid.mk' (H489.out.below b494)
      clear H489
      have Z500 := Hid.mk' (bel_next Z490.out b494)
      clear Z490
      have H501 : Hid (RL w491 a492 c493 [⟨1, ⟨n0, 0, 1, 0⟩⟩]) := r495
      clear r495
      clear b494
      go_wp2_with fail
      refine (polOfI_L n0 (n0 - 1) 0 0 0 _ ).mono ?_
      rw [P7.out]
      rintro e w502 ⟨a503, c504, rfl, b505, r506⟩
      have H507 := Hid.mk' (H496.out.below b505)
      clear H496
      have H508 := Hid.mk' (H497.out.below b505)
      clear H497
      have H509 := Hid.mk' (H498.out.below b505)
      clear H498
      have H510 := Hid.mk' (H499.out.below b505)
      clear H499
      have H511 := Hid.mk' (H501.out.below b505)
      clear H501
      have Z512 := Hid.mk' (bel_next Z500.out b505)
      clear Z500
      have H513 : Hid (RL w502 a503 c504 [⟨n0, ⟨n0 - 1, 0, 0, 0⟩⟩]) := r506
      clear r506
      clear b505
      go_wp2_with fail
      refine (addI_L H511.out H513.out).mono ?_
      rw [P9.out]
      rintro e w514 ⟨a515, c516, rfl, b517, r518⟩
      have H519 := Hid.mk' (H507.out.below b517)
      clear H507
      have H520 := Hid.mk' (H508.out.below b517)
      clear H508
      have H521 := Hid.mk' (H509.out.below b517)
      clear H509
      have H522 := Hid.mk' (H510.out.below b517)
      clear H510
      have H523 := Hid.mk' (H511.out.below b517)
      clear H511
      have H524 := Hid.mk' (H513.out.below b517)
      clear H513
      have Z525 := Hid.mk' (bel_next Z512.out b517)
      clear Z512
      have H526 : Hid (RL w514 a515 c516 (sumOf 1 n0 1 n0 (n0 - 1) 0)) := r518
      clear r518
      clear b517
      obtain ⟨z0, z1, z2, z3⟩ := H520.out
      go_wp2_with fail
      refine (polOfI_L 1 0 0 n0 0 _ ).mono ?_
      rw [P4.out]
      rintro e w527 ⟨a528, c529, rfl, b530, r531⟩
      have H532 := Hid.mk' (H519.out.below b530)
      clear H519
      have H533 := Hid.mk' (H520.out.below b530)
      clear H520
      have H534 := Hid.mk' (H521.out.below b530)
      clear H521
      have H535 := Hid.mk' (H522.out.below b530)
      clear H522
      have H536 := Hid.mk' (H523.out.below b530)
      clear H523
      have H537 := Hid.mk' (H524.out.below b530)
      clear H524
      have H538 := Hid.mk' (H526.out.below b530)
      clear H526
      have Z539 := Hid.mk' (bel_next Z525.out b530)
      clear Z525
      have H540 : Hid (RL w527 a528 c529 [⟨1, ⟨0, 0, n0, 0⟩⟩]) := r531
      clear r531
      clear b530
      clear z0 z1 z2 z3
      go_wp2_with fail
      refine (polOfI_L 1 1 0 0 0 _ ).mono ?_
      rw [polOf_X]
      rintro e w541 ⟨a542, c543, rfl, b544, r545⟩
      have H546 := Hid.mk' (H532.out.below b544)
      clear H532
      have H547 := Hid.mk' (H533.out.below b544)
      clear H533
      have H548 := Hid.mk' (H534.out.below b544)
      clear H534
      have H549 := Hid.mk' (H535.out.below b544)
      clear H535
      have H550 := Hid.mk' (H536.out.below b544)
      clear H536
      have H551 := Hid.mk' (H537.out.below b544)
      clear H537
      have H552 := Hid.mk' (H538.out.below b544)
      clear H538
      have H553 := Hid.mk' (H540.out.below b544)
      clear H540
      have Z554 := Hid.mk' (bel_next Z539.out b544)
      clear Z539
      have H555 : Hid (RL w541 a542 c543 [⟨1, ⟨1, 0, 0, 0⟩⟩]) := r545
      clear r545
      clear b544
      go_wp2_with fail
      refine (wmI_L H553.out H555.out).mono ?_
      rw [P2.out]
      rintro e w556 ⟨a557, c558, rfl, b559, r560⟩
      have H561 := Hid.mk' (H546.out.below b559)
      clear H546
      have H562 := Hid.mk' (H547.out.below b559)
      clear H547
      have H563 := Hid.mk' (H548.out.below b559)
      clear H548
      have H564 := Hid.mk' (H549.out.below b559)
      clear H549
      have H565 := Hid.mk' (H550.out.below b559)
      clear H550
      have H566 := Hid.mk' (H551.out.below b559)
      clear H551
      have H567 := Hid.mk' (H552.out.below b559)
      clear H552
      have H568 := Hid.mk' (H553.out.below b559)
      clear H553
      have H569 := Hid.mk' (H555.out.below b559)
      clear H555
      have Z570 := Hid.mk' (bel_next Z554.out b559)
      clear Z554
      have H571 : Hid (RL w556 a557 c558 (sumOf 1 1 n0 n0 0 (n0 - 1))) := r560
      clear r560
      clear b559
      go_wp2_with fail
      refine (polOfI_L 1 1 0 n0 0 _ ).mono ?_
      rw [P6.out]
      rintro e w572 ⟨a573, c574, rfl, b575, r576⟩
      have H577 := Hid.mk' (H561.out.below b575)
      clear H561
      have H578 := Hid.mk' (H562.out.below b575)
      clear H562
      have H579 := Hid.mk' (H563.out.below b575)
      clear H563
      have H580 := Hid.mk' (H564.out.below b575)
      clear H564
      have H581 := Hid.mk' (H565.out.below b575)
      clear H565
      have H582 := Hid.mk' (H566.out.below b575)
      clear H566
      have H583 := Hid.mk' (H567.out.below b575)
      clear H567
      have H584 := Hid.mk' (H568.out.below b575)
      clear H568
      have H585 := Hid.mk' (H569.out.below b575)
      clear H569
      have H586 := Hid.mk' (H571.out.below b575)
      clear H571
      have Z587 := Hid.mk' (bel_next Z570.out b575)
      clear Z570
      have H588 : Hid (RL w572 a573 c574 [⟨1, ⟨1, 0, n0, 0⟩⟩]) := r576
      clear r576
      clear b575
      go_wp2_with fail
      refine (polOfI_L n0 0 0 (n0 - 1) 0 _ ).mono ?_
      rw [P8.out]
      rintro e w589 ⟨a590, c591, rfl, b592, r593⟩
      have H594 := Hid.mk' (H577.out.below b592)
      clear H577
      have H595 := Hid.mk' (H578.out.below b592)
      clear H578
      have H596 := Hid.mk' (H579.out.below b592)
      clear H579
      have H597 := Hid.mk' (H580.out.below b592)
      clear H580
      have H598 := Hid.mk' (H581.out.below b592)
      clear H581
      have H599 := Hid.mk' (H582.out.below b592)
      clear H582
      have H600 := Hid.mk' (H583.out.below b592)
      clear H583
      have H601 := Hid.mk' (H584.out.below b592)
      clear H584
      have H602 := Hid.mk' (H585.out.below b592)
      clear H585
      have H603 := Hid.mk' (H586.out.below b592)
      clear H586
      have H604 := Hid.mk' (H588.out.below b592)
      clear H588
      have Z605 := Hid.mk' (bel_next Z587.out b592)
      clear Z587
      have H606 : Hid (RL w589 a590 c591 [⟨n0, ⟨0, 0, n0 - 1, 0⟩⟩]) := r593
      clear r593
      clear b592
      go_wp2_with fail
      refine (addI_L H604.out H606.out).mono ?_
      rw [P10.out]
      rintro e w607 ⟨a608, c609, rfl, b610, r611⟩
      have H612 := Hid.mk' (H594.out.below b610)
      clear H594
      have H613 := Hid.mk' (H595.out.below b610)
      clear H595
      have H614 := Hid.mk' (H596.out.below b610)
      clear H596
      have H615 := Hid.mk' (H597.out.below b610)
      clear H597
      have H616 := Hid.mk' (H598.out.below b610)
      clear H598
      have H617 := Hid.mk' (H599.out.below b610)
      clear H599
      have H618 := Hid.mk' (H600.out.below b610)
      clear H600
      have H619 := Hid.mk' (H601.out.below b610)
      clear H601
      have H620 := Hid.mk' (H602.out.below b610)
      clear H602
      have H621 := Hid.mk' (H603.out.below b610)
      clear H603
      have H622 := Hid.mk' (H604.out.below b610)
      clear H604
      have H623 := Hid.mk' (H606.out.below b610)
      clear H606
      have Z624 := Hid.mk' (bel_next Z605.out b610)
      clear Z605
      have H625 : Hid (RL w607 a608 c609 (sumOf 1 1 n0 n0 0 (n0 - 1))) := r611
      clear r611
      clear b610
      go_wp2_with fail
      refine (he_L H614.out H618.out).mono ?_
      rw [sq_same]
      rintro e w626 ⟨rfl, b627⟩
      have H628 := Hid.mk' (H612.out.below b627)
      clear H612
      have H629 := Hid.mk' (H613.out.below b627)
      clear H613
      have H630 := Hid.mk' (H614.out.below b627)
      clear H614
      have H631 := Hid.mk' (H615.out.below b627)
      clear H615
      have H632 := Hid.mk' (H616.out.below b627)
      clear H616
      have H633 := Hid.mk' (H617.out.below b627)
      clear H617
      have H634 := Hid.mk' (H618.out.below b627)
      clear H618
      have H635 := Hid.mk' (H619.out.below b627)
      clear H619
      have H636 := Hid.mk' (H620.out.below b627)
      clear H620
      have H637 := Hid.mk' (H621.out.below b627)
      clear H621
      have H638 := Hid.mk' (H622.out.below b627)
      clear H622
      have H639 := Hid.mk' (H623.out.below b627)
      clear H623
      have H640 := Hid.mk' (H625.out.below b627)
      clear H625
      have Z641 := Hid.mk' (bel_next Z624.out b627)
      clear Z624
      clear b627
      go_wp2_with fail
      refine (he_L H637.out H640.out).mono ?_
      rw [sq_same]
      rintro e w642 ⟨rfl, b643⟩
      have H644 := Hid.mk' (H628.out.below b643)
      clear H628
      have H645 := Hid.mk' (H629.out.below b643)
      clear H629
      have H646 := Hid.mk' (H630.out.below b643)
      clear H630
      have H647 := Hid.mk' (H631.out.below b643)
      clear H631
      have H648 := Hid.mk' (H632.out.below b643)
      clear H632
      have H649 := Hid.mk' (H633.out.below b643)
      clear H633
      have H650 := Hid.mk' (H634.out.below b643)
      clear H634
      have H651 := Hid.mk' (H635.out.below b643)
      clear H635
      have H652 := Hid.mk' (H636.out.below b643)
      clear H636
      have H653 := Hid.mk' (H637.out.below b643)
      clear H637
      have H654 := Hid.mk' (H638.out.below b643)
      clear H638
      have H655 := Hid.mk' (H639.out.below b643)
      clear H639
      have H656 := Hid.mk' (H640.out.below b643)
      clear H640
      have Z657 := Hid.mk' (bel_next Z641.out b643)
      clear Z641
      clear b643
      go_wp2
      go_ret
      exact ⟨rfl, Z657.out⟩
end Go.Proofs.Ytbdbdmblhlclaaa
