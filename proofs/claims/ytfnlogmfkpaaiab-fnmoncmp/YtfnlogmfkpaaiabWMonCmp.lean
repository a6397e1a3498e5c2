/-
  The walk of a law over monomials: whatever the codes, it comes out true, and nothing that was there is turned.
-/
import Derived.Test.YtfnlogmfkpaaiabLawO
namespace Go.Proofs.Ytfnlogmfkpaaiab
open Go.RowKit
set_option linter.unusedVariables false
set_option maxRecDepth 100000 in
set_option maxHeartbeats 40000000 in
theorem walk_FnMonCmp (w : World) (a0 : Option Addr) (len0 cap0 : Nat) (s0 : Src w a0 len0 cap0) (a1 : Option Addr) (len1 cap1 : Nat) (s1 : Src w a1 len1 cap1) :
    Calls Try.prog 4 #[.slice a0 len0 cap0, .slice a1 len1 cap1] w fun e w' => e = .returned (.bool true) ∧ Below w.heap.size w w' := by
  by_cases c0 : (1048576 : Int) < (len0 : Int)
  · go_enter Try.func4, Try.ntmps4
    go_wp2
    go_ret
    exact ⟨rfl, Below.refl _ _⟩
  by_cases c1 : (1048576 : Int) < (len1 : Int)
  · go_enter Try.func4, Try.ntmps4
    go_wp2
    go_ret
    exact ⟨rfl, Below.refl _ _⟩
  go_enter Try.func4, Try.ntmps4
  go_wp2_with fail
  refine (drawMonCmp _ _ _ _ s0).mono ?_
  rintro e w1 ⟨o, x, y, d, z, x', y', d', z', rfl, b2⟩
  have z3 := Hid.mk' b2
  clear b2
  go_wp2_with fail
  have k5 := Hid.mk' (M4.box w1 29 (x) (y) (d) (z))
  have z6 := Hid.mk' (Below.alloc z3.out z3.out.size (.cells #[.int .i64 x, .int .i64 y, .int .i64 d, .int .i64 z] 29))
  have hs7 : Hid ((w1.alloc (.cells #[.int .i64 x, .int .i64 y, .int .i64 d, .int .i64 z] 29)).heap.size = w1.heap.size + 1) := by simp [Hid]
  clear z3
  generalize (w1.alloc (.cells #[.int .i64 x, .int .i64 y, .int .i64 d, .int .i64 z] 29)) = w4 at k5 z6 hs7 ⊢
  have k9 := Hid.mk' (M4.alloc (k5.out) (.cells #[.int .i64 x', .int .i64 y', .int .i64 d', .int .i64 z'] 29))
  have k10 : Hid (M4 (w4.alloc (.cells #[.int .i64 x', .int .i64 y', .int .i64 d', .int .i64 z'] 29)) (w1.heap.size + 1) (x') (y') (d') (z')) := by have hh := M4.box w4 29 (x') (y') (d') (z'); rw [hs7] at hh; exact hh
  have z11 := Hid.mk' (Below.alloc z6.out z6.out.size (.cells #[.int .i64 x', .int .i64 y', .int .i64 d', .int .i64 z'] 29))
  have hs12 : Hid ((w4.alloc (.cells #[.int .i64 x', .int .i64 y', .int .i64 d', .int .i64 z'] 29)).heap.size = w4.heap.size + 1) := by simp [Hid]
  clear k5 z6
  generalize (w4.alloc (.cells #[.int .i64 x', .int .i64 y', .int .i64 d', .int .i64 z'] 29)) = w8 at k9 k10 z11 hs12 ⊢
  refine (drawMonCmp _ _ _ _ (s1.below z11.out)).mono ?_
  rintro e w13 ⟨o', cx, cy, cd, cz, ux, uy, ud, uz, rfl, b14⟩
  have k15 := Hid.mk' ((k9.out).below b14)
  have k16 := Hid.mk' ((k10.out).below b14)
  have z17 := Hid.mk' (bel_next z11.out b14)
  clear k9 k10 z11 b14
  obtain ⟨c18, c19, c20, c21⟩ := k15.out
  have l22 := M4.lt k15.out
  obtain ⟨c23, c24, c25, c26⟩ := k16.out
  have l27 := M4.lt k16.out
  go_wp2_with fail
  clear c18 c19 c20 c21 l22 c23 c24 c25 c26 l27
  have k29 := Hid.mk' (M4.alloc (k15.out) (.cells #[.int .i64 cx, .int .i64 cy, .int .i64 cd, .int .i64 cz] 29))
  have k30 := Hid.mk' (M4.alloc (k16.out) (.cells #[.int .i64 cx, .int .i64 cy, .int .i64 cd, .int .i64 cz] 29))
  have k31 := Hid.mk' (M4.box w13 29 (cx) (cy) (cd) (cz))
  have z32 := Hid.mk' (Below.alloc z17.out z17.out.size (.cells #[.int .i64 cx, .int .i64 cy, .int .i64 cd, .int .i64 cz] 29))
  have hs33 : Hid ((w13.alloc (.cells #[.int .i64 cx, .int .i64 cy, .int .i64 cd, .int .i64 cz] 29)).heap.size = w13.heap.size + 1) := by simp [Hid]
  clear k15 k16 z17
  generalize (w13.alloc (.cells #[.int .i64 cx, .int .i64 cy, .int .i64 cd, .int .i64 cz] 29)) = w28 at k29 k30 k31 z32 hs33 ⊢
  have k35 := Hid.mk' (M4.alloc (k29.out) (.cells #[.int .i64 ux, .int .i64 uy, .int .i64 ud, .int .i64 uz] 29))
  have k36 := Hid.mk' (M4.alloc (k30.out) (.cells #[.int .i64 ux, .int .i64 uy, .int .i64 ud, .int .i64 uz] 29))
  have k37 := Hid.mk' (M4.alloc (k31.out) (.cells #[.int .i64 ux, .int .i64 uy, .int .i64 ud, .int .i64 uz] 29))
  have k38 : Hid (M4 (w28.alloc (.cells #[.int .i64 ux, .int .i64 uy, .int .i64 ud, .int .i64 uz] 29)) (w13.heap.size + 1) (ux) (uy) (ud) (uz)) := by have hh := M4.box w28 29 (ux) (uy) (ud) (uz); rw [hs33] at hh; exact hh
  have z39 := Hid.mk' (Below.alloc z32.out z32.out.size (.cells #[.int .i64 ux, .int .i64 uy, .int .i64 ud, .int .i64 uz] 29))
  have hs40 : Hid ((w28.alloc (.cells #[.int .i64 ux, .int .i64 uy, .int .i64 ud, .int .i64 uz] 29)).heap.size = w28.heap.size + 1) := by simp [Hid]
  clear k29 k30 k31 z32
  generalize (w28.alloc (.cells #[.int .i64 ux, .int .i64 uy, .int .i64 ud, .int .i64 uz] 29)) = w34 at k35 k36 k37 k38 z39 hs40 ⊢
  obtain ⟨n, hn⟩ : ∃ n, M.cmp o ⟨x, y, d, z⟩ ⟨x', y', d', z'⟩ = n := ⟨_, rfl⟩
  obtain ⟨n0, n1⟩ := cmp_bd o ⟨x, y, d, z⟩ ⟨x', y', d', z'⟩
  rw [hn] at n0 n1
  have hneg := cmp_neg o ⟨x, y, d, z⟩ ⟨x', y', d', z'⟩
  rw [hn] at hneg
  refine (monCmpI_of hn _).mono ?_
  rintro e w41 ⟨rfl, b42⟩
  have k43 := Hid.mk' ((k35.out).below b42)
  have k44 := Hid.mk' ((k36.out).below b42)
  have k45 := Hid.mk' ((k37.out).below b42)
  have k46 := Hid.mk' ((k38.out).below b42)
  have z47 := Hid.mk' (bel_next z39.out b42)
  clear k35 k36 k37 k38 z39 b42
  obtain ⟨c48, c49, c50, c51⟩ := k43.out
  have l52 := M4.lt k43.out
  obtain ⟨c53, c54, c55, c56⟩ := k44.out
  have l57 := M4.lt k44.out
  go_wp2_with fail
  clear c48 c49 c50 c51 l52 c53 c54 c55 c56 l57
  refine (monCmpS_of hn _).mono ?_
  rintro e w58 ⟨rfl, b59⟩
  have k60 := Hid.mk' ((k43.out).below b59)
  have k61 := Hid.mk' ((k44.out).below b59)
  have k62 := Hid.mk' ((k45.out).below b59)
  have k63 := Hid.mk' ((k46.out).below b59)
  have z64 := Hid.mk' (bel_next z47.out b59)
  clear k43 k44 k45 k46 z47 b59
  obtain ⟨c65, c66, c67, c68⟩ := k60.out
  have l69 := M4.lt k60.out
  obtain ⟨c70, c71, c72, c73⟩ := k61.out
  have l74 := M4.lt k61.out
  go_wp2_with fail
  clear c65 c66 c67 c68 l69 c70 c71 c72 c73 l74
  refine (monCmpI_of hneg _).mono ?_
  rintro e w75 ⟨rfl, b76⟩
  have k77 := Hid.mk' ((k60.out).below b76)
  have k78 := Hid.mk' ((k61.out).below b76)
  have k79 := Hid.mk' ((k62.out).below b76)
  have k80 := Hid.mk' ((k63.out).below b76)
  have z81 := Hid.mk' (bel_next z64.out b76)
  clear k60 k61 k62 k63 z64 b76
  by_cases o1 : 1 ≤ o
  · by_cases o2 : o ≤ 3
    · obtain ⟨c82, c83, c84, c85⟩ := k77.out
      have l86 := M4.lt k77.out
      go_wp2_with fail
      clear c82 c83 c84 c85 l86
      cases ha : M.ok ⟨x, y, d, z⟩
      · obtain rfl : n = 0 := by rw [← hn]; exact cmp_out (fun k => by simp [ha] at k)
        clear hneg hn n0 n1
        refine (monOkS_of ha _).mono ?_
        rintro e w87 ⟨rfl, b88⟩
        have k89 := Hid.mk' ((k77.out).below b88)
        have k90 := Hid.mk' ((k78.out).below b88)
        have k91 := Hid.mk' ((k79.out).below b88)
        have k92 := Hid.mk' ((k80.out).below b88)
        have z93 := Hid.mk' (bel_next z81.out b88)
        clear k77 k78 k79 k80 z81 b88
        obtain ⟨c94, c95, c96, c97⟩ := k89.out
        have l98 := M4.lt k89.out
        go_wp2_with fail
        clear c94 c95 c96 c97 l98
        refine (monOkS_of ha _).mono ?_
        rintro e w99 ⟨rfl, b100⟩
        have k101 := Hid.mk' ((k89.out).below b100)
        have k102 := Hid.mk' ((k90.out).below b100)
        have k103 := Hid.mk' ((k91.out).below b100)
        have k104 := Hid.mk' ((k92.out).below b100)
        have z105 := Hid.mk' (bel_next z93.out b100)
        clear k89 k90 k91 k92 z93 b100
        go_wp2_with fail
        refine (heOkT _).mono ?_
        rintro e w106 ⟨rfl, b107⟩
        have k108 := Hid.mk' ((k101.out).below b107)
        have k109 := Hid.mk' ((k102.out).below b107)
        have k110 := Hid.mk' ((k103.out).below b107)
        have k111 := Hid.mk' ((k104.out).below b107)
        have z112 := Hid.mk' (bel_next z105.out b107)
        clear k101 k102 k103 k104 z105 b107
        go_wp2
        go_ret
        exact ⟨rfl, z112.out⟩
      · refine (monOkS_of ha _).mono ?_
        rintro e w87 ⟨rfl, b88⟩
        have k89 := Hid.mk' ((k77.out).below b88)
        have k90 := Hid.mk' ((k78.out).below b88)
        have k91 := Hid.mk' ((k79.out).below b88)
        have k92 := Hid.mk' ((k80.out).below b88)
        have z93 := Hid.mk' (bel_next z81.out b88)
        clear k77 k78 k79 k80 z81 b88
        obtain ⟨c94, c95, c96, c97⟩ := k90.out
        have l98 := M4.lt k90.out
        go_wp2_with fail
        clear c94 c95 c96 c97 l98
        cases hb : M.ok ⟨x', y', d', z'⟩
        · obtain rfl : n = 0 := by rw [← hn]; exact cmp_out (fun k => by simp [hb] at k)
          clear hneg hn n0 n1
          refine (monOkS_of hb _).mono ?_
          rintro e w99 ⟨rfl, b100⟩
          have k101 := Hid.mk' ((k89.out).below b100)
          have k102 := Hid.mk' ((k90.out).below b100)
          have k103 := Hid.mk' ((k91.out).below b100)
          have k104 := Hid.mk' ((k92.out).below b100)
          have z105 := Hid.mk' (bel_next z93.out b100)
          clear k89 k90 k91 k92 z93 b100
          obtain ⟨c106, c107, c108, c109⟩ := k101.out
          have l110 := M4.lt k101.out
          go_wp2_with fail
          clear c106 c107 c108 c109 l110
          refine (monOkS_of ha _).mono ?_
          rintro e w111 ⟨rfl, b112⟩
          have k113 := Hid.mk' ((k101.out).below b112)
          have k114 := Hid.mk' ((k102.out).below b112)
          have k115 := Hid.mk' ((k103.out).below b112)
          have k116 := Hid.mk' ((k104.out).below b112)
          have z117 := Hid.mk' (bel_next z105.out b112)
          clear k101 k102 k103 k104 z105 b112
          obtain ⟨c118, c119, c120, c121⟩ := k114.out
          have l122 := M4.lt k114.out
          go_wp2_with fail
          clear c118 c119 c120 c121 l122
          refine (monOkS_of hb _).mono ?_
          rintro e w123 ⟨rfl, b124⟩
          have k125 := Hid.mk' ((k113.out).below b124)
          have k126 := Hid.mk' ((k114.out).below b124)
          have k127 := Hid.mk' ((k115.out).below b124)
          have k128 := Hid.mk' ((k116.out).below b124)
          have z129 := Hid.mk' (bel_next z117.out b124)
          clear k113 k114 k115 k116 z117 b124
          go_wp2_with fail
          refine (heOkT _).mono ?_
          rintro e w130 ⟨rfl, b131⟩
          have k132 := Hid.mk' ((k125.out).below b131)
          have k133 := Hid.mk' ((k126.out).below b131)
          have k134 := Hid.mk' ((k127.out).below b131)
          have k135 := Hid.mk' ((k128.out).below b131)
          have z136 := Hid.mk' (bel_next z129.out b131)
          clear k125 k126 k127 k128 z129 b131
          go_wp2
          go_ret
          exact ⟨rfl, z136.out⟩
        · refine (monOkS_of hb _).mono ?_
          rintro e w99 ⟨rfl, b100⟩
          have k101 := Hid.mk' ((k89.out).below b100)
          have k102 := Hid.mk' ((k90.out).below b100)
          have k103 := Hid.mk' ((k91.out).below b100)
          have k104 := Hid.mk' ((k92.out).below b100)
          have z105 := Hid.mk' (bel_next z93.out b100)
          clear k89 k90 k91 k92 z93 b100
          obtain ⟨c106, c107, c108, c109⟩ := k103.out
          have l110 := M4.lt k103.out
          go_wp2_with fail
          clear c106 c107 c108 c109 l110
          cases hc : M.ok ⟨cx, cy, cd, cz⟩
          · refine (monOkS_of hc _).mono ?_
            rintro e w111 ⟨rfl, b112⟩
            have k113 := Hid.mk' ((k101.out).below b112)
            have k114 := Hid.mk' ((k102.out).below b112)
            have k115 := Hid.mk' ((k103.out).below b112)
            have k116 := Hid.mk' ((k104.out).below b112)
            have z117 := Hid.mk' (bel_next z105.out b112)
            clear k101 k102 k103 k104 z105 b112
            obtain ⟨c118, c119, c120, c121⟩ := k113.out
            have l122 := M4.lt k113.out
            go_wp2_with fail
            clear c118 c119 c120 c121 l122
            refine (monOkS_of ha _).mono ?_
            rintro e w123 ⟨rfl, b124⟩
            have k125 := Hid.mk' ((k113.out).below b124)
            have k126 := Hid.mk' ((k114.out).below b124)
            have k127 := Hid.mk' ((k115.out).below b124)
            have k128 := Hid.mk' ((k116.out).below b124)
            have z129 := Hid.mk' (bel_next z117.out b124)
            clear k113 k114 k115 k116 z117 b124
            obtain ⟨c130, c131, c132, c133⟩ := k126.out
            have l134 := M4.lt k126.out
            go_wp2_with fail
            clear c130 c131 c132 c133 l134
            refine (monOkS_of hb _).mono ?_
            rintro e w135 ⟨rfl, b136⟩
            have k137 := Hid.mk' ((k125.out).below b136)
            have k138 := Hid.mk' ((k126.out).below b136)
            have k139 := Hid.mk' ((k127.out).below b136)
            have k140 := Hid.mk' ((k128.out).below b136)
            have z141 := Hid.mk' (bel_next z129.out b136)
            clear k125 k126 k127 k128 z129 b136
            go_wp2_with fail
            refine (heOkT _).mono ?_
            rintro e w142 ⟨rfl, b143⟩
            have k144 := Hid.mk' ((k137.out).below b143)
            have k145 := Hid.mk' ((k138.out).below b143)
            have k146 := Hid.mk' ((k139.out).below b143)
            have k147 := Hid.mk' ((k140.out).below b143)
            have z148 := Hid.mk' (bel_next z141.out b143)
            clear k137 k138 k139 k140 z141 b143
            go_wp2
            go_ret
            exact ⟨rfl, z148.out⟩
          · refine (monOkS_of hc _).mono ?_
            rintro e w111 ⟨rfl, b112⟩
            have k113 := Hid.mk' ((k101.out).below b112)
            have k114 := Hid.mk' ((k102.out).below b112)
            have k115 := Hid.mk' ((k103.out).below b112)
            have k116 := Hid.mk' ((k104.out).below b112)
            have z117 := Hid.mk' (bel_next z105.out b112)
            clear k101 k102 k103 k104 z105 b112
            have hzz := cmp_zero (o := o) (a := ⟨x, y, d, z⟩) (b := ⟨x', y', d', z'⟩) ⟨o1, o2⟩ ha hb
            rw [hn] at hzz
            dsimp only at hzz
            obtain ⟨l, hl⟩ : ∃ l, M.cmp o ⟨x, y, d, z⟩ ⟨0, 0, 0, 0⟩ = l := ⟨_, rfl⟩
            have hl0 := cmp_least (o := o) ⟨o1, o2⟩ ha
            rw [hl] at hl0
            have hone := cmp_one (o := o) ⟨o1, o2⟩
            by_cases hp : 0 < n
            · have hdf : ¬ (x = x' ∧ y = y' ∧ d = d' ∧ z = z') := fun k => by have := hzz.2 k; omega
              obtain rfl : n = 1 := by omega
              clear hzz hneg hp
              obtain ⟨c118, c119, c120, c121⟩ := k114.out
              have l122 := M4.lt k114.out
              obtain ⟨c123, c124, c125, c126⟩ := k115.out
              have l127 := M4.lt k115.out
              go_wp2_with fail
              clear c118 c119 c120 c121 l122 c123 c124 c125 c126 l127
              obtain ⟨m, hm⟩ : ∃ m, M.cmp o ⟨x', y', d', z'⟩ ⟨cx, cy, cd, cz⟩ = m := ⟨_, rfl⟩
              by_cases hm0 : 0 < m
              · obtain ⟨k, hk⟩ : ∃ k, M.cmp o ⟨x, y, d, z⟩ ⟨cx, cy, cd, cz⟩ = k := ⟨_, rfl⟩
                have hk0 : 0 < k := by rw [← hk]; exact cmp_trans (b := ⟨x', y', d', z'⟩) (by rw [hn]; omega) (by rw [hm]; omega)
                refine (monCmpI_of hm _).mono ?_
                rintro e w128 ⟨rfl, b129⟩
                have k130 := Hid.mk' ((k113.out).below b129)
                have k131 := Hid.mk' ((k114.out).below b129)
                have k132 := Hid.mk' ((k115.out).below b129)
                have k133 := Hid.mk' ((k116.out).below b129)
                have z134 := Hid.mk' (bel_next z117.out b129)
                clear k113 k114 k115 k116 z117 b129
                obtain ⟨c135, c136, c137, c138⟩ := k130.out
                have l139 := M4.lt k130.out
                obtain ⟨c140, c141, c142, c143⟩ := k132.out
                have l144 := M4.lt k132.out
                go_wp2_with fail
                clear c135 c136 c137 c138 l139 c140 c141 c142 c143 l144
                refine (monCmpI_of hk _).mono ?_
                rintro e w145 ⟨rfl, b146⟩
                have k147 := Hid.mk' ((k130.out).below b146)
                have k148 := Hid.mk' ((k131.out).below b146)
                have k149 := Hid.mk' ((k132.out).below b146)
                have k150 := Hid.mk' ((k133.out).below b146)
                have z151 := Hid.mk' (bel_next z134.out b146)
                clear k130 k131 k132 k133 z134 b146
                by_cases ex : x = x'
                · subst ex
                  by_cases ey : y = y'
                  · subst ey
                    by_cases ed : d = d'
                    · subst ed
                      have ez : ¬ z = z' := fun hz => hdf ⟨rfl, rfl, rfl, hz⟩
                      clear hdf
                      obtain ⟨c152, c153, c154, c155⟩ := k147.out
                      have l156 := M4.lt k147.out
                      obtain ⟨c157, c158, c159, c160⟩ := k148.out
                      have l161 := M4.lt k148.out
                      go_wp2_with fail
                      clear c152 c153 c154 c155 l156 c157 c158 c159 c160 l161
                      refine (monCmpI_of hl _).mono ?_
                      rintro e w162 ⟨rfl, b163⟩
                      have k164 := Hid.mk' ((k147.out).below b163)
                      have k165 := Hid.mk' ((k148.out).below b163)
                      have k166 := Hid.mk' ((k149.out).below b163)
                      have k167 := Hid.mk' ((k150.out).below b163)
                      have z168 := Hid.mk' (bel_next z151.out b163)
                      clear k147 k148 k149 k150 z151 b163
                      go_wp2_with fail
                      refine (monCmpI_of hone _).mono ?_
                      rintro e w169 ⟨rfl, b170⟩
                      have k171 := Hid.mk' ((k164.out).below b170)
                      have k172 := Hid.mk' ((k165.out).below b170)
                      have k173 := Hid.mk' ((k166.out).below b170)
                      have k174 := Hid.mk' ((k167.out).below b170)
                      have z175 := Hid.mk' (bel_next z168.out b170)
                      clear k164 k165 k166 k167 z168 b170
                      go_wp2
                      go_ret
                      exact ⟨rfl, z175.out⟩
                    · clear hdf
                      obtain ⟨c152, c153, c154, c155⟩ := k147.out
                      have l156 := M4.lt k147.out
                      obtain ⟨c157, c158, c159, c160⟩ := k148.out
                      have l161 := M4.lt k148.out
                      go_wp2_with fail
                      clear c152 c153 c154 c155 l156 c157 c158 c159 c160 l161
                      refine (monCmpI_of hl _).mono ?_
                      rintro e w162 ⟨rfl, b163⟩
                      have k164 := Hid.mk' ((k147.out).below b163)
                      have k165 := Hid.mk' ((k148.out).below b163)
                      have k166 := Hid.mk' ((k149.out).below b163)
                      have k167 := Hid.mk' ((k150.out).below b163)
                      have z168 := Hid.mk' (bel_next z151.out b163)
                      clear k147 k148 k149 k150 z151 b163
                      go_wp2_with fail
                      refine (monCmpI_of hone _).mono ?_
                      rintro e w169 ⟨rfl, b170⟩
                      have k171 := Hid.mk' ((k164.out).below b170)
                      have k172 := Hid.mk' ((k165.out).below b170)
                      have k173 := Hid.mk' ((k166.out).below b170)
                      have k174 := Hid.mk' ((k167.out).below b170)
                      have z175 := Hid.mk' (bel_next z168.out b170)
                      clear k164 k165 k166 k167 z168 b170
                      go_wp2
                      go_ret
                      exact ⟨rfl, z175.out⟩
                  · clear hdf
                    obtain ⟨c152, c153, c154, c155⟩ := k147.out
                    have l156 := M4.lt k147.out
                    obtain ⟨c157, c158, c159, c160⟩ := k148.out
                    have l161 := M4.lt k148.out
                    go_wp2_with fail
                    clear c152 c153 c154 c155 l156 c157 c158 c159 c160 l161
                    refine (monCmpI_of hl _).mono ?_
                    rintro e w162 ⟨rfl, b163⟩
                    have k164 := Hid.mk' ((k147.out).below b163)
                    have k165 := Hid.mk' ((k148.out).below b163)
                    have k166 := Hid.mk' ((k149.out).below b163)
                    have k167 := Hid.mk' ((k150.out).below b163)
                    have z168 := Hid.mk' (bel_next z151.out b163)
                    clear k147 k148 k149 k150 z151 b163
                    go_wp2_with fail
                    refine (monCmpI_of hone _).mono ?_
                    rintro e w169 ⟨rfl, b170⟩
                    have k171 := Hid.mk' ((k164.out).below b170)
                    have k172 := Hid.mk' ((k165.out).below b170)
                    have k173 := Hid.mk' ((k166.out).below b170)
                    have k174 := Hid.mk' ((k167.out).below b170)
                    have z175 := Hid.mk' (bel_next z168.out b170)
                    clear k164 k165 k166 k167 z168 b170
                    go_wp2
                    go_ret
                    exact ⟨rfl, z175.out⟩
                · clear hdf
                  obtain ⟨c152, c153, c154, c155⟩ := k147.out
                  have l156 := M4.lt k147.out
                  obtain ⟨c157, c158, c159, c160⟩ := k148.out
                  have l161 := M4.lt k148.out
                  go_wp2_with fail
                  clear c152 c153 c154 c155 l156 c157 c158 c159 c160 l161
                  refine (monCmpI_of hl _).mono ?_
                  rintro e w162 ⟨rfl, b163⟩
                  have k164 := Hid.mk' ((k147.out).below b163)
                  have k165 := Hid.mk' ((k148.out).below b163)
                  have k166 := Hid.mk' ((k149.out).below b163)
                  have k167 := Hid.mk' ((k150.out).below b163)
                  have z168 := Hid.mk' (bel_next z151.out b163)
                  clear k147 k148 k149 k150 z151 b163
                  go_wp2_with fail
                  refine (monCmpI_of hone _).mono ?_
                  rintro e w169 ⟨rfl, b170⟩
                  have k171 := Hid.mk' ((k164.out).below b170)
                  have k172 := Hid.mk' ((k165.out).below b170)
                  have k173 := Hid.mk' ((k166.out).below b170)
                  have k174 := Hid.mk' ((k167.out).below b170)
                  have z175 := Hid.mk' (bel_next z168.out b170)
                  clear k164 k165 k166 k167 z168 b170
                  go_wp2
                  go_ret
                  exact ⟨rfl, z175.out⟩
              · refine (monCmpI_of hm _).mono ?_
                rintro e w128 ⟨rfl, b129⟩
                have k130 := Hid.mk' ((k113.out).below b129)
                have k131 := Hid.mk' ((k114.out).below b129)
                have k132 := Hid.mk' ((k115.out).below b129)
                have k133 := Hid.mk' ((k116.out).below b129)
                have z134 := Hid.mk' (bel_next z117.out b129)
                clear k113 k114 k115 k116 z117 b129
                by_cases ex : x = x'
                · subst ex
                  by_cases ey : y = y'
                  · subst ey
                    by_cases ed : d = d'
                    · subst ed
                      have ez : ¬ z = z' := fun hz => hdf ⟨rfl, rfl, rfl, hz⟩
                      clear hdf
                      obtain ⟨c135, c136, c137, c138⟩ := k130.out
                      have l139 := M4.lt k130.out
                      obtain ⟨c140, c141, c142, c143⟩ := k131.out
                      have l144 := M4.lt k131.out
                      go_wp2_with fail
                      clear c135 c136 c137 c138 l139 c140 c141 c142 c143 l144
                      refine (monCmpI_of hl _).mono ?_
                      rintro e w145 ⟨rfl, b146⟩
                      have k147 := Hid.mk' ((k130.out).below b146)
                      have k148 := Hid.mk' ((k131.out).below b146)
                      have k149 := Hid.mk' ((k132.out).below b146)
                      have k150 := Hid.mk' ((k133.out).below b146)
                      have z151 := Hid.mk' (bel_next z134.out b146)
                      clear k130 k131 k132 k133 z134 b146
                      go_wp2_with fail
                      refine (monCmpI_of hone _).mono ?_
                      rintro e w152 ⟨rfl, b153⟩
                      have k154 := Hid.mk' ((k147.out).below b153)
                      have k155 := Hid.mk' ((k148.out).below b153)
                      have k156 := Hid.mk' ((k149.out).below b153)
                      have k157 := Hid.mk' ((k150.out).below b153)
                      have z158 := Hid.mk' (bel_next z151.out b153)
                      clear k147 k148 k149 k150 z151 b153
                      go_wp2
                      go_ret
                      exact ⟨rfl, z158.out⟩
                    · clear hdf
                      obtain ⟨c135, c136, c137, c138⟩ := k130.out
                      have l139 := M4.lt k130.out
                      obtain ⟨c140, c141, c142, c143⟩ := k131.out
                      have l144 := M4.lt k131.out
                      go_wp2_with fail
                      clear c135 c136 c137 c138 l139 c140 c141 c142 c143 l144
                      refine (monCmpI_of hl _).mono ?_
                      rintro e w145 ⟨rfl, b146⟩
                      have k147 := Hid.mk' ((k130.out).below b146)
                      have k148 := Hid.mk' ((k131.out).below b146)
                      have k149 := Hid.mk' ((k132.out).below b146)
                      have k150 := Hid.mk' ((k133.out).below b146)
                      have z151 := Hid.mk' (bel_next z134.out b146)
                      clear k130 k131 k132 k133 z134 b146
                      go_wp2_with fail
                      refine (monCmpI_of hone _).mono ?_
                      rintro e w152 ⟨rfl, b153⟩
                      have k154 := Hid.mk' ((k147.out).below b153)
                      have k155 := Hid.mk' ((k148.out).below b153)
                      have k156 := Hid.mk' ((k149.out).below b153)
                      have k157 := Hid.mk' ((k150.out).below b153)
                      have z158 := Hid.mk' (bel_next z151.out b153)
                      clear k147 k148 k149 k150 z151 b153
                      go_wp2
                      go_ret
                      exact ⟨rfl, z158.out⟩
                  · clear hdf
                    obtain ⟨c135, c136, c137, c138⟩ := k130.out
                    have l139 := M4.lt k130.out
                    obtain ⟨c140, c141, c142, c143⟩ := k131.out
                    have l144 := M4.lt k131.out
                    go_wp2_with fail
                    clear c135 c136 c137 c138 l139 c140 c141 c142 c143 l144
                    refine (monCmpI_of hl _).mono ?_
                    rintro e w145 ⟨rfl, b146⟩
                    have k147 := Hid.mk' ((k130.out).below b146)
                    have k148 := Hid.mk' ((k131.out).below b146)
                    have k149 := Hid.mk' ((k132.out).below b146)
                    have k150 := Hid.mk' ((k133.out).below b146)
                    have z151 := Hid.mk' (bel_next z134.out b146)
                    clear k130 k131 k132 k133 z134 b146
                    go_wp2_with fail
                    refine (monCmpI_of hone _).mono ?_
                    rintro e w152 ⟨rfl, b153⟩
                    have k154 := Hid.mk' ((k147.out).below b153)
                    have k155 := Hid.mk' ((k148.out).below b153)
                    have k156 := Hid.mk' ((k149.out).below b153)
                    have k157 := Hid.mk' ((k150.out).below b153)
                    have z158 := Hid.mk' (bel_next z151.out b153)
                    clear k147 k148 k149 k150 z151 b153
                    go_wp2
                    go_ret
                    exact ⟨rfl, z158.out⟩
                · clear hdf
                  obtain ⟨c135, c136, c137, c138⟩ := k130.out
                  have l139 := M4.lt k130.out
                  obtain ⟨c140, c141, c142, c143⟩ := k131.out
                  have l144 := M4.lt k131.out
                  go_wp2_with fail
                  clear c135 c136 c137 c138 l139 c140 c141 c142 c143 l144
                  refine (monCmpI_of hl _).mono ?_
                  rintro e w145 ⟨rfl, b146⟩
                  have k147 := Hid.mk' ((k130.out).below b146)
                  have k148 := Hid.mk' ((k131.out).below b146)
                  have k149 := Hid.mk' ((k132.out).below b146)
                  have k150 := Hid.mk' ((k133.out).below b146)
                  have z151 := Hid.mk' (bel_next z134.out b146)
                  clear k130 k131 k132 k133 z134 b146
                  go_wp2_with fail
                  refine (monCmpI_of hone _).mono ?_
                  rintro e w152 ⟨rfl, b153⟩
                  have k154 := Hid.mk' ((k147.out).below b153)
                  have k155 := Hid.mk' ((k148.out).below b153)
                  have k156 := Hid.mk' ((k149.out).below b153)
                  have k157 := Hid.mk' ((k150.out).below b153)
                  have z158 := Hid.mk' (bel_next z151.out b153)
                  clear k147 k148 k149 k150 z151 b153
                  go_wp2
                  go_ret
                  exact ⟨rfl, z158.out⟩
            · by_cases hz : n = 0
              · obtain ⟨rfl, rfl, rfl, rfl⟩ := hzz.1 hz
                subst hz
                clear hzz hneg hp
                obtain ⟨c118, c119, c120, c121⟩ := k113.out
                have l122 := M4.lt k113.out
                obtain ⟨c123, c124, c125, c126⟩ := k114.out
                have l127 := M4.lt k114.out
                go_wp2_with fail
                clear c118 c119 c120 c121 l122 c123 c124 c125 c126 l127
                refine (monCmpI_of hl _).mono ?_
                rintro e w128 ⟨rfl, b129⟩
                have k130 := Hid.mk' ((k113.out).below b129)
                have k131 := Hid.mk' ((k114.out).below b129)
                have k132 := Hid.mk' ((k115.out).below b129)
                have k133 := Hid.mk' ((k116.out).below b129)
                have z134 := Hid.mk' (bel_next z117.out b129)
                clear k113 k114 k115 k116 z117 b129
                go_wp2_with fail
                refine (monCmpI_of hone _).mono ?_
                rintro e w135 ⟨rfl, b136⟩
                have k137 := Hid.mk' ((k130.out).below b136)
                have k138 := Hid.mk' ((k131.out).below b136)
                have k139 := Hid.mk' ((k132.out).below b136)
                have k140 := Hid.mk' ((k133.out).below b136)
                have z141 := Hid.mk' (bel_next z134.out b136)
                clear k130 k131 k132 k133 z134 b136
                go_wp2
                go_ret
                exact ⟨rfl, z141.out⟩
              · have hdf : ¬ (x = x' ∧ y = y' ∧ d = d' ∧ z = z') := fun k => hz (hzz.2 k)
                obtain rfl : n = -1 := by omega
                clear hzz hneg hp hz
                by_cases ex : x = x'
                · subst ex
                  by_cases ey : y = y'
                  · subst ey
                    by_cases ed : d = d'
                    · subst ed
                      have ez : ¬ z = z' := fun hz => hdf ⟨rfl, rfl, rfl, hz⟩
                      clear hdf
                      obtain ⟨c118, c119, c120, c121⟩ := k113.out
                      have l122 := M4.lt k113.out
                      obtain ⟨c123, c124, c125, c126⟩ := k114.out
                      have l127 := M4.lt k114.out
                      go_wp2_with fail
                      clear c118 c119 c120 c121 l122 c123 c124 c125 c126 l127
                      refine (monCmpI_of hl _).mono ?_
                      rintro e w128 ⟨rfl, b129⟩
                      have k130 := Hid.mk' ((k113.out).below b129)
                      have k131 := Hid.mk' ((k114.out).below b129)
                      have k132 := Hid.mk' ((k115.out).below b129)
                      have k133 := Hid.mk' ((k116.out).below b129)
                      have z134 := Hid.mk' (bel_next z117.out b129)
                      clear k113 k114 k115 k116 z117 b129
                      go_wp2_with fail
                      refine (monCmpI_of hone _).mono ?_
                      rintro e w135 ⟨rfl, b136⟩
                      have k137 := Hid.mk' ((k130.out).below b136)
                      have k138 := Hid.mk' ((k131.out).below b136)
                      have k139 := Hid.mk' ((k132.out).below b136)
                      have k140 := Hid.mk' ((k133.out).below b136)
                      have z141 := Hid.mk' (bel_next z134.out b136)
                      clear k130 k131 k132 k133 z134 b136
                      go_wp2
                      go_ret
                      exact ⟨rfl, z141.out⟩
                    · clear hdf
                      obtain ⟨c118, c119, c120, c121⟩ := k113.out
                      have l122 := M4.lt k113.out
                      obtain ⟨c123, c124, c125, c126⟩ := k114.out
                      have l127 := M4.lt k114.out
                      go_wp2_with fail
                      clear c118 c119 c120 c121 l122 c123 c124 c125 c126 l127
                      refine (monCmpI_of hl _).mono ?_
                      rintro e w128 ⟨rfl, b129⟩
                      have k130 := Hid.mk' ((k113.out).below b129)
                      have k131 := Hid.mk' ((k114.out).below b129)
                      have k132 := Hid.mk' ((k115.out).below b129)
                      have k133 := Hid.mk' ((k116.out).below b129)
                      have z134 := Hid.mk' (bel_next z117.out b129)
                      clear k113 k114 k115 k116 z117 b129
                      go_wp2_with fail
                      refine (monCmpI_of hone _).mono ?_
                      rintro e w135 ⟨rfl, b136⟩
                      have k137 := Hid.mk' ((k130.out).below b136)
                      have k138 := Hid.mk' ((k131.out).below b136)
                      have k139 := Hid.mk' ((k132.out).below b136)
                      have k140 := Hid.mk' ((k133.out).below b136)
                      have z141 := Hid.mk' (bel_next z134.out b136)
                      clear k130 k131 k132 k133 z134 b136
                      go_wp2
                      go_ret
                      exact ⟨rfl, z141.out⟩
                  · clear hdf
                    obtain ⟨c118, c119, c120, c121⟩ := k113.out
                    have l122 := M4.lt k113.out
                    obtain ⟨c123, c124, c125, c126⟩ := k114.out
                    have l127 := M4.lt k114.out
                    go_wp2_with fail
                    clear c118 c119 c120 c121 l122 c123 c124 c125 c126 l127
                    refine (monCmpI_of hl _).mono ?_
                    rintro e w128 ⟨rfl, b129⟩
                    have k130 := Hid.mk' ((k113.out).below b129)
                    have k131 := Hid.mk' ((k114.out).below b129)
                    have k132 := Hid.mk' ((k115.out).below b129)
                    have k133 := Hid.mk' ((k116.out).below b129)
                    have z134 := Hid.mk' (bel_next z117.out b129)
                    clear k113 k114 k115 k116 z117 b129
                    go_wp2_with fail
                    refine (monCmpI_of hone _).mono ?_
                    rintro e w135 ⟨rfl, b136⟩
                    have k137 := Hid.mk' ((k130.out).below b136)
                    have k138 := Hid.mk' ((k131.out).below b136)
                    have k139 := Hid.mk' ((k132.out).below b136)
                    have k140 := Hid.mk' ((k133.out).below b136)
                    have z141 := Hid.mk' (bel_next z134.out b136)
                    clear k130 k131 k132 k133 z134 b136
                    go_wp2
                    go_ret
                    exact ⟨rfl, z141.out⟩
                · clear hdf
                  obtain ⟨c118, c119, c120, c121⟩ := k113.out
                  have l122 := M4.lt k113.out
                  obtain ⟨c123, c124, c125, c126⟩ := k114.out
                  have l127 := M4.lt k114.out
                  go_wp2_with fail
                  clear c118 c119 c120 c121 l122 c123 c124 c125 c126 l127
                  refine (monCmpI_of hl _).mono ?_
                  rintro e w128 ⟨rfl, b129⟩
                  have k130 := Hid.mk' ((k113.out).below b129)
                  have k131 := Hid.mk' ((k114.out).below b129)
                  have k132 := Hid.mk' ((k115.out).below b129)
                  have k133 := Hid.mk' ((k116.out).below b129)
                  have z134 := Hid.mk' (bel_next z117.out b129)
                  clear k113 k114 k115 k116 z117 b129
                  go_wp2_with fail
                  refine (monCmpI_of hone _).mono ?_
                  rintro e w135 ⟨rfl, b136⟩
                  have k137 := Hid.mk' ((k130.out).below b136)
                  have k138 := Hid.mk' ((k131.out).below b136)
                  have k139 := Hid.mk' ((k132.out).below b136)
                  have k140 := Hid.mk' ((k133.out).below b136)
                  have z141 := Hid.mk' (bel_next z134.out b136)
                  clear k130 k131 k132 k133 z134 b136
                  go_wp2
                  go_ret
                  exact ⟨rfl, z141.out⟩
    · have o3 : 3 < o := by omega
      obtain rfl : n = 0 := by rw [← hn]; exact cmp_out (fun k => by omega)
      clear hneg hn n0 n1
      obtain ⟨c82, c83, c84, c85⟩ := k77.out
      have l86 := M4.lt k77.out
      go_wp2_with fail
      clear c82 c83 c84 c85 l86
      cases ha : M.ok ⟨x, y, d, z⟩
      · refine (monOkS_of ha _).mono ?_
        rintro e w87 ⟨rfl, b88⟩
        have k89 := Hid.mk' ((k77.out).below b88)
        have k90 := Hid.mk' ((k78.out).below b88)
        have k91 := Hid.mk' ((k79.out).below b88)
        have k92 := Hid.mk' ((k80.out).below b88)
        have z93 := Hid.mk' (bel_next z81.out b88)
        clear k77 k78 k79 k80 z81 b88
        go_wp2_with fail
        refine (heOkT _).mono ?_
        rintro e w94 ⟨rfl, b95⟩
        have k96 := Hid.mk' ((k89.out).below b95)
        have k97 := Hid.mk' ((k90.out).below b95)
        have k98 := Hid.mk' ((k91.out).below b95)
        have k99 := Hid.mk' ((k92.out).below b95)
        have z100 := Hid.mk' (bel_next z93.out b95)
        clear k89 k90 k91 k92 z93 b95
        go_wp2
        go_ret
        exact ⟨rfl, z100.out⟩
      · refine (monOkS_of ha _).mono ?_
        rintro e w87 ⟨rfl, b88⟩
        have k89 := Hid.mk' ((k77.out).below b88)
        have k90 := Hid.mk' ((k78.out).below b88)
        have k91 := Hid.mk' ((k79.out).below b88)
        have k92 := Hid.mk' ((k80.out).below b88)
        have z93 := Hid.mk' (bel_next z81.out b88)
        clear k77 k78 k79 k80 z81 b88
        obtain ⟨c94, c95, c96, c97⟩ := k90.out
        have l98 := M4.lt k90.out
        go_wp2_with fail
        clear c94 c95 c96 c97 l98
        cases hb : M.ok ⟨x', y', d', z'⟩
        · refine (monOkS_of hb _).mono ?_
          rintro e w99 ⟨rfl, b100⟩
          have k101 := Hid.mk' ((k89.out).below b100)
          have k102 := Hid.mk' ((k90.out).below b100)
          have k103 := Hid.mk' ((k91.out).below b100)
          have k104 := Hid.mk' ((k92.out).below b100)
          have z105 := Hid.mk' (bel_next z93.out b100)
          clear k89 k90 k91 k92 z93 b100
          go_wp2_with fail
          refine (heOkT _).mono ?_
          rintro e w106 ⟨rfl, b107⟩
          have k108 := Hid.mk' ((k101.out).below b107)
          have k109 := Hid.mk' ((k102.out).below b107)
          have k110 := Hid.mk' ((k103.out).below b107)
          have k111 := Hid.mk' ((k104.out).below b107)
          have z112 := Hid.mk' (bel_next z105.out b107)
          clear k101 k102 k103 k104 z105 b107
          go_wp2
          go_ret
          exact ⟨rfl, z112.out⟩
        · refine (monOkS_of hb _).mono ?_
          rintro e w99 ⟨rfl, b100⟩
          have k101 := Hid.mk' ((k89.out).below b100)
          have k102 := Hid.mk' ((k90.out).below b100)
          have k103 := Hid.mk' ((k91.out).below b100)
          have k104 := Hid.mk' ((k92.out).below b100)
          have z105 := Hid.mk' (bel_next z93.out b100)
          clear k89 k90 k91 k92 z93 b100
          go_wp2_with fail
          refine (heOkT _).mono ?_
          rintro e w106 ⟨rfl, b107⟩
          have k108 := Hid.mk' ((k101.out).below b107)
          have k109 := Hid.mk' ((k102.out).below b107)
          have k110 := Hid.mk' ((k103.out).below b107)
          have k111 := Hid.mk' ((k104.out).below b107)
          have z112 := Hid.mk' (bel_next z105.out b107)
          clear k101 k102 k103 k104 z105 b107
          go_wp2
          go_ret
          exact ⟨rfl, z112.out⟩
  · have o3 : o < 1 := by omega
    obtain rfl : n = 0 := by rw [← hn]; exact cmp_out (fun k => by omega)
    clear hneg hn n0 n1
    obtain ⟨c82, c83, c84, c85⟩ := k77.out
    have l86 := M4.lt k77.out
    go_wp2_with fail
    clear c82 c83 c84 c85 l86
    cases ha : M.ok ⟨x, y, d, z⟩
    · refine (monOkS_of ha _).mono ?_
      rintro e w87 ⟨rfl, b88⟩
      have k89 := Hid.mk' ((k77.out).below b88)
      have k90 := Hid.mk' ((k78.out).below b88)
      have k91 := Hid.mk' ((k79.out).below b88)
      have k92 := Hid.mk' ((k80.out).below b88)
      have z93 := Hid.mk' (bel_next z81.out b88)
      clear k77 k78 k79 k80 z81 b88
      go_wp2_with fail
      refine (heOkT _).mono ?_
      rintro e w94 ⟨rfl, b95⟩
      have k96 := Hid.mk' ((k89.out).below b95)
      have k97 := Hid.mk' ((k90.out).below b95)
      have k98 := Hid.mk' ((k91.out).below b95)
      have k99 := Hid.mk' ((k92.out).below b95)
      have z100 := Hid.mk' (bel_next z93.out b95)
      clear k89 k90 k91 k92 z93 b95
      go_wp2
      go_ret
      exact ⟨rfl, z100.out⟩
    · refine (monOkS_of ha _).mono ?_
      rintro e w87 ⟨rfl, b88⟩
      have k89 := Hid.mk' ((k77.out).below b88)
      have k90 := Hid.mk' ((k78.out).below b88)
      have k91 := Hid.mk' ((k79.out).below b88)
      have k92 := Hid.mk' ((k80.out).below b88)
      have z93 := Hid.mk' (bel_next z81.out b88)
      clear k77 k78 k79 k80 z81 b88
      obtain ⟨c94, c95, c96, c97⟩ := k90.out
      have l98 := M4.lt k90.out
      go_wp2_with fail
      clear c94 c95 c96 c97 l98
      cases hb : M.ok ⟨x', y', d', z'⟩
      · refine (monOkS_of hb _).mono ?_
        rintro e w99 ⟨rfl, b100⟩
        have k101 := Hid.mk' ((k89.out).below b100)
        have k102 := Hid.mk' ((k90.out).below b100)
        have k103 := Hid.mk' ((k91.out).below b100)
        have k104 := Hid.mk' ((k92.out).below b100)
        have z105 := Hid.mk' (bel_next z93.out b100)
        clear k89 k90 k91 k92 z93 b100
        go_wp2_with fail
        refine (heOkT _).mono ?_
        rintro e w106 ⟨rfl, b107⟩
        have k108 := Hid.mk' ((k101.out).below b107)
        have k109 := Hid.mk' ((k102.out).below b107)
        have k110 := Hid.mk' ((k103.out).below b107)
        have k111 := Hid.mk' ((k104.out).below b107)
        have z112 := Hid.mk' (bel_next z105.out b107)
        clear k101 k102 k103 k104 z105 b107
        go_wp2
        go_ret
        exact ⟨rfl, z112.out⟩
      · refine (monOkS_of hb _).mono ?_
        rintro e w99 ⟨rfl, b100⟩
        have k101 := Hid.mk' ((k89.out).below b100)
        have k102 := Hid.mk' ((k90.out).below b100)
        have k103 := Hid.mk' ((k91.out).below b100)
        have k104 := Hid.mk' ((k92.out).below b100)
        have z105 := Hid.mk' (bel_next z93.out b100)
        clear k89 k90 k91 k92 z93 b100
        go_wp2_with fail
        refine (heOkT _).mono ?_
        rintro e w106 ⟨rfl, b107⟩
        have k108 := Hid.mk' ((k101.out).below b107)
        have k109 := Hid.mk' ((k102.out).below b107)
        have k110 := Hid.mk' ((k103.out).below b107)
        have k111 := Hid.mk' ((k104.out).below b107)
        have z112 := Hid.mk' (bel_next z105.out b107)
        clear k101 k102 k103 k104 z105 b107
        go_wp2
        go_ret
        exact ⟨rfl, z112.out⟩
end Go.Proofs.Ytfnlogmfkpaaiab
