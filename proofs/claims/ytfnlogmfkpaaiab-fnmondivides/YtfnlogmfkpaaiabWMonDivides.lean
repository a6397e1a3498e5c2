/-
  The walk of a law over monomials: whatever the codes, it comes out true, and nothing that was there is turned.
-/
import Derived.Test.YtfnlogmfkpaaiabLawM
namespace Go.Proofs.Ytfnlogmfkpaaiab
open Go.RowKit
set_option linter.unusedVariables false
set_option maxRecDepth 100000 in
set_option maxHeartbeats 40000000 in
theorem walk_FnMonDivides (w : World) (a0 : Option Addr) (len0 cap0 : Nat) (s0 : Src w a0 len0 cap0) (a1 : Option Addr) (len1 cap1 : Nat) (s1 : Src w a1 len1 cap1) :
    Calls Try.prog 8 #[.slice a0 len0 cap0, .slice a1 len1 cap1] w fun e w' => e = .returned (.bool true) ∧ Below w.heap.size w w' := by
  by_cases c0 : (1048576 : Int) < (len0 : Int)
  · go_enter Try.func8, Try.ntmps8
    go_wp2
    go_ret
    exact ⟨rfl, Below.refl _ _⟩
  by_cases c1 : (1048576 : Int) < (len1 : Int)
  · go_enter Try.func8, Try.ntmps8
    go_wp2
    go_ret
    exact ⟨rfl, Below.refl _ _⟩
  go_enter Try.func8, Try.ntmps8
  go_wp2_with fail
  refine (drawMonDivides _ _ _ _ s0).mono ?_
  rintro e w1 ⟨x, y, d, z, x', y', d', z', rfl, b2⟩
  have z3 := Hid.mk' b2
  clear b2
  go_wp2_with fail
  have k5 := Hid.mk' (M4.box w1 29 (x) (y) (d) (z))
  have z6 := Hid.mk' (Below.alloc z3.out z3.out.size (.cells #[.int .i64 x, .int .i64 y, .int .i64 d, .int .i64 z] 29))
  have hs7 : Hid ((w1.alloc (.cells #[.int .i64 x, .int .i64 y, .int .i64 d, .int .i64 z] 29)).heap.size = w1.heap.size + 1) := by simp [Hid]
  clear z3
  generalize (w1.alloc (.cells #[.int .i64 x, .int .i64 y, .int .i64 d, .int .i64 z] 29)) = w4 at k5 z6 hs7 ⊢
  have k9 := Hid.mk' (M4.alloc (k5.out) (.cells #[.int .i64 x', .int .i64 y', .int .i64 d', .int .i64 z'] 29))
  have k10 : Hid (M4 (w4.alloc (.cells #[.int .i64 x', .int .i64 y', .int .i64 d', .int .i64 z'] 29)) (w1.heap.size + 1) (x') (y') (d') (z')) := by have hh := M4.box w4 29 (x') (y') (d') (z'); rw [hs7] at hh; exact hh
  have z11 := Hid.mk' (Below.alloc z6.out z6.out.size (.cells #[.int .i64 x', .int .i64 y', .int .i64 d', .int .i64 z'] 29))
  have hs12 : Hid ((w4.alloc (.cells #[.int .i64 x', .int .i64 y', .int .i64 d', .int .i64 z'] 29)).heap.size = w4.heap.size + 1) := by simp [Hid]
  clear k5 z6
  generalize (w4.alloc (.cells #[.int .i64 x', .int .i64 y', .int .i64 d', .int .i64 z'] 29)) = w8 at k9 k10 z11 hs12 ⊢
  refine (drawMonDivides _ _ _ _ (s1.below z11.out)).mono ?_
  rintro e w13 ⟨ux, uy, ud, uz, cx, cy, cd, cz, rfl, b14⟩
  have k15 := Hid.mk' ((k9.out).below b14)
  have k16 := Hid.mk' ((k10.out).below b14)
  have z17 := Hid.mk' (bel_next z11.out b14)
  clear k9 k10 z11 b14
  obtain ⟨c18, c19, c20, c21⟩ := k15.out
  have l22 := M4.lt k15.out
  obtain ⟨c23, c24, c25, c26⟩ := k16.out
  have l27 := M4.lt k16.out
  go_wp2_with fail
  clear c18 c19 c20 c21 l22 c23 c24 c25 c26 l27
  have k29 := Hid.mk' (M4.alloc (k15.out) (.cells #[.int .i64 ux, .int .i64 uy, .int .i64 ud, .int .i64 uz] 29))
  have k30 := Hid.mk' (M4.alloc (k16.out) (.cells #[.int .i64 ux, .int .i64 uy, .int .i64 ud, .int .i64 uz] 29))
  have k31 := Hid.mk' (M4.box w13 29 (ux) (uy) (ud) (uz))
  have z32 := Hid.mk' (Below.alloc z17.out z17.out.size (.cells #[.int .i64 ux, .int .i64 uy, .int .i64 ud, .int .i64 uz] 29))
  have hs33 : Hid ((w13.alloc (.cells #[.int .i64 ux, .int .i64 uy, .int .i64 ud, .int .i64 uz] 29)).heap.size = w13.heap.size + 1) := by simp [Hid]
  clear k15 k16 z17
  generalize (w13.alloc (.cells #[.int .i64 ux, .int .i64 uy, .int .i64 ud, .int .i64 uz] 29)) = w28 at k29 k30 k31 z32 hs33 ⊢
  have k35 := Hid.mk' (M4.alloc (k29.out) (.cells #[.int .i64 cx, .int .i64 cy, .int .i64 cd, .int .i64 cz] 29))
  have k36 := Hid.mk' (M4.alloc (k30.out) (.cells #[.int .i64 cx, .int .i64 cy, .int .i64 cd, .int .i64 cz] 29))
  have k37 := Hid.mk' (M4.alloc (k31.out) (.cells #[.int .i64 cx, .int .i64 cy, .int .i64 cd, .int .i64 cz] 29))
  have k38 : Hid (M4 (w28.alloc (.cells #[.int .i64 cx, .int .i64 cy, .int .i64 cd, .int .i64 cz] 29)) (w13.heap.size + 1) (cx) (cy) (cd) (cz)) := by have hh := M4.box w28 29 (cx) (cy) (cd) (cz); rw [hs33] at hh; exact hh
  have z39 := Hid.mk' (Below.alloc z32.out z32.out.size (.cells #[.int .i64 cx, .int .i64 cy, .int .i64 cd, .int .i64 cz] 29))
  have hs40 : Hid ((w28.alloc (.cells #[.int .i64 cx, .int .i64 cy, .int .i64 cd, .int .i64 cz] 29)).heap.size = w28.heap.size + 1) := by simp [Hid]
  clear k29 k30 k31 z32
  generalize (w28.alloc (.cells #[.int .i64 cx, .int .i64 cy, .int .i64 cd, .int .i64 cz] 29)) = w34 at k35 k36 k37 k38 z39 hs40 ⊢
  obtain ⟨oa, hoa⟩ : ∃ n, M.ok ⟨x, y, d, z⟩ = n := ⟨_, rfl⟩
  have haa : M.dvd ⟨x, y, d, z⟩ ⟨x, y, d, z⟩ = oa := by rw [← hoa]; cases hx : M.ok ⟨x, y, d, z⟩ <;> simp [M.dvd, hx]
  cases hd : M.dvd ⟨x, y, d, z⟩ ⟨x', y', d', z'⟩
  · refine (monDividesI_of hd _).mono ?_
    rintro e w41 ⟨rfl, b42⟩
    have k43 := Hid.mk' ((k35.out).below b42)
    have k44 := Hid.mk' ((k36.out).below b42)
    have k45 := Hid.mk' ((k37.out).below b42)
    have k46 := Hid.mk' ((k38.out).below b42)
    have z47 := Hid.mk' (bel_next z39.out b42)
    clear k35 k36 k37 k38 z39 b42
    obtain ⟨c48, c49, c50, c51⟩ := k43.out
    have l52 := M4.lt k43.out
    obtain ⟨c53, c54, c55, c56⟩ := k44.out
    have l57 := M4.lt k44.out
    go_wp2_with fail
    clear c48 c49 c50 c51 l52 c53 c54 c55 c56 l57
    refine (monDividesS_of hd _).mono ?_
    rintro e w58 ⟨rfl, b59⟩
    have k60 := Hid.mk' ((k43.out).below b59)
    have k61 := Hid.mk' ((k44.out).below b59)
    have k62 := Hid.mk' ((k45.out).below b59)
    have k63 := Hid.mk' ((k46.out).below b59)
    have z64 := Hid.mk' (bel_next z47.out b59)
    clear k43 k44 k45 k46 z47 b59
    obtain ⟨c65, c66, c67, c68⟩ := k60.out
    have l69 := M4.lt k60.out
    obtain ⟨c70, c71, c72, c73⟩ := k61.out
    have l74 := M4.lt k61.out
    go_wp2_with fail
    clear c65 c66 c67 c68 l69 c70 c71 c72 c73 l74
    cases oa
    · have ne := Ext.there w58
      obtain ⟨s75, s76, s77, s78⟩ := M4.ext k60.out
      obtain ⟨s79, s80, s81, s82⟩ := M4.ext k61.out
      refine wp_region_ext (by kernel_rfl) (by kernel_rfl) ?_
      repeat (go_big_quiet_step (first | (go_at_call 26; refine ext_grows (monDividesI_of (by with_reducible assumption) _)) | (go_at_call 17; refine ext_grows (monOkS_of (by with_reducible assumption) _)) | (go_at_call 18; refine ext_grows (heOkT _)) | fail))
      refine wpQuiet_nil ?_
      rintro _ ⟨u83, rfl⟩
      clear ne s75 s76 s77 s78 s79 s80 s81 s82
      have k84 := Hid.mk' ((k60.out).below u83.2)
      have k85 := Hid.mk' ((k61.out).below u83.2)
      have k86 := Hid.mk' ((k62.out).below u83.2)
      have k87 := Hid.mk' ((k63.out).below u83.2)
      have z88 := Hid.mk' (bel_next z64.out u83.2)
      clear k60 k61 k62 k63 z64
      generalize u83.1 = w89 at k84 k85 k86 k87 z88 ⊢
      go_wp2
      go_ret
      exact ⟨rfl, z88.out⟩
    · have ne := Ext.there w58
      obtain ⟨s75, s76, s77, s78⟩ := M4.ext k60.out
      obtain ⟨s79, s80, s81, s82⟩ := M4.ext k61.out
      refine wp_region_ext (by kernel_rfl) (by kernel_rfl) ?_
      repeat (go_big_quiet_step (first | (go_at_call 26; refine ext_grows (monDividesI_of (by with_reducible assumption) _)) | (go_at_call 17; refine ext_grows (monOkS_of (by with_reducible assumption) _)) | (go_at_call 18; refine ext_grows (heOkT _)) | fail))
      refine wpQuiet_nil ?_
      rintro _ ⟨u83, rfl⟩
      clear ne s75 s76 s77 s78 s79 s80 s81 s82
      have k84 := Hid.mk' ((k60.out).below u83.2)
      have k85 := Hid.mk' ((k61.out).below u83.2)
      have k86 := Hid.mk' ((k62.out).below u83.2)
      have k87 := Hid.mk' ((k63.out).below u83.2)
      have z88 := Hid.mk' (bel_next z64.out u83.2)
      clear k60 k61 k62 k63 z64
      generalize u83.1 = w89 at k84 k85 k86 k87 z88 ⊢
      go_wp2
      go_ret
      exact ⟨rfl, z88.out⟩
  · obtain ⟨ka, kb, hle⟩ := M.dvd_iff hd
    obtain rfl : oa = true := hoa.symm.trans ka
    obtain ⟨ea, da0, da1⟩ := M.deg_bd ka
    obtain ⟨eb, db0, db1⟩ := M.deg_bd kb
    obtain ⟨da, hda⟩ : ∃ n, M.deg ⟨x, y, d, z⟩ = n := ⟨_, rfl⟩
    obtain ⟨db, hdb⟩ : ∃ n, M.deg ⟨x', y', d', z'⟩ = n := ⟨_, rfl⟩
    have hdd : da ≤ db := by rw [← hda, ← hdb, ea, eb]; dsimp only at hle ⊢; omega
    clear ea da0 da1 eb db0 db1
    refine (monDividesI_of hd _).mono ?_
    rintro e w41 ⟨rfl, b42⟩
    have k43 := Hid.mk' ((k35.out).below b42)
    have k44 := Hid.mk' ((k36.out).below b42)
    have k45 := Hid.mk' ((k37.out).below b42)
    have k46 := Hid.mk' ((k38.out).below b42)
    have z47 := Hid.mk' (bel_next z39.out b42)
    clear k35 k36 k37 k38 z39 b42
    obtain ⟨c48, c49, c50, c51⟩ := k43.out
    have l52 := M4.lt k43.out
    obtain ⟨c53, c54, c55, c56⟩ := k44.out
    have l57 := M4.lt k44.out
    go_wp2_with fail
    clear c48 c49 c50 c51 l52 c53 c54 c55 c56 l57
    refine (monDividesS_of hd _).mono ?_
    rintro e w58 ⟨rfl, b59⟩
    have k60 := Hid.mk' ((k43.out).below b59)
    have k61 := Hid.mk' ((k44.out).below b59)
    have k62 := Hid.mk' ((k45.out).below b59)
    have k63 := Hid.mk' ((k46.out).below b59)
    have z64 := Hid.mk' (bel_next z47.out b59)
    clear k43 k44 k45 k46 z47 b59
    obtain ⟨c65, c66, c67, c68⟩ := k60.out
    have l69 := M4.lt k60.out
    obtain ⟨c70, c71, c72, c73⟩ := k61.out
    have l74 := M4.lt k61.out
    go_wp2_with fail
    clear c65 c66 c67 c68 l69 c70 c71 c72 c73 l74
    cases hba : M.dvd ⟨x', y', d', z'⟩ ⟨x, y, d, z⟩
    · clear hle
      refine (monDividesI_of hba _).mono ?_
      rintro e w75 ⟨rfl, b76⟩
      have k77 := Hid.mk' ((k60.out).below b76)
      have k78 := Hid.mk' ((k61.out).below b76)
      have k79 := Hid.mk' ((k62.out).below b76)
      have k80 := Hid.mk' ((k63.out).below b76)
      have z81 := Hid.mk' (bel_next z64.out b76)
      clear k60 k61 k62 k63 z64 b76
      obtain ⟨c82, c83, c84, c85⟩ := k77.out
      have l86 := M4.lt k77.out
      obtain ⟨c87, c88, c89, c90⟩ := k78.out
      have l91 := M4.lt k78.out
      obtain ⟨c92, c93, c94, c95⟩ := k80.out
      have l96 := M4.lt k80.out
      go_wp2_with fail
      clear c82 c83 c84 c85 l86 c87 c88 c89 c90 l91 c92 c93 c94 c95 l96
      cases hbc : M.dvd ⟨x', y', d', z'⟩ ⟨cx, cy, cd, cz⟩
      · refine (monDividesI_of hbc _).mono ?_
        rintro e w97 ⟨rfl, b98⟩
        have k99 := Hid.mk' ((k77.out).below b98)
        have k100 := Hid.mk' ((k78.out).below b98)
        have k101 := Hid.mk' ((k79.out).below b98)
        have k102 := Hid.mk' ((k80.out).below b98)
        have z103 := Hid.mk' (bel_next z81.out b98)
        clear k77 k78 k79 k80 z81 b98
        obtain ⟨c104, c105, c106, c107⟩ := k99.out
        have l108 := M4.lt k99.out
        obtain ⟨c109, c110, c111, c112⟩ := k100.out
        have l113 := M4.lt k100.out
        go_wp2_with fail
        clear c104 c105 c106 c107 l108 c109 c110 c111 c112 l113
        have ne := Ext.there w97
        obtain ⟨s114, s115, s116, s117⟩ := M4.ext k99.out
        obtain ⟨s118, s119, s120, s121⟩ := M4.ext k100.out
        refine wp_region_ext (by kernel_rfl) (by kernel_rfl) ?_
        repeat (go_big_quiet_step (first | (go_at_call 26; refine ext_grows (monDividesI_of (by with_reducible assumption) _)) | (go_at_call 17; refine ext_grows (monOkS_of (by with_reducible assumption) _)) | (go_at_call 22; refine ext_grows (monDegI_of (by with_reducible assumption) _)) | (go_at_call 18; refine ext_grows (heOkT _)) | fail))
        refine wpQuiet_nil ?_
        rintro _ ⟨u122, rfl⟩
        clear ne s114 s115 s116 s117 s118 s119 s120 s121
        have k123 := Hid.mk' ((k99.out).below u122.2)
        have k124 := Hid.mk' ((k100.out).below u122.2)
        have k125 := Hid.mk' ((k101.out).below u122.2)
        have k126 := Hid.mk' ((k102.out).below u122.2)
        have z127 := Hid.mk' (bel_next z103.out u122.2)
        clear k99 k100 k101 k102 z103
        generalize u122.1 = w128 at k123 k124 k125 k126 z127 ⊢
        go_wp2
        go_ret
        exact ⟨rfl, z127.out⟩
      · have hac : M.dvd ⟨x, y, d, z⟩ ⟨cx, cy, cd, cz⟩ = true := M.dvd_mk ka (M.dvd_iff hbc).2.1 (by have h1 := (M.dvd_iff hd).2.2; have h2 := (M.dvd_iff hbc).2.2; dsimp only at h1 h2 ⊢; omega)
        refine (monDividesI_of hbc _).mono ?_
        rintro e w97 ⟨rfl, b98⟩
        have k99 := Hid.mk' ((k77.out).below b98)
        have k100 := Hid.mk' ((k78.out).below b98)
        have k101 := Hid.mk' ((k79.out).below b98)
        have k102 := Hid.mk' ((k80.out).below b98)
        have z103 := Hid.mk' (bel_next z81.out b98)
        clear k77 k78 k79 k80 z81 b98
        obtain ⟨c104, c105, c106, c107⟩ := k99.out
        have l108 := M4.lt k99.out
        obtain ⟨c109, c110, c111, c112⟩ := k102.out
        have l113 := M4.lt k102.out
        go_wp2_with fail
        clear c104 c105 c106 c107 l108 c109 c110 c111 c112 l113
        refine (monDividesI_of hac _).mono ?_
        rintro e w114 ⟨rfl, b115⟩
        have k116 := Hid.mk' ((k99.out).below b115)
        have k117 := Hid.mk' ((k100.out).below b115)
        have k118 := Hid.mk' ((k101.out).below b115)
        have k119 := Hid.mk' ((k102.out).below b115)
        have z120 := Hid.mk' (bel_next z103.out b115)
        clear k99 k100 k101 k102 z103 b115
        obtain ⟨c121, c122, c123, c124⟩ := k116.out
        have l125 := M4.lt k116.out
        obtain ⟨c126, c127, c128, c129⟩ := k117.out
        have l130 := M4.lt k117.out
        go_wp2_with fail
        clear c121 c122 c123 c124 l125 c126 c127 c128 c129 l130
        have ne := Ext.there w114
        obtain ⟨s131, s132, s133, s134⟩ := M4.ext k116.out
        obtain ⟨s135, s136, s137, s138⟩ := M4.ext k117.out
        refine wp_region_ext (by kernel_rfl) (by kernel_rfl) ?_
        repeat (go_big_quiet_step (first | (go_at_call 26; refine ext_grows (monDividesI_of (by with_reducible assumption) _)) | (go_at_call 17; refine ext_grows (monOkS_of (by with_reducible assumption) _)) | (go_at_call 22; refine ext_grows (monDegI_of (by with_reducible assumption) _)) | (go_at_call 18; refine ext_grows (heOkT _)) | fail))
        refine wpQuiet_nil ?_
        rintro _ ⟨u139, rfl⟩
        clear ne s131 s132 s133 s134 s135 s136 s137 s138
        have k140 := Hid.mk' ((k116.out).below u139.2)
        have k141 := Hid.mk' ((k117.out).below u139.2)
        have k142 := Hid.mk' ((k118.out).below u139.2)
        have k143 := Hid.mk' ((k119.out).below u139.2)
        have z144 := Hid.mk' (bel_next z120.out u139.2)
        clear k116 k117 k118 k119 z120
        generalize u139.1 = w145 at k140 k141 k142 k143 z144 ⊢
        go_wp2
        go_ret
        exact ⟨rfl, z144.out⟩
    · have hle2 := (M.dvd_iff hba).2.2
      obtain ⟨rfl, rfl, rfl, rfl⟩ : x = x' ∧ y = y' ∧ d = d' ∧ z = z' := by dsimp only at hle hle2; omega
      clear hle2 hle
      refine (monDividesI_of hba _).mono ?_
      rintro e w75 ⟨rfl, b76⟩
      have k77 := Hid.mk' ((k60.out).below b76)
      have k78 := Hid.mk' ((k61.out).below b76)
      have k79 := Hid.mk' ((k62.out).below b76)
      have k80 := Hid.mk' ((k63.out).below b76)
      have z81 := Hid.mk' (bel_next z64.out b76)
      clear k60 k61 k62 k63 z64 b76
      obtain ⟨c82, c83, c84, c85⟩ := k77.out
      have l86 := M4.lt k77.out
      obtain ⟨c87, c88, c89, c90⟩ := k78.out
      have l91 := M4.lt k78.out
      obtain ⟨c92, c93, c94, c95⟩ := k80.out
      have l96 := M4.lt k80.out
      go_wp2_with fail
      clear c82 c83 c84 c85 l86 c87 c88 c89 c90 l91 c92 c93 c94 c95 l96
      cases hbc : M.dvd ⟨x, y, d, z⟩ ⟨cx, cy, cd, cz⟩
      · refine (monDividesI_of hbc _).mono ?_
        rintro e w97 ⟨rfl, b98⟩
        have k99 := Hid.mk' ((k77.out).below b98)
        have k100 := Hid.mk' ((k78.out).below b98)
        have k101 := Hid.mk' ((k79.out).below b98)
        have k102 := Hid.mk' ((k80.out).below b98)
        have z103 := Hid.mk' (bel_next z81.out b98)
        clear k77 k78 k79 k80 z81 b98
        obtain ⟨c104, c105, c106, c107⟩ := k99.out
        have l108 := M4.lt k99.out
        obtain ⟨c109, c110, c111, c112⟩ := k100.out
        have l113 := M4.lt k100.out
        go_wp2_with fail
        clear c104 c105 c106 c107 l108 c109 c110 c111 c112 l113
        have ne := Ext.there w97
        obtain ⟨s114, s115, s116, s117⟩ := M4.ext k99.out
        obtain ⟨s118, s119, s120, s121⟩ := M4.ext k100.out
        refine wp_region_ext (by kernel_rfl) (by kernel_rfl) ?_
        repeat (go_big_quiet_step (first | (go_at_call 26; refine ext_grows (monDividesI_of (by with_reducible assumption) _)) | (go_at_call 17; refine ext_grows (monOkS_of (by with_reducible assumption) _)) | (go_at_call 22; refine ext_grows (monDegI_of (by with_reducible assumption) _)) | (go_at_call 18; refine ext_grows (heOkT _)) | fail))
        refine wpQuiet_nil ?_
        rintro _ ⟨u122, rfl⟩
        clear ne s114 s115 s116 s117 s118 s119 s120 s121
        have k123 := Hid.mk' ((k99.out).below u122.2)
        have k124 := Hid.mk' ((k100.out).below u122.2)
        have k125 := Hid.mk' ((k101.out).below u122.2)
        have k126 := Hid.mk' ((k102.out).below u122.2)
        have z127 := Hid.mk' (bel_next z103.out u122.2)
        clear k99 k100 k101 k102 z103
        generalize u122.1 = w128 at k123 k124 k125 k126 z127 ⊢
        go_wp2
        go_ret
        exact ⟨rfl, z127.out⟩
      · have hac : M.dvd ⟨x, y, d, z⟩ ⟨cx, cy, cd, cz⟩ = true := M.dvd_mk ka (M.dvd_iff hbc).2.1 (by have h1 := (M.dvd_iff hd).2.2; have h2 := (M.dvd_iff hbc).2.2; dsimp only at h1 h2 ⊢; omega)
        refine (monDividesI_of hbc _).mono ?_
        rintro e w97 ⟨rfl, b98⟩
        have k99 := Hid.mk' ((k77.out).below b98)
        have k100 := Hid.mk' ((k78.out).below b98)
        have k101 := Hid.mk' ((k79.out).below b98)
        have k102 := Hid.mk' ((k80.out).below b98)
        have z103 := Hid.mk' (bel_next z81.out b98)
        clear k77 k78 k79 k80 z81 b98
        obtain ⟨c104, c105, c106, c107⟩ := k99.out
        have l108 := M4.lt k99.out
        obtain ⟨c109, c110, c111, c112⟩ := k102.out
        have l113 := M4.lt k102.out
        go_wp2_with fail
        clear c104 c105 c106 c107 l108 c109 c110 c111 c112 l113
        refine (monDividesI_of hac _).mono ?_
        rintro e w114 ⟨rfl, b115⟩
        have k116 := Hid.mk' ((k99.out).below b115)
        have k117 := Hid.mk' ((k100.out).below b115)
        have k118 := Hid.mk' ((k101.out).below b115)
        have k119 := Hid.mk' ((k102.out).below b115)
        have z120 := Hid.mk' (bel_next z103.out b115)
        clear k99 k100 k101 k102 z103 b115
        obtain ⟨c121, c122, c123, c124⟩ := k116.out
        have l125 := M4.lt k116.out
        obtain ⟨c126, c127, c128, c129⟩ := k117.out
        have l130 := M4.lt k117.out
        go_wp2_with fail
        clear c121 c122 c123 c124 l125 c126 c127 c128 c129 l130
        have ne := Ext.there w114
        obtain ⟨s131, s132, s133, s134⟩ := M4.ext k116.out
        obtain ⟨s135, s136, s137, s138⟩ := M4.ext k117.out
        refine wp_region_ext (by kernel_rfl) (by kernel_rfl) ?_
        repeat (go_big_quiet_step (first | (go_at_call 26; refine ext_grows (monDividesI_of (by with_reducible assumption) _)) | (go_at_call 17; refine ext_grows (monOkS_of (by with_reducible assumption) _)) | (go_at_call 22; refine ext_grows (monDegI_of (by with_reducible assumption) _)) | (go_at_call 18; refine ext_grows (heOkT _)) | fail))
        refine wpQuiet_nil ?_
        rintro _ ⟨u139, rfl⟩
        clear ne s131 s132 s133 s134 s135 s136 s137 s138
        have k140 := Hid.mk' ((k116.out).below u139.2)
        have k141 := Hid.mk' ((k117.out).below u139.2)
        have k142 := Hid.mk' ((k118.out).below u139.2)
        have k143 := Hid.mk' ((k119.out).below u139.2)
        have z144 := Hid.mk' (bel_next z120.out u139.2)
        clear k116 k117 k118 k119 z120
        generalize u139.1 = w145 at k140 k141 k142 k143 z144 ⊢
        go_wp2
        go_ret
        exact ⟨rfl, z144.out⟩
end Go.Proofs.Ytfnlogmfkpaaiab
