/-
  The walk of a law over monomials: whatever the codes, it comes out true, and nothing that was there is turned.
-/
import Derived.Test.YtfnlogmfkpaaiabLawM
namespace Go.Proofs.Ytfnlogmfkpaaiab
open Go.RowKit
set_option linter.unusedVariables false
set_option maxRecDepth 100000 in
set_option maxHeartbeats 40000000 in
theorem walk_FnMonMul (w : World) (a0 : Option Addr) (len0 cap0 : Nat) (s0 : Src w a0 len0 cap0) :
    Calls Try.prog 6 #[.slice a0 len0 cap0] w fun e w' => e = .returned (.bool true) ∧ Below w.heap.size w w' := by
  by_cases c0 : (1048576 : Int) < (len0 : Int)
  · go_enter Try.func6, Try.ntmps6
    go_wp2
    go_ret
    exact ⟨rfl, Below.refl _ _⟩
  go_enter Try.func6, Try.ntmps6
  go_wp2_with fail
  refine (drawMonMul _ _ _ _ s0).mono ?_
  rintro e w1 ⟨x, y, d, z, x', y', d', z', rfl, b2⟩
  have z3 := Hid.mk' b2
  clear b2
  go_wp2_with fail
  have k5 := Hid.mk' (M4.box w1 29 (x) (y) (d) (z))
  have z6 := Hid.mk' (Below.alloc z3.out z3.out.size (.cells #[.int .i64 x, .int .i64 y, .int .i64 d, .int .i64 z] 29))
  have hs7 : Hid ((w1.alloc (.cells #[.int .i64 x, .int .i64 y, .int .i64 d, .int .i64 z] 29)).heap.size = w1.heap.size + 1) := by simp [Hid]
  clear z3
  generalize (w1.alloc (.cells #[.int .i64 x, .int .i64 y, .int .i64 d, .int .i64 z] 29)) = w4 at k5 z6 hs7 ⊢
  have k9 := Hid.mk' (M4.alloc (k5.out) (.cells #[.int .i64 x', .int .i64 y', .int .i64 d', .int .i64 z'] 29))
  have k10 : Hid (M4 (w4.alloc (.cells #[.int .i64 x', .int .i64 y', .int .i64 d', .int .i64 z'] 29)) (w1.heap.size + 1) (x') (y') (d') (z')) := by have hh := M4.box w4 29 (x') (y') (d') (z'); rw [hs7] at hh; exact hh
  have z11 := Hid.mk' (Below.alloc z6.out z6.out.size (.cells #[.int .i64 x', .int .i64 y', .int .i64 d', .int .i64 z'] 29))
  have hs12 : Hid ((w4.alloc (.cells #[.int .i64 x', .int .i64 y', .int .i64 d', .int .i64 z'] 29)).heap.size = w4.heap.size + 1) := by simp [Hid]
  clear k5 z6
  generalize (w4.alloc (.cells #[.int .i64 x', .int .i64 y', .int .i64 d', .int .i64 z'] 29)) = w8 at k9 k10 z11 hs12 ⊢
  rcases M.mul_cases ⟨x, y, d, z⟩ ⟨x', y', d', z'⟩ with ⟨h1, h2⟩ | ⟨ha, hb, hs, h1, h2⟩
  · obtain ⟨da, hda⟩ : ∃ n, M.deg ⟨x, y, d, z⟩ = n := ⟨_, rfl⟩
    obtain ⟨oa, hoa⟩ : ∃ n, M.ok ⟨x, y, d, z⟩ = n := ⟨_, rfl⟩
    refine (monMulI_of h1 _).mono ?_
    rintro e w13 ⟨rfl, b14⟩
    have k15 := Hid.mk' ((k9.out).below b14)
    have k16 := Hid.mk' ((k10.out).below b14)
    have z17 := Hid.mk' (bel_next z11.out b14)
    clear k9 k10 z11 b14
    obtain ⟨c18, c19, c20, c21⟩ := k15.out
    have l22 := M4.lt k15.out
    obtain ⟨c23, c24, c25, c26⟩ := k16.out
    have l27 := M4.lt k16.out
    go_wp2_with fail
    clear c18 c19 c20 c21 l22 c23 c24 c25 c26 l27
    have k29 := Hid.mk' (M4.alloc (k15.out) (.cells #[.int .i64 0, .int .i64 0, .int .i64 0, .int .i64 0] 29))
    have k30 := Hid.mk' (M4.alloc (k16.out) (.cells #[.int .i64 0, .int .i64 0, .int .i64 0, .int .i64 0] 29))
    have k31 := Hid.mk' (M4.box w13 29 (0) (0) (0) (0))
    have z32 := Hid.mk' (Below.alloc z17.out z17.out.size (.cells #[.int .i64 0, .int .i64 0, .int .i64 0, .int .i64 0] 29))
    have hs33 : Hid ((w13.alloc (.cells #[.int .i64 0, .int .i64 0, .int .i64 0, .int .i64 0] 29)).heap.size = w13.heap.size + 1) := by simp [Hid]
    clear k15 k16 z17
    generalize (w13.alloc (.cells #[.int .i64 0, .int .i64 0, .int .i64 0, .int .i64 0] 29)) = w28 at k29 k30 k31 z32 hs33 ⊢
    refine (monMulS_of h1 _).mono ?_
    rintro e w34 ⟨rfl, b35⟩
    have k36 := Hid.mk' ((k29.out).below b35)
    have k37 := Hid.mk' ((k30.out).below b35)
    have k38 := Hid.mk' ((k31.out).below b35)
    have z39 := Hid.mk' (bel_next z32.out b35)
    clear k29 k30 k31 z32 b35
    obtain ⟨c40, c41, c42, c43⟩ := k36.out
    have l44 := M4.lt k36.out
    obtain ⟨c45, c46, c47, c48⟩ := k37.out
    have l49 := M4.lt k37.out
    obtain ⟨c50, c51, c52, c53⟩ := k38.out
    have l54 := M4.lt k38.out
    go_wp2_with fail
    clear c40 c41 c42 c43 l44 c45 c46 c47 c48 l49 c50 c51 c52 c53 l54
    have k56 := Hid.mk' (M4.alloc (k36.out) (.cells #[.int .i64 0, .int .i64 0, .int .i64 0, .int .i64 0] 29))
    have k57 := Hid.mk' (M4.alloc (k37.out) (.cells #[.int .i64 0, .int .i64 0, .int .i64 0, .int .i64 0] 29))
    have k58 := Hid.mk' (M4.alloc (k38.out) (.cells #[.int .i64 0, .int .i64 0, .int .i64 0, .int .i64 0] 29))
    have k59 := Hid.mk' (M4.box w34 29 (0) (0) (0) (0))
    have z60 := Hid.mk' (Below.alloc z39.out z39.out.size (.cells #[.int .i64 0, .int .i64 0, .int .i64 0, .int .i64 0] 29))
    have hs61 : Hid ((w34.alloc (.cells #[.int .i64 0, .int .i64 0, .int .i64 0, .int .i64 0] 29)).heap.size = w34.heap.size + 1) := by simp [Hid]
    clear k36 k37 k38 z39
    generalize (w34.alloc (.cells #[.int .i64 0, .int .i64 0, .int .i64 0, .int .i64 0] 29)) = w55 at k56 k57 k58 k59 z60 hs61 ⊢
    have ne := Ext.there w55
    obtain ⟨s62, s63, s64, s65⟩ := M4.ext k56.out
    obtain ⟨s66, s67, s68, s69⟩ := M4.ext k58.out
    obtain ⟨s70, s71, s72, s73⟩ := M4.ext k59.out
    refine wp_region_ext (by kernel_rfl) (by kernel_rfl) ?_
    repeat (go_big_quiet_step (first | (go_at_call 22; refine ext_grows (monDegI_of (by with_reducible assumption) _)) | (go_at_call 23; refine ext_grows (monDegS_of (by with_reducible assumption) _)) | (go_at_call 24; refine ext_grows (monOkI_of (by with_reducible assumption) _)) | (go_at_call 17; refine ext_grows (monOkS_of (by with_reducible assumption) _)) | fail))
    refine wpQuiet_nil ?_
    rintro _ ⟨u74, rfl⟩
    clear ne s62 s63 s64 s65 s66 s67 s68 s69 s70 s71 s72 s73
    have k75 := Hid.mk' ((k56.out).below u74.2)
    have k76 := Hid.mk' ((k57.out).below u74.2)
    have k77 := Hid.mk' ((k58.out).below u74.2)
    have k78 := Hid.mk' ((k59.out).below u74.2)
    have z79 := Hid.mk' (bel_next z60.out u74.2)
    clear k56 k57 k58 k59 z60
    generalize u74.1 = w80 at k75 k76 k77 k78 z79 ⊢
    obtain ⟨c81, c82, c83, c84⟩ := k75.out
    have l85 := M4.lt k75.out
    obtain ⟨c86, c87, c88, c89⟩ := k76.out
    have l90 := M4.lt k76.out
    go_wp2_with fail
    clear c81 c82 c83 c84 l85 c86 c87 c88 c89 l90
    refine (monMulI_of h2 _).mono ?_
    rintro e w91 ⟨rfl, b92⟩
    have k93 := Hid.mk' ((k75.out).below b92)
    have k94 := Hid.mk' ((k76.out).below b92)
    have k95 := Hid.mk' ((k77.out).below b92)
    have k96 := Hid.mk' ((k78.out).below b92)
    have z97 := Hid.mk' (bel_next z79.out b92)
    clear k75 k76 k77 k78 z79 b92
    obtain ⟨c98, c99, c100, c101⟩ := k95.out
    have l102 := M4.lt k95.out
    go_wp2_with fail
    clear c98 c99 c100 c101 l102
    have k104 := Hid.mk' (M4.alloc (k93.out) (.cells #[.int .i64 0, .int .i64 0, .int .i64 0, .int .i64 0] 29))
    have k105 := Hid.mk' (M4.alloc (k94.out) (.cells #[.int .i64 0, .int .i64 0, .int .i64 0, .int .i64 0] 29))
    have k106 := Hid.mk' (M4.alloc (k95.out) (.cells #[.int .i64 0, .int .i64 0, .int .i64 0, .int .i64 0] 29))
    have k107 := Hid.mk' (M4.alloc (k96.out) (.cells #[.int .i64 0, .int .i64 0, .int .i64 0, .int .i64 0] 29))
    have k108 := Hid.mk' (M4.box w91 29 (0) (0) (0) (0))
    have z109 := Hid.mk' (Below.alloc z97.out z97.out.size (.cells #[.int .i64 0, .int .i64 0, .int .i64 0, .int .i64 0] 29))
    have hs110 : Hid ((w91.alloc (.cells #[.int .i64 0, .int .i64 0, .int .i64 0, .int .i64 0] 29)).heap.size = w91.heap.size + 1) := by simp [Hid]
    clear k93 k94 k95 k96 z97
    generalize (w91.alloc (.cells #[.int .i64 0, .int .i64 0, .int .i64 0, .int .i64 0] 29)) = w103 at k104 k105 k106 k107 k108 z109 hs110 ⊢
    refine (heOkT _).mono ?_
    rintro e w111 ⟨rfl, b112⟩
    have k113 := Hid.mk' ((k104.out).below b112)
    have k114 := Hid.mk' ((k105.out).below b112)
    have k115 := Hid.mk' ((k106.out).below b112)
    have k116 := Hid.mk' ((k107.out).below b112)
    have k117 := Hid.mk' ((k108.out).below b112)
    have z118 := Hid.mk' (bel_next z109.out b112)
    clear k104 k105 k106 k107 k108 z109 b112
    go_wp2
    go_ret
    exact ⟨rfl, z118.out⟩
  · dsimp only [M.sum] at h1 h2 hs
    obtain ⟨da, hda⟩ : ∃ n, M.deg ⟨x, y, d, z⟩ = n := ⟨_, rfl⟩
    obtain ⟨db, hdb⟩ : ∃ n, M.deg ⟨x', y', d', z'⟩ = n := ⟨_, rfl⟩
    obtain ⟨ea, da0, da1⟩ := M.deg_bd ha
    obtain ⟨eb, db0, db1⟩ := M.deg_bd hb
    rw [hda] at ea da0 da1
    rw [hdb] at eb db0 db1
    have hds : M.deg ⟨x + x', y + y', d + d', z + z'⟩ = da + db := by rw [(M.deg_bd hs).1]; dsimp only at ea eb ⊢; omega
    have kb := M.ok_iff.1 hb
    have ka := M.ok_iff.1 ha
    have hdv : M.dvd ⟨x', y', d', z'⟩ ⟨x + x', y + y', d + d', z + z'⟩ = true := M.dvd_mk hb hs (by dsimp only at ka ⊢; omega)
    have hda2 : M.dvd ⟨x, y, d, z⟩ ⟨x + x', y + y', d + d', z + z'⟩ = true := M.dvd_mk ha hs (by dsimp only at kb ⊢; omega)
    have h3 : M.over ⟨x + x', y + y', d + d', z + z'⟩ ⟨x, y, d, z⟩ = (⟨x', y', d', z'⟩, true) := by rw [M.over, if_pos hda2, M.diff]; dsimp only; simp only [Prod.mk.injEq, and_true, M.mk.injEq]; omega
    clear ka kb hda2 ea eb
    refine (monMulI_of h1 _).mono ?_
    rintro e w13 ⟨rfl, b14⟩
    have k15 := Hid.mk' ((k9.out).below b14)
    have k16 := Hid.mk' ((k10.out).below b14)
    have z17 := Hid.mk' (bel_next z11.out b14)
    clear k9 k10 z11 b14
    obtain ⟨c18, c19, c20, c21⟩ := k15.out
    have l22 := M4.lt k15.out
    obtain ⟨c23, c24, c25, c26⟩ := k16.out
    have l27 := M4.lt k16.out
    go_wp2_with fail
    clear c18 c19 c20 c21 l22 c23 c24 c25 c26 l27
    have k29 := Hid.mk' (M4.alloc (k15.out) (.cells #[.int .i64 (x + x'), .int .i64 (y + y'), .int .i64 (d + d'), .int .i64 (z + z')] 29))
    have k30 := Hid.mk' (M4.alloc (k16.out) (.cells #[.int .i64 (x + x'), .int .i64 (y + y'), .int .i64 (d + d'), .int .i64 (z + z')] 29))
    have k31 := Hid.mk' (M4.box w13 29 (x + x') (y + y') (d + d') (z + z'))
    have z32 := Hid.mk' (Below.alloc z17.out z17.out.size (.cells #[.int .i64 (x + x'), .int .i64 (y + y'), .int .i64 (d + d'), .int .i64 (z + z')] 29))
    have hs33 : Hid ((w13.alloc (.cells #[.int .i64 (x + x'), .int .i64 (y + y'), .int .i64 (d + d'), .int .i64 (z + z')] 29)).heap.size = w13.heap.size + 1) := by simp [Hid]
    clear k15 k16 z17
    generalize (w13.alloc (.cells #[.int .i64 (x + x'), .int .i64 (y + y'), .int .i64 (d + d'), .int .i64 (z + z')] 29)) = w28 at k29 k30 k31 z32 hs33 ⊢
    refine (monMulS_of h1 _).mono ?_
    rintro e w34 ⟨rfl, b35⟩
    have k36 := Hid.mk' ((k29.out).below b35)
    have k37 := Hid.mk' ((k30.out).below b35)
    have k38 := Hid.mk' ((k31.out).below b35)
    have z39 := Hid.mk' (bel_next z32.out b35)
    clear k29 k30 k31 z32 b35
    obtain ⟨c40, c41, c42, c43⟩ := k36.out
    have l44 := M4.lt k36.out
    obtain ⟨c45, c46, c47, c48⟩ := k37.out
    have l49 := M4.lt k37.out
    obtain ⟨c50, c51, c52, c53⟩ := k38.out
    have l54 := M4.lt k38.out
    go_wp2_with fail
    clear c40 c41 c42 c43 l44 c45 c46 c47 c48 l49 c50 c51 c52 c53 l54
    have k56 := Hid.mk' (M4.alloc (k36.out) (.cells #[.int .i64 (x + x'), .int .i64 (y + y'), .int .i64 (d + d'), .int .i64 (z + z')] 29))
    have k57 := Hid.mk' (M4.alloc (k37.out) (.cells #[.int .i64 (x + x'), .int .i64 (y + y'), .int .i64 (d + d'), .int .i64 (z + z')] 29))
    have k58 := Hid.mk' (M4.alloc (k38.out) (.cells #[.int .i64 (x + x'), .int .i64 (y + y'), .int .i64 (d + d'), .int .i64 (z + z')] 29))
    have k59 := Hid.mk' (M4.box w34 29 (x + x') (y + y') (d + d') (z + z'))
    have z60 := Hid.mk' (Below.alloc z39.out z39.out.size (.cells #[.int .i64 (x + x'), .int .i64 (y + y'), .int .i64 (d + d'), .int .i64 (z + z')] 29))
    have hs61 : Hid ((w34.alloc (.cells #[.int .i64 (x + x'), .int .i64 (y + y'), .int .i64 (d + d'), .int .i64 (z + z')] 29)).heap.size = w34.heap.size + 1) := by simp [Hid]
    clear k36 k37 k38 z39
    generalize (w34.alloc (.cells #[.int .i64 (x + x'), .int .i64 (y + y'), .int .i64 (d + d'), .int .i64 (z + z')] 29)) = w55 at k56 k57 k58 k59 z60 hs61 ⊢
    have ne := Ext.there w55
    obtain ⟨s62, s63, s64, s65⟩ := M4.ext k56.out
    obtain ⟨s66, s67, s68, s69⟩ := M4.ext k58.out
    obtain ⟨s70, s71, s72, s73⟩ := M4.ext k59.out
    refine wp_region_ext (by kernel_rfl) (by kernel_rfl) ?_
    repeat (go_big_quiet_step (first | (go_at_call 22; refine ext_grows (monDegI_of (by with_reducible assumption) _)) | (go_at_call 23; refine ext_grows (monDegS_of (by with_reducible assumption) _)) | (go_at_call 24; refine ext_grows (monOkI_of (by with_reducible assumption) _)) | (go_at_call 17; refine ext_grows (monOkS_of (by with_reducible assumption) _)) | fail))
    refine wpQuiet_nil ?_
    rintro _ ⟨u74, rfl⟩
    clear ne s62 s63 s64 s65 s66 s67 s68 s69 s70 s71 s72 s73
    have k75 := Hid.mk' ((k56.out).below u74.2)
    have k76 := Hid.mk' ((k57.out).below u74.2)
    have k77 := Hid.mk' ((k58.out).below u74.2)
    have k78 := Hid.mk' ((k59.out).below u74.2)
    have z79 := Hid.mk' (bel_next z60.out u74.2)
    clear k56 k57 k58 k59 z60
    generalize u74.1 = w80 at k75 k76 k77 k78 z79 ⊢
    obtain ⟨c81, c82, c83, c84⟩ := k75.out
    have l85 := M4.lt k75.out
    obtain ⟨c86, c87, c88, c89⟩ := k76.out
    have l90 := M4.lt k76.out
    go_wp2_with fail
    clear c81 c82 c83 c84 l85 c86 c87 c88 c89 l90
    refine (monMulI_of h2 _).mono ?_
    rintro e w91 ⟨rfl, b92⟩
    have k93 := Hid.mk' ((k75.out).below b92)
    have k94 := Hid.mk' ((k76.out).below b92)
    have k95 := Hid.mk' ((k77.out).below b92)
    have k96 := Hid.mk' ((k78.out).below b92)
    have z97 := Hid.mk' (bel_next z79.out b92)
    clear k75 k76 k77 k78 z79 b92
    obtain ⟨c98, c99, c100, c101⟩ := k95.out
    have l102 := M4.lt k95.out
    obtain ⟨c103, c104, c105, c106⟩ := k93.out
    have l107 := M4.lt k93.out
    go_wp2_with fail
    clear c98 c99 c100 c101 l102 c103 c104 c105 c106 l107
    have k109 := Hid.mk' (M4.alloc (k93.out) (.cells #[.int .i64 (x + x'), .int .i64 (y + y'), .int .i64 (d + d'), .int .i64 (z + z')] 29))
    have k110 := Hid.mk' (M4.alloc (k94.out) (.cells #[.int .i64 (x + x'), .int .i64 (y + y'), .int .i64 (d + d'), .int .i64 (z + z')] 29))
    have k111 := Hid.mk' (M4.alloc (k95.out) (.cells #[.int .i64 (x + x'), .int .i64 (y + y'), .int .i64 (d + d'), .int .i64 (z + z')] 29))
    have k112 := Hid.mk' (M4.alloc (k96.out) (.cells #[.int .i64 (x + x'), .int .i64 (y + y'), .int .i64 (d + d'), .int .i64 (z + z')] 29))
    have k113 := Hid.mk' (M4.box w91 29 (x + x') (y + y') (d + d') (z + z'))
    have z114 := Hid.mk' (Below.alloc z97.out z97.out.size (.cells #[.int .i64 (x + x'), .int .i64 (y + y'), .int .i64 (d + d'), .int .i64 (z + z')] 29))
    have hs115 : Hid ((w91.alloc (.cells #[.int .i64 (x + x'), .int .i64 (y + y'), .int .i64 (d + d'), .int .i64 (z + z')] 29)).heap.size = w91.heap.size + 1) := by simp [Hid]
    clear k93 k94 k95 k96 z97
    generalize (w91.alloc (.cells #[.int .i64 (x + x'), .int .i64 (y + y'), .int .i64 (d + d'), .int .i64 (z + z')] 29)) = w108 at k109 k110 k111 k112 k113 z114 hs115 ⊢
    refine (monOverI_of h3 _).mono ?_
    rintro e w116 ⟨rfl, b117⟩
    have k118 := Hid.mk' ((k109.out).below b117)
    have k119 := Hid.mk' ((k110.out).below b117)
    have k120 := Hid.mk' ((k111.out).below b117)
    have k121 := Hid.mk' ((k112.out).below b117)
    have k122 := Hid.mk' ((k113.out).below b117)
    have z123 := Hid.mk' (bel_next z114.out b117)
    clear k109 k110 k111 k112 k113 z114 b117
    obtain ⟨c124, c125, c126, c127⟩ := k118.out
    have l128 := M4.lt k118.out
    obtain ⟨c129, c130, c131, c132⟩ := k120.out
    have l133 := M4.lt k120.out
    obtain ⟨c134, c135, c136, c137⟩ := k122.out
    have l138 := M4.lt k122.out
    obtain ⟨c139, c140, c141, c142⟩ := k119.out
    have l143 := M4.lt k119.out
    go_wp2_with fail
    clear c124 c125 c126 c127 l128 c129 c130 c131 c132 l133 c134 c135 c136 c137 l138 c139 c140 c141 c142 l143
    have k145 := Hid.mk' (M4.alloc (k118.out) (.cells #[.int .i64 x', .int .i64 y', .int .i64 d', .int .i64 z'] 29))
    have k146 := Hid.mk' (M4.alloc (k119.out) (.cells #[.int .i64 x', .int .i64 y', .int .i64 d', .int .i64 z'] 29))
    have k147 := Hid.mk' (M4.alloc (k120.out) (.cells #[.int .i64 x', .int .i64 y', .int .i64 d', .int .i64 z'] 29))
    have k148 := Hid.mk' (M4.alloc (k121.out) (.cells #[.int .i64 x', .int .i64 y', .int .i64 d', .int .i64 z'] 29))
    have k149 := Hid.mk' (M4.alloc (k122.out) (.cells #[.int .i64 x', .int .i64 y', .int .i64 d', .int .i64 z'] 29))
    have k150 := Hid.mk' (M4.box w116 29 (x') (y') (d') (z'))
    have z151 := Hid.mk' (Below.alloc z123.out z123.out.size (.cells #[.int .i64 x', .int .i64 y', .int .i64 d', .int .i64 z'] 29))
    have hs152 : Hid ((w116.alloc (.cells #[.int .i64 x', .int .i64 y', .int .i64 d', .int .i64 z'] 29)).heap.size = w116.heap.size + 1) := by simp [Hid]
    clear k118 k119 k120 k121 k122 z123
    generalize (w116.alloc (.cells #[.int .i64 x', .int .i64 y', .int .i64 d', .int .i64 z'] 29)) = w144 at k145 k146 k147 k148 k149 k150 z151 hs152 ⊢
    have ne := Ext.there w144
    obtain ⟨s153, s154, s155, s156⟩ := M4.ext k149.out
    obtain ⟨s157, s158, s159, s160⟩ := M4.ext k147.out
    obtain ⟨s161, s162, s163, s164⟩ := M4.ext k150.out
    obtain ⟨s165, s166, s167, s168⟩ := M4.ext k146.out
    obtain ⟨s169, s170, s171, s172⟩ := M4.ext k145.out
    refine wp_region_ext (by kernel_rfl) (by kernel_rfl) ?_
    repeat (go_big_quiet_step (first | (go_at_call 26; refine ext_grows (monDividesI_of (by with_reducible assumption) _)) | (go_at_call 22; refine ext_grows (monDegI_of (by with_reducible assumption) _)) | (go_at_call 24; refine ext_grows (monOkI_of (by with_reducible assumption) _)) | fail))
    refine wpQuiet_nil ?_
    rintro _ ⟨u173, rfl⟩
    clear ne s153 s154 s155 s156 s157 s158 s159 s160 s161 s162 s163 s164 s165 s166 s167 s168 s169 s170 s171 s172
    have k174 := Hid.mk' ((k145.out).below u173.2)
    have k175 := Hid.mk' ((k146.out).below u173.2)
    have k176 := Hid.mk' ((k147.out).below u173.2)
    have k177 := Hid.mk' ((k148.out).below u173.2)
    have k178 := Hid.mk' ((k149.out).below u173.2)
    have k179 := Hid.mk' ((k150.out).below u173.2)
    have z180 := Hid.mk' (bel_next z151.out u173.2)
    clear k145 k146 k147 k148 k149 k150 z151
    generalize u173.1 = w181 at k174 k175 k176 k177 k178 k179 z180 ⊢
    go_wp2
    go_ret
    exact ⟨rfl, z180.out⟩
end Go.Proofs.Ytfnlogmfkpaaiab
