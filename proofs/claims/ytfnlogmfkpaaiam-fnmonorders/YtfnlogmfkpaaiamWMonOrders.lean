/-
  The walk of a law over monomials: whatever the codes, it comes out true, and nothing that was there is turned.
-/
import Derived.Test.YtfnlogmfkpaaiamLawO
namespace Go.Proofs.Ytfnlogmfkpaaiam
open Go.RowKit
set_option linter.unusedVariables false
set_option maxRecDepth 100000 in
set_option maxHeartbeats 40000000 in
theorem walk_FnMonOrders (w : World) (a0 : Option Addr) (len0 cap0 : Nat) (s0 : Src w a0 len0 cap0) :
    Calls Try.prog 3 #[.slice a0 len0 cap0] w fun e w' => e = .returned (.bool true) ∧ Below w.heap.size w w' := by
  by_cases c0 : (1048576 : Int) < (len0 : Int)
  · go_enter Try.func3, Try.ntmps3
    go_wp2
    go_ret
    exact ⟨rfl, Below.refl _ _⟩
  go_enter Try.func3, Try.ntmps3
  go_wp2_with fail
  refine (drawMonCmp _ _ _ _ s0).mono ?_
  rintro e w1 ⟨o, x, y, d, z, x', y', d', z', rfl, b2⟩
  have z3 := Hid.mk' b2
  clear b2
  go_wp2_with fail
  have k5 := Hid.mk' (M4.box w1 24 (x) (y) (d) (z))
  have z6 := Hid.mk' (Below.alloc z3.out z3.out.size (.cells #[.int .i64 x, .int .i64 y, .int .i64 d, .int .i64 z] 24))
  have hs7 : Hid ((w1.alloc (.cells #[.int .i64 x, .int .i64 y, .int .i64 d, .int .i64 z] 24)).heap.size = w1.heap.size + 1) := by simp [Hid]
  clear z3
  generalize (w1.alloc (.cells #[.int .i64 x, .int .i64 y, .int .i64 d, .int .i64 z] 24)) = w4 at k5 z6 hs7 ⊢
  have k9 := Hid.mk' (M4.alloc (k5.out) (.cells #[.int .i64 x', .int .i64 y', .int .i64 d', .int .i64 z'] 24))
  have k10 : Hid (M4 (w4.alloc (.cells #[.int .i64 x', .int .i64 y', .int .i64 d', .int .i64 z'] 24)) (w1.heap.size + 1) (x') (y') (d') (z')) := by have hh := M4.box w4 24 (x') (y') (d') (z'); rw [hs7] at hh; exact hh
  have z11 := Hid.mk' (Below.alloc z6.out z6.out.size (.cells #[.int .i64 x', .int .i64 y', .int .i64 d', .int .i64 z'] 24))
  have hs12 : Hid ((w4.alloc (.cells #[.int .i64 x', .int .i64 y', .int .i64 d', .int .i64 z'] 24)).heap.size = w4.heap.size + 1) := by simp [Hid]
  clear k5 z6
  generalize (w4.alloc (.cells #[.int .i64 x', .int .i64 y', .int .i64 d', .int .i64 z'] 24)) = w8 at k9 k10 z11 hs12 ⊢
  obtain ⟨n, hn⟩ : ∃ n, M.cmp o ⟨x, y, d, z⟩ ⟨x', y', d', z'⟩ = n := ⟨_, rfl⟩
  refine (monCmpI_of hn _).mono ?_
  rintro e w13 ⟨rfl, b14⟩
  have k15 := Hid.mk' ((k9.out).below b14)
  have k16 := Hid.mk' ((k10.out).below b14)
  have z17 := Hid.mk' (bel_next z11.out b14)
  clear k9 k10 z11 b14
  obtain ⟨c18, c19, c20, c21⟩ := k15.out
  have l22 := M4.lt k15.out
  obtain ⟨c23, c24, c25, c26⟩ := k16.out
  have l27 := M4.lt k16.out
  go_wp2_with fail
  clear c18 c19 c20 c21 l22 c23 c24 c25 c26 l27
  refine (monCmpS_of hn _).mono ?_
  rintro e w28 ⟨rfl, b29⟩
  have k30 := Hid.mk' ((k15.out).below b29)
  have k31 := Hid.mk' ((k16.out).below b29)
  have z32 := Hid.mk' (bel_next z17.out b29)
  clear k15 k16 z17 b29
  obtain ⟨c33, c34, c35, c36⟩ := k30.out
  have l37 := M4.lt k30.out
  go_wp2_with fail
  clear c33 c34 c35 c36 l37
  cases ha : M.ok ⟨x, y, d, z⟩
  · obtain rfl : n = 0 := by rw [← hn]; exact cmp_out (fun k => by simp [ha] at k)
    refine (monOkS_of ha _).mono ?_
    rintro e w38 ⟨rfl, b39⟩
    have k40 := Hid.mk' ((k30.out).below b39)
    have k41 := Hid.mk' ((k31.out).below b39)
    have z42 := Hid.mk' (bel_next z32.out b39)
    clear k30 k31 z32 b39
    go_wp2_with fail
    refine (heOkT _).mono ?_
    rintro e w43 ⟨rfl, b44⟩
    have k45 := Hid.mk' ((k40.out).below b44)
    have k46 := Hid.mk' ((k41.out).below b44)
    have z47 := Hid.mk' (bel_next z42.out b44)
    clear k40 k41 z42 b44
    go_wp2
    go_ret
    exact ⟨rfl, z47.out⟩
  · refine (monOkS_of ha _).mono ?_
    rintro e w38 ⟨rfl, b39⟩
    have k40 := Hid.mk' ((k30.out).below b39)
    have k41 := Hid.mk' ((k31.out).below b39)
    have z42 := Hid.mk' (bel_next z32.out b39)
    clear k30 k31 z32 b39
    obtain ⟨c43, c44, c45, c46⟩ := k41.out
    have l47 := M4.lt k41.out
    go_wp2_with fail
    clear c43 c44 c45 c46 l47
    cases hb : M.ok ⟨x', y', d', z'⟩
    · obtain rfl : n = 0 := by rw [← hn]; exact cmp_out (fun k => by simp [hb] at k)
      refine (monOkS_of hb _).mono ?_
      rintro e w48 ⟨rfl, b49⟩
      have k50 := Hid.mk' ((k40.out).below b49)
      have k51 := Hid.mk' ((k41.out).below b49)
      have z52 := Hid.mk' (bel_next z42.out b49)
      clear k40 k41 z42 b49
      go_wp2_with fail
      refine (heOkT _).mono ?_
      rintro e w53 ⟨rfl, b54⟩
      have k55 := Hid.mk' ((k50.out).below b54)
      have k56 := Hid.mk' ((k51.out).below b54)
      have z57 := Hid.mk' (bel_next z52.out b54)
      clear k50 k51 z52 b54
      go_wp2
      go_ret
      exact ⟨rfl, z57.out⟩
    · refine (monOkS_of hb _).mono ?_
      rintro e w48 ⟨rfl, b49⟩
      have k50 := Hid.mk' ((k40.out).below b49)
      have k51 := Hid.mk' ((k41.out).below b49)
      have z52 := Hid.mk' (bel_next z42.out b49)
      clear k40 k41 z42 b49
      clear hn
      have ka := M.ok_iff.1 ha
      have kb := M.ok_iff.1 hb
      dsimp only at ka kb
      obtain ⟨x0, x1, y0, y1, d0, d1, z0, z1⟩ := ka
      obtain ⟨x0', x1', y0', y1', d0', d1', z0', z1'⟩ := kb
      obtain ⟨ea, _, _⟩ := M.deg_bd ha
      obtain ⟨eb, _, _⟩ := M.deg_bd hb
      obtain ⟨da, hda⟩ : ∃ n, M.deg ⟨x, y, d, z⟩ = n := ⟨_, rfl⟩
      obtain ⟨db, hdb⟩ : ∃ n, M.deg ⟨x', y', d', z'⟩ = n := ⟨_, rfl⟩
      have m1 : db < da → M.cmp 1 ⟨x, y, d, z⟩ ⟨x', y', d', z'⟩ = 1 := fun h => cmp_first1 ha hb (by rw [hda, hdb]; exact h)
      have m2 : d' < d → M.cmp 2 ⟨x, y, d, z⟩ ⟨x', y', d', z'⟩ = 1 := fun h => cmp_first2 ha hb h
      have m3 : x' + d' < x + d → M.cmp 3 ⟨x, y, d, z⟩ ⟨x', y', d', z'⟩ = 1 := fun h => cmp_first3 ha hb (by dsimp only; omega)
      clear ea eb
      have k1 : M.cmp 2 ⟨0, 0, 1, 0⟩ ⟨9, 9, 0, 9⟩ = 1 := by decide
      have k2 : M.cmp 3 ⟨1, 0, 0, 0⟩ ⟨0, 9, 0, 9⟩ = 1 := by decide
      go_wp2_with fail
      by_cases gm1 : db < da
      · have hm1 := m1 gm1
        clear m1
        by_cases gm2 : d' < d
        · have hm2 := m2 gm2
          clear m2
          by_cases gm3 : x' + d' < x + d
          · have hm3 := m3 gm3
            clear m3
            have ne := Ext.there w48
            obtain ⟨s53, s54, s55, s56⟩ := M4.ext k50.out
            obtain ⟨s57, s58, s59, s60⟩ := M4.ext k51.out
            refine wp_region_ext (by kernel_rfl) (by kernel_rfl) ?_
            repeat (go_big_quiet_step (first | (go_at_call 12; refine ext_grows (monDegI_of (by with_reducible assumption) _)) | (go_at_call 8; refine ext_grows (monCmpI_of (by with_reducible assumption) _)) | fail))
            refine wpQuiet_nil ?_
            rintro _ ⟨u61, rfl⟩
            clear ne s53 s54 s55 s56 s57 s58 s59 s60
            have k62 := Hid.mk' ((k50.out).below u61.2)
            have k63 := Hid.mk' ((k51.out).below u61.2)
            have z64 := Hid.mk' (bel_next z52.out u61.2)
            clear k50 k51 z52
            generalize u61.1 = w65 at k62 k63 z64 ⊢
            go_wp2_with fail
            refine (monCmpI_of k1 _).mono ?_
            rintro e w66 ⟨rfl, b67⟩
            have k68 := Hid.mk' ((k62.out).below b67)
            have k69 := Hid.mk' ((k63.out).below b67)
            have z70 := Hid.mk' (bel_next z64.out b67)
            clear k62 k63 z64 b67
            go_wp2_with fail
            refine (monCmpI_of k2 _).mono ?_
            rintro e w71 ⟨rfl, b72⟩
            have k73 := Hid.mk' ((k68.out).below b72)
            have k74 := Hid.mk' ((k69.out).below b72)
            have z75 := Hid.mk' (bel_next z70.out b72)
            clear k68 k69 z70 b72
            go_wp2
            go_ret
            exact ⟨rfl, z75.out⟩
          · clear m3
            have ne := Ext.there w48
            obtain ⟨s53, s54, s55, s56⟩ := M4.ext k50.out
            obtain ⟨s57, s58, s59, s60⟩ := M4.ext k51.out
            refine wp_region_ext (by kernel_rfl) (by kernel_rfl) ?_
            repeat (go_big_quiet_step (first | (go_at_call 12; refine ext_grows (monDegI_of (by with_reducible assumption) _)) | (go_at_call 8; refine ext_grows (monCmpI_of (by with_reducible assumption) _)) | fail))
            refine wpQuiet_nil ?_
            rintro _ ⟨u61, rfl⟩
            clear ne s53 s54 s55 s56 s57 s58 s59 s60
            have k62 := Hid.mk' ((k50.out).below u61.2)
            have k63 := Hid.mk' ((k51.out).below u61.2)
            have z64 := Hid.mk' (bel_next z52.out u61.2)
            clear k50 k51 z52
            generalize u61.1 = w65 at k62 k63 z64 ⊢
            go_wp2_with fail
            refine (monCmpI_of k1 _).mono ?_
            rintro e w66 ⟨rfl, b67⟩
            have k68 := Hid.mk' ((k62.out).below b67)
            have k69 := Hid.mk' ((k63.out).below b67)
            have z70 := Hid.mk' (bel_next z64.out b67)
            clear k62 k63 z64 b67
            go_wp2_with fail
            refine (monCmpI_of k2 _).mono ?_
            rintro e w71 ⟨rfl, b72⟩
            have k73 := Hid.mk' ((k68.out).below b72)
            have k74 := Hid.mk' ((k69.out).below b72)
            have z75 := Hid.mk' (bel_next z70.out b72)
            clear k68 k69 z70 b72
            go_wp2
            go_ret
            exact ⟨rfl, z75.out⟩
        · clear m2
          by_cases gm3 : x' + d' < x + d
          · have hm3 := m3 gm3
            clear m3
            have ne := Ext.there w48
            obtain ⟨s53, s54, s55, s56⟩ := M4.ext k50.out
            obtain ⟨s57, s58, s59, s60⟩ := M4.ext k51.out
            refine wp_region_ext (by kernel_rfl) (by kernel_rfl) ?_
            repeat (go_big_quiet_step (first | (go_at_call 12; refine ext_grows (monDegI_of (by with_reducible assumption) _)) | (go_at_call 8; refine ext_grows (monCmpI_of (by with_reducible assumption) _)) | fail))
            refine wpQuiet_nil ?_
            rintro _ ⟨u61, rfl⟩
            clear ne s53 s54 s55 s56 s57 s58 s59 s60
            have k62 := Hid.mk' ((k50.out).below u61.2)
            have k63 := Hid.mk' ((k51.out).below u61.2)
            have z64 := Hid.mk' (bel_next z52.out u61.2)
            clear k50 k51 z52
            generalize u61.1 = w65 at k62 k63 z64 ⊢
            go_wp2_with fail
            refine (monCmpI_of k1 _).mono ?_
            rintro e w66 ⟨rfl, b67⟩
            have k68 := Hid.mk' ((k62.out).below b67)
            have k69 := Hid.mk' ((k63.out).below b67)
            have z70 := Hid.mk' (bel_next z64.out b67)
            clear k62 k63 z64 b67
            go_wp2_with fail
            refine (monCmpI_of k2 _).mono ?_
            rintro e w71 ⟨rfl, b72⟩
            have k73 := Hid.mk' ((k68.out).below b72)
            have k74 := Hid.mk' ((k69.out).below b72)
            have z75 := Hid.mk' (bel_next z70.out b72)
            clear k68 k69 z70 b72
            go_wp2
            go_ret
            exact ⟨rfl, z75.out⟩
          · clear m3
            have ne := Ext.there w48
            obtain ⟨s53, s54, s55, s56⟩ := M4.ext k50.out
            obtain ⟨s57, s58, s59, s60⟩ := M4.ext k51.out
            refine wp_region_ext (by kernel_rfl) (by kernel_rfl) ?_
            repeat (go_big_quiet_step (first | (go_at_call 12; refine ext_grows (monDegI_of (by with_reducible assumption) _)) | (go_at_call 8; refine ext_grows (monCmpI_of (by with_reducible assumption) _)) | fail))
            refine wpQuiet_nil ?_
            rintro _ ⟨u61, rfl⟩
            clear ne s53 s54 s55 s56 s57 s58 s59 s60
            have k62 := Hid.mk' ((k50.out).below u61.2)
            have k63 := Hid.mk' ((k51.out).below u61.2)
            have z64 := Hid.mk' (bel_next z52.out u61.2)
            clear k50 k51 z52
            generalize u61.1 = w65 at k62 k63 z64 ⊢
            go_wp2_with fail
            refine (monCmpI_of k1 _).mono ?_
            rintro e w66 ⟨rfl, b67⟩
            have k68 := Hid.mk' ((k62.out).below b67)
            have k69 := Hid.mk' ((k63.out).below b67)
            have z70 := Hid.mk' (bel_next z64.out b67)
            clear k62 k63 z64 b67
            go_wp2_with fail
            refine (monCmpI_of k2 _).mono ?_
            rintro e w71 ⟨rfl, b72⟩
            have k73 := Hid.mk' ((k68.out).below b72)
            have k74 := Hid.mk' ((k69.out).below b72)
            have z75 := Hid.mk' (bel_next z70.out b72)
            clear k68 k69 z70 b72
            go_wp2
            go_ret
            exact ⟨rfl, z75.out⟩
      · clear m1
        by_cases gm2 : d' < d
        · have hm2 := m2 gm2
          clear m2
          by_cases gm3 : x' + d' < x + d
          · have hm3 := m3 gm3
            clear m3
            have ne := Ext.there w48
            obtain ⟨s53, s54, s55, s56⟩ := M4.ext k50.out
            obtain ⟨s57, s58, s59, s60⟩ := M4.ext k51.out
            refine wp_region_ext (by kernel_rfl) (by kernel_rfl) ?_
            repeat (go_big_quiet_step (first | (go_at_call 12; refine ext_grows (monDegI_of (by with_reducible assumption) _)) | (go_at_call 8; refine ext_grows (monCmpI_of (by with_reducible assumption) _)) | fail))
            refine wpQuiet_nil ?_
            rintro _ ⟨u61, rfl⟩
            clear ne s53 s54 s55 s56 s57 s58 s59 s60
            have k62 := Hid.mk' ((k50.out).below u61.2)
            have k63 := Hid.mk' ((k51.out).below u61.2)
            have z64 := Hid.mk' (bel_next z52.out u61.2)
            clear k50 k51 z52
            generalize u61.1 = w65 at k62 k63 z64 ⊢
            go_wp2_with fail
            refine (monCmpI_of k1 _).mono ?_
            rintro e w66 ⟨rfl, b67⟩
            have k68 := Hid.mk' ((k62.out).below b67)
            have k69 := Hid.mk' ((k63.out).below b67)
            have z70 := Hid.mk' (bel_next z64.out b67)
            clear k62 k63 z64 b67
            go_wp2_with fail
            refine (monCmpI_of k2 _).mono ?_
            rintro e w71 ⟨rfl, b72⟩
            have k73 := Hid.mk' ((k68.out).below b72)
            have k74 := Hid.mk' ((k69.out).below b72)
            have z75 := Hid.mk' (bel_next z70.out b72)
            clear k68 k69 z70 b72
            go_wp2
            go_ret
            exact ⟨rfl, z75.out⟩
          · clear m3
            have ne := Ext.there w48
            obtain ⟨s53, s54, s55, s56⟩ := M4.ext k50.out
            obtain ⟨s57, s58, s59, s60⟩ := M4.ext k51.out
            refine wp_region_ext (by kernel_rfl) (by kernel_rfl) ?_
            repeat (go_big_quiet_step (first | (go_at_call 12; refine ext_grows (monDegI_of (by with_reducible assumption) _)) | (go_at_call 8; refine ext_grows (monCmpI_of (by with_reducible assumption) _)) | fail))
            refine wpQuiet_nil ?_
            rintro _ ⟨u61, rfl⟩
            clear ne s53 s54 s55 s56 s57 s58 s59 s60
            have k62 := Hid.mk' ((k50.out).below u61.2)
            have k63 := Hid.mk' ((k51.out).below u61.2)
            have z64 := Hid.mk' (bel_next z52.out u61.2)
            clear k50 k51 z52
            generalize u61.1 = w65 at k62 k63 z64 ⊢
            go_wp2_with fail
            refine (monCmpI_of k1 _).mono ?_
            rintro e w66 ⟨rfl, b67⟩
            have k68 := Hid.mk' ((k62.out).below b67)
            have k69 := Hid.mk' ((k63.out).below b67)
            have z70 := Hid.mk' (bel_next z64.out b67)
            clear k62 k63 z64 b67
            go_wp2_with fail
            refine (monCmpI_of k2 _).mono ?_
            rintro e w71 ⟨rfl, b72⟩
            have k73 := Hid.mk' ((k68.out).below b72)
            have k74 := Hid.mk' ((k69.out).below b72)
            have z75 := Hid.mk' (bel_next z70.out b72)
            clear k68 k69 z70 b72
            go_wp2
            go_ret
            exact ⟨rfl, z75.out⟩
        · clear m2
          by_cases gm3 : x' + d' < x + d
          · have hm3 := m3 gm3
            clear m3
            have ne := Ext.there w48
            obtain ⟨s53, s54, s55, s56⟩ := M4.ext k50.out
            obtain ⟨s57, s58, s59, s60⟩ := M4.ext k51.out
            refine wp_region_ext (by kernel_rfl) (by kernel_rfl) ?_
            repeat (go_big_quiet_step (first | (go_at_call 12; refine ext_grows (monDegI_of (by with_reducible assumption) _)) | (go_at_call 8; refine ext_grows (monCmpI_of (by with_reducible assumption) _)) | fail))
            refine wpQuiet_nil ?_
            rintro _ ⟨u61, rfl⟩
            clear ne s53 s54 s55 s56 s57 s58 s59 s60
            have k62 := Hid.mk' ((k50.out).below u61.2)
            have k63 := Hid.mk' ((k51.out).below u61.2)
            have z64 := Hid.mk' (bel_next z52.out u61.2)
            clear k50 k51 z52
            generalize u61.1 = w65 at k62 k63 z64 ⊢
            go_wp2_with fail
            refine (monCmpI_of k1 _).mono ?_
            rintro e w66 ⟨rfl, b67⟩
            have k68 := Hid.mk' ((k62.out).below b67)
            have k69 := Hid.mk' ((k63.out).below b67)
            have z70 := Hid.mk' (bel_next z64.out b67)
            clear k62 k63 z64 b67
            go_wp2_with fail
            refine (monCmpI_of k2 _).mono ?_
            rintro e w71 ⟨rfl, b72⟩
            have k73 := Hid.mk' ((k68.out).below b72)
            have k74 := Hid.mk' ((k69.out).below b72)
            have z75 := Hid.mk' (bel_next z70.out b72)
            clear k68 k69 z70 b72
            go_wp2
            go_ret
            exact ⟨rfl, z75.out⟩
          · clear m3
            have ne := Ext.there w48
            obtain ⟨s53, s54, s55, s56⟩ := M4.ext k50.out
            obtain ⟨s57, s58, s59, s60⟩ := M4.ext k51.out
            refine wp_region_ext (by kernel_rfl) (by kernel_rfl) ?_
            repeat (go_big_quiet_step (first | (go_at_call 12; refine ext_grows (monDegI_of (by with_reducible assumption) _)) | (go_at_call 8; refine ext_grows (monCmpI_of (by with_reducible assumption) _)) | fail))
            refine wpQuiet_nil ?_
            rintro _ ⟨u61, rfl⟩
            clear ne s53 s54 s55 s56 s57 s58 s59 s60
            have k62 := Hid.mk' ((k50.out).below u61.2)
            have k63 := Hid.mk' ((k51.out).below u61.2)
            have z64 := Hid.mk' (bel_next z52.out u61.2)
            clear k50 k51 z52
            generalize u61.1 = w65 at k62 k63 z64 ⊢
            go_wp2_with fail
            refine (monCmpI_of k1 _).mono ?_
            rintro e w66 ⟨rfl, b67⟩
            have k68 := Hid.mk' ((k62.out).below b67)
            have k69 := Hid.mk' ((k63.out).below b67)
            have z70 := Hid.mk' (bel_next z64.out b67)
            clear k62 k63 z64 b67
            go_wp2_with fail
            refine (monCmpI_of k2 _).mono ?_
            rintro e w71 ⟨rfl, b72⟩
            have k73 := Hid.mk' ((k68.out).below b72)
            have k74 := Hid.mk' ((k69.out).below b72)
            have z75 := Hid.mk' (bel_next z70.out b72)
            clear k68 k69 z70 b72
            go_wp2
            go_ret
            exact ⟨rfl, z75.out⟩
end Go.Proofs.Ytfnlogmfkpaaiam
