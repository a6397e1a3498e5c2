/-
  The walk of a law over monomials: whatever the codes, it comes out true, and nothing that was there is turned.
-/
import Derived.Test.YtfnlogmfkpaaiacLawM
namespace Go.Proofs.Ytfnlogmfkpaaiac
open Go.RowKit
set_option linter.unusedVariables false
set_option maxRecDepth 100000 in
set_option maxHeartbeats 40000000 in
theorem walk_FnMonBoth (w : World) (a0 : Option Addr) (len0 cap0 : Nat) (s0 : Src w a0 len0 cap0) (a1 : Option Addr) (len1 cap1 : Nat) (s1 : Src w a1 len1 cap1) :
    Calls Try.prog 3 #[.slice a0 len0 cap0, .slice a1 len1 cap1] w fun e w' => e = .returned (.bool true) ∧ Below w.heap.size w w' := by
  by_cases c0 : (1048576 : Int) < (len0 : Int)
  · go_enter Try.func3, Try.ntmps3
    go_wp2
    go_ret
    exact ⟨rfl, Below.refl _ _⟩
  by_cases c1 : (1048576 : Int) < (len1 : Int)
  · go_enter Try.func3, Try.ntmps3
    go_wp2
    go_ret
    exact ⟨rfl, Below.refl _ _⟩
  go_enter Try.func3, Try.ntmps3
  go_wp2_with fail
  refine (drawMonBoth _ _ _ _ s0).mono ?_
  rintro e w1 ⟨x, y, d, z, x', y', d', z', rfl, b2⟩
  have z3 := Hid.mk' b2
  clear b2
  go_wp2_with fail
  have k5 := Hid.mk' (M4.box w1 24 (x) (y) (d) (z))
  have z6 := Hid.mk' (Below.alloc z3.out z3.out.size (.cells #[.int .i64 x, .int .i64 y, .int .i64 d, .int .i64 z] 24))
  have hs7 : Hid ((w1.alloc (.cells #[.int .i64 x, .int .i64 y, .int .i64 d, .int .i64 z] 24)).heap.size = w1.heap.size + 1) := by simp [Hid]
  clear z3
  generalize (w1.alloc (.cells #[.int .i64 x, .int .i64 y, .int .i64 d, .int .i64 z] 24)) = w4 at k5 z6 hs7 ⊢
  have k9 := Hid.mk' (M4.alloc (k5.out) (.cells #[.int .i64 x', .int .i64 y', .int .i64 d', .int .i64 z'] 24))
  have k10 : Hid (M4 (w4.alloc (.cells #[.int .i64 x', .int .i64 y', .int .i64 d', .int .i64 z'] 24)) (w1.heap.size + 1) (x') (y') (d') (z')) := by have hh := M4.box w4 24 (x') (y') (d') (z'); rw [hs7] at hh; exact hh
  have z11 := Hid.mk' (Below.alloc z6.out z6.out.size (.cells #[.int .i64 x', .int .i64 y', .int .i64 d', .int .i64 z'] 24))
  have hs12 : Hid ((w4.alloc (.cells #[.int .i64 x', .int .i64 y', .int .i64 d', .int .i64 z'] 24)).heap.size = w4.heap.size + 1) := by simp [Hid]
  clear k5 z6
  generalize (w4.alloc (.cells #[.int .i64 x', .int .i64 y', .int .i64 d', .int .i64 z'] 24)) = w8 at k9 k10 z11 hs12 ⊢
  refine (drawMonBoth _ _ _ _ (s1.below z11.out)).mono ?_
  rintro e w13 ⟨cx, cy, cd, cz, ux, uy, ud, uz, rfl, b14⟩
  have k15 := Hid.mk' ((k9.out).below b14)
  have k16 := Hid.mk' ((k10.out).below b14)
  have z17 := Hid.mk' (bel_next z11.out b14)
  clear k9 k10 z11 b14
  obtain ⟨c18, c19, c20, c21⟩ := k15.out
  have l22 := M4.lt k15.out
  obtain ⟨c23, c24, c25, c26⟩ := k16.out
  have l27 := M4.lt k16.out
  go_wp2_with fail
  clear c18 c19 c20 c21 l22 c23 c24 c25 c26 l27
  have k29 := Hid.mk' (M4.alloc (k15.out) (.cells #[.int .i64 cx, .int .i64 cy, .int .i64 cd, .int .i64 cz] 24))
  have k30 := Hid.mk' (M4.alloc (k16.out) (.cells #[.int .i64 cx, .int .i64 cy, .int .i64 cd, .int .i64 cz] 24))
  have k31 := Hid.mk' (M4.box w13 24 (cx) (cy) (cd) (cz))
  have z32 := Hid.mk' (Below.alloc z17.out z17.out.size (.cells #[.int .i64 cx, .int .i64 cy, .int .i64 cd, .int .i64 cz] 24))
  have hs33 : Hid ((w13.alloc (.cells #[.int .i64 cx, .int .i64 cy, .int .i64 cd, .int .i64 cz] 24)).heap.size = w13.heap.size + 1) := by simp [Hid]
  clear k15 k16 z17
  generalize (w13.alloc (.cells #[.int .i64 cx, .int .i64 cy, .int .i64 cd, .int .i64 cz] 24)) = w28 at k29 k30 k31 z32 hs33 ⊢
  have k35 := Hid.mk' (M4.alloc (k29.out) (.cells #[.int .i64 ux, .int .i64 uy, .int .i64 ud, .int .i64 uz] 24))
  have k36 := Hid.mk' (M4.alloc (k30.out) (.cells #[.int .i64 ux, .int .i64 uy, .int .i64 ud, .int .i64 uz] 24))
  have k37 := Hid.mk' (M4.alloc (k31.out) (.cells #[.int .i64 ux, .int .i64 uy, .int .i64 ud, .int .i64 uz] 24))
  have k38 : Hid (M4 (w28.alloc (.cells #[.int .i64 ux, .int .i64 uy, .int .i64 ud, .int .i64 uz] 24)) (w13.heap.size + 1) (ux) (uy) (ud) (uz)) := by have hh := M4.box w28 24 (ux) (uy) (ud) (uz); rw [hs33] at hh; exact hh
  have z39 := Hid.mk' (Below.alloc z32.out z32.out.size (.cells #[.int .i64 ux, .int .i64 uy, .int .i64 ud, .int .i64 uz] 24))
  have hs40 : Hid ((w28.alloc (.cells #[.int .i64 ux, .int .i64 uy, .int .i64 ud, .int .i64 uz] 24)).heap.size = w28.heap.size + 1) := by simp [Hid]
  clear k29 k30 k31 z32
  generalize (w28.alloc (.cells #[.int .i64 ux, .int .i64 uy, .int .i64 ud, .int .i64 uz] 24)) = w34 at k35 k36 k37 k38 z39 hs40 ⊢
  obtain ⟨⟨p1, p2, p3, p4⟩, hp⟩ : ∃ m, M.both ⟨x, y, d, z⟩ ⟨x', y', d', z'⟩ = m := ⟨_, rfl⟩
  have hp2 : M.both ⟨x', y', d', z'⟩ ⟨x, y, d, z⟩ = ⟨p1, p2, p3, p4⟩ := by rw [← hp, M.both_comm]
  refine (monBothI_of hp _).mono ?_
  rintro e w41 ⟨rfl, b42⟩
  have k43 := Hid.mk' ((k35.out).below b42)
  have k44 := Hid.mk' ((k36.out).below b42)
  have k45 := Hid.mk' ((k37.out).below b42)
  have k46 := Hid.mk' ((k38.out).below b42)
  have z47 := Hid.mk' (bel_next z39.out b42)
  clear k35 k36 k37 k38 z39 b42
  obtain ⟨c48, c49, c50, c51⟩ := k43.out
  have l52 := M4.lt k43.out
  obtain ⟨c53, c54, c55, c56⟩ := k44.out
  have l57 := M4.lt k44.out
  go_wp2_with fail
  clear c48 c49 c50 c51 l52 c53 c54 c55 c56 l57
  have k59 := Hid.mk' (M4.alloc (k43.out) (.cells #[.int .i64 p1, .int .i64 p2, .int .i64 p3, .int .i64 p4] 24))
  have k60 := Hid.mk' (M4.alloc (k44.out) (.cells #[.int .i64 p1, .int .i64 p2, .int .i64 p3, .int .i64 p4] 24))
  have k61 := Hid.mk' (M4.alloc (k45.out) (.cells #[.int .i64 p1, .int .i64 p2, .int .i64 p3, .int .i64 p4] 24))
  have k62 := Hid.mk' (M4.alloc (k46.out) (.cells #[.int .i64 p1, .int .i64 p2, .int .i64 p3, .int .i64 p4] 24))
  have k63 := Hid.mk' (M4.box w41 24 (p1) (p2) (p3) (p4))
  have z64 := Hid.mk' (Below.alloc z47.out z47.out.size (.cells #[.int .i64 p1, .int .i64 p2, .int .i64 p3, .int .i64 p4] 24))
  have hs65 : Hid ((w41.alloc (.cells #[.int .i64 p1, .int .i64 p2, .int .i64 p3, .int .i64 p4] 24)).heap.size = w41.heap.size + 1) := by simp [Hid]
  clear k43 k44 k45 k46 z47
  generalize (w41.alloc (.cells #[.int .i64 p1, .int .i64 p2, .int .i64 p3, .int .i64 p4] 24)) = w58 at k59 k60 k61 k62 k63 z64 hs65 ⊢
  have ne := Ext.there w58
  obtain ⟨s66, s67, s68, s69⟩ := M4.ext k59.out
  obtain ⟨s70, s71, s72, s73⟩ := M4.ext k60.out
  obtain ⟨s74, s75, s76, s77⟩ := M4.ext k63.out
  refine wp_region_ext (by kernel_rfl) (by kernel_rfl) ?_
  repeat (go_big_quiet_step (first | (go_at_call 10; refine ext_grows (monBothS_of (by with_reducible assumption) _)) | (go_at_call 9; refine ext_grows (monBothI_of (by with_reducible assumption) _)) | fail))
  refine wpQuiet_nil ?_
  rintro _ ⟨u78, rfl⟩
  clear ne s66 s67 s68 s69 s70 s71 s72 s73 s74 s75 s76 s77
  have k79 := Hid.mk' ((k59.out).below u78.2)
  have k80 := Hid.mk' ((k60.out).below u78.2)
  have k81 := Hid.mk' ((k61.out).below u78.2)
  have k82 := Hid.mk' ((k62.out).below u78.2)
  have k83 := Hid.mk' ((k63.out).below u78.2)
  have z84 := Hid.mk' (bel_next z64.out u78.2)
  clear k59 k60 k61 k62 k63 z64
  generalize u78.1 = w85 at k79 k80 k81 k82 k83 z84 ⊢
  obtain ⟨c86, c87, c88, c89⟩ := k79.out
  have l90 := M4.lt k79.out
  obtain ⟨c91, c92, c93, c94⟩ := k80.out
  have l95 := M4.lt k80.out
  go_wp2_with fail
  clear c86 c87 c88 c89 l90 c91 c92 c93 c94 l95
  cases ha : M.ok ⟨x, y, d, z⟩
  · have hp0 : M.both ⟨x, y, d, z⟩ ⟨x', y', d', z'⟩ = M.zero := by rw [M.both, if_neg (by simp [ha])]
    have hz : M.zero = ⟨p1, p2, p3, p4⟩ := hp0.symm.trans hp
    simp only [M.zero, M.mk.injEq] at hz
    obtain ⟨rfl, rfl, rfl, rfl⟩ := hz
    refine (monOkS_of ha _).mono ?_
    rintro e w96 ⟨rfl, b97⟩
    have k98 := Hid.mk' ((k79.out).below b97)
    have k99 := Hid.mk' ((k80.out).below b97)
    have k100 := Hid.mk' ((k81.out).below b97)
    have k101 := Hid.mk' ((k82.out).below b97)
    have k102 := Hid.mk' ((k83.out).below b97)
    have z103 := Hid.mk' (bel_next z84.out b97)
    clear k79 k80 k81 k82 k83 z84 b97
    obtain ⟨c104, c105, c106, c107⟩ := k102.out
    have l108 := M4.lt k102.out
    go_wp2_with fail
    clear c104 c105 c106 c107 l108
    refine (heOkT _).mono ?_
    rintro e w109 ⟨rfl, b110⟩
    have k111 := Hid.mk' ((k98.out).below b110)
    have k112 := Hid.mk' ((k99.out).below b110)
    have k113 := Hid.mk' ((k100.out).below b110)
    have k114 := Hid.mk' ((k101.out).below b110)
    have k115 := Hid.mk' ((k102.out).below b110)
    have z116 := Hid.mk' (bel_next z103.out b110)
    clear k98 k99 k100 k101 k102 z103 b110
    go_wp2
    go_ret
    exact ⟨rfl, z116.out⟩
  · refine (monOkS_of ha _).mono ?_
    rintro e w96 ⟨rfl, b97⟩
    have k98 := Hid.mk' ((k79.out).below b97)
    have k99 := Hid.mk' ((k80.out).below b97)
    have k100 := Hid.mk' ((k81.out).below b97)
    have k101 := Hid.mk' ((k82.out).below b97)
    have k102 := Hid.mk' ((k83.out).below b97)
    have z103 := Hid.mk' (bel_next z84.out b97)
    clear k79 k80 k81 k82 k83 z84 b97
    obtain ⟨c104, c105, c106, c107⟩ := k99.out
    have l108 := M4.lt k99.out
    go_wp2_with fail
    clear c104 c105 c106 c107 l108
    cases hb : M.ok ⟨x', y', d', z'⟩
    · have hp0 : M.both ⟨x, y, d, z⟩ ⟨x', y', d', z'⟩ = M.zero := by rw [M.both, if_neg (by simp [hb])]
      have hz : M.zero = ⟨p1, p2, p3, p4⟩ := hp0.symm.trans hp
      simp only [M.zero, M.mk.injEq] at hz
      obtain ⟨rfl, rfl, rfl, rfl⟩ := hz
      refine (monOkS_of hb _).mono ?_
      rintro e w109 ⟨rfl, b110⟩
      have k111 := Hid.mk' ((k98.out).below b110)
      have k112 := Hid.mk' ((k99.out).below b110)
      have k113 := Hid.mk' ((k100.out).below b110)
      have k114 := Hid.mk' ((k101.out).below b110)
      have k115 := Hid.mk' ((k102.out).below b110)
      have z116 := Hid.mk' (bel_next z103.out b110)
      clear k98 k99 k100 k101 k102 z103 b110
      obtain ⟨c117, c118, c119, c120⟩ := k115.out
      have l121 := M4.lt k115.out
      go_wp2_with fail
      clear c117 c118 c119 c120 l121
      refine (heOkT _).mono ?_
      rintro e w122 ⟨rfl, b123⟩
      have k124 := Hid.mk' ((k111.out).below b123)
      have k125 := Hid.mk' ((k112.out).below b123)
      have k126 := Hid.mk' ((k113.out).below b123)
      have k127 := Hid.mk' ((k114.out).below b123)
      have k128 := Hid.mk' ((k115.out).below b123)
      have z129 := Hid.mk' (bel_next z116.out b123)
      clear k111 k112 k113 k114 k115 z116 b123
      go_wp2
      go_ret
      exact ⟨rfl, z129.out⟩
    · obtain ⟨hap, hbp, hpc, haa⟩ := M.both_facts ha hb hp
      have hpc2 := hpc ⟨cx, cy, cd, cz⟩
      clear hpc
      refine (monOkS_of hb _).mono ?_
      rintro e w109 ⟨rfl, b110⟩
      have k111 := Hid.mk' ((k98.out).below b110)
      have k112 := Hid.mk' ((k99.out).below b110)
      have k113 := Hid.mk' ((k100.out).below b110)
      have k114 := Hid.mk' ((k101.out).below b110)
      have k115 := Hid.mk' ((k102.out).below b110)
      have z116 := Hid.mk' (bel_next z103.out b110)
      clear k98 k99 k100 k101 k102 z103 b110
      obtain ⟨c117, c118, c119, c120⟩ := k115.out
      have l121 := M4.lt k115.out
      go_wp2_with fail
      clear c117 c118 c119 c120 l121
      cases hac : M.dvd ⟨x, y, d, z⟩ ⟨cx, cy, cd, cz⟩
      · have ne := Ext.there w109
        obtain ⟨s122, s123, s124, s125⟩ := M4.ext k111.out
        obtain ⟨s126, s127, s128, s129⟩ := M4.ext k112.out
        obtain ⟨s130, s131, s132, s133⟩ := M4.ext k113.out
        obtain ⟨s134, s135, s136, s137⟩ := M4.ext k115.out
        refine wp_region_ext (by kernel_rfl) (by kernel_rfl) ?_
        repeat (go_big_quiet_step (first | (go_at_call 13; refine ext_grows (monDividesI_of (by with_reducible assumption) _)) | (go_at_call 9; refine ext_grows (monBothI_of (by with_reducible assumption) _)) | (go_at_call 12; refine ext_grows (heOkT _)) | fail))
        refine wpQuiet_nil ?_
        rintro _ ⟨u138, rfl⟩
        clear ne s122 s123 s124 s125 s126 s127 s128 s129 s130 s131 s132 s133 s134 s135 s136 s137
        have k139 := Hid.mk' ((k111.out).below u138.2)
        have k140 := Hid.mk' ((k112.out).below u138.2)
        have k141 := Hid.mk' ((k113.out).below u138.2)
        have k142 := Hid.mk' ((k114.out).below u138.2)
        have k143 := Hid.mk' ((k115.out).below u138.2)
        have z144 := Hid.mk' (bel_next z116.out u138.2)
        clear k111 k112 k113 k114 k115 z116
        generalize u138.1 = w145 at k139 k140 k141 k142 k143 z144 ⊢
        go_wp2
        go_ret
        exact ⟨rfl, z144.out⟩
      · cases hbc : M.dvd ⟨x', y', d', z'⟩ ⟨cx, cy, cd, cz⟩
        · have ne := Ext.there w109
          obtain ⟨s122, s123, s124, s125⟩ := M4.ext k111.out
          obtain ⟨s126, s127, s128, s129⟩ := M4.ext k112.out
          obtain ⟨s130, s131, s132, s133⟩ := M4.ext k113.out
          obtain ⟨s134, s135, s136, s137⟩ := M4.ext k115.out
          refine wp_region_ext (by kernel_rfl) (by kernel_rfl) ?_
          repeat (go_big_quiet_step (first | (go_at_call 13; refine ext_grows (monDividesI_of (by with_reducible assumption) _)) | (go_at_call 9; refine ext_grows (monBothI_of (by with_reducible assumption) _)) | (go_at_call 12; refine ext_grows (heOkT _)) | fail))
          refine wpQuiet_nil ?_
          rintro _ ⟨u138, rfl⟩
          clear ne s122 s123 s124 s125 s126 s127 s128 s129 s130 s131 s132 s133 s134 s135 s136 s137
          have k139 := Hid.mk' ((k111.out).below u138.2)
          have k140 := Hid.mk' ((k112.out).below u138.2)
          have k141 := Hid.mk' ((k113.out).below u138.2)
          have k142 := Hid.mk' ((k114.out).below u138.2)
          have k143 := Hid.mk' ((k115.out).below u138.2)
          have z144 := Hid.mk' (bel_next z116.out u138.2)
          clear k111 k112 k113 k114 k115 z116
          generalize u138.1 = w145 at k139 k140 k141 k142 k143 z144 ⊢
          go_wp2
          go_ret
          exact ⟨rfl, z144.out⟩
        · have hpc3 := hpc2 hac hbc
          have ne := Ext.there w109
          obtain ⟨s122, s123, s124, s125⟩ := M4.ext k111.out
          obtain ⟨s126, s127, s128, s129⟩ := M4.ext k112.out
          obtain ⟨s130, s131, s132, s133⟩ := M4.ext k113.out
          obtain ⟨s134, s135, s136, s137⟩ := M4.ext k115.out
          refine wp_region_ext (by kernel_rfl) (by kernel_rfl) ?_
          repeat (go_big_quiet_step (first | (go_at_call 13; refine ext_grows (monDividesI_of (by with_reducible assumption) _)) | (go_at_call 9; refine ext_grows (monBothI_of (by with_reducible assumption) _)) | (go_at_call 12; refine ext_grows (heOkT _)) | fail))
          refine wpQuiet_nil ?_
          rintro _ ⟨u138, rfl⟩
          clear ne s122 s123 s124 s125 s126 s127 s128 s129 s130 s131 s132 s133 s134 s135 s136 s137
          have k139 := Hid.mk' ((k111.out).below u138.2)
          have k140 := Hid.mk' ((k112.out).below u138.2)
          have k141 := Hid.mk' ((k113.out).below u138.2)
          have k142 := Hid.mk' ((k114.out).below u138.2)
          have k143 := Hid.mk' ((k115.out).below u138.2)
          have z144 := Hid.mk' (bel_next z116.out u138.2)
          clear k111 k112 k113 k114 k115 z116
          generalize u138.1 = w145 at k139 k140 k141 k142 k143 z144 ⊢
          go_wp2
          go_ret
          exact ⟨rfl, z144.out⟩
end Go.Proofs.Ytfnlogmfkpaaiac
