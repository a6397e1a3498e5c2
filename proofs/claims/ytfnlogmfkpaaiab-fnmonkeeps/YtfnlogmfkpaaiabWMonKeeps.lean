/-
  The walk of a law over monomials: whatever the codes, it comes out true, and nothing that was there is turned.
-/
import Derived.Test.YtfnlogmfkpaaiabLawO
namespace Go.Proofs.Ytfnlogmfkpaaiab
open Go.RowKit
set_option linter.unusedVariables false
set_option maxRecDepth 100000 in
set_option maxHeartbeats 40000000 in
theorem walk_FnMonKeeps (w : World) (a0 : Option Addr) (len0 cap0 : Nat) (s0 : Src w a0 len0 cap0) (a1 : Option Addr) (len1 cap1 : Nat) (s1 : Src w a1 len1 cap1) :
    Calls Try.prog 5 #[.slice a0 len0 cap0, .slice a1 len1 cap1] w fun e w' => e = .returned (.bool true) ∧ Below w.heap.size w w' := by
  by_cases c0 : (1048576 : Int) < (len0 : Int)
  · go_enter Try.func5, Try.ntmps5
    go_wp2
    go_ret
    exact ⟨rfl, Below.refl _ _⟩
  by_cases c1 : (1048576 : Int) < (len1 : Int)
  · go_enter Try.func5, Try.ntmps5
    go_wp2
    go_ret
    exact ⟨rfl, Below.refl _ _⟩
  go_enter Try.func5, Try.ntmps5
  go_wp2_with fail
  refine (drawMonCmp _ _ _ _ s0).mono ?_
  rintro e w1 ⟨o, x, y, d, z, x', y', d', z', rfl, b2⟩
  have z3 := Hid.mk' b2
  clear b2
  go_wp2_with fail
  have k5 := Hid.mk' (M4.box w1 29 (x) (y) (d) (z))
  have z6 := Hid.mk' (Below.alloc z3.out z3.out.size (.cells #[.int .i64 x, .int .i64 y, .int .i64 d, .int .i64 z] 29))
  have hs7 : Hid ((w1.alloc (.cells #[.int .i64 x, .int .i64 y, .int .i64 d, .int .i64 z] 29)).heap.size = w1.heap.size + 1) := by simp [Hid]
  clear z3
  generalize (w1.alloc (.cells #[.int .i64 x, .int .i64 y, .int .i64 d, .int .i64 z] 29)) = w4 at k5 z6 hs7 ⊢
  have k9 := Hid.mk' (M4.alloc (k5.out) (.cells #[.int .i64 x', .int .i64 y', .int .i64 d', .int .i64 z'] 29))
  have k10 : Hid (M4 (w4.alloc (.cells #[.int .i64 x', .int .i64 y', .int .i64 d', .int .i64 z'] 29)) (w1.heap.size + 1) (x') (y') (d') (z')) := by have hh := M4.box w4 29 (x') (y') (d') (z'); rw [hs7] at hh; exact hh
  have z11 := Hid.mk' (Below.alloc z6.out z6.out.size (.cells #[.int .i64 x', .int .i64 y', .int .i64 d', .int .i64 z'] 29))
  have hs12 : Hid ((w4.alloc (.cells #[.int .i64 x', .int .i64 y', .int .i64 d', .int .i64 z'] 29)).heap.size = w4.heap.size + 1) := by simp [Hid]
  clear k5 z6
  generalize (w4.alloc (.cells #[.int .i64 x', .int .i64 y', .int .i64 d', .int .i64 z'] 29)) = w8 at k9 k10 z11 hs12 ⊢
  refine (drawMonCmp _ _ _ _ (s1.below z11.out)).mono ?_
  rintro e w13 ⟨o', cx, cy, cd, cz, ux, uy, ud, uz, rfl, b14⟩
  have k15 := Hid.mk' ((k9.out).below b14)
  have k16 := Hid.mk' ((k10.out).below b14)
  have z17 := Hid.mk' (bel_next z11.out b14)
  clear k9 k10 z11 b14
  go_wp2_with fail
  have k19 := Hid.mk' (M4.alloc (k15.out) (.cells #[.int .i64 cx, .int .i64 cy, .int .i64 cd, .int .i64 cz] 29))
  have k20 := Hid.mk' (M4.alloc (k16.out) (.cells #[.int .i64 cx, .int .i64 cy, .int .i64 cd, .int .i64 cz] 29))
  have k21 := Hid.mk' (M4.box w13 29 (cx) (cy) (cd) (cz))
  have z22 := Hid.mk' (Below.alloc z17.out z17.out.size (.cells #[.int .i64 cx, .int .i64 cy, .int .i64 cd, .int .i64 cz] 29))
  have hs23 : Hid ((w13.alloc (.cells #[.int .i64 cx, .int .i64 cy, .int .i64 cd, .int .i64 cz] 29)).heap.size = w13.heap.size + 1) := by simp [Hid]
  clear k15 k16 z17
  generalize (w13.alloc (.cells #[.int .i64 cx, .int .i64 cy, .int .i64 cd, .int .i64 cz] 29)) = w18 at k19 k20 k21 z22 hs23 ⊢
  have k25 := Hid.mk' (M4.alloc (k19.out) (.cells #[.int .i64 ux, .int .i64 uy, .int .i64 ud, .int .i64 uz] 29))
  have k26 := Hid.mk' (M4.alloc (k20.out) (.cells #[.int .i64 ux, .int .i64 uy, .int .i64 ud, .int .i64 uz] 29))
  have k27 := Hid.mk' (M4.alloc (k21.out) (.cells #[.int .i64 ux, .int .i64 uy, .int .i64 ud, .int .i64 uz] 29))
  have k28 : Hid (M4 (w18.alloc (.cells #[.int .i64 ux, .int .i64 uy, .int .i64 ud, .int .i64 uz] 29)) (w13.heap.size + 1) (ux) (uy) (ud) (uz)) := by have hh := M4.box w18 29 (ux) (uy) (ud) (uz); rw [hs23] at hh; exact hh
  have z29 := Hid.mk' (Below.alloc z22.out z22.out.size (.cells #[.int .i64 ux, .int .i64 uy, .int .i64 ud, .int .i64 uz] 29))
  have hs30 : Hid ((w18.alloc (.cells #[.int .i64 ux, .int .i64 uy, .int .i64 ud, .int .i64 uz] 29)).heap.size = w18.heap.size + 1) := by simp [Hid]
  clear k19 k20 k21 z22
  generalize (w18.alloc (.cells #[.int .i64 ux, .int .i64 uy, .int .i64 ud, .int .i64 uz] 29)) = w24 at k25 k26 k27 k28 z29 hs30 ⊢
  obtain ⟨n, hn⟩ : ∃ n, M.cmp o ⟨x, y, d, z⟩ ⟨x', y', d', z'⟩ = n := ⟨_, rfl⟩
  have ne := Ext.there w24
  obtain ⟨s31, s32, s33, s34⟩ := M4.ext k25.out
  obtain ⟨s35, s36, s37, s38⟩ := M4.ext k26.out
  refine wp_region_ext (by kernel_rfl) (by kernel_rfl) ?_
  repeat (go_big_quiet_step (first | (go_at_call 15; refine ext_grows (monCmpI_of (by with_reducible assumption) _)) | (go_at_call 16; refine ext_grows (monCmpS_of (by with_reducible assumption) _)) | fail))
  refine wpQuiet_nil ?_
  rintro _ ⟨u39, rfl⟩
  clear ne s31 s32 s33 s34 s35 s36 s37 s38
  have k40 := Hid.mk' ((k25.out).below u39.2)
  have k41 := Hid.mk' ((k26.out).below u39.2)
  have k42 := Hid.mk' ((k27.out).below u39.2)
  have k43 := Hid.mk' ((k28.out).below u39.2)
  have z44 := Hid.mk' (bel_next z29.out u39.2)
  clear k25 k26 k27 k28 z29
  generalize u39.1 = w45 at k40 k41 k42 k43 z44 ⊢
  obtain ⟨c46, c47, c48, c49⟩ := k40.out
  have l50 := M4.lt k40.out
  obtain ⟨c51, c52, c53, c54⟩ := k42.out
  have l55 := M4.lt k42.out
  go_wp2_with fail
  clear c46 c47 c48 c49 l50 c51 c52 c53 c54 l55
  rcases M.mul_cases ⟨x, y, d, z⟩ ⟨cx, cy, cd, cz⟩ with ⟨h1, _⟩ | ⟨oa, oc, hs, h1, _⟩
  · obtain ⟨⟨⟨y1, y2, y3, y4⟩, ok2⟩, h2⟩ : ∃ r, M.mul ⟨x', y', d', z'⟩ ⟨cx, cy, cd, cz⟩ = r := ⟨_, rfl⟩
    refine (monMulI_of h1 _).mono ?_
    rintro e w56 ⟨rfl, b57⟩
    have k58 := Hid.mk' ((k40.out).below b57)
    have k59 := Hid.mk' ((k41.out).below b57)
    have k60 := Hid.mk' ((k42.out).below b57)
    have k61 := Hid.mk' ((k43.out).below b57)
    have z62 := Hid.mk' (bel_next z44.out b57)
    clear k40 k41 k42 k43 z44 b57
    obtain ⟨c63, c64, c65, c66⟩ := k59.out
    have l67 := M4.lt k59.out
    obtain ⟨c68, c69, c70, c71⟩ := k60.out
    have l72 := M4.lt k60.out
    go_wp2_with fail
    clear c63 c64 c65 c66 l67 c68 c69 c70 c71 l72
    have k74 := Hid.mk' (M4.alloc (k58.out) (.cells #[.int .i64 0, .int .i64 0, .int .i64 0, .int .i64 0] 29))
    have k75 := Hid.mk' (M4.alloc (k59.out) (.cells #[.int .i64 0, .int .i64 0, .int .i64 0, .int .i64 0] 29))
    have k76 := Hid.mk' (M4.alloc (k60.out) (.cells #[.int .i64 0, .int .i64 0, .int .i64 0, .int .i64 0] 29))
    have k77 := Hid.mk' (M4.alloc (k61.out) (.cells #[.int .i64 0, .int .i64 0, .int .i64 0, .int .i64 0] 29))
    have k78 := Hid.mk' (M4.box w56 29 (0) (0) (0) (0))
    have z79 := Hid.mk' (Below.alloc z62.out z62.out.size (.cells #[.int .i64 0, .int .i64 0, .int .i64 0, .int .i64 0] 29))
    have hs80 : Hid ((w56.alloc (.cells #[.int .i64 0, .int .i64 0, .int .i64 0, .int .i64 0] 29)).heap.size = w56.heap.size + 1) := by simp [Hid]
    clear k58 k59 k60 k61 z62
    generalize (w56.alloc (.cells #[.int .i64 0, .int .i64 0, .int .i64 0, .int .i64 0] 29)) = w73 at k74 k75 k76 k77 k78 z79 hs80 ⊢
    refine (monMulI_of h2 _).mono ?_
    rintro e w81 ⟨rfl, b82⟩
    have k83 := Hid.mk' ((k74.out).below b82)
    have k84 := Hid.mk' ((k75.out).below b82)
    have k85 := Hid.mk' ((k76.out).below b82)
    have k86 := Hid.mk' ((k77.out).below b82)
    have k87 := Hid.mk' ((k78.out).below b82)
    have z88 := Hid.mk' (bel_next z79.out b82)
    clear k74 k75 k76 k77 k78 z79 b82
    go_wp2_with fail
    have k90 := Hid.mk' (M4.alloc (k83.out) (.cells #[.int .i64 y1, .int .i64 y2, .int .i64 y3, .int .i64 y4] 29))
    have k91 := Hid.mk' (M4.alloc (k84.out) (.cells #[.int .i64 y1, .int .i64 y2, .int .i64 y3, .int .i64 y4] 29))
    have k92 := Hid.mk' (M4.alloc (k85.out) (.cells #[.int .i64 y1, .int .i64 y2, .int .i64 y3, .int .i64 y4] 29))
    have k93 := Hid.mk' (M4.alloc (k86.out) (.cells #[.int .i64 y1, .int .i64 y2, .int .i64 y3, .int .i64 y4] 29))
    have k94 := Hid.mk' (M4.alloc (k87.out) (.cells #[.int .i64 y1, .int .i64 y2, .int .i64 y3, .int .i64 y4] 29))
    have k95 := Hid.mk' (M4.box w81 29 (y1) (y2) (y3) (y4))
    have z96 := Hid.mk' (Below.alloc z88.out z88.out.size (.cells #[.int .i64 y1, .int .i64 y2, .int .i64 y3, .int .i64 y4] 29))
    have hs97 : Hid ((w81.alloc (.cells #[.int .i64 y1, .int .i64 y2, .int .i64 y3, .int .i64 y4] 29)).heap.size = w81.heap.size + 1) := by simp [Hid]
    clear k83 k84 k85 k86 k87 z88
    generalize (w81.alloc (.cells #[.int .i64 y1, .int .i64 y2, .int .i64 y3, .int .i64 y4] 29)) = w89 at k90 k91 k92 k93 k94 k95 z96 hs97 ⊢
    refine (heOkT _).mono ?_
    rintro e w98 ⟨rfl, b99⟩
    have k100 := Hid.mk' ((k90.out).below b99)
    have k101 := Hid.mk' ((k91.out).below b99)
    have k102 := Hid.mk' ((k92.out).below b99)
    have k103 := Hid.mk' ((k93.out).below b99)
    have k104 := Hid.mk' ((k94.out).below b99)
    have k105 := Hid.mk' ((k95.out).below b99)
    have z106 := Hid.mk' (bel_next z96.out b99)
    clear k90 k91 k92 k93 k94 k95 z96 b99
    go_wp2
    go_ret
    exact ⟨rfl, z106.out⟩
  · dsimp only at h1
    refine (monMulI_of h1 _).mono ?_
    rintro e w56 ⟨rfl, b57⟩
    have k58 := Hid.mk' ((k40.out).below b57)
    have k59 := Hid.mk' ((k41.out).below b57)
    have k60 := Hid.mk' ((k42.out).below b57)
    have k61 := Hid.mk' ((k43.out).below b57)
    have z62 := Hid.mk' (bel_next z44.out b57)
    clear k40 k41 k42 k43 z44 b57
    obtain ⟨c63, c64, c65, c66⟩ := k59.out
    have l67 := M4.lt k59.out
    obtain ⟨c68, c69, c70, c71⟩ := k60.out
    have l72 := M4.lt k60.out
    go_wp2_with fail
    clear c63 c64 c65 c66 l67 c68 c69 c70 c71 l72
    have k74 := Hid.mk' (M4.alloc (k58.out) (.cells #[.int .i64 (x + cx), .int .i64 (y + cy), .int .i64 (d + cd), .int .i64 (z + cz)] 29))
    have k75 := Hid.mk' (M4.alloc (k59.out) (.cells #[.int .i64 (x + cx), .int .i64 (y + cy), .int .i64 (d + cd), .int .i64 (z + cz)] 29))
    have k76 := Hid.mk' (M4.alloc (k60.out) (.cells #[.int .i64 (x + cx), .int .i64 (y + cy), .int .i64 (d + cd), .int .i64 (z + cz)] 29))
    have k77 := Hid.mk' (M4.alloc (k61.out) (.cells #[.int .i64 (x + cx), .int .i64 (y + cy), .int .i64 (d + cd), .int .i64 (z + cz)] 29))
    have k78 := Hid.mk' (M4.box w56 29 (x + cx) (y + cy) (d + cd) (z + cz))
    have z79 := Hid.mk' (Below.alloc z62.out z62.out.size (.cells #[.int .i64 (x + cx), .int .i64 (y + cy), .int .i64 (d + cd), .int .i64 (z + cz)] 29))
    have hs80 : Hid ((w56.alloc (.cells #[.int .i64 (x + cx), .int .i64 (y + cy), .int .i64 (d + cd), .int .i64 (z + cz)] 29)).heap.size = w56.heap.size + 1) := by simp [Hid]
    clear k58 k59 k60 k61 z62
    generalize (w56.alloc (.cells #[.int .i64 (x + cx), .int .i64 (y + cy), .int .i64 (d + cd), .int .i64 (z + cz)] 29)) = w73 at k74 k75 k76 k77 k78 z79 hs80 ⊢
    rcases M.mul_cases ⟨x', y', d', z'⟩ ⟨cx, cy, cd, cz⟩ with ⟨h2, _⟩ | ⟨ob, _, hs2, h2, _⟩
    · refine (monMulI_of h2 _).mono ?_
      rintro e w81 ⟨rfl, b82⟩
      have k83 := Hid.mk' ((k74.out).below b82)
      have k84 := Hid.mk' ((k75.out).below b82)
      have k85 := Hid.mk' ((k76.out).below b82)
      have k86 := Hid.mk' ((k77.out).below b82)
      have k87 := Hid.mk' ((k78.out).below b82)
      have z88 := Hid.mk' (bel_next z79.out b82)
      clear k74 k75 k76 k77 k78 z79 b82
      go_wp2_with fail
      have k90 := Hid.mk' (M4.alloc (k83.out) (.cells #[.int .i64 0, .int .i64 0, .int .i64 0, .int .i64 0] 29))
      have k91 := Hid.mk' (M4.alloc (k84.out) (.cells #[.int .i64 0, .int .i64 0, .int .i64 0, .int .i64 0] 29))
      have k92 := Hid.mk' (M4.alloc (k85.out) (.cells #[.int .i64 0, .int .i64 0, .int .i64 0, .int .i64 0] 29))
      have k93 := Hid.mk' (M4.alloc (k86.out) (.cells #[.int .i64 0, .int .i64 0, .int .i64 0, .int .i64 0] 29))
      have k94 := Hid.mk' (M4.alloc (k87.out) (.cells #[.int .i64 0, .int .i64 0, .int .i64 0, .int .i64 0] 29))
      have k95 := Hid.mk' (M4.box w81 29 (0) (0) (0) (0))
      have z96 := Hid.mk' (Below.alloc z88.out z88.out.size (.cells #[.int .i64 0, .int .i64 0, .int .i64 0, .int .i64 0] 29))
      have hs97 : Hid ((w81.alloc (.cells #[.int .i64 0, .int .i64 0, .int .i64 0, .int .i64 0] 29)).heap.size = w81.heap.size + 1) := by simp [Hid]
      clear k83 k84 k85 k86 k87 z88
      generalize (w81.alloc (.cells #[.int .i64 0, .int .i64 0, .int .i64 0, .int .i64 0] 29)) = w89 at k90 k91 k92 k93 k94 k95 z96 hs97 ⊢
      refine (heOkT _).mono ?_
      rintro e w98 ⟨rfl, b99⟩
      have k100 := Hid.mk' ((k90.out).below b99)
      have k101 := Hid.mk' ((k91.out).below b99)
      have k102 := Hid.mk' ((k92.out).below b99)
      have k103 := Hid.mk' ((k93.out).below b99)
      have k104 := Hid.mk' ((k94.out).below b99)
      have k105 := Hid.mk' ((k95.out).below b99)
      have z106 := Hid.mk' (bel_next z96.out b99)
      clear k90 k91 k92 k93 k94 k95 z96 b99
      go_wp2
      go_ret
      exact ⟨rfl, z106.out⟩
    · dsimp only at h2
      refine (monMulI_of h2 _).mono ?_
      rintro e w81 ⟨rfl, b82⟩
      have k83 := Hid.mk' ((k74.out).below b82)
      have k84 := Hid.mk' ((k75.out).below b82)
      have k85 := Hid.mk' ((k76.out).below b82)
      have k86 := Hid.mk' ((k77.out).below b82)
      have k87 := Hid.mk' ((k78.out).below b82)
      have z88 := Hid.mk' (bel_next z79.out b82)
      clear k74 k75 k76 k77 k78 z79 b82
      by_cases o1 : 1 ≤ o
      · by_cases o2 : o ≤ 3
        · have hxy := cmp_keeps ⟨o1, o2⟩ oa ob hs hs2
          have hxa0 := cmp_more ⟨o1, o2⟩ oa oc hs
          dsimp only [M.sum] at hxy hxa0
          rw [hn] at hxy
          obtain ⟨m, hxa⟩ : ∃ m, M.cmp o ⟨x + cx, y + cy, d + cd, z + cz⟩ ⟨x, y, d, z⟩ = m := ⟨_, rfl⟩
          rw [hxa] at hxa0
          go_wp2_with fail
          have k90 := Hid.mk' (M4.alloc (k83.out) (.cells #[.int .i64 (x' + cx), .int .i64 (y' + cy), .int .i64 (d' + cd), .int .i64 (z' + cz)] 29))
          have k91 := Hid.mk' (M4.alloc (k84.out) (.cells #[.int .i64 (x' + cx), .int .i64 (y' + cy), .int .i64 (d' + cd), .int .i64 (z' + cz)] 29))
          have k92 := Hid.mk' (M4.alloc (k85.out) (.cells #[.int .i64 (x' + cx), .int .i64 (y' + cy), .int .i64 (d' + cd), .int .i64 (z' + cz)] 29))
          have k93 := Hid.mk' (M4.alloc (k86.out) (.cells #[.int .i64 (x' + cx), .int .i64 (y' + cy), .int .i64 (d' + cd), .int .i64 (z' + cz)] 29))
          have k94 := Hid.mk' (M4.alloc (k87.out) (.cells #[.int .i64 (x' + cx), .int .i64 (y' + cy), .int .i64 (d' + cd), .int .i64 (z' + cz)] 29))
          have k95 := Hid.mk' (M4.box w81 29 (x' + cx) (y' + cy) (d' + cd) (z' + cz))
          have z96 := Hid.mk' (Below.alloc z88.out z88.out.size (.cells #[.int .i64 (x' + cx), .int .i64 (y' + cy), .int .i64 (d' + cd), .int .i64 (z' + cz)] 29))
          have hs97 : Hid ((w81.alloc (.cells #[.int .i64 (x' + cx), .int .i64 (y' + cy), .int .i64 (d' + cd), .int .i64 (z' + cz)] 29)).heap.size = w81.heap.size + 1) := by simp [Hid]
          clear k83 k84 k85 k86 k87 z88
          generalize (w81.alloc (.cells #[.int .i64 (x' + cx), .int .i64 (y' + cy), .int .i64 (d' + cd), .int .i64 (z' + cz)] 29)) = w89 at k90 k91 k92 k93 k94 k95 z96 hs97 ⊢
          have ne := Ext.there w89
          obtain ⟨s98, s99, s100, s101⟩ := M4.ext k94.out
          obtain ⟨s102, s103, s104, s105⟩ := M4.ext k95.out
          obtain ⟨s106, s107, s108, s109⟩ := M4.ext k90.out
          obtain ⟨s110, s111, s112, s113⟩ := M4.ext k91.out
          refine wp_region_ext (by kernel_rfl) (by kernel_rfl) ?_
          repeat (go_big_quiet_step (first | (go_at_call 15; refine ext_grows (monCmpI_of (by with_reducible assumption) _)) | (go_at_call 18; refine ext_grows (heOkT _)) | fail))
          refine wpQuiet_nil ?_
          rintro _ ⟨u114, rfl⟩
          clear ne s98 s99 s100 s101 s102 s103 s104 s105 s106 s107 s108 s109 s110 s111 s112 s113
          have k115 := Hid.mk' ((k90.out).below u114.2)
          have k116 := Hid.mk' ((k91.out).below u114.2)
          have k117 := Hid.mk' ((k92.out).below u114.2)
          have k118 := Hid.mk' ((k93.out).below u114.2)
          have k119 := Hid.mk' ((k94.out).below u114.2)
          have k120 := Hid.mk' ((k95.out).below u114.2)
          have z121 := Hid.mk' (bel_next z96.out u114.2)
          clear k90 k91 k92 k93 k94 k95 z96
          generalize u114.1 = w122 at k115 k116 k117 k118 k119 k120 z121 ⊢
          go_wp2
          go_ret
          exact ⟨rfl, z121.out⟩
        · have o3 : 3 < o := by omega
          clear o2
          go_wp2_with fail
          have k90 := Hid.mk' (M4.alloc (k83.out) (.cells #[.int .i64 (x' + cx), .int .i64 (y' + cy), .int .i64 (d' + cd), .int .i64 (z' + cz)] 29))
          have k91 := Hid.mk' (M4.alloc (k84.out) (.cells #[.int .i64 (x' + cx), .int .i64 (y' + cy), .int .i64 (d' + cd), .int .i64 (z' + cz)] 29))
          have k92 := Hid.mk' (M4.alloc (k85.out) (.cells #[.int .i64 (x' + cx), .int .i64 (y' + cy), .int .i64 (d' + cd), .int .i64 (z' + cz)] 29))
          have k93 := Hid.mk' (M4.alloc (k86.out) (.cells #[.int .i64 (x' + cx), .int .i64 (y' + cy), .int .i64 (d' + cd), .int .i64 (z' + cz)] 29))
          have k94 := Hid.mk' (M4.alloc (k87.out) (.cells #[.int .i64 (x' + cx), .int .i64 (y' + cy), .int .i64 (d' + cd), .int .i64 (z' + cz)] 29))
          have k95 := Hid.mk' (M4.box w81 29 (x' + cx) (y' + cy) (d' + cd) (z' + cz))
          have z96 := Hid.mk' (Below.alloc z88.out z88.out.size (.cells #[.int .i64 (x' + cx), .int .i64 (y' + cy), .int .i64 (d' + cd), .int .i64 (z' + cz)] 29))
          have hs97 : Hid ((w81.alloc (.cells #[.int .i64 (x' + cx), .int .i64 (y' + cy), .int .i64 (d' + cd), .int .i64 (z' + cz)] 29)).heap.size = w81.heap.size + 1) := by simp [Hid]
          clear k83 k84 k85 k86 k87 z88
          generalize (w81.alloc (.cells #[.int .i64 (x' + cx), .int .i64 (y' + cy), .int .i64 (d' + cd), .int .i64 (z' + cz)] 29)) = w89 at k90 k91 k92 k93 k94 k95 z96 hs97 ⊢
          refine (heOkT _).mono ?_
          rintro e w98 ⟨rfl, b99⟩
          have k100 := Hid.mk' ((k90.out).below b99)
          have k101 := Hid.mk' ((k91.out).below b99)
          have k102 := Hid.mk' ((k92.out).below b99)
          have k103 := Hid.mk' ((k93.out).below b99)
          have k104 := Hid.mk' ((k94.out).below b99)
          have k105 := Hid.mk' ((k95.out).below b99)
          have z106 := Hid.mk' (bel_next z96.out b99)
          clear k90 k91 k92 k93 k94 k95 z96 b99
          go_wp2
          go_ret
          exact ⟨rfl, z106.out⟩
      · have o3 : o < 1 := by omega
        clear o1
        go_wp2_with fail
        have k90 := Hid.mk' (M4.alloc (k83.out) (.cells #[.int .i64 (x' + cx), .int .i64 (y' + cy), .int .i64 (d' + cd), .int .i64 (z' + cz)] 29))
        have k91 := Hid.mk' (M4.alloc (k84.out) (.cells #[.int .i64 (x' + cx), .int .i64 (y' + cy), .int .i64 (d' + cd), .int .i64 (z' + cz)] 29))
        have k92 := Hid.mk' (M4.alloc (k85.out) (.cells #[.int .i64 (x' + cx), .int .i64 (y' + cy), .int .i64 (d' + cd), .int .i64 (z' + cz)] 29))
        have k93 := Hid.mk' (M4.alloc (k86.out) (.cells #[.int .i64 (x' + cx), .int .i64 (y' + cy), .int .i64 (d' + cd), .int .i64 (z' + cz)] 29))
        have k94 := Hid.mk' (M4.alloc (k87.out) (.cells #[.int .i64 (x' + cx), .int .i64 (y' + cy), .int .i64 (d' + cd), .int .i64 (z' + cz)] 29))
        have k95 := Hid.mk' (M4.box w81 29 (x' + cx) (y' + cy) (d' + cd) (z' + cz))
        have z96 := Hid.mk' (Below.alloc z88.out z88.out.size (.cells #[.int .i64 (x' + cx), .int .i64 (y' + cy), .int .i64 (d' + cd), .int .i64 (z' + cz)] 29))
        have hs97 : Hid ((w81.alloc (.cells #[.int .i64 (x' + cx), .int .i64 (y' + cy), .int .i64 (d' + cd), .int .i64 (z' + cz)] 29)).heap.size = w81.heap.size + 1) := by simp [Hid]
        clear k83 k84 k85 k86 k87 z88
        generalize (w81.alloc (.cells #[.int .i64 (x' + cx), .int .i64 (y' + cy), .int .i64 (d' + cd), .int .i64 (z' + cz)] 29)) = w89 at k90 k91 k92 k93 k94 k95 z96 hs97 ⊢
        refine (heOkT _).mono ?_
        rintro e w98 ⟨rfl, b99⟩
        have k100 := Hid.mk' ((k90.out).below b99)
        have k101 := Hid.mk' ((k91.out).below b99)
        have k102 := Hid.mk' ((k92.out).below b99)
        have k103 := Hid.mk' ((k93.out).below b99)
        have k104 := Hid.mk' ((k94.out).below b99)
        have k105 := Hid.mk' ((k95.out).below b99)
        have z106 := Hid.mk' (bel_next z96.out b99)
        clear k90 k91 k92 k93 k94 k95 z96 b99
        go_wp2
        go_ret
        exact ⟨rfl, z106.out⟩
end Go.Proofs.Ytfnlogmfkpaaiab
