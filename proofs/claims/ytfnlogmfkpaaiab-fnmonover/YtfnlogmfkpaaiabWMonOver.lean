/-
  The walk of a law over monomials: whatever the codes, it comes out true, and nothing that was there is turned.
-/
import Derived.Test.YtfnlogmfkpaaiabLawM
namespace Go.Proofs.Ytfnlogmfkpaaiab
open Go.RowKit
set_option linter.unusedVariables false
set_option maxRecDepth 100000 in
set_option maxHeartbeats 40000000 in
theorem walk_FnMonOver (w : World) (a0 : Option Addr) (len0 cap0 : Nat) (s0 : Src w a0 len0 cap0) :
    Calls Try.prog 7 #[.slice a0 len0 cap0] w fun e w' => e = .returned (.bool true) ∧ Below w.heap.size w w' := by
  by_cases c0 : (1048576 : Int) < (len0 : Int)
  · go_enter Try.func7, Try.ntmps7
    go_wp2
    go_ret
    exact ⟨rfl, Below.refl _ _⟩
  go_enter Try.func7, Try.ntmps7
  go_wp2_with fail
  refine (drawMonOver _ _ _ _ s0).mono ?_
  rintro e w1 ⟨x, y, d, z, x', y', d', z', rfl, b2⟩
  have z3 := Hid.mk' b2
  clear b2
  go_wp2_with fail
  have k5 := Hid.mk' (M4.box w1 29 (x) (y) (d) (z))
  have z6 := Hid.mk' (Below.alloc z3.out z3.out.size (.cells #[.int .i64 x, .int .i64 y, .int .i64 d, .int .i64 z] 29))
  have hs7 : Hid ((w1.alloc (.cells #[.int .i64 x, .int .i64 y, .int .i64 d, .int .i64 z] 29)).heap.size = w1.heap.size + 1) := by simp [Hid]
  clear z3
  generalize (w1.alloc (.cells #[.int .i64 x, .int .i64 y, .int .i64 d, .int .i64 z] 29)) = w4 at k5 z6 hs7 ⊢
  have k9 := Hid.mk' (M4.alloc (k5.out) (.cells #[.int .i64 x', .int .i64 y', .int .i64 d', .int .i64 z'] 29))
  have k10 : Hid (M4 (w4.alloc (.cells #[.int .i64 x', .int .i64 y', .int .i64 d', .int .i64 z'] 29)) (w1.heap.size + 1) (x') (y') (d') (z')) := by have hh := M4.box w4 29 (x') (y') (d') (z'); rw [hs7] at hh; exact hh
  have z11 := Hid.mk' (Below.alloc z6.out z6.out.size (.cells #[.int .i64 x', .int .i64 y', .int .i64 d', .int .i64 z'] 29))
  have hs12 : Hid ((w4.alloc (.cells #[.int .i64 x', .int .i64 y', .int .i64 d', .int .i64 z'] 29)).heap.size = w4.heap.size + 1) := by simp [Hid]
  clear k5 z6
  generalize (w4.alloc (.cells #[.int .i64 x', .int .i64 y', .int .i64 d', .int .i64 z'] 29)) = w8 at k9 k10 z11 hs12 ⊢
  cases hd : M.dvd ⟨x', y', d', z'⟩ ⟨x, y, d, z⟩
  · have h1 : M.over ⟨x, y, d, z⟩ ⟨x', y', d', z'⟩ = (⟨0, 0, 0, 0⟩, false) := by rw [M.over, if_neg (by simp [hd])]; rfl
    refine (monOverI_of h1 _).mono ?_
    rintro e w13 ⟨rfl, b14⟩
    have k15 := Hid.mk' ((k9.out).below b14)
    have k16 := Hid.mk' ((k10.out).below b14)
    have z17 := Hid.mk' (bel_next z11.out b14)
    clear k9 k10 z11 b14
    obtain ⟨c18, c19, c20, c21⟩ := k16.out
    have l22 := M4.lt k16.out
    obtain ⟨c23, c24, c25, c26⟩ := k15.out
    have l27 := M4.lt k15.out
    go_wp2_with fail
    clear c18 c19 c20 c21 l22 c23 c24 c25 c26 l27
    have k29 := Hid.mk' (M4.alloc (k15.out) (.cells #[.int .i64 0, .int .i64 0, .int .i64 0, .int .i64 0] 29))
    have k30 := Hid.mk' (M4.alloc (k16.out) (.cells #[.int .i64 0, .int .i64 0, .int .i64 0, .int .i64 0] 29))
    have k31 := Hid.mk' (M4.box w13 29 (0) (0) (0) (0))
    have z32 := Hid.mk' (Below.alloc z17.out z17.out.size (.cells #[.int .i64 0, .int .i64 0, .int .i64 0, .int .i64 0] 29))
    have hs33 : Hid ((w13.alloc (.cells #[.int .i64 0, .int .i64 0, .int .i64 0, .int .i64 0] 29)).heap.size = w13.heap.size + 1) := by simp [Hid]
    clear k15 k16 z17
    generalize (w13.alloc (.cells #[.int .i64 0, .int .i64 0, .int .i64 0, .int .i64 0] 29)) = w28 at k29 k30 k31 z32 hs33 ⊢
    refine (monOverS_of h1 _).mono ?_
    rintro e w34 ⟨rfl, b35⟩
    have k36 := Hid.mk' ((k29.out).below b35)
    have k37 := Hid.mk' ((k30.out).below b35)
    have k38 := Hid.mk' ((k31.out).below b35)
    have z39 := Hid.mk' (bel_next z32.out b35)
    clear k29 k30 k31 z32 b35
    obtain ⟨c40, c41, c42, c43⟩ := k37.out
    have l44 := M4.lt k37.out
    obtain ⟨c45, c46, c47, c48⟩ := k36.out
    have l49 := M4.lt k36.out
    obtain ⟨c50, c51, c52, c53⟩ := k38.out
    have l54 := M4.lt k38.out
    go_wp2_with fail
    clear c40 c41 c42 c43 l44 c45 c46 c47 c48 l49 c50 c51 c52 c53 l54
    have k56 := Hid.mk' (M4.alloc (k36.out) (.cells #[.int .i64 0, .int .i64 0, .int .i64 0, .int .i64 0] 29))
    have k57 := Hid.mk' (M4.alloc (k37.out) (.cells #[.int .i64 0, .int .i64 0, .int .i64 0, .int .i64 0] 29))
    have k58 := Hid.mk' (M4.alloc (k38.out) (.cells #[.int .i64 0, .int .i64 0, .int .i64 0, .int .i64 0] 29))
    have k59 := Hid.mk' (M4.box w34 29 (0) (0) (0) (0))
    have z60 := Hid.mk' (Below.alloc z39.out z39.out.size (.cells #[.int .i64 0, .int .i64 0, .int .i64 0, .int .i64 0] 29))
    have hs61 : Hid ((w34.alloc (.cells #[.int .i64 0, .int .i64 0, .int .i64 0, .int .i64 0] 29)).heap.size = w34.heap.size + 1) := by simp [Hid]
    clear k36 k37 k38 z39
    generalize (w34.alloc (.cells #[.int .i64 0, .int .i64 0, .int .i64 0, .int .i64 0] 29)) = w55 at k56 k57 k58 k59 z60 hs61 ⊢
    refine (monDividesI_of hd _).mono ?_
    rintro e w62 ⟨rfl, b63⟩
    have k64 := Hid.mk' ((k56.out).below b63)
    have k65 := Hid.mk' ((k57.out).below b63)
    have k66 := Hid.mk' ((k58.out).below b63)
    have k67 := Hid.mk' ((k59.out).below b63)
    have z68 := Hid.mk' (bel_next z60.out b63)
    clear k56 k57 k58 k59 z60 b63
    obtain ⟨c69, c70, c71, c72⟩ := k66.out
    have l73 := M4.lt k66.out
    go_wp2_with fail
    clear c69 c70 c71 c72 l73
    refine (heOkT _).mono ?_
    rintro e w74 ⟨rfl, b75⟩
    have k76 := Hid.mk' ((k64.out).below b75)
    have k77 := Hid.mk' ((k65.out).below b75)
    have k78 := Hid.mk' ((k66.out).below b75)
    have k79 := Hid.mk' ((k67.out).below b75)
    have z80 := Hid.mk' (bel_next z68.out b75)
    clear k64 k65 k66 k67 z68 b75
    go_wp2
    go_ret
    exact ⟨rfl, z80.out⟩
  · obtain ⟨oa, ob, hle⟩ := M.dvd_iff hd
    have ka := M.ok_iff.1 oa
    have kb := M.ok_iff.1 ob
    have h1 : M.over ⟨x, y, d, z⟩ ⟨x', y', d', z'⟩ = (⟨x - x', y - y', d - d', z - z'⟩, true) := by rw [M.over, if_pos hd]; rfl
    have hok : M.ok ⟨x - x', y - y', d - d', z - z'⟩ = true := M.ok_iff.2 (by dsimp only at ka kb hle ⊢; omega)
    have hsum : M.sum ⟨x', y', d', z'⟩ ⟨x - x', y - y', d - d', z - z'⟩ = ⟨x, y, d, z⟩ := by simp only [M.sum, M.mk.injEq]; omega
    have h3 : M.mul ⟨x', y', d', z'⟩ ⟨x - x', y - y', d - d', z - z'⟩ = (⟨x, y, d, z⟩, true) := by rw [M.mul, hsum, if_pos ⟨oa, hok, ob⟩]
    clear ka kb hle hsum
    refine (monOverI_of h1 _).mono ?_
    rintro e w13 ⟨rfl, b14⟩
    have k15 := Hid.mk' ((k9.out).below b14)
    have k16 := Hid.mk' ((k10.out).below b14)
    have z17 := Hid.mk' (bel_next z11.out b14)
    clear k9 k10 z11 b14
    obtain ⟨c18, c19, c20, c21⟩ := k16.out
    have l22 := M4.lt k16.out
    obtain ⟨c23, c24, c25, c26⟩ := k15.out
    have l27 := M4.lt k15.out
    go_wp2_with fail
    clear c18 c19 c20 c21 l22 c23 c24 c25 c26 l27
    have k29 := Hid.mk' (M4.alloc (k15.out) (.cells #[.int .i64 (x - x'), .int .i64 (y - y'), .int .i64 (d - d'), .int .i64 (z - z')] 29))
    have k30 := Hid.mk' (M4.alloc (k16.out) (.cells #[.int .i64 (x - x'), .int .i64 (y - y'), .int .i64 (d - d'), .int .i64 (z - z')] 29))
    have k31 := Hid.mk' (M4.box w13 29 (x - x') (y - y') (d - d') (z - z'))
    have z32 := Hid.mk' (Below.alloc z17.out z17.out.size (.cells #[.int .i64 (x - x'), .int .i64 (y - y'), .int .i64 (d - d'), .int .i64 (z - z')] 29))
    have hs33 : Hid ((w13.alloc (.cells #[.int .i64 (x - x'), .int .i64 (y - y'), .int .i64 (d - d'), .int .i64 (z - z')] 29)).heap.size = w13.heap.size + 1) := by simp [Hid]
    clear k15 k16 z17
    generalize (w13.alloc (.cells #[.int .i64 (x - x'), .int .i64 (y - y'), .int .i64 (d - d'), .int .i64 (z - z')] 29)) = w28 at k29 k30 k31 z32 hs33 ⊢
    refine (monOverS_of h1 _).mono ?_
    rintro e w34 ⟨rfl, b35⟩
    have k36 := Hid.mk' ((k29.out).below b35)
    have k37 := Hid.mk' ((k30.out).below b35)
    have k38 := Hid.mk' ((k31.out).below b35)
    have z39 := Hid.mk' (bel_next z32.out b35)
    clear k29 k30 k31 z32 b35
    obtain ⟨c40, c41, c42, c43⟩ := k37.out
    have l44 := M4.lt k37.out
    obtain ⟨c45, c46, c47, c48⟩ := k36.out
    have l49 := M4.lt k36.out
    obtain ⟨c50, c51, c52, c53⟩ := k38.out
    have l54 := M4.lt k38.out
    go_wp2_with fail
    clear c40 c41 c42 c43 l44 c45 c46 c47 c48 l49 c50 c51 c52 c53 l54
    have k56 := Hid.mk' (M4.alloc (k36.out) (.cells #[.int .i64 (x - x'), .int .i64 (y - y'), .int .i64 (d - d'), .int .i64 (z - z')] 29))
    have k57 := Hid.mk' (M4.alloc (k37.out) (.cells #[.int .i64 (x - x'), .int .i64 (y - y'), .int .i64 (d - d'), .int .i64 (z - z')] 29))
    have k58 := Hid.mk' (M4.alloc (k38.out) (.cells #[.int .i64 (x - x'), .int .i64 (y - y'), .int .i64 (d - d'), .int .i64 (z - z')] 29))
    have k59 := Hid.mk' (M4.box w34 29 (x - x') (y - y') (d - d') (z - z'))
    have z60 := Hid.mk' (Below.alloc z39.out z39.out.size (.cells #[.int .i64 (x - x'), .int .i64 (y - y'), .int .i64 (d - d'), .int .i64 (z - z')] 29))
    have hs61 : Hid ((w34.alloc (.cells #[.int .i64 (x - x'), .int .i64 (y - y'), .int .i64 (d - d'), .int .i64 (z - z')] 29)).heap.size = w34.heap.size + 1) := by simp [Hid]
    clear k36 k37 k38 z39
    generalize (w34.alloc (.cells #[.int .i64 (x - x'), .int .i64 (y - y'), .int .i64 (d - d'), .int .i64 (z - z')] 29)) = w55 at k56 k57 k58 k59 z60 hs61 ⊢
    refine (monDividesI_of hd _).mono ?_
    rintro e w62 ⟨rfl, b63⟩
    have k64 := Hid.mk' ((k56.out).below b63)
    have k65 := Hid.mk' ((k57.out).below b63)
    have k66 := Hid.mk' ((k58.out).below b63)
    have k67 := Hid.mk' ((k59.out).below b63)
    have z68 := Hid.mk' (bel_next z60.out b63)
    clear k56 k57 k58 k59 z60 b63
    obtain ⟨c69, c70, c71, c72⟩ := k65.out
    have l73 := M4.lt k65.out
    obtain ⟨c74, c75, c76, c77⟩ := k66.out
    have l78 := M4.lt k66.out
    go_wp2_with fail
    clear c69 c70 c71 c72 l73 c74 c75 c76 c77 l78
    refine (monMulI_of h3 _).mono ?_
    rintro e w79 ⟨rfl, b80⟩
    have k81 := Hid.mk' ((k64.out).below b80)
    have k82 := Hid.mk' ((k65.out).below b80)
    have k83 := Hid.mk' ((k66.out).below b80)
    have k84 := Hid.mk' ((k67.out).below b80)
    have z85 := Hid.mk' (bel_next z68.out b80)
    clear k64 k65 k66 k67 z68 b80
    obtain ⟨c86, c87, c88, c89⟩ := k81.out
    have l90 := M4.lt k81.out
    obtain ⟨c91, c92, c93, c94⟩ := k83.out
    have l95 := M4.lt k83.out
    go_wp2_with fail
    clear c86 c87 c88 c89 l90 c91 c92 c93 c94 l95
    have k97 := Hid.mk' (M4.alloc (k81.out) (.cells #[.int .i64 x, .int .i64 y, .int .i64 d, .int .i64 z] 29))
    have k98 := Hid.mk' (M4.alloc (k82.out) (.cells #[.int .i64 x, .int .i64 y, .int .i64 d, .int .i64 z] 29))
    have k99 := Hid.mk' (M4.alloc (k83.out) (.cells #[.int .i64 x, .int .i64 y, .int .i64 d, .int .i64 z] 29))
    have k100 := Hid.mk' (M4.alloc (k84.out) (.cells #[.int .i64 x, .int .i64 y, .int .i64 d, .int .i64 z] 29))
    have k101 := Hid.mk' (M4.box w79 29 (x) (y) (d) (z))
    have z102 := Hid.mk' (Below.alloc z85.out z85.out.size (.cells #[.int .i64 x, .int .i64 y, .int .i64 d, .int .i64 z] 29))
    have hs103 : Hid ((w79.alloc (.cells #[.int .i64 x, .int .i64 y, .int .i64 d, .int .i64 z] 29)).heap.size = w79.heap.size + 1) := by simp [Hid]
    clear k81 k82 k83 k84 z85
    generalize (w79.alloc (.cells #[.int .i64 x, .int .i64 y, .int .i64 d, .int .i64 z] 29)) = w96 at k97 k98 k99 k100 k101 z102 hs103 ⊢
    refine (monOkI_of hok _).mono ?_
    rintro e w104 ⟨rfl, b105⟩
    have k106 := Hid.mk' ((k97.out).below b105)
    have k107 := Hid.mk' ((k98.out).below b105)
    have k108 := Hid.mk' ((k99.out).below b105)
    have k109 := Hid.mk' ((k100.out).below b105)
    have k110 := Hid.mk' ((k101.out).below b105)
    have z111 := Hid.mk' (bel_next z102.out b105)
    clear k97 k98 k99 k100 k101 z102 b105
    go_wp2_with fail
    refine (heOkT _).mono ?_
    rintro e w112 ⟨rfl, b113⟩
    have k114 := Hid.mk' ((k106.out).below b113)
    have k115 := Hid.mk' ((k107.out).below b113)
    have k116 := Hid.mk' ((k108.out).below b113)
    have k117 := Hid.mk' ((k109.out).below b113)
    have k118 := Hid.mk' ((k110.out).below b113)
    have z119 := Hid.mk' (bel_next z111.out b113)
    clear k106 k107 k108 k109 k110 z111 b113
    go_wp2
    go_ret
    exact ⟨rfl, z119.out⟩
end Go.Proofs.Ytfnlogmfkpaaiab
