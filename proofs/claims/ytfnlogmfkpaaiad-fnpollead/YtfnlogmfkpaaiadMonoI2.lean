/-
  More of the program's chapter 2: how two monomials stand in an order, their product, what divides, what is left.
-/
import Derived.Test.YtfnlogmfkpaaiadMonoI
namespace Go.Proofs.Ytfnlogmfkpaaiad
open Go.RowKit
set_option linter.unusedVariables false

theorem c3_of {a b a' b' : Int} (h1 : a < b ↔ a' < b') (h2 : b < a ↔ b' < a') : c3 a b = c3 a' b' := by unfold c3; simp only [h1, h2]
theorem rk_lex {a b : M} (ha : a.ok = true) (hb : b.ok = true) : c3 (rkL a) (rkL b) = M.lex a b := by
  obtain ⟨x1, x2, y1, y2, d1, d2, e1, e2⟩ := M.ok_iff.1 ha
  obtain ⟨x3, x4, y3, y4, d3, d4, e3, e4⟩ := M.ok_iff.1 hb
  by_cases hd : a.d = b.d
  · by_cases he : a.e = b.e
    · by_cases hx : a.x = b.x
      · have h : M.lex a b = c3 a.y b.y := by simp [M.lex, hd, he, hx]
        rw [h]; exact c3_of (by unfold rkL; omega) (by unfold rkL; omega)
      · have h : M.lex a b = c3 a.x b.x := by simp [M.lex, hd, he, hx]
        rw [h]; exact c3_of (by unfold rkL; omega) (by unfold rkL; omega)
    · have h : M.lex a b = c3 a.e b.e := by simp [M.lex, hd, he]
      rw [h]; exact c3_of (by unfold rkL; omega) (by unfold rkL; omega)
  · have h : M.lex a b = c3 a.d b.d := by simp [M.lex, hd]
    rw [h]; exact c3_of (by unfold rkL; omega) (by unfold rkL; omega)
theorem rk_deg {a b : M} (ha : a.ok = true) (hb : b.ok = true) : c3 (rkD a) (rkD b) = M.ord 1 a b := by
  obtain ⟨x1, x2, y1, y2, d1, d2, e1, e2⟩ := M.ok_iff.1 ha
  obtain ⟨x3, x4, y3, y4, d3, d4, e3, e4⟩ := M.ok_iff.1 hb
  have da : a.deg = a.x + a.y + a.d + a.e := by simp [M.deg, ha]
  have db : b.deg = b.x + b.y + b.d + b.e := by simp [M.deg, hb]
  have la : 0 ≤ rkL a ∧ rkL a ≤ 65535 := by simp only [rkL]; omega
  have lb : 0 ≤ rkL b ∧ rkL b ≤ 65535 := by simp only [rkL]; omega
  by_cases h : a.deg = b.deg
  · have e1 : M.ord 1 a b = M.lex a b := by simp [M.ord, h]
    rw [e1, ← rk_lex ha hb]
    rw [da, db] at h
    exact c3_of (by unfold rkD; omega) (by unfold rkD; omega)
  · have e1 : M.ord 1 a b = c3 a.deg b.deg := by simp [M.ord, h]
    rw [e1, da, db]
    rw [da, db] at h
    exact c3_of (by unfold rkD; omega) (by unfold rkD; omega)
theorem rk_out {a b : M} (ha : a.ok = true) (hb : b.ok = true) : c3 (rkO a) (rkO b) = M.ord 3 a b := by
  obtain ⟨x1, x2, y1, y2, d1, d2, e1, e2⟩ := M.ok_iff.1 ha
  obtain ⟨x3, x4, y3, y4, d3, d4, e3, e4⟩ := M.ok_iff.1 hb
  have la : 0 ≤ rkL a ∧ rkL a ≤ 65535 := by simp only [rkL]; omega
  have lb : 0 ≤ rkL b ∧ rkL b ≤ 65535 := by simp only [rkL]; omega
  by_cases h : a.d + a.x = b.d + b.x
  · have e1 : M.ord 3 a b = M.lex a b := by simp [M.ord, h]
    rw [e1, ← rk_lex ha hb]
    exact c3_of (by unfold rkO; omega) (by unfold rkO; omega)
  · have e1 : M.ord 3 a b = c3 (a.d + a.x) (b.d + b.x) := by simp [M.ord, h]
    rw [e1]
    exact c3_of (by unfold rkO; omega) (by unfold rkO; omega)
theorem rk_two {a b : M} (ha : a.ok = true) (hb : b.ok = true) : c3 (rkL a) (rkL b) = M.ord 2 a b := by
  rw [rk_lex ha hb]; simp [M.ord]
theorem nanI (a : Int) (w : World) : Calls Try.prog 60 #[.int .i64 a] w fun r w' => r = .returned (.bool false) ∧ w' = w := by
  go_enter Try.func60, Try.ntmps60
  go_wp2
  go_ret
  exact ⟨by simp, rfl⟩
theorem compareI (a b : Int) (w : World) : Calls Try.prog 45 #[.int .i64 a, .int .i64 b] w fun r w' => r = .returned (.int .i64 (c3 a b)) ∧ w' = w := by
  by_cases h1 : a < b
  · have e1 : c3 a b = -1 := by simp [c3, h1]
    rw [e1]
    go_enter Try.func45, Try.ntmps45
    go_wp2_with (first | (go_at_call 60; refine (nanI _ _).mono ?_; rintro r w' ⟨rfl, rfl⟩))
    go_ret
    exact ⟨rfl, rfl⟩
  · by_cases h2 : b < a
    · have e1 : c3 a b = 1 := by simp [c3, h1, h2]
      rw [e1]
      go_enter Try.func45, Try.ntmps45
      go_wp2_with (first | (go_at_call 60; refine (nanI _ _).mono ?_; rintro r w' ⟨rfl, rfl⟩))
      go_ret
      exact ⟨rfl, rfl⟩
    · have e1 : c3 a b = 0 := by simp [c3, h1, h2]
      rw [e1]
      go_enter Try.func45, Try.ntmps45
      go_wp2_with (first | (go_at_call 60; refine (nanI _ _).mono ?_; rintro r w' ⟨rfl, rfl⟩))
      go_ret
      exact ⟨rfl, rfl⟩
set_option maxHeartbeats 400000 in
theorem ordRankI_out (o : Int) (w : World) (h : o < 1 ∨ 3 < o) : Calls Try.prog 42 #[.int .i64 o] w fun r w' => r = .returned (.tuple #[.nilFunc, .bool false]) ∧ Below w.heap.size w w' := by
  rcases h with h | h
  all_goals
    go_enter Try.func42, Try.ntmps42
    go_wp2
    go_ret2
    exact ⟨rfl, bel_one w _⟩
set_option maxHeartbeats 400000 in
theorem ordRankI1 (w : World) : Calls Try.prog 42 #[.int .i64 1] w fun r w' => r = .returned (.tuple #[.func (.func 51) #[] #[], .bool true]) ∧ Below w.heap.size w w' := by
  go_enter Try.func42, Try.ntmps42
  go_wp2
  go_ret2
  exact ⟨rfl, bel_one w _⟩
set_option maxHeartbeats 400000 in
theorem ordRankI2 (w : World) : Calls Try.prog 42 #[.int .i64 2] w fun r w' => r = .returned (.tuple #[.func (.func 57) #[] #[], .bool true]) ∧ Below w.heap.size w w' := by
  go_enter Try.func42, Try.ntmps42
  go_wp2
  go_ret2
  exact ⟨rfl, bel_one w _⟩
set_option maxHeartbeats 400000 in
theorem ordRankI3 (w : World) : Calls Try.prog 42 #[.int .i64 3] w fun r w' => r = .returned (.tuple #[.func (.func 58) #[] #[], .bool true]) ∧ Below w.heap.size w w' := by
  go_enter Try.func42, Try.ntmps42
  go_wp2
  go_ret2
  exact ⟨rfl, bel_one w _⟩
theorem ordRankI_in (o : Int) (w : World) (h1 : 1 ≤ o) (h2 : o ≤ 3) : Calls Try.prog 42 #[.int .i64 o] w fun r w' => ∃ fv, r = .returned (.tuple #[fv, .bool true]) ∧ Below w.heap.size w w' := by
  have ho3 : o = 1 ∨ o = 2 ∨ o = 3 := by omega
  rcases ho3 with rfl | rfl | rfl
  · exact (ordRankI1 w).mono fun _ _ h => ⟨_, h⟩
  · exact (ordRankI2 w).mono fun _ _ h => ⟨_, h⟩
  · exact (ordRankI3 w).mono fun _ _ h => ⟨_, h⟩
set_option maxHeartbeats 1000000 in
theorem monCmpI1 (x y d e x' y' d' e' : Int) (w : World) (ha : M.ok ⟨x, y, d, e⟩ = true) (hb : M.ok ⟨x', y', d', e'⟩ = true) :
    Calls Try.prog 20 #[.int .i64 1, .agg #[.int .i64 x, .int .i64 y, .int .i64 d, .int .i64 e], .agg #[.int .i64 x', .int .i64 y', .int .i64 d', .int .i64 e']] w fun r w' => r = .returned (.int .i64 (M.ord 1 ⟨x, y, d, e⟩ ⟨x', y', d', e'⟩)) ∧ Below w.heap.size w w' := by
  rw [← rk_deg ha hb]
  have HA := Hid.mk' ha
  have HB := Hid.mk' hb
  clear ha hb
  go_enter Try.func20, Try.ntmps20
  go_wp2_with fail
  refine (ordRankI1 _).mono ?_
  rintro r w1 ⟨rfl, hb1⟩
  obtain ⟨hc1, hf1⟩ := bcell hb1
  have hz1 : w.heap.size + 1 < w1.heap.size := by have := hb1.size; simp at this; omega
  have hy1 : w.heap.size < w1.heap.size := by omega
  have B1 := Hid.mk' (bel_next (bel_two w _ _) hb1)
  clear hb1
  go_wp2_with fail
  refine (monOkI_of HA.out _).mono ?_
  rintro r w2 ⟨rfl, hb2⟩
  obtain ⟨hc2, hf2⟩ := bcell hb2
  have hz2 : w.heap.size + 1 < w2.heap.size := by have := hb2.size; omega
  have hy2 : w.heap.size < w2.heap.size := by omega
  have B2 := Hid.mk' (bel_next B1.out hb2)
  clear hb2
  go_wp2_with fail
  refine (monOkI_of HB.out _).mono ?_
  rintro r w3 ⟨rfl, hb3⟩
  obtain ⟨hc3, hf3⟩ := bcell hb3
  have hz3 : w.heap.size + 1 < w3.heap.size := by have := hb3.size; omega
  have hy3 : w.heap.size < w3.heap.size := by omega
  have B3 := Hid.mk' (bel_next B2.out hb3)
  have a0 : w3.cell? ⟨w.heap.size, 0, none⟩ = some (.int .i64 x) := by go_simp
  have a1 : w3.cell? ⟨w.heap.size, 1, none⟩ = some (.int .i64 y) := by go_simp
  have a2 : w3.cell? ⟨w.heap.size, 2, none⟩ = some (.int .i64 d) := by go_simp
  have a3 : w3.cell? ⟨w.heap.size, 3, none⟩ = some (.int .i64 e) := by go_simp
  have b0 : w3.cell? ⟨w.heap.size + 1, 0, none⟩ = some (.int .i64 x') := by go_simp
  have b1 : w3.cell? ⟨w.heap.size + 1, 1, none⟩ = some (.int .i64 y') := by go_simp
  have b2 : w3.cell? ⟨w.heap.size + 1, 2, none⟩ = some (.int .i64 d') := by go_simp
  have b3 : w3.cell? ⟨w.heap.size + 1, 3, none⟩ = some (.int .i64 e') := by go_simp
  have ne := Ext.there w3
  have s0 : ∀ u : Ext w3, u.1.cell? ⟨w.heap.size, 0, none⟩ = some (.int .i64 x) := fun u => (u.cell hy3).trans a0
  have s1 : ∀ u : Ext w3, u.1.cell? ⟨w.heap.size, 1, none⟩ = some (.int .i64 y) := fun u => (u.cell hy3).trans a1
  have s2 : ∀ u : Ext w3, u.1.cell? ⟨w.heap.size, 2, none⟩ = some (.int .i64 d) := fun u => (u.cell hy3).trans a2
  have s3 : ∀ u : Ext w3, u.1.cell? ⟨w.heap.size, 3, none⟩ = some (.int .i64 e) := fun u => (u.cell hy3).trans a3
  have t0 : ∀ u : Ext w3, u.1.cell? ⟨w.heap.size + 1, 0, none⟩ = some (.int .i64 x') := fun u => (u.cell hz3).trans b0
  have t1 : ∀ u : Ext w3, u.1.cell? ⟨w.heap.size + 1, 1, none⟩ = some (.int .i64 y') := fun u => (u.cell hz3).trans b1
  have t2 : ∀ u : Ext w3, u.1.cell? ⟨w.heap.size + 1, 2, none⟩ = some (.int .i64 d') := fun u => (u.cell hz3).trans b2
  have t3 : ∀ u : Ext w3, u.1.cell? ⟨w.heap.size + 1, 3, none⟩ = some (.int .i64 e') := fun u => (u.cell hz3).trans b3
  clear hb3 hc1 hf1 hc2 hf2 hc3 hf3 a0 a1 a2 a3 b0 b1 b2 b3
  go_wp2_with fail
  refine wp_region_ext (by kernel_rfl) (by kernel_rfl) ?_
  repeat (go_big_quiet_step (first | (go_at_call 45; exact ext_same (compareI _ _ _)) | (go_at_call_of 51 (Value.int IntKind.i64 x); exact ext_grows (rankDegI _ _ _ _ _ HA.out)) | (go_at_call 51; exact ext_grows (rankDegI _ _ _ _ _ HB.out))))
  refine wpQuiet_nil ?_
  rintro _ ⟨u, rfl⟩
  go_wp2
  go_ret
  exact ⟨rfl, B3.out.trans (u.2.mono B3.out.size)⟩
set_option maxHeartbeats 1000000 in
theorem monCmpI2 (x y d e x' y' d' e' : Int) (w : World) (ha : M.ok ⟨x, y, d, e⟩ = true) (hb : M.ok ⟨x', y', d', e'⟩ = true) :
    Calls Try.prog 20 #[.int .i64 2, .agg #[.int .i64 x, .int .i64 y, .int .i64 d, .int .i64 e], .agg #[.int .i64 x', .int .i64 y', .int .i64 d', .int .i64 e']] w fun r w' => r = .returned (.int .i64 (M.ord 2 ⟨x, y, d, e⟩ ⟨x', y', d', e'⟩)) ∧ Below w.heap.size w w' := by
  rw [← rk_two ha hb]
  have HA := Hid.mk' ha
  have HB := Hid.mk' hb
  clear ha hb
  go_enter Try.func20, Try.ntmps20
  go_wp2_with fail
  refine (ordRankI2 _).mono ?_
  rintro r w1 ⟨rfl, hb1⟩
  obtain ⟨hc1, hf1⟩ := bcell hb1
  have hz1 : w.heap.size + 1 < w1.heap.size := by have := hb1.size; simp at this; omega
  have hy1 : w.heap.size < w1.heap.size := by omega
  have B1 := Hid.mk' (bel_next (bel_two w _ _) hb1)
  clear hb1
  go_wp2_with fail
  refine (monOkI_of HA.out _).mono ?_
  rintro r w2 ⟨rfl, hb2⟩
  obtain ⟨hc2, hf2⟩ := bcell hb2
  have hz2 : w.heap.size + 1 < w2.heap.size := by have := hb2.size; omega
  have hy2 : w.heap.size < w2.heap.size := by omega
  have B2 := Hid.mk' (bel_next B1.out hb2)
  clear hb2
  go_wp2_with fail
  refine (monOkI_of HB.out _).mono ?_
  rintro r w3 ⟨rfl, hb3⟩
  obtain ⟨hc3, hf3⟩ := bcell hb3
  have hz3 : w.heap.size + 1 < w3.heap.size := by have := hb3.size; omega
  have hy3 : w.heap.size < w3.heap.size := by omega
  have B3 := Hid.mk' (bel_next B2.out hb3)
  have a0 : w3.cell? ⟨w.heap.size, 0, none⟩ = some (.int .i64 x) := by go_simp
  have a1 : w3.cell? ⟨w.heap.size, 1, none⟩ = some (.int .i64 y) := by go_simp
  have a2 : w3.cell? ⟨w.heap.size, 2, none⟩ = some (.int .i64 d) := by go_simp
  have a3 : w3.cell? ⟨w.heap.size, 3, none⟩ = some (.int .i64 e) := by go_simp
  have b0 : w3.cell? ⟨w.heap.size + 1, 0, none⟩ = some (.int .i64 x') := by go_simp
  have b1 : w3.cell? ⟨w.heap.size + 1, 1, none⟩ = some (.int .i64 y') := by go_simp
  have b2 : w3.cell? ⟨w.heap.size + 1, 2, none⟩ = some (.int .i64 d') := by go_simp
  have b3 : w3.cell? ⟨w.heap.size + 1, 3, none⟩ = some (.int .i64 e') := by go_simp
  have ne := Ext.there w3
  have s0 : ∀ u : Ext w3, u.1.cell? ⟨w.heap.size, 0, none⟩ = some (.int .i64 x) := fun u => (u.cell hy3).trans a0
  have s1 : ∀ u : Ext w3, u.1.cell? ⟨w.heap.size, 1, none⟩ = some (.int .i64 y) := fun u => (u.cell hy3).trans a1
  have s2 : ∀ u : Ext w3, u.1.cell? ⟨w.heap.size, 2, none⟩ = some (.int .i64 d) := fun u => (u.cell hy3).trans a2
  have s3 : ∀ u : Ext w3, u.1.cell? ⟨w.heap.size, 3, none⟩ = some (.int .i64 e) := fun u => (u.cell hy3).trans a3
  have t0 : ∀ u : Ext w3, u.1.cell? ⟨w.heap.size + 1, 0, none⟩ = some (.int .i64 x') := fun u => (u.cell hz3).trans b0
  have t1 : ∀ u : Ext w3, u.1.cell? ⟨w.heap.size + 1, 1, none⟩ = some (.int .i64 y') := fun u => (u.cell hz3).trans b1
  have t2 : ∀ u : Ext w3, u.1.cell? ⟨w.heap.size + 1, 2, none⟩ = some (.int .i64 d') := fun u => (u.cell hz3).trans b2
  have t3 : ∀ u : Ext w3, u.1.cell? ⟨w.heap.size + 1, 3, none⟩ = some (.int .i64 e') := fun u => (u.cell hz3).trans b3
  clear hb3 hc1 hf1 hc2 hf2 hc3 hf3 a0 a1 a2 a3 b0 b1 b2 b3
  go_wp2_with fail
  refine wp_region_ext (by kernel_rfl) (by kernel_rfl) ?_
  repeat (go_big_quiet_step (first | (go_at_call 45; exact ext_same (compareI _ _ _)) | (go_at_call_of 57 (Value.int IntKind.i64 x); exact ext_grows (rankLexI _ _ _ _ _ HA.out)) | (go_at_call 57; exact ext_grows (rankLexI _ _ _ _ _ HB.out))))
  refine wpQuiet_nil ?_
  rintro _ ⟨u, rfl⟩
  go_wp2
  go_ret
  exact ⟨rfl, B3.out.trans (u.2.mono B3.out.size)⟩
set_option maxHeartbeats 1000000 in
theorem monCmpI3 (x y d e x' y' d' e' : Int) (w : World) (ha : M.ok ⟨x, y, d, e⟩ = true) (hb : M.ok ⟨x', y', d', e'⟩ = true) :
    Calls Try.prog 20 #[.int .i64 3, .agg #[.int .i64 x, .int .i64 y, .int .i64 d, .int .i64 e], .agg #[.int .i64 x', .int .i64 y', .int .i64 d', .int .i64 e']] w fun r w' => r = .returned (.int .i64 (M.ord 3 ⟨x, y, d, e⟩ ⟨x', y', d', e'⟩)) ∧ Below w.heap.size w w' := by
  rw [← rk_out ha hb]
  have HA := Hid.mk' ha
  have HB := Hid.mk' hb
  clear ha hb
  go_enter Try.func20, Try.ntmps20
  go_wp2_with fail
  refine (ordRankI3 _).mono ?_
  rintro r w1 ⟨rfl, hb1⟩
  obtain ⟨hc1, hf1⟩ := bcell hb1
  have hz1 : w.heap.size + 1 < w1.heap.size := by have := hb1.size; simp at this; omega
  have hy1 : w.heap.size < w1.heap.size := by omega
  have B1 := Hid.mk' (bel_next (bel_two w _ _) hb1)
  clear hb1
  go_wp2_with fail
  refine (monOkI_of HA.out _).mono ?_
  rintro r w2 ⟨rfl, hb2⟩
  obtain ⟨hc2, hf2⟩ := bcell hb2
  have hz2 : w.heap.size + 1 < w2.heap.size := by have := hb2.size; omega
  have hy2 : w.heap.size < w2.heap.size := by omega
  have B2 := Hid.mk' (bel_next B1.out hb2)
  clear hb2
  go_wp2_with fail
  refine (monOkI_of HB.out _).mono ?_
  rintro r w3 ⟨rfl, hb3⟩
  obtain ⟨hc3, hf3⟩ := bcell hb3
  have hz3 : w.heap.size + 1 < w3.heap.size := by have := hb3.size; omega
  have hy3 : w.heap.size < w3.heap.size := by omega
  have B3 := Hid.mk' (bel_next B2.out hb3)
  have a0 : w3.cell? ⟨w.heap.size, 0, none⟩ = some (.int .i64 x) := by go_simp
  have a1 : w3.cell? ⟨w.heap.size, 1, none⟩ = some (.int .i64 y) := by go_simp
  have a2 : w3.cell? ⟨w.heap.size, 2, none⟩ = some (.int .i64 d) := by go_simp
  have a3 : w3.cell? ⟨w.heap.size, 3, none⟩ = some (.int .i64 e) := by go_simp
  have b0 : w3.cell? ⟨w.heap.size + 1, 0, none⟩ = some (.int .i64 x') := by go_simp
  have b1 : w3.cell? ⟨w.heap.size + 1, 1, none⟩ = some (.int .i64 y') := by go_simp
  have b2 : w3.cell? ⟨w.heap.size + 1, 2, none⟩ = some (.int .i64 d') := by go_simp
  have b3 : w3.cell? ⟨w.heap.size + 1, 3, none⟩ = some (.int .i64 e') := by go_simp
  have ne := Ext.there w3
  have s0 : ∀ u : Ext w3, u.1.cell? ⟨w.heap.size, 0, none⟩ = some (.int .i64 x) := fun u => (u.cell hy3).trans a0
  have s1 : ∀ u : Ext w3, u.1.cell? ⟨w.heap.size, 1, none⟩ = some (.int .i64 y) := fun u => (u.cell hy3).trans a1
  have s2 : ∀ u : Ext w3, u.1.cell? ⟨w.heap.size, 2, none⟩ = some (.int .i64 d) := fun u => (u.cell hy3).trans a2
  have s3 : ∀ u : Ext w3, u.1.cell? ⟨w.heap.size, 3, none⟩ = some (.int .i64 e) := fun u => (u.cell hy3).trans a3
  have t0 : ∀ u : Ext w3, u.1.cell? ⟨w.heap.size + 1, 0, none⟩ = some (.int .i64 x') := fun u => (u.cell hz3).trans b0
  have t1 : ∀ u : Ext w3, u.1.cell? ⟨w.heap.size + 1, 1, none⟩ = some (.int .i64 y') := fun u => (u.cell hz3).trans b1
  have t2 : ∀ u : Ext w3, u.1.cell? ⟨w.heap.size + 1, 2, none⟩ = some (.int .i64 d') := fun u => (u.cell hz3).trans b2
  have t3 : ∀ u : Ext w3, u.1.cell? ⟨w.heap.size + 1, 3, none⟩ = some (.int .i64 e') := fun u => (u.cell hz3).trans b3
  clear hb3 hc1 hf1 hc2 hf2 hc3 hf3 a0 a1 a2 a3 b0 b1 b2 b3
  go_wp2_with fail
  refine wp_region_ext (by kernel_rfl) (by kernel_rfl) ?_
  repeat (go_big_quiet_step (first | (go_at_call 45; exact ext_same (compareI _ _ _)) | (go_at_call_of 58 (Value.int IntKind.i64 x); exact ext_grows (rankOutI _ _ _ _ _ HA.out)) | (go_at_call 58; exact ext_grows (rankOutI _ _ _ _ _ HB.out))))
  refine wpQuiet_nil ?_
  rintro _ ⟨u, rfl⟩
  go_wp2
  go_ret
  exact ⟨rfl, B3.out.trans (u.2.mono B3.out.size)⟩
set_option maxHeartbeats 1000000 in
theorem monCmpI (o x y d e x' y' d' e' : Int) (w : World) :
    Calls Try.prog 20 #[.int .i64 o, .agg #[.int .i64 x, .int .i64 y, .int .i64 d, .int .i64 e], .agg #[.int .i64 x', .int .i64 y', .int .i64 d', .int .i64 e']] w fun r w' => r = .returned (.int .i64 (M.cmp o ⟨x, y, d, e⟩ ⟨x', y', d', e'⟩)) ∧ Below w.heap.size w w' := by
  by_cases ho : 1 ≤ o ∧ o ≤ 3
  · have ho3 : o = 1 ∨ o = 2 ∨ o = 3 := by omega
    cases ha : M.ok ⟨x, y, d, e⟩
    · have r1 : M.cmp o ⟨x, y, d, e⟩ ⟨x', y', d', e'⟩ = 0 := by simp [M.cmp, ha]
      rw [r1]
      obtain ⟨o1, o2⟩ := ho
      clear r1 ho3
      go_enter Try.func20, Try.ntmps20
      go_wp2_with fail
      refine (ordRankI_in _ _ o1 o2).mono ?_
      rintro r w1 ⟨fv, rfl, hb1⟩
      obtain ⟨hc1, hf1⟩ := bcell hb1
      have hz1 : w.heap.size + 1 < w1.heap.size := by have := hb1.size; simp at this; omega
      have hy1 : w.heap.size < w1.heap.size := by omega
      have B1 := Hid.mk' (bel_next (bel_two w _ _) hb1)
      clear hb1
      go_wp2_with fail
      refine (monOkI_of ha _).mono ?_
      rintro r w2 ⟨rfl, hb2⟩
      have B2 := Hid.mk' (bel_next B1.out hb2)
      clear hb2
      go_wp2
      go_ret
      exact ⟨rfl, B2.out⟩
    · cases hb : M.ok ⟨x', y', d', e'⟩
      · have r1 : M.cmp o ⟨x, y, d, e⟩ ⟨x', y', d', e'⟩ = 0 := by simp [M.cmp, hb]
        rw [r1]
        obtain ⟨o1, o2⟩ := ho
        clear r1 ho3
        go_enter Try.func20, Try.ntmps20
        go_wp2_with fail
        refine (ordRankI_in _ _ o1 o2).mono ?_
        rintro r w1 ⟨fv, rfl, hb1⟩
        obtain ⟨hc1, hf1⟩ := bcell hb1
        have hz1 : w.heap.size + 1 < w1.heap.size := by have := hb1.size; simp at this; omega
        have hy1 : w.heap.size < w1.heap.size := by omega
        have B1 := Hid.mk' (bel_next (bel_two w _ _) hb1)
        clear hb1
        go_wp2_with fail
        refine (monOkI_of ha _).mono ?_
        rintro r w2 ⟨rfl, hb2⟩
        obtain ⟨hc2, hf2⟩ := bcell hb2
        have B2 := Hid.mk' (bel_next B1.out hb2)
        clear hb2
        go_wp2_with fail
        refine (monOkI_of hb _).mono ?_
        rintro r w3 ⟨rfl, hb3⟩
        have B3 := Hid.mk' (bel_next B2.out hb3)
        clear hb3
        go_wp2
        go_ret
        exact ⟨rfl, B3.out⟩
      · have r1 : M.cmp o ⟨x, y, d, e⟩ ⟨x', y', d', e'⟩ = M.ord o ⟨x, y, d, e⟩ ⟨x', y', d', e'⟩ := by simp [M.cmp, ha, hb, ho.1, ho.2]
        rw [r1]
        rcases ho3 with rfl | rfl | rfl
        · exact monCmpI1 _ _ _ _ _ _ _ _ w ha hb
        · exact monCmpI2 _ _ _ _ _ _ _ _ w ha hb
        · exact monCmpI3 _ _ _ _ _ _ _ _ w ha hb
  · have r1 : M.cmp o ⟨x, y, d, e⟩ ⟨x', y', d', e'⟩ = 0 := by simp [M.cmp, ho]
    rw [r1]
    have ho' : o < 1 ∨ 3 < o := by omega
    clear ho r1
    go_enter Try.func20, Try.ntmps20
    go_wp2_with fail
    refine (ordRankI_out _ _ ho').mono ?_
    rintro r w1 ⟨rfl, hb1⟩
    have B1 := Hid.mk' (bel_next (bel_two w _ _) hb1)
    clear hb1
    go_wp2
    go_ret
    exact ⟨rfl, B1.out⟩
end Go.Proofs.Ytfnlogmfkpaaiad
