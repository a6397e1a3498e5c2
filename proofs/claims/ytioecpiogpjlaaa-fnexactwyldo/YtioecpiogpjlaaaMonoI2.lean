/-
  More of the program's chapter 2: how two monomials stand in an order, their product, what divides, what is left.
-/
import Derived.Test.YtioecpiogpjlaaaMonoI
namespace Go.Proofs.Ytioecpiogpjlaaa
open Go.RowKit
set_option linter.unusedVariables false

theorem c3_of {a b a' b' : Int} (h1 : a < b ↔ a' < b') (h2 : b < a ↔ b' < a') : c3 a b = c3 a' b' := by unfold c3; simp only [h1, h2]
theorem rk_lex {a b : M} (ha : a.ok = true) (hb : b.ok = true) : c3 (rkL a) (rkL b) = M.lex a b := by
  obtain ⟨x1, x2, y1, y2, d1, d2, e1, e2⟩ := M.ok_iff.1 ha
  obtain ⟨x3, x4, y3, y4, d3, d4, e3, e4⟩ := M.ok_iff.1 hb
  by_cases hd : a.d = b.d
  · by_cases he : a.e = b.e
    · by_cases hx : a.x = b.x
      · have h : M.lex a b = c3 a.y b.y := by simp [M.lex, hd, he, hx]
        rw [h]; exact c3_of (by unfold rkL; omega) (by unfold rkL; omega)
      · have h : M.lex a b = c3 a.x b.x := by simp [M.lex, hd, he, hx]
        rw [h]; exact c3_of (by unfold rkL; omega) (by unfold rkL; omega)
    · have h : M.lex a b = c3 a.e b.e := by simp [M.lex, hd, he]
      rw [h]; exact c3_of (by unfold rkL; omega) (by unfold rkL; omega)
  · have h : M.lex a b = c3 a.d b.d := by simp [M.lex, hd]
    rw [h]; exact c3_of (by unfold rkL; omega) (by unfold rkL; omega)
theorem rk_deg {a b : M} (ha : a.ok = true) (hb : b.ok = true) : c3 (rkD a) (rkD b) = M.ord 1 a b := by
  obtain ⟨x1, x2, y1, y2, d1, d2, e1, e2⟩ := M.ok_iff.1 ha
  obtain ⟨x3, x4, y3, y4, d3, d4, e3, e4⟩ := M.ok_iff.1 hb
  have da : a.deg = a.x + a.y + a.d + a.e := by simp [M.deg, ha]
  have db : b.deg = b.x + b.y + b.d + b.e := by simp [M.deg, hb]
  have la : 0 ≤ rkL a ∧ rkL a ≤ 65535 := by simp only [rkL]; omega
  have lb : 0 ≤ rkL b ∧ rkL b ≤ 65535 := by simp only [rkL]; omega
  by_cases h : a.deg = b.deg
  · have e1 : M.ord 1 a b = M.lex a b := by simp [M.ord, h]
    rw [e1, ← rk_lex ha hb]
    rw [da, db] at h
    exact c3_of (by unfold rkD; omega) (by unfold rkD; omega)
  · have e1 : M.ord 1 a b = c3 a.deg b.deg := by simp [M.ord, h]
    rw [e1, da, db]
    rw [da, db] at h
    exact c3_of (by unfold rkD; omega) (by unfold rkD; omega)
theorem rk_out {a b : M} (ha : a.ok = true) (hb : b.ok = true) : c3 (rkO a) (rkO b) = M.ord 3 a b := by
  obtain ⟨x1, x2, y1, y2, d1, d2, e1, e2⟩ := M.ok_iff.1 ha
  obtain ⟨x3, x4, y3, y4, d3, d4, e3, e4⟩ := M.ok_iff.1 hb
  have la : 0 ≤ rkL a ∧ rkL a ≤ 65535 := by simp only [rkL]; omega
  have lb : 0 ≤ rkL b ∧ rkL b ≤ 65535 := by simp only [rkL]; omega
  by_cases h : a.d + a.x = b.d + b.x
  · have e1 : M.ord 3 a b = M.lex a b := by simp [M.ord, h]
    rw [e1, ← rk_lex ha hb]
    exact c3_of (by unfold rkO; omega) (by unfold rkO; omega)
  · have e1 : M.ord 3 a b = c3 (a.d + a.x) (b.d + b.x) := by simp [M.ord, h]
    rw [e1]
    exact c3_of (by unfold rkO; omega) (by unfold rkO; omega)
theorem rk_two {a b : M} (ha : a.ok = true) (hb : b.ok = true) : c3 (rkL a) (rkL b) = M.ord 2 a b := by
  rw [rk_lex ha hb]; simp [M.ord]
theorem nanI (a : Int) (w : World) : Calls Try.prog 82 #[.int .i64 a] w fun r w' => r = .returned (.bool false) ∧ w' = w := by
  go_enter Try.func82, Try.ntmps82
  go_wp2
  go_ret
  exact ⟨by simp, rfl⟩
theorem compareI (a b : Int) (w : World) : Calls Try.prog 76 #[.int .i64 a, .int .i64 b] w fun r w' => r = .returned (.int .i64 (c3 a b)) ∧ w' = w := by
  by_cases h1 : a < b
  · have e1 : c3 a b = -1 := by simp [c3, h1]
    rw [e1]
    go_enter Try.func76, Try.ntmps76
    go_wp2_with (first | (go_at_call 82; refine (nanI _ _).mono ?_; rintro r w' ⟨rfl, rfl⟩))
    go_ret
    exact ⟨rfl, rfl⟩
  · by_cases h2 : b < a
    · have e1 : c3 a b = 1 := by simp [c3, h1, h2]
      rw [e1]
      go_enter Try.func76, Try.ntmps76
      go_wp2_with (first | (go_at_call 82; refine (nanI _ _).mono ?_; rintro r w' ⟨rfl, rfl⟩))
      go_ret
      exact ⟨rfl, rfl⟩
    · have e1 : c3 a b = 0 := by simp [c3, h1, h2]
      rw [e1]
      go_enter Try.func76, Try.ntmps76
      go_wp2_with (first | (go_at_call 82; refine (nanI _ _).mono ?_; rintro r w' ⟨rfl, rfl⟩))
      go_ret
      exact ⟨rfl, rfl⟩
set_option maxHeartbeats 1000000 in
theorem monMulI (x y d e x' y' d' e' : Int) (w : World) :
    Calls Try.prog 64 #[.agg #[.int .i64 x, .int .i64 y, .int .i64 d, .int .i64 e], .agg #[.int .i64 x', .int .i64 y', .int .i64 d', .int .i64 e']] w fun r w' => r = .returned (.tuple #[.agg #[.int .i64 (M.mul ⟨x, y, d, e⟩ ⟨x', y', d', e'⟩).1.x, .int .i64 (M.mul ⟨x, y, d, e⟩ ⟨x', y', d', e'⟩).1.y, .int .i64 (M.mul ⟨x, y, d, e⟩ ⟨x', y', d', e'⟩).1.d, .int .i64 (M.mul ⟨x, y, d, e⟩ ⟨x', y', d', e'⟩).1.e], .bool (M.mul ⟨x, y, d, e⟩ ⟨x', y', d', e'⟩).2]) ∧ Below w.heap.size w w' := by
  cases ha : M.ok ⟨x, y, d, e⟩
  · have r1 : M.mul ⟨x, y, d, e⟩ ⟨x', y', d', e'⟩ = (M.zero, false) := by simp [M.mul, ha]
    rw [r1]
    simp only [M.zero]
    go_enter Try.func64, Try.ntmps64
    go_wp2_with fail
    refine (monOkI _ _ _ _ _).mono ?_
    rw [ha]
    rintro r w1 ⟨rfl, hb1⟩
    obtain ⟨hc1, hf1⟩ := bcell hb1
    have hz1 : w.heap.size + 1 + 1 < w1.heap.size := by have := hb1.size; simp at this; omega
    go_wp2
    refine bodyPost_ret (v := .tuple #[.agg #[.int .i64 0, .int .i64 0, .int .i64 0, .int .i64 0], .bool false]) (by simp [results, Try.results64, go_sem, *]) rfl ⟨rfl, ?_⟩
    exact bel_set4 (bel_next (bel_three w _ _ _) hb1) (by omega) _ _ _ _
  · cases hb : M.ok ⟨x', y', d', e'⟩
    · have r1 : M.mul ⟨x, y, d, e⟩ ⟨x', y', d', e'⟩ = (M.zero, false) := by simp [M.mul, hb]
      rw [r1]
      simp only [M.zero]
      clear r1
      go_enter Try.func64, Try.ntmps64
      go_wp2_with fail
      refine (monOkI _ _ _ _ _).mono ?_
      rw [ha]
      rintro r w1 ⟨rfl, hb1⟩
      obtain ⟨hc1, hf1⟩ := bcell hb1
      have hz1 : w.heap.size + 1 + 1 < w1.heap.size := by have := hb1.size; simp at this; omega
      go_wp2_with fail
      refine (monOkI _ _ _ _ _).mono ?_
      rw [hb]
      rintro r w2 ⟨rfl, hb2⟩
      obtain ⟨hc2, hf2⟩ := bcell hb2
      have hz2 : w.heap.size + 1 + 1 < w2.heap.size := by have := hb2.size; omega
      go_wp2
      refine bodyPost_ret (v := .tuple #[.agg #[.int .i64 0, .int .i64 0, .int .i64 0, .int .i64 0], .bool false]) (by simp [results, Try.results64, go_sem, *]) rfl ⟨rfl, ?_⟩
      exact bel_set4 (bel_next (bel_next (bel_three w _ _ _) hb1) hb2) (by omega) _ _ _ _
    · obtain ⟨x1, x2, y1, y2, d1, d2, e1, e2⟩ := M.ok_iff.1 ha
      obtain ⟨x3, x4, y3, y4, d3, d4, e3, e4⟩ := M.ok_iff.1 hb
      simp only at x1 x2 y1 y2 d1 d2 e1 e2 x3 x4 y3 y4 d3 d4 e3 e4
      cases hs : M.ok ⟨x + x', y + y', d + d', e + e'⟩
      · have r1 : M.mul ⟨x, y, d, e⟩ ⟨x', y', d', e'⟩ = (M.zero, false) := by simp [M.mul, M.sum, hs]
        rw [r1]
        simp only [M.zero]
        clear r1
        go_enter Try.func64, Try.ntmps64
        go_wp2_with fail
        refine (monOkI _ _ _ _ _).mono ?_
        rw [ha]
        rintro r w1 ⟨rfl, hb1⟩
        obtain ⟨hc1, hf1⟩ := bcell hb1
        have hz1 : w.heap.size + 1 + 1 < w1.heap.size := by have := hb1.size; simp at this; omega
        have hz0 : w.heap.size + 1 < w1.heap.size := by omega
        have hzz : w.heap.size < w1.heap.size := by omega
        go_wp2_with fail
        refine (monOkI _ _ _ _ _).mono ?_
        rw [hb]
        rintro r w2 ⟨rfl, hb2⟩
        obtain ⟨hc2, hf2⟩ := bcell hb2
        have hz2 : w.heap.size + 1 + 1 < w2.heap.size := by have := hb2.size; omega
        go_wp2_with fail
        refine (monOkI _ _ _ _ _).mono ?_
        rw [hs]
        rintro r w3 ⟨rfl, hb3⟩
        obtain ⟨hc3, hf3⟩ := bcell (bel_next ((Below.refl w2.heap.size w2).alloc (Nat.le_refl _) _) hb3)
        have ht : ∀ i, w3.cell? ⟨w2.heap.size, i, none⟩ = #[Value.int .i64 (x + x'), .int .i64 (y + y'), .int .i64 (d + d'), .int .i64 (e + e')][i]? := fun i => by
          rw [hb3.cell (p := ⟨w2.heap.size, i, none⟩) (by simp), World.cell?_alloc_at _ _ _ _ rfl]
        have hB := bel_next ((bel_next (bel_next (bel_three w _ _ _) hb1) hb2).alloc (bel_next (bel_next (bel_three w _ _ _) hb1) hb2).size _) hb3
        go_wp2
        refine bodyPost_ret (v := .tuple #[.agg #[.int .i64 0, .int .i64 0, .int .i64 0, .int .i64 0], .bool false]) (by simp [results, Try.results64, go_sem, *]) rfl ⟨rfl, ?_⟩
        exact bel_set4 hB (by omega) _ _ _ _
      · have r1 : M.mul ⟨x, y, d, e⟩ ⟨x', y', d', e'⟩ = (⟨x + x', y + y', d + d', e + e'⟩, true) := by simp [M.mul, M.sum, hs, ha, hb]
        rw [r1]
        clear r1
        go_enter Try.func64, Try.ntmps64
        go_wp2_with fail
        refine (monOkI _ _ _ _ _).mono ?_
        rw [ha]
        rintro r w1 ⟨rfl, hb1⟩
        obtain ⟨hc1, hf1⟩ := bcell hb1
        have hz1 : w.heap.size + 1 + 1 < w1.heap.size := by have := hb1.size; simp at this; omega
        have hz0 : w.heap.size + 1 < w1.heap.size := by omega
        have hzz : w.heap.size < w1.heap.size := by omega
        go_wp2_with fail
        refine (monOkI _ _ _ _ _).mono ?_
        rw [hb]
        rintro r w2 ⟨rfl, hb2⟩
        obtain ⟨hc2, hf2⟩ := bcell hb2
        have hz2 : w.heap.size + 1 + 1 < w2.heap.size := by have := hb2.size; omega
        go_wp2_with fail
        refine (monOkI _ _ _ _ _).mono ?_
        rw [hs]
        rintro r w3 ⟨rfl, hb3⟩
        obtain ⟨hc3, hf3⟩ := bcell (bel_next ((Below.refl w2.heap.size w2).alloc (Nat.le_refl _) _) hb3)
        have ht : ∀ i, w3.cell? ⟨w2.heap.size, i, none⟩ = #[Value.int .i64 (x + x'), .int .i64 (y + y'), .int .i64 (d + d'), .int .i64 (e + e')][i]? := fun i => by
          rw [hb3.cell (p := ⟨w2.heap.size, i, none⟩) (by simp), World.cell?_alloc_at _ _ _ _ rfl]
        have hB := bel_next ((bel_next (bel_next (bel_three w _ _ _) hb1) hb2).alloc (bel_next (bel_next (bel_three w _ _ _) hb1) hb2).size _) hb3
        go_wp2
        refine bodyPost_ret (v := .tuple #[.agg #[.int .i64 (x + x'), .int .i64 (y + y'), .int .i64 (d + d'), .int .i64 (e + e')], .bool true]) (by simp [results, Try.results64, go_sem, *]) rfl ⟨rfl, ?_⟩
        exact bel_set4 hB (by omega) _ _ _ _
end Go.Proofs.Ytioecpiogpjlaaa
