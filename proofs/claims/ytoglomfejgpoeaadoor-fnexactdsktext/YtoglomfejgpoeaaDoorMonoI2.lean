/-
  More of the program's chapter 2: how two monomials stand in an order, their product, what divides, what is left.
-/
import Derived.Test.YtoglomfejgpoeaaDoorMonoI
namespace Go.Proofs.YtoglomfejgpoeaaDoor
open Go.RowKit
set_option linter.unusedVariables false

theorem c3_of {a b a' b' : Int} (h1 : a < b ↔ a' < b') (h2 : b < a ↔ b' < a') : c3 a b = c3 a' b' := by unfold c3; simp only [h1, h2]
theorem rk_lex {a b : M} (ha : a.ok = true) (hb : b.ok = true) : c3 (rkL a) (rkL b) = M.lex a b := by
  obtain ⟨x1, x2, y1, y2, d1, d2, e1, e2⟩ := M.ok_iff.1 ha
  obtain ⟨x3, x4, y3, y4, d3, d4, e3, e4⟩ := M.ok_iff.1 hb
  by_cases hd : a.d = b.d
  · by_cases he : a.e = b.e
    · by_cases hx : a.x = b.x
      · have h : M.lex a b = c3 a.y b.y := by simp [M.lex, hd, he, hx]
        rw [h]; exact c3_of (by unfold rkL; omega) (by unfold rkL; omega)
      · have h : M.lex a b = c3 a.x b.x := by simp [M.lex, hd, he, hx]
        rw [h]; exact c3_of (by unfold rkL; omega) (by unfold rkL; omega)
    · have h : M.lex a b = c3 a.e b.e := by simp [M.lex, hd, he]
      rw [h]; exact c3_of (by unfold rkL; omega) (by unfold rkL; omega)
  · have h : M.lex a b = c3 a.d b.d := by simp [M.lex, hd]
    rw [h]; exact c3_of (by unfold rkL; omega) (by unfold rkL; omega)
theorem rk_deg {a b : M} (ha : a.ok = true) (hb : b.ok = true) : c3 (rkD a) (rkD b) = M.ord 1 a b := by
  obtain ⟨x1, x2, y1, y2, d1, d2, e1, e2⟩ := M.ok_iff.1 ha
  obtain ⟨x3, x4, y3, y4, d3, d4, e3, e4⟩ := M.ok_iff.1 hb
  have da : a.deg = a.x + a.y + a.d + a.e := by simp [M.deg, ha]
  have db : b.deg = b.x + b.y + b.d + b.e := by simp [M.deg, hb]
  have la : 0 ≤ rkL a ∧ rkL a ≤ 65535 := by simp only [rkL]; omega
  have lb : 0 ≤ rkL b ∧ rkL b ≤ 65535 := by simp only [rkL]; omega
  by_cases h : a.deg = b.deg
  · have e1 : M.ord 1 a b = M.lex a b := by simp [M.ord, h]
    rw [e1, ← rk_lex ha hb]
    rw [da, db] at h
    exact c3_of (by unfold rkD; omega) (by unfold rkD; omega)
  · have e1 : M.ord 1 a b = c3 a.deg b.deg := by simp [M.ord, h]
    rw [e1, da, db]
    rw [da, db] at h
    exact c3_of (by unfold rkD; omega) (by unfold rkD; omega)
theorem rk_out {a b : M} (ha : a.ok = true) (hb : b.ok = true) : c3 (rkO a) (rkO b) = M.ord 3 a b := by
  obtain ⟨x1, x2, y1, y2, d1, d2, e1, e2⟩ := M.ok_iff.1 ha
  obtain ⟨x3, x4, y3, y4, d3, d4, e3, e4⟩ := M.ok_iff.1 hb
  have la : 0 ≤ rkL a ∧ rkL a ≤ 65535 := by simp only [rkL]; omega
  have lb : 0 ≤ rkL b ∧ rkL b ≤ 65535 := by simp only [rkL]; omega
  by_cases h : a.d + a.x = b.d + b.x
  · have e1 : M.ord 3 a b = M.lex a b := by simp [M.ord, h]
    rw [e1, ← rk_lex ha hb]
    exact c3_of (by unfold rkO; omega) (by unfold rkO; omega)
  · have e1 : M.ord 3 a b = c3 (a.d + a.x) (b.d + b.x) := by simp [M.ord, h]
    rw [e1]
    exact c3_of (by unfold rkO; omega) (by unfold rkO; omega)
theorem rk_two {a b : M} (ha : a.ok = true) (hb : b.ok = true) : c3 (rkL a) (rkL b) = M.ord 2 a b := by
  rw [rk_lex ha hb]; simp [M.ord]
end Go.Proofs.YtoglomfejgpoeaaDoor
