/-
  More of chapter 2's model: what divides, what is left, what both divide.
-/
import Derived.Test.YtoglomfejgpoeaaDoorMono
namespace Go.Proofs.YtoglomfejgpoeaaDoor
open Go.RowKit
set_option linter.unusedVariables false

theorem M.dvd_iff {a b : M} (h : a.dvd b = true) : a.ok = true ∧ b.ok = true ∧ a.x ≤ b.x ∧ a.y ≤ b.y ∧ a.d ≤ b.d ∧ a.e ≤ b.e := by
  simp [M.dvd] at h
  exact ⟨h.1.1, h.1.2, h.2⟩
theorem far4 {w : World} {B b o o0 o1 o2 o3 : Nat} {u0 u1 u2 u3 : Value} (h : b ≠ B) : ((((w.setCell ⟨B, o0, none⟩ u0).setCell ⟨B, o1, none⟩ u1).setCell ⟨B, o2, none⟩ u2).setCell ⟨B, o3, none⟩ u3).cell? ⟨b, o, none⟩ = w.cell? ⟨b, o, none⟩ := by
  refine World.cell?_of_block ?_
  rw [Below.heap_setCell _ _ _ _ h, Below.heap_setCell _ _ _ _ h, Below.heap_setCell _ _ _ _ h, Below.heap_setCell _ _ _ _ h]
end Go.Proofs.YtoglomfejgpoeaaDoor
