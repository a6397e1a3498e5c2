/-
  More of the program's chapter 3: the number of a monomial, whether operators are the same, whether one has no slopes, so many times an operator.
-/
import Derived.Test.YtoglomfejgpoeaaDoorPolI
import Derived.Test.YtoglomfejgpoeaaDoorOpenM
namespace Go.Proofs.YtoglomfejgpoeaaDoor
open Go.RowKit
set_option linter.unusedVariables false

theorem s4c_below {w w' : World} {b : Nat} {x y d e : Int} (hb : Below w.heap.size w w') (h : w.cell? ⟨b, 0, none⟩ = some (.int .i64 x) ∧ w.cell? ⟨b, 1, none⟩ = some (.int .i64 y) ∧ w.cell? ⟨b, 2, none⟩ = some (.int .i64 d) ∧ w.cell? ⟨b, 3, none⟩ = some (.int .i64 e)) :
    w'.cell? ⟨b, 0, none⟩ = some (.int .i64 x) ∧ w'.cell? ⟨b, 1, none⟩ = some (.int .i64 y) ∧ w'.cell? ⟨b, 2, none⟩ = some (.int .i64 d) ∧ w'.cell? ⟨b, 3, none⟩ = some (.int .i64 e) := M4.below h hb
theorem polOf_len (c : Int) (m : M) : (polOf c m).length ≤ 400 := by
  unfold polOf; split <;> simp
theorem polScale_len (c : Int) (f : Nat → T) (n : Nat) : (polScale c f n).length ≤ 400 := by
  unfold polScale; split
  · rename_i h; rw [scT_len]; exact (polOk_c h.2.1).1
  · simp
end Go.Proofs.YtoglomfejgpoeaaDoor
