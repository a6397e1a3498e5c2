/-
  What the functions of the program's chapter 3 return: whether terms are an operator, an operator of one term, the number of a monomial.
-/
import Derived.Test.YtoglomfejgpoeaaDoorPolK
import Derived.Test.YtoglomfejgpoeaaDoorPol2
namespace Go.Proofs.YtoglomfejgpoeaaDoor
open Go.RowKit
set_option linter.unusedVariables false

theorem owns_nil (w : World) (lo : Nat) : w.ownsRow lo 54 5 (.slice none 0 0) 0 (cellsL []) := ⟨rfl, .inl ⟨rfl, rfl⟩⟩
end Go.Proofs.YtoglomfejgpoeaaDoor
