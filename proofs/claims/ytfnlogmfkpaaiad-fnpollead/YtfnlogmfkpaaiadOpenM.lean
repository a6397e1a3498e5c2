/-
  Monomials that come in, are copied and are held against each other.
-/
import Derived.Test.YtfnlogmfkpaaiadM4
import Derived.ProofKit
import Derived.Lib.SmallJoins
namespace Go.Proofs.Ytfnlogmfkpaaiad
open Go.RowKit Go.Deep Go.Joins
set_option linter.unusedVariables false

def M.eqB (a b : M) : Bool := decide (a.x = b.x ∧ a.y = b.y ∧ a.d = b.d ∧ a.e = b.e)
theorem M.eqB_iff {a b : M} : a.eqB b = true ↔ a = b := by
  cases a; cases b; simp [M.eqB]
theorem M.eqB_same (x y d e : Int) : M.eqB ⟨x, y, d, e⟩ ⟨x, y, d, e⟩ = true := by simp [M.eqB]
end Go.Proofs.Ytfnlogmfkpaaiad
