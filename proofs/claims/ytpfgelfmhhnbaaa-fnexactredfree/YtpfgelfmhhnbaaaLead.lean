/-
  The greatest term of an operator in an order: the model's function.
-/
import Derived.Test.YtpfgelfmhhnbaaaGap
namespace Go.Proofs.Ytpfgelfmhhnbaaa
open Go.RowKit
set_option linter.unusedVariables false

def leadOk (o : Int) (n : Nat) (f : Nat → T) : Bool := decide (1 ≤ o ∧ o ≤ 3) && polOk n f && decide (0 < n)
def leadT (o : Int) (n : Nat) (f : Nat → T) : T := if leadOk o n f = true then f (leadAt o f n) else ⟨0, ⟨0, 0, 0, 0⟩⟩
theorem leadT_no {o : Int} {n : Nat} {f : Nat → T} (h : leadOk o n f = false) : leadT o n f = ⟨0, ⟨0, 0, 0, 0⟩⟩ := by rw [leadT, if_neg (by rw [h]; decide)]
theorem leadT_yes {o : Int} {n : Nat} {f : Nat → T} (h : leadOk o n f = true) : leadT o n f = f (leadAt o f n) := by rw [leadT, if_pos h]
end Go.Proofs.Ytpfgelfmhhnbaaa
