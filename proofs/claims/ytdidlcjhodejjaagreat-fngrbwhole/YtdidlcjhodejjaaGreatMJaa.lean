/-
  What the exact laws lean on besides: terms in memory behind marks elsewhere.
-/
import Derived.Test.YtdidlcjhodejjaaGreatMEaa
import Derived.Test.YtdidlcjhodejjaaGreatMCaa
namespace Go.Proofs.YtdidlcjhodejjaaGreat
open Go.RowKit
set_option linter.unusedVariables false
theorem LH (n:Nat) (f:Nat→T):aO n f n f=true:=by simp only[aO,decide_eq_true_eq];exact⟨trivial,fun i _=>T.eqB_iff.2 rfl⟩
def sq (L K:List T):Bool:=aO L.length (lf L) K.length (lf K)
theorem rH (L:List T):sq L L=true:=LH _ _
end Go.Proofs.YtdidlcjhodejjaaGreat
