/-
  The draw of an operator and a monomial.
-/
import Derived.Test.YtkcmamepoplcdaaGreatDoorUbf
namespace Go.Proofs.YtkcmamepoplcdaaGreatDoor
open Go.RowKit
set_option linter.unusedVariables false
theorem Rd.beside {w w':World} {a:Option Addr} {n cap B:Nat} {f:Nat→T} (h:Rd w a n cap f) (hb:aG B w w') (hne:n=0∨∀b off,a=some ⟨b,off,none⟩→b≠B):Rd w' a n cap f:=
 h.grown (lC hb) (hne.imp id (fun k b off he hb=>k b off he (by cases hb;rfl)))
end Go.Proofs.YtkcmamepoplcdaaGreatDoor
