/-
  The laws' own look whether operators are the same.
-/
import Derived.Test.YtmlaedpamobmhaaGreatMam
namespace Go.Proofs.YtmlaedpamobmhaaGreat
open Go.RowKit
set_option linter.unusedVariables false
theorem ED {w:World} {X:List T×Bool} {e:Ending} {w':World} (h:∃a' cap',e= .returned (.tuple #[.slice a' X.1.length cap',.bool X.2])∧Below w.heap.size w w'∧iA w.heap.size w' a' cap' X.1):CH w X e w':=by obtain⟨a',c',h1,h2,h3⟩:=h;exact⟨a',c',h1,h2,h3.1⟩
variable {w:World} {a b:Option Addr} {ca cb:Nat} {L K:List T}
end Go.Proofs.YtmlaedpamobmhaaGreat
namespace Go.Proofs.YtmlaedpamobmhaaGreat
open Go.RowKit
set_option linter.unusedVariables false
attribute [local go_sem] Oper.semAt_some
end Go.Proofs.YtmlaedpamobmhaaGreat
