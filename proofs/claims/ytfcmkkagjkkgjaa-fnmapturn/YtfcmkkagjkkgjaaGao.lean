/-
  An operator, so many times, added to a sum.
  What a sum's numbers are behind an operator, so many times.
  What the functions of the program's chapter 3 return: whether terms are an operator, an operator of one term, the number of a monomial.
-/
import Derived.Test.YtfcmkkagjkkgjaaGag
import Derived.Test.YtfcmkkagjkkgjaaGae
import Derived.Deep.RegionWith
import Derived.Test.YtfcmkkagjkkgjaaGaf
import Derived.Test.YtfcmkkagjkkgjaaGac
import Derived.Test.YtfcmkkagjkkgjaaGah
namespace Go.Proofs.Ytfcmkkagjkkgjaa
open Go.RowKit Go.Maps
set_option linter.unusedVariables false

end Go.Proofs.Ytfcmkkagjkkgjaa
namespace Go.Proofs.Ytfcmkkagjkkgjaa
open Go.RowKit
set_option linter.unusedVariables false

end Go.Proofs.Ytfcmkkagjkkgjaa
namespace Go.Proofs.Ytfcmkkagjkkgjaa
open Go.RowKit
set_option linter.unusedVariables false

theorem owns_nil (w : World) (lo : Nat) : w.ownsRow lo 39 5 (.slice none 0 0) 0 (cellsL []) := ⟨rfl, .inl ⟨rfl, rfl⟩⟩
end Go.Proofs.Ytfcmkkagjkkgjaa
