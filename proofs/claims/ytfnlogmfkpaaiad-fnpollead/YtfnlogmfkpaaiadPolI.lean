/-
  What the functions of the program's chapter 3 return: whether terms are an operator, an operator of one term, the number of a monomial.
-/
import Derived.Test.YtfnlogmfkpaaiadPolK
import Derived.Test.YtfnlogmfkpaaiadPol2
namespace Go.Proofs.Ytfnlogmfkpaaiad
open Go.RowKit
set_option linter.unusedVariables false

end Go.Proofs.Ytfnlogmfkpaaiad
