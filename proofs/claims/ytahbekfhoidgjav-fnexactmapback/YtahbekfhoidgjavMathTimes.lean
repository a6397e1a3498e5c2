/-
  What a sum's numbers are behind an operator, so many times.
-/
import Derived.Test.YtahbekfhoidgjavFlOk
import Derived.Test.YtahbekfhoidgjavSumT
namespace Go.Proofs.Ytahbekfhoidgjav
open Go.RowKit
set_option linter.unusedVariables false

end Go.Proofs.Ytahbekfhoidgjav
