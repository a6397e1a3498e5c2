/-
  What a sum's numbers are behind an operator, so many times.
-/
import Derived.Test.YtioecpiogpjlaaaFlOk
import Derived.Test.YtioecpiogpjlaaaSumT
namespace Go.Proofs.Ytioecpiogpjlaaa
open Go.RowKit
set_option linter.unusedVariables false

end Go.Proofs.Ytioecpiogpjlaaa
