/-
  An operator, so many times, added to a sum.
-/
import Derived.Test.YtahbekfhoidgjavSumR
import Derived.Test.YtahbekfhoidgjavAdd
import Derived.Deep.RegionWith
namespace Go.Proofs.Ytahbekfhoidgjav
open Go.RowKit Go.Maps
set_option linter.unusedVariables false

end Go.Proofs.Ytahbekfhoidgjav
