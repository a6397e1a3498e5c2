/-
  An operator, so many times, added to a sum.
-/
import Derived.Test.YtioecpiogpjlaaaSumR
import Derived.Test.YtioecpiogpjlaaaAdd
import Derived.Deep.RegionWith
namespace Go.Proofs.Ytioecpiogpjlaaa
open Go.RowKit Go.Maps
set_option linter.unusedVariables false

end Go.Proofs.Ytioecpiogpjlaaa
