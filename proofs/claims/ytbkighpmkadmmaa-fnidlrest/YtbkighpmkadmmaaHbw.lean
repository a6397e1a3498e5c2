/-
  The program counts within a side (IdlFlat), all of it.
  Counting within a side: fewer operators leave more; none leaves all; 1 leaves nothing.
-/
import Derived.Test.YtbkighpmkadmmaaHbv
import Derived.Deep.RegionHeld3
import Derived.Test.YtbkighpmkadmmaaHbu
namespace Go.Proofs.Ytbkighpmkadmmaa
open Go.RowKit Go.Deep Go.Joins
set_option linter.unusedVariables false
set_option linter.unusedSimpArgs false
end Go.Proofs.Ytbkighpmkadmmaa
namespace Go.Proofs.Ytbkighpmkadmmaa
open Go.RowKit
set_option linter.unusedVariables false
end Go.Proofs.Ytbkighpmkadmmaa
