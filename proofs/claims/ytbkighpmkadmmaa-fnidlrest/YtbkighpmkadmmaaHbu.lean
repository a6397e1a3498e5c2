/-
  Counting within a side: the mathematics of IdlFlat.
  A range over an iterator that turns boxes of its own (blocks lo .. hi); its body may leave the loop.
  Counting within a side: the model's IdlFlat.
-/
import Derived.Test.YtbkighpmkadmmaaHbf
import Derived.Test.YtbkighpmkadmmaaHaa
import Derived.RangeFuncNested
import Derived.RangeFuncLeaves
import Derived.Deep.RegionHeld3
namespace Go.Proofs.Ytbkighpmkadmmaa
open Go.RowKit
set_option linter.unusedVariables false

end Go.Proofs.Ytbkighpmkadmmaa
namespace Go.Proofs.Ytbkighpmkadmmaa
open Go.RowKit
set_option linter.unusedVariables false
end Go.Proofs.Ytbkighpmkadmmaa
namespace Go.Proofs.Ytbkighpmkadmmaa
open Go.RowKit Go.Deep Go.Joins
set_option linter.unusedVariables false

end Go.Proofs.Ytbkighpmkadmmaa
