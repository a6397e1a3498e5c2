/-
  slices.Backward of monomials as an iterator that may be stopped.
  A region that draws its order and ends in an append, by one invariant; nothing is read from a reader.
  A region that draws its order within a round: it runs as anywhere.
-/
import Derived.Test.YtbkighpmkadmmaaHaq
import Derived.RangeFuncNested
import Derived.RangeFuncLeaves
import Derived.Test.YtbkighpmkadmmaaHaj
import Derived.Test.YtbkighpmkadmmaaHab
import Derived.OrdersIn
import Derived.RangeFuncCalls
import Derived.Deep.Quiet
namespace Go.Proofs.Ytbkighpmkadmmaa
open Go.RowKit Go.Maps Go.Sort Go.Shelf
set_option linter.unusedVariables false
attribute [local go_sem] Oper.semAt_some

end Go.Proofs.Ytbkighpmkadmmaa
namespace Go.Proofs.Ytbkighpmkadmmaa
open Go.RowKit
set_option linter.unusedVariables false

end Go.Proofs.Ytbkighpmkadmmaa
namespace Go.Proofs.Ytbkighpmkadmmaa
open Go.RowKit
set_option linter.unusedVariables false

end Go.Proofs.Ytbkighpmkadmmaa
