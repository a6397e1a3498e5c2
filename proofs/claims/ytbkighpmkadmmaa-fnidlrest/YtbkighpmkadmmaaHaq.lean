/-
  slices.Backward of monomials.
  slices.SortedFunc of monomials, and keysInOrder, given what slices.SortFunc does.
  keysInOrder: a sum's monomials, the least first.
-/
import Derived.Test.YtbkighpmkadmmaaHap
import Derived.Test.YtbkighpmkadmmaaHai
import Derived.RangeFuncNested
namespace Go.Proofs.Ytbkighpmkadmmaa
open Go.RowKit Go.Maps Go.Sort
set_option linter.unusedVariables false

end Go.Proofs.Ytbkighpmkadmmaa
namespace Go.Proofs.Ytbkighpmkadmmaa
open Go.RowKit Go.Maps Go.Sort Go.Shelf
set_option linter.unusedVariables false

end Go.Proofs.Ytbkighpmkadmmaa
namespace Go.Proofs.Ytbkighpmkadmmaa
open Go.RowKit Go.Maps Go.Sort Go.Shelf
set_option linter.unusedVariables false

end Go.Proofs.Ytbkighpmkadmmaa
