/-
  What slices.SortFunc does to monomials that are ok.
  An operator, so many times, added to a sum.
  What a sum's numbers are behind an operator, so many times.
-/
import Derived.Test.YtbkighpmkadmmaaHaq
import Derived.Shelf.SlSortCmp.WholeK
import Derived.Shelf.SlSortCmp.NoneTotal
import Derived.Test.YtbkighpmkadmmaaHam
import Derived.Test.YtbkighpmkadmmaaHae
import Derived.Deep.RegionWith
import Derived.Test.YtbkighpmkadmmaaHai
namespace Go.Proofs.Ytbkighpmkadmmaa
open Go.RowKit Go.Maps Go.Sort Go.Shelf Go.Lib
set_option linter.unusedVariables false

end Go.Proofs.Ytbkighpmkadmmaa
namespace Go.Proofs.Ytbkighpmkadmmaa
open Go.RowKit Go.Maps
set_option linter.unusedVariables false

end Go.Proofs.Ytbkighpmkadmmaa
namespace Go.Proofs.Ytbkighpmkadmmaa
open Go.RowKit
set_option linter.unusedVariables false

end Go.Proofs.Ytbkighpmkadmmaa
