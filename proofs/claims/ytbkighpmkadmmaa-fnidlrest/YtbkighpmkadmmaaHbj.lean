/-
  A division's answer.
  A division to its end: the closure of the program's RedAll.
  The program's RedAll.
-/
import Derived.Test.YtbkighpmkadmmaaHbh
import Derived.Test.YtbkighpmkadmmaaHbi
namespace Go.Proofs.Ytbkighpmkadmmaa
open Go.RowKit Go.Deep Go.Joins Go.Maps
set_option linter.unusedVariables false

end Go.Proofs.Ytbkighpmkadmmaa
namespace Go.Proofs.Ytbkighpmkadmmaa
open Go.RowKit Go.Deep Go.Joins Go.Maps
set_option linter.unusedVariables false
set_option linter.unusedSimpArgs false

end Go.Proofs.Ytbkighpmkadmmaa
namespace Go.Proofs.Ytbkighpmkadmmaa
open Go.RowKit Go.Deep Go.Joins Go.Maps
set_option linter.unusedVariables false
set_option linter.unusedSimpArgs false

end Go.Proofs.Ytbkighpmkadmmaa
