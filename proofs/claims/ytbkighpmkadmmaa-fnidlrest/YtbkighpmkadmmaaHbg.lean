/-
  What is needed, and whether it ends: the program's panic and recover.
  A division on its way in the world: its struct, its maps; what stays true where other memory turns.
  A division's greatest term is left.
-/
import Derived.Test.YtbkighpmkadmmaaHah
import Derived.Shelf.Abstract
import Derived.Defers
import Derived.Recover
import Derived.Test.YtbkighpmkadmmaaHbf
namespace Go.Proofs.Ytbkighpmkadmmaa
open Go.RowKit Go.Deep Go.Joins
set_option linter.unusedVariables false

end Go.Proofs.Ytbkighpmkadmmaa
namespace Go.Proofs.Ytbkighpmkadmmaa
open Go.RowKit Go.Deep Go.Joins Go.Maps
set_option linter.unusedVariables false

end Go.Proofs.Ytbkighpmkadmmaa
namespace Go.Proofs.Ytbkighpmkadmmaa
open Go.RowKit Go.Deep Go.Joins Go.Maps
set_option linter.unusedVariables false

end Go.Proofs.Ytbkighpmkadmmaa
