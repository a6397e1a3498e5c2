/-
  The program's basis on its way: its box, its queue and its rows; one more operator is put behind ((*impl.grbMaking).add).
  Those that were given are put ahead of all others: (*impl.grbMaking).addGiven.
  A pair is looked at: (*impl.grbMaking).lookAt.
-/
import Derived.Test.YtdidlcjhodejjaaGreatSbx
import Derived.Test.YtdidlcjhodejjaaGreatSbt
import Derived.Test.YtdidlcjhodejjaaGreatSbs
import Derived.Laws.OwnMore
import Derived.Test.YtdidlcjhodejjaaGreatSbu
namespace Go.Proofs.YtdidlcjhodejjaaGreat
open Go.RowKit Go.Deep Go.Joins
set_option linter.unusedVariables false

end Go.Proofs.YtdidlcjhodejjaaGreat
namespace Go.Proofs.YtdidlcjhodejjaaGreat
open Go.RowKit Go.Deep Go.Joins
set_option linter.unusedVariables false
end Go.Proofs.YtdidlcjhodejjaaGreat
namespace Go.Proofs.YtdidlcjhodejjaaGreat
open Go.RowKit Go.Deep Go.Joins
set_option linter.unusedVariables false
set_option linter.unusedSimpArgs false

end Go.Proofs.YtdidlcjhodejjaaGreat
