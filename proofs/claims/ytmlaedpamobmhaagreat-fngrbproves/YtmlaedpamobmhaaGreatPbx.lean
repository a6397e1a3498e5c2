/-
  Those that were given are put ahead of all others: (*impl.grbMaking).addGiven.
  A pair is looked at: (*impl.grbMaking).lookAt.
  Pair by pair until none is left, or something is too much: (*impl.grbMaking).lookAtAll.
-/
import Derived.Test.YtmlaedpamobmhaaGreatPbw
import Derived.Test.YtmlaedpamobmhaaGreatPbs
import Derived.Laws.OwnMore
import Derived.Test.YtmlaedpamobmhaaGreatPbu
namespace Go.Proofs.YtmlaedpamobmhaaGreat
open Go.RowKit Go.Deep Go.Joins
set_option linter.unusedVariables false
end Go.Proofs.YtmlaedpamobmhaaGreat
namespace Go.Proofs.YtmlaedpamobmhaaGreat
open Go.RowKit Go.Deep Go.Joins
set_option linter.unusedVariables false
set_option linter.unusedSimpArgs false

end Go.Proofs.YtmlaedpamobmhaaGreat
namespace Go.Proofs.YtmlaedpamobmhaaGreat
open Go.RowKit Go.Deep Go.Joins
set_option linter.unusedVariables false

end Go.Proofs.YtmlaedpamobmhaaGreat
