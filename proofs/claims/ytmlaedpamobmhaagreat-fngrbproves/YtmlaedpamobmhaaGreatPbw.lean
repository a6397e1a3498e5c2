/-
  The proof of what is left of a pair: (*impl.grbMaking).proofOf.
  The queue of pairs within a greater box: what is left of that box as it was.
  The program's basis on its way: its box, its queue and its rows; one more operator is put behind ((*impl.grbMaking).add).
-/
import Derived.Test.YtmlaedpamobmhaaGreatPbv
import Derived.Test.YtmlaedpamobmhaaGreatPbp
import Derived.Test.YtmlaedpamobmhaaGreatPbs
import Derived.Test.YtmlaedpamobmhaaGreatPbq
namespace Go.Proofs.YtmlaedpamobmhaaGreat
open Go.RowKit Go.Deep Go.Joins
set_option linter.unusedVariables false
set_option linter.unusedSimpArgs false

end Go.Proofs.YtmlaedpamobmhaaGreat
namespace Go.Proofs.YtmlaedpamobmhaaGreat
open Go.RowKit Go.Deep Go.Joins
set_option linter.unusedVariables false

end Go.Proofs.YtmlaedpamobmhaaGreat
namespace Go.Proofs.YtmlaedpamobmhaaGreat
open Go.RowKit Go.Deep Go.Joins
set_option linter.unusedVariables false

end Go.Proofs.YtmlaedpamobmhaaGreat
