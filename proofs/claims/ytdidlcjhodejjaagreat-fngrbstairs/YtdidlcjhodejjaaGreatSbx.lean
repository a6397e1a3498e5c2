/-
  A proof is made, column by column: impl.grbProof.
  The proof of what is left of a pair: (*impl.grbMaking).proofOf.
  The queue of pairs within a greater box: what is left of that box as it was.
-/
import Derived.Test.YtdidlcjhodejjaaGreatSbw
import Derived.Test.YtdidlcjhodejjaaGreatSbk
import Derived.Test.YtdidlcjhodejjaaGreatSbr
import Derived.Test.YtdidlcjhodejjaaGreatSbf
import Derived.Test.YtdidlcjhodejjaaGreatSay
import Derived.Test.YtdidlcjhodejjaaGreatSbq
import Derived.Test.YtdidlcjhodejjaaGreatSbs
namespace Go.Proofs.YtdidlcjhodejjaaGreat
open Go.RowKit Go.Deep Go.Joins
set_option linter.unusedVariables false
set_option linter.unusedSimpArgs false

end Go.Proofs.YtdidlcjhodejjaaGreat
namespace Go.Proofs.YtdidlcjhodejjaaGreat
open Go.RowKit Go.Deep Go.Joins
set_option linter.unusedVariables false
set_option linter.unusedSimpArgs false

end Go.Proofs.YtdidlcjhodejjaaGreat
namespace Go.Proofs.YtdidlcjhodejjaaGreat
open Go.RowKit Go.Deep Go.Joins
set_option linter.unusedVariables false

end Go.Proofs.YtdidlcjhodejjaaGreat
