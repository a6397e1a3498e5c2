/-
  A pair, divided: what is taken of each and what is left; too much ends in a panic.
  Whether operators are a basis: the program's GrbOk.
  What is true of a list of whose pairs nothing is left: what is made of it, what is left by it.
-/
import Derived.Test.YtmlaedpamobmhaaGreatPbp
import Derived.Test.YtmlaedpamobmhaaGreatPbq
import Derived.Test.YtmlaedpamobmhaaGreatPbf
import Derived.Deep.LoopGhost
import Derived.Test.YtmlaedpamobmhaaGreatPbt
import Derived.Test.YtmlaedpamobmhaaGreatPbm
namespace Go.Proofs.YtmlaedpamobmhaaGreat
open Go.RowKit Go.Deep Go.Joins
set_option linter.unusedVariables false

end Go.Proofs.YtmlaedpamobmhaaGreat
namespace Go.Proofs.YtmlaedpamobmhaaGreat
open Go.RowKit Go.Deep Go.Joins
set_option linter.unusedVariables false

end Go.Proofs.YtmlaedpamobmhaaGreat
namespace Go.Proofs.YtmlaedpamobmhaaGreat
open Go.RowKit Go.Deep Go.Joins
set_option linter.unusedVariables false

end Go.Proofs.YtmlaedpamobmhaaGreat
