/-
  Two lists of operators are drawn (spec.DrawRedSum).
  A sum of products of two lists: the mathematics, and the model's RedSum.
  A sum of products of two lists: the program.
-/
import Derived.Test.YtdidlcjhodejjaaGreatSbf
import Derived.Test.YtdidlcjhodejjaaGreatSba
import Derived.Test.YtdidlcjhodejjaaGreatSay
namespace Go.Proofs.YtdidlcjhodejjaaGreat
open Go.RowKit Go.Deep Go.Joins
set_option linter.unusedVariables false

end Go.Proofs.YtdidlcjhodejjaaGreat
namespace Go.Proofs.YtdidlcjhodejjaaGreat
open Go.RowKit Go.Deep Go.Joins
set_option linter.unusedVariables false

end Go.Proofs.YtdidlcjhodejjaaGreat
namespace Go.Proofs.YtdidlcjhodejjaaGreat
open Go.RowKit Go.Deep Go.Joins
set_option linter.unusedVariables false

end Go.Proofs.YtdidlcjhodejjaaGreat
