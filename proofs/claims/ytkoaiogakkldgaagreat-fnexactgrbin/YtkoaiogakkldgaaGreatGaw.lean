/-
  A text about draws: nothing is drawn here.
  A text about draws: nothing is drawn here.
  A text about draws: nothing is drawn here.
-/
import Derived.Test.YtkoaiogakkldgaaGreatGav
import Derived.Test.YtkoaiogakkldgaaGreatGaf
namespace Go.Proofs.YtkoaiogakkldgaaGreat
end Go.Proofs.YtkoaiogakkldgaaGreat
namespace Go.Proofs.YtkoaiogakkldgaaGreat
end Go.Proofs.YtkoaiogakkldgaaGreat
namespace Go.Proofs.YtkoaiogakkldgaaGreat
end Go.Proofs.YtkoaiogakkldgaaGreat
