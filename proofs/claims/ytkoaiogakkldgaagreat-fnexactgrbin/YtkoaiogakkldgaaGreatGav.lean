/-
  A text about draws: nothing is drawn here.
  A text about draws: nothing is drawn here.
  A text about draws: nothing is drawn here.
-/
import Derived.Test.YtkoaiogakkldgaaGreatRows
import Derived.WalkKit
import Derived.Deep.QuietTactic
import Derived.BigQuiet
import Derived.Deep.RegionWith
import Derived.WalkSmall
import Derived.Test.YtkoaiogakkldgaaGreatGal
import Derived.Test.YtkoaiogakkldgaaGreatGaa
namespace Go.Proofs.YtkoaiogakkldgaaGreat
end Go.Proofs.YtkoaiogakkldgaaGreat
namespace Go.Proofs.YtkoaiogakkldgaaGreat
end Go.Proofs.YtkoaiogakkldgaaGreat
namespace Go.Proofs.YtkoaiogakkldgaaGreat
end Go.Proofs.YtkoaiogakkldgaaGreat
