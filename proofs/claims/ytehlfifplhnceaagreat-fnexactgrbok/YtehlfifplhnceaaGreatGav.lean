/-
  A text about draws: nothing is drawn here.
  A text about draws: nothing is drawn here.
  A text about draws: nothing is drawn here.
-/
import Derived.Test.YtehlfifplhnceaaGreatRows
import Derived.WalkKit
import Derived.Deep.QuietTactic
import Derived.BigQuiet
import Derived.Deep.RegionWith
import Derived.WalkSmall
import Derived.Test.YtehlfifplhnceaaGreatGal
import Derived.Test.YtehlfifplhnceaaGreatGaa
namespace Go.Proofs.YtehlfifplhnceaaGreat
end Go.Proofs.YtehlfifplhnceaaGreat
namespace Go.Proofs.YtehlfifplhnceaaGreat
end Go.Proofs.YtehlfifplhnceaaGreat
namespace Go.Proofs.YtehlfifplhnceaaGreat
end Go.Proofs.YtehlfifplhnceaaGreat
