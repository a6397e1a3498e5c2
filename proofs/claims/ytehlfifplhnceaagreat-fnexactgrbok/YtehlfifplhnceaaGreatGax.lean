/-
  A text about draws: nothing is drawn here.
  A text about draws: nothing is drawn here.
  A text about draws: nothing is drawn here.
-/
import Derived.Test.YtehlfifplhnceaaGreatGaw
import Derived.Deep.RegionWith
namespace Go.Proofs.YtehlfifplhnceaaGreat
end Go.Proofs.YtehlfifplhnceaaGreat
namespace Go.Proofs.YtehlfifplhnceaaGreat
end Go.Proofs.YtehlfifplhnceaaGreat
namespace Go.Proofs.YtehlfifplhnceaaGreat
end Go.Proofs.YtehlfifplhnceaaGreat
