/-
  A text about draws: nothing is drawn here.
  A text about draws: nothing is drawn here.
  A text about draws: nothing is drawn here.
-/
import Derived.Test.YtehlfifplhnceaaGreatGav
import Derived.Test.YtehlfifplhnceaaGreatGaf
namespace Go.Proofs.YtehlfifplhnceaaGreat
end Go.Proofs.YtehlfifplhnceaaGreat
namespace Go.Proofs.YtehlfifplhnceaaGreat
end Go.Proofs.YtehlfifplhnceaaGreat
namespace Go.Proofs.YtehlfifplhnceaaGreat
end Go.Proofs.YtehlfifplhnceaaGreat
