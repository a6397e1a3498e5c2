/-
  A text about draws: nothing is drawn here.
  A text about draws: nothing is drawn here.
  A text about draws: nothing is drawn here.
-/
import Derived.Test.YtllfgoepfeoclaaGreatRows
import Derived.WalkKit
import Derived.Deep.QuietTactic
import Derived.BigQuiet
import Derived.Deep.RegionWith
import Derived.WalkSmall
import Derived.Test.YtllfgoepfeoclaaGreatGal
import Derived.Test.YtllfgoepfeoclaaGreatGaa
namespace Go.Proofs.YtllfgoepfeoclaaGreat
end Go.Proofs.YtllfgoepfeoclaaGreat
namespace Go.Proofs.YtllfgoepfeoclaaGreat
end Go.Proofs.YtllfgoepfeoclaaGreat
namespace Go.Proofs.YtllfgoepfeoclaaGreat
end Go.Proofs.YtllfgoepfeoclaaGreat
