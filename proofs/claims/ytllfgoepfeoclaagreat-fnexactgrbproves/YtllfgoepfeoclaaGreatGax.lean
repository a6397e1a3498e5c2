/-
  A text about draws: nothing is drawn here.
  A text about draws: nothing is drawn here.
  A text about draws: nothing is drawn here.
-/
import Derived.Test.YtllfgoepfeoclaaGreatGaw
import Derived.Deep.RegionWith
namespace Go.Proofs.YtllfgoepfeoclaaGreat
end Go.Proofs.YtllfgoepfeoclaaGreat
namespace Go.Proofs.YtllfgoepfeoclaaGreat
end Go.Proofs.YtllfgoepfeoclaaGreat
namespace Go.Proofs.YtllfgoepfeoclaaGreat
end Go.Proofs.YtllfgoepfeoclaaGreat
