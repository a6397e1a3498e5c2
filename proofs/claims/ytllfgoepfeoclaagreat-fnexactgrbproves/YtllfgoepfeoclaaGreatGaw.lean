/-
  A text about draws: nothing is drawn here.
  A text about draws: nothing is drawn here.
  A text about draws: nothing is drawn here.
-/
import Derived.Test.YtllfgoepfeoclaaGreatGav
import Derived.Test.YtllfgoepfeoclaaGreatGaf
namespace Go.Proofs.YtllfgoepfeoclaaGreat
end Go.Proofs.YtllfgoepfeoclaaGreat
namespace Go.Proofs.YtllfgoepfeoclaaGreat
end Go.Proofs.YtllfgoepfeoclaaGreat
namespace Go.Proofs.YtllfgoepfeoclaaGreat
end Go.Proofs.YtllfgoepfeoclaaGreat
