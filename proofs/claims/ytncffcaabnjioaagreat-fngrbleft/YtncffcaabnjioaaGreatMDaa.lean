/-
  A basis is made: the model's GrbMake, where it is not empty.
-/
import Derived.Test.YtncffcaabnjioaaGreatMbn
namespace Go.Proofs.YtncffcaabnjioaaGreat
open Go.RowKit Go.Deep Go.Joins
set_option linter.unusedVariables false
set_option linter.unusedSimpArgs false
section
variable {o:Int} {n:Nat} {L:Nat→List T}
theorem yT {p:List T} {S:Dv} (h:aP o p n (lN L) (fN L)=some S) (h0:S.r=[]):fQ n L (Rp aI p):=by rw[←lC aI h,h0,lP,Lq.sum_nil];exact wX h
end
end Go.Proofs.YtncffcaabnjioaaGreat
namespace Go.Proofs.YtncffcaabnjioaaGreat
open Go.RowKit Go.Deep Go.Joins
set_option linter.unusedVariables false
end Go.Proofs.YtncffcaabnjioaaGreat
