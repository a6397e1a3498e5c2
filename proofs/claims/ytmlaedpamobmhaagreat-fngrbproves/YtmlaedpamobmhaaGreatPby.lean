/-
  A basis is made: the program's GrbMake.
  Whether two bases are the same (laws.heBase): two that hold the same.
  Nothing is left of the pairs of a basis (laws.heBasis).
-/
import Derived.Test.YtmlaedpamobmhaaGreatPbx
import Derived.Test.YtmlaedpamobmhaaGreatPbs
import Derived.Test.YtmlaedpamobmhaaGreatPbo
import Derived.Test.YtmlaedpamobmhaaGreatPbu
import Derived.Test.YtmlaedpamobmhaaGreatPba
import Derived.Test.YtmlaedpamobmhaaGreatPay
import Derived.Test.YtmlaedpamobmhaaGreatPbm
namespace Go.Proofs.YtmlaedpamobmhaaGreat
open Go.RowKit Go.Deep Go.Joins
set_option linter.unusedVariables false

theorem own_low {w : World} {lo lo' : Nat} {e : TypeId} {size : Nat} {v : Value} {n : Nat} {xs : List Value} (h : w.ownsRow lo e size v n xs) (hl : lo' ≤ lo) : w.ownsRow lo' e size v n xs := ⟨h.1, h.2.imp id (fun ⟨g, cap, cur, e1, e2, r⟩ => ⟨g, cap, cur, e1, Nat.le_trans hl e2, r⟩)⟩
theorem BsW.low {Y : Nat → Prop} {w : World} {lo lo' : Nat} {tvL tvP : Value} {g nL : Nat} {L : Nat → List T} {nP : Nat} {Q : Nat → Nat → List T} {LS PS : List Value} (h : BsW Y w lo tvL tvP g nL L nP Q LS PS) (hl : lo' ≤ lo) : BsW Y w lo' tvL tvP g nL L nP Q LS PS := ⟨own_low h.rL hl, own_low h.rP hl, h.eL, h.eP, h.nL, h.nP⟩
end Go.Proofs.YtmlaedpamobmhaaGreat
namespace Go.Proofs.YtmlaedpamobmhaaGreat
open Go.RowKit Go.Deep Go.Joins
set_option linter.unusedVariables false

end Go.Proofs.YtmlaedpamobmhaaGreat
namespace Go.Proofs.YtmlaedpamobmhaaGreat
open Go.RowKit Go.Deep Go.Joins
set_option linter.unusedVariables false

end Go.Proofs.YtmlaedpamobmhaaGreat
