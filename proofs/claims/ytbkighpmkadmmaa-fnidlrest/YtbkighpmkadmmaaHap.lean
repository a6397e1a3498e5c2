/-
  slices.SortFunc of monomials, laid.
  maps.Keys over a sum's map: its monomials come, each once, in some order.
  slices.AppendSeq and slices.Collect of monomials, against whatever iterator.
-/
import Derived.Test.YtbkighpmkadmmaaHao
import Derived.Shelf.SlSortCmp.InsertionK
import Derived.Shelf.Lay
import Derived.Ground.SlsfProg
import Derived.Test.YtbkighpmkadmmaaHam
import Derived.RangeFuncSeq
import Derived.RangeFuncGives
import Derived.Sort.MapsRangeIn
import Derived.Sort.KeysCollected
import Derived.Shelf.AbstractIn
import Derived.WalkKit
import Derived.OwnWalkIn
import Derived.TacticsInMore
import Derived.RegionIn
import Derived.LoopNIn
import Derived.LoopIn
import Derived.Shelf.SlIter.Collect
namespace Go.Proofs.Ytbkighpmkadmmaa
open Go.RowKit Go.Sort Go.Shelf Go.Lib
set_option linter.unusedVariables false

/-- a monomial that is ok. -/
abbrev OM : Type := { m : M // m.ok = true }
instance : Inhabited OM := ⟨⟨⟨0, 0, 0, 0⟩, by decide⟩⟩
shelf_lay_g SlLaysF0.n6 Slsf 6 at Try 132 as sortM
end Go.Proofs.Ytbkighpmkadmmaa
namespace Go.Proofs.Ytbkighpmkadmmaa
open Go.RowKit Go.Maps Go.Sort
set_option linter.unusedVariables false

end Go.Proofs.Ytbkighpmkadmmaa
namespace Go.Proofs.Ytbkighpmkadmmaa
open Go.RowKit Go.Maps Go.Sort
set_option linter.unusedVariables false

end Go.Proofs.Ytbkighpmkadmmaa
