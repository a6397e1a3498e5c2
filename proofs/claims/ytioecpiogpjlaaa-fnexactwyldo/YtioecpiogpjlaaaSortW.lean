/-
  What slices.SortFunc does to monomials that are ok.
-/
import Derived.Test.YtioecpiogpjlaaaSortedM
import Derived.Shelf.SlSortCmp.WholeK
import Derived.Shelf.SlSortCmp.NoneTotal
namespace Go.Proofs.Ytioecpiogpjlaaa
open Go.RowKit Go.Maps Go.Sort Go.Shelf Go.Lib
set_option linter.unusedVariables false

set_option maxHeartbeats 1000000 in
theorem sortsM : SortsM := by
  have eg : ∀ args w, (callFunc 75 args).run Try.prog w = .ok (.enter 75 args) w := enters_of Try.func75 (by kernel_rfl) rfl
  refine ⟨fun Br W gb cap d hB hne hr hH hgb hsz => ?_, fun p cap fv W => ?_⟩
  · have hcon := AnyQ.slices_SortFunc sortM 4 (fun w => Try.isAgg38 w) (fun w => Try.sizeOf38 w) cellsO (fun _ => rfl) (fun x v hv => by simp [cellsO] at hv; rcases hv with rfl | rfl | rfl | rfl <;> rfl) (fun x y => c3 (rkD x.1) (rkD y.1)) swoM 75 #[.pointer (some ⟨Br, 0, none⟩)] gb 0 cap d W eg (cmpLaysM Br gb 0 d.size W hB hne hr) hH hgb hsz
    exact hcon
  · exact AnyF.slices_SortFunc_none { sortM with } p cap fv W
end Go.Proofs.Ytioecpiogpjlaaa
