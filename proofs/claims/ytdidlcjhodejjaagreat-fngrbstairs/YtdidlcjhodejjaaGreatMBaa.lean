/-
  The least basis, as lists: who is needed, in which order, and what is left of each by the others.
-/
import Derived.Test.YtdidlcjhodejjaaGreatMap
namespace Go.Proofs.YtdidlcjhodejjaaGreat
open Go.RowKit Go.Deep Go.Joins
set_option linter.unusedVariables false
theorem wT {l:List (List T)} (h:UU l) (h12:l.length≤12):aT l.length (lN (bC l)) (fN (bC l))=true:=
 decide_eq_true ⟨h12,fun i hi=>⟨(h _ (eY hi)).2,(h _ (eY hi)).1⟩⟩
end Go.Proofs.YtdidlcjhodejjaaGreat
