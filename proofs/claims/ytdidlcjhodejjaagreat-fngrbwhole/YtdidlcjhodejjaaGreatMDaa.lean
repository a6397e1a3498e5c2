/-
  The draw of a monomial: some monomial, whatever the order in which its parts come up; the reader goes on by some places.
-/
import Derived.Test.YtdidlcjhodejjaaGreatMaf
namespace Go.Proofs.YtdidlcjhodejjaaGreat
open Go.RowKit
set_option linter.unusedVariables false
def Al (w:World) (N:Nat) (v:Value):Prop:=∃g,v= .pointer (some ⟨g,0,none⟩)∧N≤g∧g<w.heap.size∧(∀i,i<4→∃x,w.cell? ⟨g,i,none⟩=some (.int .i64 x))∧∀i,w.frozen? ⟨g,i,none⟩=false
end Go.Proofs.YtdidlcjhodejjaaGreat
