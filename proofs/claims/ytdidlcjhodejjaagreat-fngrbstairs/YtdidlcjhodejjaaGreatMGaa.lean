/-
  What the functions over operators hand back, as lists.
-/
import Derived.Test.YtdidlcjhodejjaaGreatMEaa
namespace Go.Proofs.YtdidlcjhodejjaaGreat
open Go.RowKit
set_option linter.unusedVariables false
def ZP (w:World) (v:Value) (e:Ending) (w':World):Prop:=e= .returned v∧Below w.heap.size w w'
variable {w:World} {a b:Option Addr} {ca cb:Nat} {L K:List T}
end Go.Proofs.YtdidlcjhodejjaaGreat
