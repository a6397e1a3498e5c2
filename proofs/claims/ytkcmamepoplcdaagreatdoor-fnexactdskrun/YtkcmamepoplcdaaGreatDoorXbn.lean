/-
  The model writes a line (DskText).
-/
import Derived.Test.YtkcmamepoplcdaaGreatDoorXbk
import Derived.Test.YtkcmamepoplcdaaGreatDoorXbl
import Derived.Test.YtkcmamepoplcdaaGreatDoorXbm
namespace Go.Proofs.YtkcmamepoplcdaaGreatDoor
open Go.RowKit
set_option linter.unusedVariables false
set_option linter.unusedSimpArgs false
theorem dM (k to a b:Int) (pa:Option Addr) (n cap:Nat) (f:Nat→T) (w:World) (h:Rd w pa n cap f):Calls Tryz.prog 23 #[.agg #[.int .i64 k,.int .i64 to,.int .i64 a,.int .i64 b,.slice pa n cap]] w fun r w'=>r= .returned (.string ⟨(dW k to a b n f).toArray⟩)∧Below w.heap.size w w':=by
 rcases(show(k<1∨(1≤k∧8<k))∨k=1∨k=2∨k=3∨k=4∨k=5∨k=6∨k=7∨k=8 by omega)with hk|rfl|rfl|rfl|rfl|rfl|rfl|rfl|rfl
 ·exact TF k hk to a b pa n cap f w h
 ·exact TG to a b pa n cap f w h
 ·exact TH to a b pa n cap f w h
 ·exact TI to a b pa n cap f w h
 ·exact TJ to a b pa n cap f w h
 ·exact TL to a b pa n cap f w h
 ·exact TM to a b pa n cap f w h
 ·exact TN to a b pa n cap f w h
 ·exact TP to a b pa n cap f w h
end Go.Proofs.YtkcmamepoplcdaaGreatDoor
