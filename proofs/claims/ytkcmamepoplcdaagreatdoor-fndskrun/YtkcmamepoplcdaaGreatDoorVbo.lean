/-
  The model writes a line (DskText).
-/
import Derived.Test.YtkcmamepoplcdaaGreatDoorVbl
import Derived.Test.YtkcmamepoplcdaaGreatDoorVbm
import Derived.Test.YtkcmamepoplcdaaGreatDoorVbn
namespace Go.Proofs.YtkcmamepoplcdaaGreatDoor
open Go.RowKit
set_option linter.unusedVariables false
set_option linter.unusedSimpArgs false
theorem dQ (k to a b:Int) (pa:Option Addr) (n cap:Nat) (f:Nat→T) (w:World) (h:Rd w pa n cap f):Calls Tryz.prog 23 #[.agg #[.int .i64 k,.int .i64 to,.int .i64 a,.int .i64 b,.slice pa n cap]] w fun r w'=>r= .returned (.string ⟨(eI k to a b n f).toArray⟩)∧Below w.heap.size w w':=by
 rcases(show(k<1∨(1≤k∧8<k))∨k=1∨k=2∨k=3∨k=4∨k=5∨k=6∨k=7∨k=8 by omega)with hk|rfl|rfl|rfl|rfl|rfl|rfl|rfl|rfl
 ·exact VL k hk to a b pa n cap f w h
 ·exact VM to a b pa n cap f w h
 ·exact VN to a b pa n cap f w h
 ·exact VO to a b pa n cap f w h
 ·exact VP to a b pa n cap f w h
 ·exact VQ to a b pa n cap f w h
 ·exact VR to a b pa n cap f w h
 ·exact VS to a b pa n cap f w h
 ·exact VT to a b pa n cap f w h
end Go.Proofs.YtkcmamepoplcdaaGreatDoor
