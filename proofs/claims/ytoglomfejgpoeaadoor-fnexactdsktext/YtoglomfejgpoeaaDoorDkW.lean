/-
  The model writes a line (DskText).
-/
import Derived.Test.YtoglomfejgpoeaaDoorDkT
import Derived.Test.YtoglomfejgpoeaaDoorDkU
import Derived.Test.YtoglomfejgpoeaaDoorDkV
import Derived.Deep.RegionHeld3
namespace Go.Proofs.YtoglomfejgpoeaaDoor
open Go.RowKit
set_option linter.unusedVariables false
set_option linter.unusedSimpArgs false

theorem dskTextS (k to a b : Int) (pa : Option Addr) (n cap : Nat) (f : Nat → T) (w : World) (h : Rd w pa n cap f) :
    Calls Tryd.prog 5 #[.agg #[.int .i64 k, .int .i64 to, .int .i64 a, .int .i64 b, .slice pa n cap]] w fun r w' => r = .returned (.string ⟨(lnT k to a b n f).toArray⟩) ∧ Below w.heap.size w w' := by
  rcases (show (k < 1 ∨ (1 ≤ k ∧ 8 < k)) ∨ k = 1 ∨ k = 2 ∨ k = 3 ∨ k = 4 ∨ k = 5 ∨ k = 6 ∨ k = 7 ∨ k = 8 by omega) with hk | rfl | rfl | rfl | rfl | rfl | rfl | rfl | rfl
  · exact dtS0 k hk to a b pa n cap f w h
  · exact dtS1 to a b pa n cap f w h
  · exact dtS2 to a b pa n cap f w h
  · exact dtS3 to a b pa n cap f w h
  · exact dtS4 to a b pa n cap f w h
  · exact dtS5 to a b pa n cap f w h
  · exact dtS6 to a b pa n cap f w h
  · exact dtS7 to a b pa n cap f w h
  · exact dtS8 to a b pa n cap f w h
end Go.Proofs.YtoglomfejgpoeaaDoor
