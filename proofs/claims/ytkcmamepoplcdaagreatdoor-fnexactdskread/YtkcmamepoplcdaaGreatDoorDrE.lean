/-
  Lines are held against each other (laws.eqDskLine), in a seat that copies none.
-/
import Derived.Test.YtkcmamepoplcdaaGreatDoorGam
import Derived.Test.YtkcmamepoplcdaaGreatDoorGad
namespace Go.Proofs.YtkcmamepoplcdaaGreatDoor
open Go.RowKit
set_option linter.unusedVariables false
set_option linter.unusedSimpArgs false
set_option maxRecDepth 100000 in
set_option maxHeartbeats 2000000 in
theorem eqLine (k to a b : Int) (pa pa' : Option Addr) (n cap cap' : Nat) (f : Nat → T) (w : World) (h : Rd w pa n cap f) (h' : Rd w pa' n cap' f) :
    Calls Tryz.prog 10 #[.agg #[.int .i64 k, .int .i64 to, .int .i64 a, .int .i64 b, .slice pa n cap], .agg #[.int .i64 k, .int .i64 to, .int .i64 a, .int .i64 b, .slice pa' n cap']] w fun r w' => r = .returned (.bool true) ∧ Below w.heap.size w w' := by
  have hb0 := bel_two w (.cells #[.int .i64 k, .int .i64 to, .int .i64 a, .int .i64 b, .slice pa n cap] 24) (.cells #[.int .i64 k, .int .i64 to, .int .i64 a, .int .i64 b, .slice pa' n cap'] 24)
  have HC := Hid.mk' (eqTerms _ _ _ _ _ _ _ _ _ (h.below hb0) (h'.below hb0))
  rw [termsEq_same] at HC
  have HB0 := Hid.mk' hb0
  clear hb0 h h'
  go_enter Tryz.func10, Tryz.ntmps10
  go_wp2_with fail
  refine HC.out.mono ?_
  rintro r w1 ⟨rfl, hb1⟩
  have HB1 := Hid.mk' (bel_next HB0.out hb1)
  clear hb1
  go_wp2
  go_ret
  exact ⟨rfl, HB1.out⟩
end Go.Proofs.YtkcmamepoplcdaaGreatDoor
