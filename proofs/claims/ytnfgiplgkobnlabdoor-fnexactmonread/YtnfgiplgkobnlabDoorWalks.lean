/-
  What each function of chapter 1, of the program and of its model, returns: the plain numbers of the text Math; none changes the world.
-/
import Derived.Test.YtnfgiplgkobnlabDoorRows
import Derived.WalkKit
import Derived.Test.YtnfgiplgkobnlabDoorMath
namespace Go.Proofs.YtnfgiplgkobnlabDoor
open Go.RowKit
set_option linter.unusedVariables false

theorem inS_in (n l h : Int) (w : World) (h1 : l ≤ n) (h2 : n ≤ h) :
    Calls Tryd.prog 13 #[.int .i64 n, .int .i64 l, .int .i64 h] w fun e w' => e = .returned (.bool true) ∧ w' = w := by
  have d1 : decide (n ≤ h) = true := decide_eq_true h2
  go_enter Tryd.func13, Tryd.ntmps13
  go_wp2
  go_ret
  exact ⟨rfl, rfl⟩
theorem inS_out (n l h : Int) (w : World) (hh : n < l ∨ (l ≤ n ∧ h < n)) :
    Calls Tryd.prog 13 #[.int .i64 n, .int .i64 l, .int .i64 h] w fun e w' => e = .returned (.bool false) ∧ w' = w := by
  rcases hh with h1 | ⟨h1, h2⟩
  · go_enter Tryd.func13, Tryd.ntmps13
    go_wp2
    go_ret
    exact ⟨rfl, rfl⟩
  · have d1 : decide (n ≤ h) = false := decide_eq_false (by omega)
    go_enter Tryd.func13, Tryd.ntmps13
    go_wp2
    go_ret
    exact ⟨rfl, rfl⟩
end Go.Proofs.YtnfgiplgkobnlabDoor
