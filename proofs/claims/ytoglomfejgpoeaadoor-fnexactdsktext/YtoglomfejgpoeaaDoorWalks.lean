/-
  What each function of chapter 1, of the program and of its model, returns: the plain numbers of the text Math; none changes the world.
-/
import Derived.Test.YtoglomfejgpoeaaDoorRows
import Derived.WalkKit
import Derived.Test.YtoglomfejgpoeaaDoorMath
namespace Go.Proofs.YtoglomfejgpoeaaDoor
open Go.RowKit
set_option linter.unusedVariables false

theorem okI_in (a : Int) (w : World) (h1 : 0 ≤ a) (h2 : a ≤ 100) :
    Calls Tryd.prog 45 #[.int .i64 a] w fun e w' => e = .returned (.bool true) ∧ w' = w := by
  have d1 : decide (a < 101) = true := decide_eq_true (by omega)
  go_enter Tryd.func45, Tryd.ntmps45
  go_wp2
  go_ret
  exact ⟨rfl, rfl⟩
theorem okI_out (a : Int) (w : World) (h : a < 0 ∨ 100 < a) :
    Calls Tryd.prog 45 #[.int .i64 a] w fun e w' => e = .returned (.bool false) ∧ w' = w := by
  rcases h with h | h
  · go_enter Tryd.func45, Tryd.ntmps45
    go_wp2
    go_ret
    exact ⟨rfl, rfl⟩
  · have d1 : decide (a < 101) = false := decide_eq_false (by omega)
    go_enter Tryd.func45, Tryd.ntmps45
    go_wp2
    go_ret
    exact ⟨rfl, rfl⟩
theorem inS_in (n l h : Int) (w : World) (h1 : l ≤ n) (h2 : n ≤ h) :
    Calls Tryd.prog 10 #[.int .i64 n, .int .i64 l, .int .i64 h] w fun e w' => e = .returned (.bool true) ∧ w' = w := by
  have d1 : decide (n ≤ h) = true := decide_eq_true h2
  go_enter Tryd.func10, Tryd.ntmps10
  go_wp2
  go_ret
  exact ⟨rfl, rfl⟩
theorem inS_out (n l h : Int) (w : World) (hh : n < l ∨ (l ≤ n ∧ h < n)) :
    Calls Tryd.prog 10 #[.int .i64 n, .int .i64 l, .int .i64 h] w fun e w' => e = .returned (.bool false) ∧ w' = w := by
  rcases hh with h1 | ⟨h1, h2⟩
  · go_enter Tryd.func10, Tryd.ntmps10
    go_wp2
    go_ret
    exact ⟨rfl, rfl⟩
  · have d1 : decide (n ≤ h) = false := decide_eq_false (by omega)
    go_enter Tryd.func10, Tryd.ntmps10
    go_wp2
    go_ret
    exact ⟨rfl, rfl⟩
theorem okI (a : Int) (w : World) :
    Calls Tryd.prog 45 #[.int .i64 a] w fun e w' => e = .returned (.bool (okB a)) ∧ w' = w := by
  by_cases h : 0 ≤ a ∧ a ≤ 100
  · rw [okB_mk h]; exact okI_in a w h.1 h.2
  · rw [okB_no h]; exact okI_out a w (by omega)
end Go.Proofs.YtoglomfejgpoeaaDoor
