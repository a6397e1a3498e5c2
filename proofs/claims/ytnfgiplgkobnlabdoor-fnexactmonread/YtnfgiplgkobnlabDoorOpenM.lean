/-
  Monomials that come in, are copied and are held against each other.
-/
import Derived.Test.YtnfgiplgkobnlabDoorM4
import Derived.ProofKit
import Derived.Lib.SmallJoins
namespace Go.Proofs.YtnfgiplgkobnlabDoor
open Go.RowKit Go.Deep Go.Joins
set_option linter.unusedVariables false

def M.eqB (a b : M) : Bool := decide (a.x = b.x ∧ a.y = b.y ∧ a.d = b.d ∧ a.e = b.e)
theorem M.eqB_iff {a b : M} : a.eqB b = true ↔ a = b := by
  cases a; cases b; simp [M.eqB]
theorem M.eqB_same (x y d e : Int) : M.eqB ⟨x, y, d, e⟩ ⟨x, y, d, e⟩ = true := by simp [M.eqB]
set_option maxHeartbeats 400000 in
theorem eqMon (x y d e x' y' d' e' : Int) (w : World) :
    Calls Tryd.prog 6 #[.agg #[.int .i64 x, .int .i64 y, .int .i64 d, .int .i64 e], .agg #[.int .i64 x', .int .i64 y', .int .i64 d', .int .i64 e']] w fun r w' => r = .returned (.bool (M.eqB ⟨x, y, d, e⟩ ⟨x', y', d', e'⟩)) ∧ Below w.heap.size w w' := by
  cases hx : (x != x')
  · cases hy : (y != y')
    · cases hd : (d != d')
      · cases he : (e != e')
        · have r1 : M.eqB ⟨x, y, d, e⟩ ⟨x', y', d', e'⟩ = true := by simp at hx hy hd he; simp [M.eqB, *]
          rw [r1]
          go_enter Tryd.func6, Tryd.ntmps6
          go_wp2
          go_ret
          exact ⟨rfl, bel_two w _ _⟩
        · have r1 : M.eqB ⟨x, y, d, e⟩ ⟨x', y', d', e'⟩ = false := by simp at he; simp [M.eqB, *]
          rw [r1]
          go_enter Tryd.func6, Tryd.ntmps6
          go_wp2
          go_ret
          exact ⟨rfl, bel_two w _ _⟩
      · have r1 : M.eqB ⟨x, y, d, e⟩ ⟨x', y', d', e'⟩ = false := by simp at hd; simp [M.eqB, *]
        rw [r1]
        go_enter Tryd.func6, Tryd.ntmps6
        go_wp2
        go_ret
        exact ⟨rfl, bel_two w _ _⟩
    · have r1 : M.eqB ⟨x, y, d, e⟩ ⟨x', y', d', e'⟩ = false := by simp at hy; simp [M.eqB, *]
      rw [r1]
      go_enter Tryd.func6, Tryd.ntmps6
      go_wp2
      go_ret
      exact ⟨rfl, bel_two w _ _⟩
  · have r1 : M.eqB ⟨x, y, d, e⟩ ⟨x', y', d', e'⟩ = false := by simp at hx; simp [M.eqB, *]
    rw [r1]
    go_enter Tryd.func6, Tryd.ntmps6
    go_wp2
    go_ret
    exact ⟨rfl, bel_two w _ _⟩
end Go.Proofs.YtnfgiplgkobnlabDoor
