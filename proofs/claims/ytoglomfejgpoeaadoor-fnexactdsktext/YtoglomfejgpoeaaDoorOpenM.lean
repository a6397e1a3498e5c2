/-
  Monomials that come in, are copied and are held against each other.
-/
import Derived.Test.YtoglomfejgpoeaaDoorM4
import Derived.ProofKit
import Derived.Lib.SmallJoins
namespace Go.Proofs.YtoglomfejgpoeaaDoor
open Go.RowKit Go.Deep Go.Joins
set_option linter.unusedVariables false

set_option maxRecDepth 100000 in
theorem mon_open {H : Type} {enc : TypeId × Value → H} {w : World} {base : Nat} {spare : Nat → Bool} {held : Bool} {r : Reach} {b0 : Nat} {v : Value} {d : DataW H} {p : List MemPlace}
    (hv : Value.okWide Tryd.prog w r b0 60 v) (h : DataW.Trod enc Tryd.prog w base spare held 60 v d p) : ∃ x y z u : Int, v = .agg #[.int .i64 x, .int .i64 y, .int .i64 z, .int .i64 u] := by
  obtain ⟨v0, v1, v2, v3, y0, y1, y2, y3, n, rfl, _, _, h0, h1, h2, h3⟩ := open_agg4 Tryd.underlying60 (by kernel_rfl) (by kernel_rfl) hv h
  obtain ⟨z0, e0, _, _⟩ := DataW.trod_int Tryd.underlying3 h0
  obtain ⟨z1, e1, _, _⟩ := DataW.trod_int Tryd.underlying3 h1
  obtain ⟨z2, e2, _, _⟩ := DataW.trod_int Tryd.underlying3 h2
  obtain ⟨z3, e3, _, _⟩ := DataW.trod_int Tryd.underlying3 h3
  simp at e0 e1 e2 e3
  subst e0 e1 e2 e3
  exact ⟨z0, z1, z2, z3, rfl⟩
set_option maxHeartbeats 400000 in
theorem toMon (x y d e : Int) (w : World) :
    Calls Tryd.prog 37 #[.agg #[.int .i64 x, .int .i64 y, .int .i64 d, .int .i64 e]] w fun r w' => r = .returned (.agg #[.int .i64 x, .int .i64 y, .int .i64 d, .int .i64 e]) ∧ Below w.heap.size w w' := by
  go_enter Tryd.func37, Tryd.ntmps37
  go_wp2
  refine bodyPost_ret (v := .agg #[.int .i64 x, .int .i64 y, .int .i64 d, .int .i64 e]) (by simp [results, Tryd.results37, go_sem]) rfl ⟨rfl, ?_⟩
  exact bel_three w _ _ _
def M.eqB (a b : M) : Bool := decide (a.x = b.x ∧ a.y = b.y ∧ a.d = b.d ∧ a.e = b.e)
theorem M.eqB_iff {a b : M} : a.eqB b = true ↔ a = b := by
  cases a; cases b; simp [M.eqB]
theorem M.eqB_same (x y d e : Int) : M.eqB ⟨x, y, d, e⟩ ⟨x, y, d, e⟩ = true := by simp [M.eqB]
set_option maxHeartbeats 400000 in
theorem eqMon (x y d e x' y' d' e' : Int) (w : World) :
    Calls Tryd.prog 44 #[.agg #[.int .i64 x, .int .i64 y, .int .i64 d, .int .i64 e], .agg #[.int .i64 x', .int .i64 y', .int .i64 d', .int .i64 e']] w fun r w' => r = .returned (.bool (M.eqB ⟨x, y, d, e⟩ ⟨x', y', d', e'⟩)) ∧ Below w.heap.size w w' := by
  cases hx : (x != x')
  · cases hy : (y != y')
    · cases hd : (d != d')
      · cases he : (e != e')
        · have r1 : M.eqB ⟨x, y, d, e⟩ ⟨x', y', d', e'⟩ = true := by simp at hx hy hd he; simp [M.eqB, *]
          rw [r1]
          go_enter Tryd.func44, Tryd.ntmps44
          go_wp2
          go_ret
          exact ⟨rfl, bel_two w _ _⟩
        · have r1 : M.eqB ⟨x, y, d, e⟩ ⟨x', y', d', e'⟩ = false := by simp at he; simp [M.eqB, *]
          rw [r1]
          go_enter Tryd.func44, Tryd.ntmps44
          go_wp2
          go_ret
          exact ⟨rfl, bel_two w _ _⟩
      · have r1 : M.eqB ⟨x, y, d, e⟩ ⟨x', y', d', e'⟩ = false := by simp at hd; simp [M.eqB, *]
        rw [r1]
        go_enter Tryd.func44, Tryd.ntmps44
        go_wp2
        go_ret
        exact ⟨rfl, bel_two w _ _⟩
    · have r1 : M.eqB ⟨x, y, d, e⟩ ⟨x', y', d', e'⟩ = false := by simp at hy; simp [M.eqB, *]
      rw [r1]
      go_enter Tryd.func44, Tryd.ntmps44
      go_wp2
      go_ret
      exact ⟨rfl, bel_two w _ _⟩
  · have r1 : M.eqB ⟨x, y, d, e⟩ ⟨x', y', d', e'⟩ = false := by simp at hx; simp [M.eqB, *]
    rw [r1]
    go_enter Tryd.func44, Tryd.ntmps44
    go_wp2
    go_ret
    exact ⟨rfl, bel_two w _ _⟩
end Go.Proofs.YtoglomfejgpoeaaDoor
