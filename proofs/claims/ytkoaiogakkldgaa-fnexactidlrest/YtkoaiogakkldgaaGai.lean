/-
  A text about draws: nothing is drawn here.
  A text about draws: nothing is drawn here.
  The least monomial that two divide: the model's and the program's function.
-/
import Derived.Test.YtkoaiogakkldgaaGah
import Derived.Test.YtkoaiogakkldgaaGaa
import Derived.Test.YtkoaiogakkldgaaGae
import Derived.Test.YtkoaiogakkldgaaGab
import Derived.Deep.RegionHeld3
import Derived.Deep.Light
namespace Go.Proofs.Ytkoaiogakkldgaa
end Go.Proofs.Ytkoaiogakkldgaa
namespace Go.Proofs.Ytkoaiogakkldgaa
end Go.Proofs.Ytkoaiogakkldgaa
namespace Go.Proofs.Ytkoaiogakkldgaa
open Go.RowKit
set_option linter.unusedVariables false

def S8 (u : World) (n : Nat) (x0 y0 z0 u0 x1 y1 z1 u1 : Int) : Prop := u.cell? ⟨n, 0, none⟩ = some (.int .i64 x0) ∧ u.cell? ⟨n, 1, none⟩ = some (.int .i64 y0) ∧ u.cell? ⟨n, 2, none⟩ = some (.int .i64 z0) ∧ u.cell? ⟨n, 3, none⟩ = some (.int .i64 u0) ∧ u.cell? ⟨n + 1, 0, none⟩ = some (.int .i64 x1) ∧ u.cell? ⟨n + 1, 1, none⟩ = some (.int .i64 y1) ∧ u.cell? ⟨n + 1, 2, none⟩ = some (.int .i64 z1) ∧ u.cell? ⟨n + 1, 3, none⟩ = some (.int .i64 u1)
theorem S8.mk {u : World} {n : Nat} {x0 y0 z0 u0 x1 y1 z1 u1 : Int} (ha : M4 u n x0 y0 z0 u0) (hb : M4 u (n + 1) x1 y1 z1 u1) : S8 u n x0 y0 z0 u0 x1 y1 z1 u1 :=
  ⟨ha.1, ha.2.1, ha.2.2.1, ha.2.2.2, hb.1, hb.2.1, hb.2.2.1, hb.2.2.2⟩
theorem S8.a {u : World} {n : Nat} {x0 y0 z0 u0 x1 y1 z1 u1 : Int} (h : S8 u n x0 y0 z0 u0 x1 y1 z1 u1) : M4 u n x0 y0 z0 u0 := ⟨h.1, h.2.1, h.2.2.1, h.2.2.2.1⟩
theorem S8.b {u : World} {n : Nat} {x0 y0 z0 u0 x1 y1 z1 u1 : Int} (h : S8 u n x0 y0 z0 u0 x1 y1 z1 u1) : M4 u (n + 1) x1 y1 z1 u1 := ⟨h.2.2.2.2.1, h.2.2.2.2.2.1, h.2.2.2.2.2.2.1, h.2.2.2.2.2.2.2⟩
theorem s8_drew {u : World} {n : Nat} {x0 y0 z0 u0 x1 y1 z1 u1 : Int} (h : S8 u n x0 y0 z0 u0 x1 y1 z1 u1) : S8 u.drew n x0 y0 z0 u0 x1 y1 z1 u1 := .mk h.a.drew' h.b.drew'
theorem m4_far {u : World} {B b : Nat} {v0 v1 v2 v3 : Value} {x y d e : Int} (m : M4 u b x y d e) (h : b ≠ B) : M4 ((((u.setCell ⟨B, 0, none⟩ v0).setCell ⟨B, 1, none⟩ v1).setCell ⟨B, 2, none⟩ v2).setCell ⟨B, 3, none⟩ v3) b x y d e :=
  ⟨(far4 h).trans m.1, (far4 h).trans m.2.1, (far4 h).trans m.2.2.1, (far4 h).trans m.2.2.2⟩
theorem s8_set {u : World} {n B : Nat} {v0 v1 v2 v3 : Value} {x0 y0 z0 u0 x1 y1 z1 u1 : Int} (h : S8 u n x0 y0 z0 u0 x1 y1 z1 u1) (hB : n + 1 < B) : S8 ((((u.setCell ⟨B, 0, none⟩ v0).setCell ⟨B, 1, none⟩ v1).setCell ⟨B, 2, none⟩ v2).setCell ⟨B, 3, none⟩ v3) n x0 y0 z0 u0 x1 y1 z1 u1 :=
  .mk (m4_far h.a (by omega)) (m4_far h.b (by omega))
end Go.Proofs.Ytkoaiogakkldgaa
