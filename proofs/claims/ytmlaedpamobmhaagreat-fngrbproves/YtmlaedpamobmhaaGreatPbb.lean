/-
  The greatest term of an operator in an order: the program's function.
  Which operators are free of others: the model, and the program's first one that divides.
  Whether an operator is free of others: the model.
-/
import Derived.Test.YtmlaedpamobmhaaGreatPba
import Derived.Test.YtmlaedpamobmhaaGreatPaf
namespace Go.Proofs.YtmlaedpamobmhaaGreat
open Go.RowKit
set_option linter.unusedVariables false

/-- five cells of one block, at its beginning. -/
def C5 (w : World) (b : Nat) (t : T) : Prop :=
  w.cell? ⟨b, 0, none⟩ = some (.int .i64 t.c) ∧ w.cell? ⟨b, 1, none⟩ = some (.int .i64 t.m.x) ∧ w.cell? ⟨b, 2, none⟩ = some (.int .i64 t.m.y) ∧ w.cell? ⟨b, 3, none⟩ = some (.int .i64 t.m.d) ∧ w.cell? ⟨b, 4, none⟩ = some (.int .i64 t.m.e)
theorem C5.lt {w : World} {b : Nat} {t : T} (h : C5 w b t) : b < w.heap.size := World.block_lt_of_cell? w _ h.1
theorem C5.below {w w' : World} {b : Nat} {t : T} (h : C5 w b t) (hb : Below w.heap.size w w') : C5 w' b t := s5_below hb h
theorem C5.box (w : World) (y : TypeId) (t : T) : C5 (w.alloc (.cells #[.int .i64 t.c, .int .i64 t.m.x, .int .i64 t.m.y, .int .i64 t.m.d, .int .i64 t.m.e] y)) w.heap.size t :=
  ⟨by rw [World.cell?_alloc_at _ _ _ _ rfl]; rfl, by rw [World.cell?_alloc_at _ _ _ _ rfl]; rfl, by rw [World.cell?_alloc_at _ _ _ _ rfl]; rfl, by rw [World.cell?_alloc_at _ _ _ _ rfl]; rfl, by rw [World.cell?_alloc_at _ _ _ _ rfl]; rfl⟩
theorem far5 {w : World} {B b o : Nat} {v0 v1 v2 v3 v4 : Value} (h : b ≠ B) : (((((w.setCell ⟨B, 0, none⟩ v0).setCell ⟨B, 1, none⟩ v1).setCell ⟨B, 2, none⟩ v2).setCell ⟨B, 3, none⟩ v3).setCell ⟨B, 4, none⟩ v4).cell? ⟨b, o, none⟩ = w.cell? ⟨b, o, none⟩ := by
  refine World.cell?_of_block ?_
  rw [Below.heap_setCell _ _ _ _ h, Below.heap_setCell _ _ _ _ h, Below.heap_setCell _ _ _ _ h, Below.heap_setCell _ _ _ _ h, Below.heap_setCell _ _ _ _ h]
theorem farz5 {w : World} {B b o : Nat} {v0 v1 v2 v3 v4 : Value} (h : b ≠ B) : (((((w.setCell ⟨B, 0, none⟩ v0).setCell ⟨B, 1, none⟩ v1).setCell ⟨B, 2, none⟩ v2).setCell ⟨B, 3, none⟩ v3).setCell ⟨B, 4, none⟩ v4).frozen? ⟨b, o, none⟩ = w.frozen? ⟨b, o, none⟩ := by
  refine World.frozen?_of_block ?_
  rw [Below.heap_setCell _ _ _ _ h, Below.heap_setCell _ _ _ _ h, Below.heap_setCell _ _ _ _ h, Below.heap_setCell _ _ _ _ h, Below.heap_setCell _ _ _ _ h]
/-- a block of the call's own, five cells that may be written. -/
def Own5 (w : World) (b : Nat) (t : T) : Prop := C5 w b t ∧ ∀ j, w.frozen? ⟨b, j, none⟩ = false
theorem Own5.below {w w' : World} {b : Nat} {t : T} (h : Own5 w b t) (hb : Below w.heap.size w w') : Own5 w' b t := ⟨h.1.below hb, fun j => (hb.frozen (p := ⟨b, j, none⟩) h.1.lt).trans (h.2 j)⟩
theorem Own5.box (w : World) (y : TypeId) (t : T) : Own5 (w.alloc (.cells #[.int .i64 t.c, .int .i64 t.m.x, .int .i64 t.m.y, .int .i64 t.m.d, .int .i64 t.m.e] y)) w.heap.size t :=
  ⟨C5.box w y t, fun j => by rw [World.frozen?_alloc_at _ _ _ _ rfl]⟩
theorem Own5.far {w : World} {B b : Nat} {t : T} {v0 v1 v2 v3 v4 : Value} (m : Own5 w b t) (h : b ≠ B) : Own5 (((((w.setCell ⟨B, 0, none⟩ v0).setCell ⟨B, 1, none⟩ v1).setCell ⟨B, 2, none⟩ v2).setCell ⟨B, 3, none⟩ v3).setCell ⟨B, 4, none⟩ v4) b t :=
  ⟨⟨(far5 h).trans m.1.1, (far5 h).trans m.1.2.1, (far5 h).trans m.1.2.2.1, (far5 h).trans m.1.2.2.2.1, (far5 h).trans m.1.2.2.2.2⟩, fun j => (farz5 h).trans (m.2 j)⟩
def zeroT : T := ⟨0, ⟨0, 0, 0, 0⟩⟩
end Go.Proofs.YtmlaedpamobmhaaGreat
namespace Go.Proofs.YtmlaedpamobmhaaGreat
open Go.RowKit Go.Deep Go.Joins
set_option linter.unusedVariables false

/-- a slice in a cell, and a monomial in a box. -/
abbrev L5 (b o B : Nat) (v : Value) (m : M) (u : World) : Prop := u.cell? ⟨b, o, none⟩ = some v ∧ u.cell? ⟨B, 0, none⟩ = some (.int .i64 m.x) ∧ u.cell? ⟨B, 1, none⟩ = some (.int .i64 m.y) ∧ u.cell? ⟨B, 2, none⟩ = some (.int .i64 m.d) ∧ u.cell? ⟨B, 3, none⟩ = some (.int .i64 m.e)
theorem L5.below {b o B : Nat} {v : Value} {m : M} {u u' : World} (h : L5 b o B v m u) (hb : Below u.heap.size u u') : L5 b o B v m u' :=
  have l1 := World.block_lt_of_cell? u ⟨b, o, none⟩ h.1
  have l2 := World.block_lt_of_cell? u ⟨B, 0, none⟩ h.2.1
  ⟨(hb.cell (p := ⟨b, o, none⟩) l1).trans h.1, (hb.cell (p := ⟨B, 0, none⟩) l2).trans h.2.1, (hb.cell (p := ⟨B, 1, none⟩) l2).trans h.2.2.1, (hb.cell (p := ⟨B, 2, none⟩) l2).trans h.2.2.2.1, (hb.cell (p := ⟨B, 3, none⟩) l2).trans h.2.2.2.2⟩
/-- the greatest term of the i-th operator. -/
def ldAt (o : Int) (ln : Nat → Nat) (f : Nat → Nat → T) (i : Nat) : T := f i (leadAt o (f i) (ln i))
end Go.Proofs.YtmlaedpamobmhaaGreat
namespace Go.Proofs.YtmlaedpamobmhaaGreat
open Go.RowKit Go.Deep Go.Joins
set_option linter.unusedVariables false

theorem lstOk_all {n : Nat} {ln : Nat → Nat} {f : Nat → Nat → T} (h : lstOk n ln f = true) : n ≤ 12 ∧ ∀ i, i < n → ln i ≠ 0 ∧ polOk (ln i) (f i) = true := of_decide_eq_true h
end Go.Proofs.YtmlaedpamobmhaaGreat
