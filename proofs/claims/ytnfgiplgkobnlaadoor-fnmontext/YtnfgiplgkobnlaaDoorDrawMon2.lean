/-
  The draws of two monomials: some two, and nothing that was there is turned.
-/
import Derived.Test.YtnfgiplgkobnlaaDoorDrawMon
import Derived.Test.YtnfgiplgkobnlaaDoorMono
namespace Go.Proofs.YtnfgiplgkobnlaaDoor
open Go.RowKit
set_option linter.unusedVariables false

theorem W4d.below {n g : Nat} {w w' : World} (h : W4d w g) (hb : Below n w w') (hg : g < n) : W4d w' g := by
  obtain ⟨⟨x0, x1, x2, x3, c0, c1, c2, c3⟩, f0, f1, f2, f3⟩ := h
  have he := hb.block g hg
  have fz : ∀ o, w'.frozen? ⟨g, o, none⟩ = w.frozen? ⟨g, o, none⟩ := fun o => World.frozen?_of_block he
  have cz : ∀ o, w'.cell? ⟨g, o, none⟩ = w.cell? ⟨g, o, none⟩ := fun o => World.cell?_of_block he
  exact ⟨⟨x0, x1, x2, x3, (cz 0).trans c0, (cz 1).trans c1, (cz 2).trans c2, (cz 3).trans c3⟩, (fz 0).trans f0, (fz 1).trans f1, (fz 2).trans f2, (fz 3).trans f3⟩
theorem w4_new (w : World) (t : TypeId) : W4d (w.alloc (.cells #[.int .i64 0, .int .i64 0, .int .i64 0, .int .i64 0] t)) w.heap.size :=
  ⟨⟨0, 0, 0, 0, by rw [World.cell?_alloc_at _ _ _ _ rfl]; rfl, by rw [World.cell?_alloc_at _ _ _ _ rfl]; rfl, by rw [World.cell?_alloc_at _ _ _ _ rfl]; rfl, by rw [World.cell?_alloc_at _ _ _ _ rfl]; rfl⟩, by rw [World.frozen?_alloc_at _ _ _ _ rfl], by rw [World.frozen?_alloc_at _ _ _ _ rfl], by rw [World.frozen?_alloc_at _ _ _ _ rfl], by rw [World.frozen?_alloc_at _ _ _ _ rfl]⟩
theorem W4d.far {g b o : Nat} {w : World} {v : Value} (h : W4d w g) (hn : g ≠ b) : W4d (w.setCell ⟨b, o, none⟩ v) g := by
  obtain ⟨⟨x0, x1, x2, x3, c0, c1, c2, c3⟩, f0, f1, f2, f3⟩ := h
  exact ⟨⟨x0, x1, x2, x3, (cell_set_far hn).trans c0, (cell_set_far hn).trans c1, (cell_set_far hn).trans c2, (cell_set_far hn).trans c3⟩, (frozen_set_far hn).trans f0, (frozen_set_far hn).trans f1, (frozen_set_far hn).trans f2, (frozen_set_far hn).trans f3⟩
theorem Beside.drew {B : Nat} {a w : World} (h : Beside B a w) : Beside B a w.drew := h.drewN 1
def C4 (w : World) (g : Nat) (x y d z : Int) : Prop := w.cell? ⟨g, 0, none⟩ = some (.int .i64 x) ∧ w.cell? ⟨g, 1, none⟩ = some (.int .i64 y) ∧ w.cell? ⟨g, 2, none⟩ = some (.int .i64 d) ∧ w.cell? ⟨g, 3, none⟩ = some (.int .i64 z)
theorem C4.same {w w' : World} {g : Nat} {x y d z : Int} (h : C4 w g x y d z) (he : w'.heap[g]? = w.heap[g]?) : C4 w' g x y d z :=
  have cz : ∀ o, w'.cell? ⟨g, o, none⟩ = w.cell? ⟨g, o, none⟩ := fun o => World.cell?_of_block he
  ⟨(cz 0).trans h.1, (cz 1).trans h.2.1, (cz 2).trans h.2.2.1, (cz 3).trans h.2.2.2⟩
theorem C4.lt {w : World} {g : Nat} {x y d z : Int} (h : C4 w g x y d z) : g < w.heap.size := World.block_lt_of_cell? w _ h.1
theorem C4.move {B g : Nat} {w w' : World} {x y d z : Int} (h : C4 w g x y d z) (hb : Beside B w w') (hn : g ≠ B) : C4 w' g x y d z := h.same (hb.block g h.lt hn)
theorem C4.below {n g : Nat} {w w' : World} {x y d z : Int} (h : C4 w g x y d z) (hb : Below n w w') (hg : g < n) : C4 w' g x y d z := h.same (hb.block g hg)
theorem c4_new (w : World) (t : TypeId) (x y d z : Int) : C4 (w.alloc (.cells #[.int .i64 x, .int .i64 y, .int .i64 d, .int .i64 z] t)) w.heap.size x y d z :=
  ⟨by rw [World.cell?_alloc_at _ _ _ _ rfl]; rfl, by rw [World.cell?_alloc_at _ _ _ _ rfl]; rfl, by rw [World.cell?_alloc_at _ _ _ _ rfl]; rfl, by rw [World.cell?_alloc_at _ _ _ _ rfl]; rfl⟩
end Go.Proofs.YtnfgiplgkobnlaaDoor
