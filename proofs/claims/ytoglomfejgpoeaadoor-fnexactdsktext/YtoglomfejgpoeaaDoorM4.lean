/-
  The four cells of a monomial.
-/
import Derived.Test.YtoglomfejgpoeaaDoorMono
import Derived.ProofKit
import Derived.Deep.OwnRows
namespace Go.Proofs.YtoglomfejgpoeaaDoor
open Go.RowKit

/-- the four cells of a monomial. -/
def M4 (w : World) (b : Nat) (x y d e : Int) : Prop :=
  w.cell? ⟨b, 0, none⟩ = some (.int .i64 x) ∧ w.cell? ⟨b, 1, none⟩ = some (.int .i64 y) ∧ w.cell? ⟨b, 2, none⟩ = some (.int .i64 d) ∧ w.cell? ⟨b, 3, none⟩ = some (.int .i64 e)
theorem M4.lt {w : World} {b : Nat} {x y d e : Int} (h : M4 w b x y d e) : b < w.heap.size := World.block_lt_of_cell? w _ h.1
theorem M4.below {w w' : World} {b : Nat} {x y d e : Int} (h : M4 w b x y d e) (hb : Below w.heap.size w w') : M4 w' b x y d e :=
  ⟨(hb.cell (p := ⟨b, 0, none⟩) h.lt).trans h.1, (hb.cell (p := ⟨b, 1, none⟩) h.lt).trans h.2.1, (hb.cell (p := ⟨b, 2, none⟩) h.lt).trans h.2.2.1, (hb.cell (p := ⟨b, 3, none⟩) h.lt).trans h.2.2.2⟩
theorem M4.box (w : World) (t : TypeId) (x y d e : Int) : M4 (w.alloc (.cells #[.int .i64 x, .int .i64 y, .int .i64 d, .int .i64 e] t)) w.heap.size x y d e :=
  ⟨by rw [World.cell?_alloc_at _ _ _ _ rfl]; rfl, by rw [World.cell?_alloc_at _ _ _ _ rfl]; rfl, by rw [World.cell?_alloc_at _ _ _ _ rfl]; rfl, by rw [World.cell?_alloc_at _ _ _ _ rfl]; rfl⟩
theorem M4.drew' {w : World} {b : Nat} {x y d e : Int} (h : M4 w b x y d e) : M4 w.drew b x y d e := h.below (Below.refl _ _).drew
theorem s4_drew {w : World} {b : Nat} {x y d e : Int} (h : M4 w b x y d e) : M4 w.drew b x y d e := h.drew'
theorem s4_below {w w' : World} {b : Nat} {x y d e : Int} (hb : Below w.heap.size w w') (h : M4 w b x y d e) : M4 w' b x y d e := h.below hb
theorem M4.grown {w w' : World} {b : Nat} {x y d e : Int} {row : Option Nat} (h : M4 w b x y d e) (hg : w.grownBy w' row) (hne : some b ≠ row) : M4 w' b x y d e := by
  have he := hg.block b h.lt hne
  exact ⟨(World.cell?_of_block (w := w) (a := ⟨b, 0, none⟩) he).trans h.1, (World.cell?_of_block (w := w) (a := ⟨b, 1, none⟩) he).trans h.2.1, (World.cell?_of_block (w := w) (a := ⟨b, 2, none⟩) he).trans h.2.2.1, (World.cell?_of_block (w := w) (a := ⟨b, 3, none⟩) he).trans h.2.2.2⟩
theorem M4.alloc {w : World} {b : Nat} {x y d e : Int} (h : M4 w b x y d e) (o : Obj) : M4 (w.alloc o) b x y d e := h.below ((Below.refl _ _).alloc (Nat.le_refl _) _)
end Go.Proofs.YtoglomfejgpoeaaDoor
