/-
  slices.SortFunc of monomials, laid.
-/
import Derived.Test.YtioecpiogpjlaaaCmpM
import Derived.Shelf.SlSortCmp.InsertionK
import Derived.Shelf.Lay
import Derived.Ground.SlsfProg
namespace Go.Proofs.Ytioecpiogpjlaaa
open Go.RowKit Go.Sort Go.Shelf Go.Lib
set_option linter.unusedVariables false

/-- a monomial that is ok. -/
abbrev OM : Type := { m : M // m.ok = true }
def cellsO (m : OM) : List Value := [.int .i64 m.1.x, .int .i64 m.1.y, .int .i64 m.1.d, .int .i64 m.1.e]
instance : Inhabited OM := ⟨⟨⟨0, 0, 0, 0⟩, by decide⟩⟩
theorem cmpLaysM (Br blk off size : Nat) (w : World) (hB : Br < w.heap.size) (hne : Br ≠ blk) (hr : w.cell? ⟨Br, 0, none⟩ = some (.func (.func 54) #[] #[])) :
    CmpLays Try.prog 75 #[.pointer (some ⟨Br, 0, none⟩)] cellsO 4 (fun x y => c3 (rkD x.1) (rkD y.1)) blk off size w := by
  intro m os dk hdk x y
  have hr' : (sortWorldK cellsO 4 w blk off m dk os).cell? ⟨Br, 0, none⟩ = some (.func (.func 54) #[] #[]) := by
    unfold sortWorldK
    rw [cell?_grow _ _ _ (by rw [size_putRowK]; exact hB), cell?_putRowK_other _ _ _ blk off dk _ hne]
    exact hr
  have hB' : Br < (sortWorldK cellsO 4 w blk off m dk os).heap.size := by
    unfold sortWorldK
    rw [size_grow, size_putRowK]
    exact Nat.lt_of_lt_of_le hB (Nat.le_add_right _ _)
  refine (cmpClosure Br _ _ _ _ _ _ _ _ _ x.2 y.2 hB' hr').mono ?_
  rintro e w' ⟨rfl, hg⟩
  exact ⟨rfl, hg.form⟩
theorem ltM (x y : OM) : ltOf (fun x y : OM => c3 (rkD x.1) (rkD y.1)) x y = decide (rkD x.1 < rkD y.1) := by
  unfold ltOf c3
  by_cases h1 : rkD x.1 < rkD y.1
  · simp [h1]
  · by_cases h2 : rkD y.1 < rkD x.1 <;> simp [h1, h2]
theorem swoM : SWO (ltOf fun x y : OM => c3 (rkD x.1) (rkD y.1)) where
  irrefl x := by rw [ltM]; simp
  trans x y z h1 h2 := by rw [ltM] at *; simp at *; omega
  ntrans x y z h1 h2 := by rw [ltM] at *; simp at *; omega
shelf_lay_g SlLaysF0.n6 Slsf 6 at Try 80 as sortM
end Go.Proofs.Ytioecpiogpjlaaa
