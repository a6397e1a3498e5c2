/-
  Rows of texts.
-/
import Derived.Test.YtoglomfejgpoeaaDoorHelp
import Derived.Test.YtoglomfejgpoeaaDoorAdd
import Derived.Test.YtoglomfejgpoeaaDoorRdI
import Derived.Laws.MakeOwn
namespace Go.Proofs.YtoglomfejgpoeaaDoor
open Go.RowKit
set_option linter.unusedVariables false
theorem infoSt : (Tryd.prog.info? 9).map (fun i => (i.zero, i.size, i.bytes)) = some (some (.string ⟨#[]⟩), 1, 16) := by kernel_rfl
def stL (xs : List (List UInt8)) : List Value := xs.map fun l => Value.string ⟨l.toArray⟩
theorem stL_len (xs : List (List UInt8)) : (stL xs).length = xs.length := by simp [stL]
theorem stL_app (a b : List (List UInt8)) : stL (a ++ b) = stL a ++ stL b := by simp [stL]
theorem one_st (s : ByteArray) : ∀ u ∈ [Value.string s], u.oneCell' = true := fun u hu => by
  rw [List.mem_singleton] at hu
  subst hu
  rfl
/-- a row of texts in a block of its own. -/
abbrev OwT (lo : Nat) (v : Value) (xs : List (List UInt8)) (w : World) : Prop := w.ownsRow lo 9 1 v xs.length (stL xs)
theorem owt_none (w : World) (lo : Nat) (h : lo ≤ w.heap.size) : OwT lo (.slice (some ⟨w.heap.size, 0, none⟩) 0 0) [] (w.alloc (.cells #[] 9)) := World.ownsRow_lit _ _ _ h (Nat.zero_le _) rfl
theorem owt_len {lo : Nat} {g k cp : Nat} {xs : List (List UInt8)} {w : World} (h : OwT lo (.slice (some ⟨g, 0, none⟩) k cp) xs w) : k = xs.length ∧ lo ≤ g ∧ g < w.heap.size := by
  rcases h.2 with ⟨e, _⟩ | ⟨g', cap', cur, e, h2, h3, _⟩
  · cases e
  · cases e
    exact ⟨rfl, h2, (Array.getElem?_eq_some_iff.1 h3).1⟩
theorem owt_cell {lo : Nat} {g k cp : Nat} {xs : List (List UInt8)} {w : World} (h : OwT lo (.slice (some ⟨g, 0, none⟩) k cp) xs w) {i : Nat} {l : List UInt8} (hi : xs[i]? = some l) : w.cell? ⟨g, i, none⟩ = some (.string ⟨l.toArray⟩) := by
  have hl := (List.getElem?_eq_some_iff.1 hi).1
  obtain ⟨rfl, _⟩ := owt_len h
  have e := World.ownsRow.cellAt h i (by omega)
  rw [e]
  unfold stL
  rw [List.getElem?_map, hi]
  rfl
end Go.Proofs.YtoglomfejgpoeaaDoor
