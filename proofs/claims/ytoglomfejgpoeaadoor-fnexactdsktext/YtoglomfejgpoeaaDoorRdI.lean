/-
  The program reads monomials (leadingDigits, monGuess, MonRead).
-/
import Derived.Test.YtoglomfejgpoeaaDoorRdA
import Derived.Test.YtoglomfejgpoeaaDoorTxI
import Derived.Shelf.Lay
import Derived.Shelf.Small.Wraps
import Derived.Shelf.Strconv.AtoiAll
import Derived.Shelf.Strconv.ErrVarAll
import Derived.Ground.NamesProg
namespace Go.Proofs.YtoglomfejgpoeaaDoor
open Go.Shelf Go.RowKit
set_option linter.unusedVariables false
set_option linter.unusedSimpArgs false

theorem ba_size (l : List UInt8) : (⟨l.toArray⟩ : ByteArray).size = l.length := by simp [ByteArray.size]
theorem str_index {l : List UInt8} {k : Nat} {c : UInt8} (h : l[k]? = some c) (u : World) : (Instr.index 9 (.string ⟨l.toArray⟩) (.int .i64 (k : Int))).run Tryd.prog u = .ok (.int .u8 (c.toNat : Int)) u := by
  obtain ⟨hk, e⟩ := List.getElem?_eq_some_iff.1 h
  rw [run_index_string _ _ _ _ _ Tryd.underlying9, dif_pos ⟨by omega, by rw [ba_size]; omega⟩]
  subst e
  rfl
theorem str_to {l : List UInt8} {k : Nat} (h : k ≤ l.length) (u : World) : (Instr.slice 9 (.string ⟨l.toArray⟩) none (some (.int .i64 (k : Int))) none).run Tryd.prog u = .ok (.string ⟨(l.take k).toArray⟩) u := by
  rw [run_slice_string_to_if _ _ _ _ _ Tryd.underlying9, if_pos ⟨by omega, by rw [ba_size]; omega⟩]
  congr 2
  apply ByteArray.ext
  simp
theorem str_from {l : List UInt8} {k : Nat} (h : k ≤ l.length) (u : World) : (Instr.slice 9 (.string ⟨l.toArray⟩) (some (.int .i64 (k : Int))) none none).run Tryd.prog u = .ok (.string ⟨(l.drop k).toArray⟩) u := by
  rw [run_slice_string_from_if _ _ _ _ _ Tryd.underlying9, if_pos ⟨by omega, by rw [ba_size]; omega⟩]
  congr 2
  apply ByteArray.ext
  simp [ba_size]
  exact List.take_of_length_le (by simp)
end Go.Proofs.YtoglomfejgpoeaaDoor
