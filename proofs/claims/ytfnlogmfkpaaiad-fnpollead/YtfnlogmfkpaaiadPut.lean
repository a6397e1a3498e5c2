/-
  What is owned while a reader goes on.
-/
import Derived.Test.YtfnlogmfkpaaiadPutS
import Derived.Test.YtfnlogmfkpaaiadRegInv
namespace Go.Proofs.Ytfnlogmfkpaaiad
open Go.RowKit
set_option linter.unusedVariables false

theorem beside_grown {B : Nat} {w w' : World} (h : Beside B w w') : w.grownBy w' (some B) := ⟨h.os, h.tape, h.output, h.size, fun k hk hn => h.block k hk (fun e => hn (by rw [e]))⟩
theorem beside_of_below {B : Nat} {w w' : World} (h : Below w.heap.size w w') : Beside B w w' := ⟨h.os, h.tape, h.output, h.size, fun k hk _ => h.block k hk⟩
/-- a reader below whose block nothing is turned. -/
theorem Rdr.beside {w w' : World} {B p : Nat} (h : Rdr w B p) (hb : Beside w.heap.size w w') : Rdr w' B p := by
  have hlt := h.lt
  obtain ⟨hc1, hf, a, len, cap, hc0, hl, h0⟩ := h
  have he := hb.block B hlt (by omega)
  refine ⟨(World.cell?_of_block (w := w) (a := ⟨B, 1, none⟩) he).trans hc1, (World.frozen?_of_block (w := w) (a := ⟨B, 1, none⟩) he).trans hf, a, len, cap, (World.cell?_of_block (w := w) (a := ⟨B, 0, none⟩) he).trans hc0, hl, ?_⟩
  rcases h0 with h0 | ⟨bb, off, z, rfl, hbb, hz, z0, z1⟩
  · exact .inl h0
  · exact .inr ⟨bb, off, z, rfl, hbb, fun i hi => (World.cell?_of_block (w := w) (a := ⟨bb, off + i, none⟩) (hb.block bb (by omega) (by omega))).trans (hz i hi), z0, z1⟩
theorem owns_beside {w w' : World} {B base : Nat} {e : TypeId} {size : Nat} {v : Value} {n : Nat} {xs : List Value} (h : w.ownsRow base e size v n xs) (hb : Beside B w w') (hB : B < base) : w'.ownsRow base e size v n xs := by
  refine h.kept (beside_grown hb) ?_
  cases hv : v.ownBlock with
  | none => exact .inl rfl
  | some k =>
    refine .inr (fun he => ?_)
    have := (h.lt k hv).1
    cases he
    omega
end Go.Proofs.Ytfnlogmfkpaaiad
