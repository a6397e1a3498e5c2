/-
  An order and a basis, or but some operators, are drawn (spec.l20Base); what is drawn lies apart from the reader.
  A proof, column by column: the program's way is the model's.
  A proof is made, column by column: impl.grbProof.
-/
import Derived.Test.YtmlaedpamobmhaaGreatPbo
import Derived.Test.YtmlaedpamobmhaaGreatPbt
import Derived.Test.YtmlaedpamobmhaaGreatPbq
import Derived.Test.YtmlaedpamobmhaaGreatPbk
import Derived.Test.YtmlaedpamobmhaaGreatPbf
import Derived.Test.YtmlaedpamobmhaaGreatPay
namespace Go.Proofs.YtmlaedpamobmhaaGreat
open Go.RowKit Go.Deep Go.Joins
set_option linter.unusedVariables false

theorem fr_beside {B : Nat} {w w' : World} (h : Beside B w w') : Fr (fun k => k = B) w w' := ⟨h.os, h.tape, h.output, h.size, fun k hk hn => h.block k hk hn⟩
theorem RSo.beside {B : Nat} {w w' : World} {a : Option Addr} {g c : Nat} {ad : Nat → Option Addr} {cp : Nat → Nat} {Q : Nat → List T} (h : RSo (fun b => b ≠ B) w a g c ad cp Q) (hb : Beside B w w') : RSo (fun b => b ≠ B) w' a g c ad cp Q := h.fr (fr_beside hb) (fun b hn e => hn e)
theorem RSo.below {N : Nat → Prop} {w w' : World} {a : Option Addr} {g c : Nat} {ad : Nat → Option Addr} {cp : Nat → Nat} {Q : Nat → List T} (h : RSo N w a g c ad cp Q) (hb : Below w.heap.size w w') : RSo N w' a g c ad cp Q := h.fr (P := fun _ => False) (Fr.of_below hb) (fun _ _ q => q)
theorem grbMake_m {o : Int} {n : Nat} {L : Nat → List T} {fuel : Int} : (grbMake o n L fuel).1.m ≤ 12 := by
  obtain ⟨B, d, h⟩ : ∃ B d, grbMake o n L fuel = (B, d) := ⟨_, _, rfl⟩
  rw [h]
  rcases grbMake_mk h with ⟨h0, _⟩ | ⟨_, j, hm, _⟩
  · show B.m ≤ 12; omega
  · exact (lstOk_all hm.ok.l).1
end Go.Proofs.YtmlaedpamobmhaaGreat
namespace Go.Proofs.YtmlaedpamobmhaaGreat
open Go.RowKit Go.Deep Go.Joins
set_option linter.unusedVariables false

/-- a column of the program's proof. -/
def pc0 (F X : List T) : Option (List T) := match wmV F X with
  | (Y, true) => some Y
  | (_, false) => none
end Go.Proofs.YtmlaedpamobmhaaGreat
namespace Go.Proofs.YtmlaedpamobmhaaGreat
open Go.RowKit Go.Deep Go.Joins
set_option linter.unusedVariables false
set_option linter.unusedSimpArgs false

end Go.Proofs.YtmlaedpamobmhaaGreat
