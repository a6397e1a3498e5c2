/-
  A division's step.
  A division ahead of its first step.
  An answer that is a list of operators: its memory is its own; it is marked, and the marks are held.
-/
import Derived.Test.YtmlaedpamobmhaaGreatPbi
import Derived.Deep.AppendLies
import Derived.Test.YtmlaedpamobmhaaGreatPbe
namespace Go.Proofs.YtmlaedpamobmhaaGreat
open Go.RowKit Go.Deep Go.Joins Go.Maps
set_option linter.unusedVariables false

end Go.Proofs.YtmlaedpamobmhaaGreat
namespace Go.Proofs.YtmlaedpamobmhaaGreat
open Go.RowKit Go.Deep Go.Joins Go.Maps
set_option linter.unusedVariables false

end Go.Proofs.YtmlaedpamobmhaaGreat
namespace Go.Proofs.YtmlaedpamobmhaaGreat
open Go.RowKit Go.Deep Go.Joins
set_option linter.unusedVariables false

/-- an answer of operators: row block R, the operators' blocks B, all from lo on and apart. -/
structure OutS (lo : Nat) (w : World) (a : Option Addr) (n cap : Nat) (ad : Nat → Option Addr) (ln cp : Nat → Nat) (f : Nat → Nat → T) (R : Nat) (B : Nat → Nat) : Prop where
  rd : RdS w a n cap ad ln cp f
  row : n = 0 ∨ ∃ off, a = some ⟨R, off, none⟩ ∧ lo ≤ R
  wr : ∀ i, i < n → Wr w (ad i) (ln i) (f i)
  el : ∀ i, i < n → ln i = 0 ∨ ∃ off, ad i = some ⟨B i, off, none⟩ ∧ lo ≤ B i ∧ B i ≠ R
  ap : ∀ i j, i < j → j < n → ln i ≠ 0 → ln j ≠ 0 → B i ≠ B j
end Go.Proofs.YtmlaedpamobmhaaGreat
