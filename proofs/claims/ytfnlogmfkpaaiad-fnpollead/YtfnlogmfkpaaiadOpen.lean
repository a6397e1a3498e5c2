/-
  How the rows' readings of terms are opened: a slice of terms that came in is a row of numbers, five a term.
-/
import Derived.Test.YtfnlogmfkpaaiadHelp
import Derived.ProofKit
import Derived.Deep.Slices
import Derived.Lib.SmallJoins
namespace Go.Proofs.Ytfnlogmfkpaaiad
open Go.RowKit Go.Deep Go.Joins
set_option linter.unusedVariables false

/-- A slice of terms that came in. -/
def IsTerms (w : World) (a : Option Addr) (n cap : Nat) (f : Nat → T) : Prop :=
  n ≤ cap ∧ cap ≤ maxLen ∧ (n = 0 ∨ ∃ b off, a = some ⟨b, off, none⟩ ∧ b < w.heap.size ∧ ∀ i, i < n → Cells w b (off + i * 5) (f i))
theorem IsTerms.rd {w : World} {a : Option Addr} {n cap : Nat} {f : Nat → T} (h : IsTerms w a n cap f) (hn : n * 40 ≤ 140737488351232) : Rd w a n cap f := ⟨h.1, hn, h.2.2⟩
end Go.Proofs.Ytfnlogmfkpaaiad
