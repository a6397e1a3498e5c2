/-
  A region within a round that draws its order and ends in an append and a store, by one invariant.
  A sum told as an operator.
  A sum told as an operator.
-/
import Derived.Test.YtbkighpmkadmmaaHar
import Derived.Deep.AppendLies
import Derived.Maps.OwnOps
import Derived.Test.YtbkighpmkadmmaaHaq
import Derived.Test.YtbkighpmkadmmaaHai
import Derived.Maps.OwnIn
namespace Go.Proofs.Ytbkighpmkadmmaa
open Go.RowKit Go.Maps
set_option linter.unusedVariables false

end Go.Proofs.Ytbkighpmkadmmaa
namespace Go.Proofs.Ytbkighpmkadmmaa
open Go.RowKit Go.Maps Go.Sort Go.Shelf
set_option linter.unusedVariables false
attribute [local go_sem] Oper.semAt_some

theorem coef_mem {m : M} : ∀ {L : List T}, coef L m ≠ 0 → m ∈ L.map (·.m)
  | [], h => absurd rfl h
  | t :: r, h => by
    rw [coef] at h
    by_cases ht : meqB t.m m = true
    · simp [meqB_iff.1 ht]
    · rw [if_neg ht] at h
      simpa using Or.inr (by simpa using coef_mem h)
end Go.Proofs.Ytbkighpmkadmmaa
namespace Go.Proofs.Ytbkighpmkadmmaa
open Go.RowKit Go.Maps Go.Sort Go.Shelf
set_option linter.unusedVariables false
attribute [local go_sem] Oper.semAt_some

theorem ownsRow_low {W : World} {base base' : Nat} {e : TypeId} {size : Nat} {v : Value} {n : Nat} {xs : List Value} (h : W.ownsRow base e size v n xs) (hb : base' ≤ base) : W.ownsRow base' e size v n xs :=
  ⟨h.1, h.2.imp id (fun ⟨g, cap, cur, a, b, r⟩ => ⟨g, cap, cur, a, Nat.le_trans hb b, r⟩)⟩
end Go.Proofs.Ytbkighpmkadmmaa
