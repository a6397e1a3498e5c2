/-
  An operator that is ok falls.
-/
import Derived.Test.YtllfgoepfeoclabGam
namespace Go.Proofs.Ytllfgoepfeoclab
open Go.RowKit
set_option linter.unusedVariables false

theorem fl_of_ok {n : Nat} {f : Nat → T} (h : polOk n f = true) : Fl f n := by
  have hp := h
  simp only [polOk, decide_eq_true_eq] at hp
  have h1 : ∀ i, i < n → (f i).m.ok = true ∧ 1 ≤ (f i).c ∧ (f i).c ≤ 100 := fun i hi => by
    have := hp.2 i hi
    simp only [okAt, Bool.and_eq_true, decide_eq_true_eq] at this
    exact ⟨this.1.2, this.1.1⟩
  refine ⟨fun j i hji hi => ?_, h1⟩
  induction i with
  | zero => omega
  | succ i ih =>
    have h2 := hp.2 (i + 1) hi
    simp only [okAt, Bool.and_eq_true, Bool.or_eq_true, decide_eq_true_eq] at h2
    have h3 := h2.2.resolve_left (by omega)
    rw [show i + 1 - 1 = i by omega] at h3
    have h4 := (ord_pos (h1 i (by omega)).1 (h1 (i + 1) hi).1).1 h3
    by_cases hji2 : j = i
    · rw [hji2]; exact h4
    · have := ih (by omega) (by omega)
      omega
end Go.Proofs.Ytllfgoepfeoclab
