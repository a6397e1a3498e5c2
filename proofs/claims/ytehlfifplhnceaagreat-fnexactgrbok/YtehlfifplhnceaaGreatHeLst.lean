/-
  Lists of operators as lists; whether two are the same (laws.heList).
-/
import Derived.Test.YtehlfifplhnceaaGreatGbm
import Derived.Test.YtehlfifplhnceaaGreatGaq
namespace Go.Proofs.YtehlfifplhnceaaGreat
open Go.RowKit Go.Deep Go.Joins
set_option linter.unusedVariables false

theorem rds_lists {w : World} {a : Option Addr} {n c : Nat} {ad : Nat → Option Addr} {ln cp : Nat → Nat} {f : Nat → Nat → T} (h : RdS w a n c ad ln cp f) : ∃ L : Nat → List T, ln = lN L ∧ RdS w a n c ad (lN L) cp (fN L) := by
  have e : ln = lN (fun i => (List.range (ln i)).map (f i)) := funext fun i => by simp
  refine ⟨fun i => (List.range (ln i)).map (f i), e, ?_⟩
  rw [← e]
  refine ⟨h.1, h.2.1, h.2.2.1, fun i hi => rd_congr (h.2.2.2 i hi) (fun j hj => ?_)⟩
  show f i j = lf ((List.range (ln i)).map (f i)) j
  rw [lf_eq (by simpa using hj)]
  simp
def lsq (n : Nat) (L : Nat → List T) (n' : Nat) (L' : Nat → List T) : Bool := decide (n = n' ∧ ∀ i, i < n → sq (L i) (L' i) = true)
theorem lsq_same (n : Nat) (L : Nat → List T) : lsq n L n L = true := decide_eq_true ⟨rfl, fun i _ => sq_same (L i)⟩
theorem lsq_iff {n : Nat} {L : Nat → List T} {n' : Nat} {L' : Nat → List T} : lsq n L n' L' = true ↔ n = n' ∧ ∀ i, i < n → L i = L' i := by
  unfold lsq
  rw [decide_eq_true_iff]
  exact ⟨fun h => ⟨h.1, fun i hi => sq_iff.1 (h.2 i hi)⟩, fun h => ⟨h.1, fun i hi => sq_iff.2 (h.2 i hi)⟩⟩
theorem lsq_no {n : Nat} {L : Nat → List T} {n' : Nat} {L' : Nat → List T} (h : ¬ (n = n' ∧ ∀ i, i < n → L i = L' i)) : lsq n L n' L' = false := by
  cases e : lsq n L n' L'
  · rfl
  · exact absurd (lsq_iff.1 e) h
end Go.Proofs.YtehlfifplhnceaaGreat
