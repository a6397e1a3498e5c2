/-
  The product of two operators: the model's loops.
  Powers of an operator, and how far two are apart: the program and the model.
  How far two operators are from commuting: the program and the model.
-/
import Derived.Test.YtnfimnfaejjagaaGat
namespace Go.Proofs.Ytnfimnfaejjagaa
open Go.RowKit
set_option linter.unusedVariables false

end Go.Proofs.Ytnfimnfaejjagaa
namespace Go.Proofs.Ytnfimnfaejjagaa
open Go.RowKit
set_option linter.unusedVariables false

theorem two_good {a b : T} (h1 : a.m.ok = true ∧ 0 ≤ a.c ∧ a.c ≤ 100) (h2 : b.m.ok = true ∧ 0 ≤ b.c ∧ b.c ≤ 100) (hok : (a.m.sum b.m).ok = true) : Two a b (a.m.sum b.m) := ⟨h1.1, h2.1, hok, rfl, rfl, rfl, rfl, h1.2, h2.2⟩
theorem rowM_falls {K : List T} {a : T} {g : Nat → T} {lb : Nat} (hK : Falls K) (ha : a.m.ok = true ∧ 0 ≤ a.c ∧ a.c ≤ 100) (hg : Good g lb) : ∀ k K', k ≤ lb → rowM K a g k = some K' → Falls K'
  | 0, K', _, h => by cases h; exact hK
  | k + 1, K', hk, h => by
    rw [rowM] at h
    cases hr : rowM K a g k with
    | none => rw [hr] at h; cases h
    | some K1 =>
      rw [hr] at h
      change stepM K1 a (g k) = some K' at h
      unfold stepM at h
      split at h
      · rename_i hh
        cases h
        exact (addL_facts (rowM_falls hK ha hg k K1 (by omega) hr) (pairL_facts (two_good ha (hg k (by omega)) hh.1)).1).1
      · cases h
theorem mulM_falls {f g : Nat → T} {la lb : Nat} (hf : Good f la) (hg : Good g lb) : ∀ i K, i ≤ la → mulM f g lb i = some K → Falls K
  | 0, K, _, h => by cases h; exact falls_nil
  | i + 1, K, hi, h => by
    rw [mulM] at h
    cases hr : mulM f g lb i with
    | none => rw [hr] at h; cases h
    | some K1 =>
      rw [hr] at h
      exact rowM_falls (mulM_falls hf hg i K1 (by omega) hr) (hf i (by omega)) hg lb K (Nat.le_refl _) h
theorem good_falls {L : List T} (h : Falls L) : Good (lf L) L.length := fun i hi => by have := (fl_lf h).2 i hi; exact ⟨this.1, by omega, this.2.2⟩
theorem ok_falls {L : List T} (h : Falls L) (hl : L.length ≤ 400) : polOk L.length (lf L) = true := by
  have F := fl_lf h
  simp only [polOk, decide_eq_true_eq]
  refine ⟨hl, fun i hi => ?_⟩
  have h1 := F.2 i hi
  simp only [okAt, Bool.and_eq_true, Bool.or_eq_true, decide_eq_true_eq]
  refine ⟨⟨h1.2, h1.1⟩, ?_⟩
  by_cases h0 : i = 0
  · exact .inl h0
  · refine .inr ((ord_pos (F.2 (i - 1) (by omega)).1 h1.1).2 (F.1 (i - 1) i (by omega) hi))
theorem mul_falls {K : List T} (hK : Falls K) (hl : K.length ≤ 400) {f : Nat → T} {la : Nat} (hf : polOk la f = true) : wylMul (lf K) K.length f la = mulO (mulM (lf K) f la K.length) := by simp [wylMul, ok_falls hK hl, hf]
def oneT : T := ⟨1, ⟨0, 0, 0, 0⟩⟩
def powM (f : Nat → T) (la : Nat) : Nat → Option (List T)
  | 0 => some [oneT]
  | n + 1 => (powM f la n).bind fun K => mulM (lf K) f la K.length
theorem powM_none {f : Nat → T} {la i : Nat} (h : powM f la i = none) : ∀ j, i ≤ j → powM f la j = none := fun j hj => by
  induction j with
  | zero =>
    have e : i = 0 := by omega
    rw [e] at h
    exact h
  | succ j ih =>
    by_cases e : i = j + 1
    · rw [← e]; exact h
    · rw [powM, ih (by omega)]; rfl
theorem one_falls : Falls [oneT] := ⟨List.pairwise_singleton _ _, fun t ht => by simp at ht; subst ht; exact ⟨by decide, by decide, by decide⟩⟩
theorem powM_facts {f : Nat → T} {la : Nat} (hf : Good f la) : ∀ n K, powM f la n = some K → Falls K ∧ K.length ≤ 400
  | 0, K, h => by cases h; exact ⟨one_falls, by simp⟩
  | n + 1, K, h => by
    rw [powM] at h
    cases hr : powM f la n with
    | none => rw [hr] at h; cases h
    | some K1 =>
      rw [hr] at h
      have h1 := powM_facts hf n K1 hr
      exact ⟨mulM_falls (good_falls h1.1) hf K1.length K (Nat.le_refl _) h, mulM_len K1.length K h⟩
def wylPow (f : Nat → T) (la : Nat) (n : Int) : List T × Bool := if polOk la f = true ∧ 0 ≤ n ∧ n ≤ 8 then mulO (powM f la n.toNat) else ([], false)
theorem wylPow_len (f : Nat → T) (la : Nat) (n : Int) : (wylPow f la n).1.length ≤ 400 := by
  unfold wylPow
  split
  · rename_i h
    cases hp : powM f la n.toNat with
    | none => simp [mulO]
    | some K => exact (powM_facts (good_ok h.1).2 _ K hp).2
  · simp
end Go.Proofs.Ytnfimnfaejjagaa
namespace Go.Proofs.Ytnfimnfaejjagaa
open Go.RowKit
set_option linter.unusedVariables false

end Go.Proofs.Ytnfimnfaejjagaa
