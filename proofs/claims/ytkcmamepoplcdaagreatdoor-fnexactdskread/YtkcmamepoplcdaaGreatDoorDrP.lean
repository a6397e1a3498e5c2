/-
  The text of an operator is read back.
-/
import Derived.Test.YtkcmamepoplcdaaGreatDoorGao
namespace Go.Proofs.YtkcmamepoplcdaaGreatDoor
open Go.RowKit
set_option linter.unusedVariables false
theorem okAt_cg {f g : Nat → T} {n i : Nat} (h : ∀ i, i < n → f i = g i) (hi : i < n) : okAt f i = okAt g i := by
  unfold okAt
  rw [h i hi]
  by_cases e : i = 0
  · subst e; simp
  · rw [h (i - 1) (by omega)]
theorem polOk_cg {f g : Nat → T} {n : Nat} (h : ∀ i, i < n → f i = g i) : polOk n f = polOk n g := by
  unfold polOk
  congr 1
  apply propext
  exact ⟨fun q => ⟨q.1, fun i hi => by rw [← okAt_cg h hi]; exact q.2 i hi⟩, fun q => ⟨q.1, fun i hi => by rw [okAt_cg h hi]; exact q.2 i hi⟩⟩
theorem wrds_cg {f g : Nat → T} : ∀ {n : Nat}, (∀ i, i < n → f i = g i) → wrds f n = wrds g n
  | 0, _ => rfl
  | n + 1, h => by
    unfold wrds
    rw [wrds_cg (n := n) (fun i hi => h i (by omega)), h n (by omega)]
theorem polT_cg {f g : Nat → T} {n : Nat} (h : ∀ i, i < n → f i = g i) : polT n f = polT n g := by
  unfold polT
  rw [polOk_cg h, ← jn_wrds, ← jn_wrds, wrds_cg h]
theorem trmT_nn {t : T} (h : okc t) : trmT t ≠ [] := by
  unfold trmT
  split
  · exact dec_ne _
  · rename_i h0
    split
    · exact (monT_not1 h.2 h0).2
    · intro e
      exact dec_ne _ (List.append_eq_nil_iff.1 e).1
theorem polT_nn {n : Nat} {f : Nat → T} (h : polOk n f = true) : polT n f ≠ [] := by
  by_cases h0 : n = 0
  · rw [polT_zero h h0]; simp
  · rw [polT_is h h0]
    obtain ⟨k, rfl⟩ : ∃ k, n = k + 1 := ⟨n - 1, by omega⟩
    unfold jnT
    intro e
    exact trmT_nn ((polOk_is h).2 k (by omega)) (List.append_eq_nil_iff.1 e).2
theorem polR_tx {s : List UInt8} {q : List T} (h : polR s = (q, true)) : polT q.length (lf q) = s := by
  unfold polR at h
  split at h
  · rename_i e
    cases h
    rw [e]
    rfl
  · split at h
    · rename_i z
      cases h
      exact z.2.2
    · cases h
/-- an operator is read back out of its text. -/
theorem polR_tT {n : Nat} {f : Nat → T} (h : polOk n f = true) (hl : (polT n f).length ≤ 400) : ∃ L, polR (polT n f) = (L, true) ∧ L.length = n ∧ ∀ i, i < n → lf L i = f i := by
  by_cases h0 : n = 0
  · subst h0
    rw [polT_zero h rfl, polR_zero]
    exact ⟨[], rfl, rfl, fun i hi => by omega⟩
  · have hk := (polOk_is h).2
    have hc := cut_polT h h0
    have hw : ∀ i, i < n → (wT (polT n f))[i]? = some (f i) := fun i hi => by
      unfold wT
      rw [hc, List.getElem?_map, wrds_at f hi]
      show some (trmR (trmT (f i))) = _
      rw [trmR_trm (hk i hi).1.1 (hk i hi).1.2 (hk i hi).2]
    have hwl : (wT (polT n f)).length = n := by rw [wT_len, hc, wrds_len]
    have hf : ∀ i, i < n → lf (wT (polT n f)) i = f i := fun i hi => lf_at (hw i hi)
    have hne : polT n f ≠ [48] := fun e => by
      have h2 := hw 0 (by omega)
      rw [e] at h2
      have h3 : (wT [48])[0]? = some ⟨0, ⟨0, 0, 0, 0⟩⟩ := by kernel_rfl
      rw [h3] at h2
      have := (hk 0 (by omega)).1.1
      rw [← Option.some.inj h2] at this
      exact absurd this (by decide)
    refine ⟨wT (polT n f), polR_yes hne hl ?_ ?_, hwl, hf⟩
    · rw [hwl, polOk_cg hf]; exact h
    · rw [hwl, polT_cg hf]
end Go.Proofs.YtkcmamepoplcdaaGreatDoor
