/-
  The merge of two operators has their sums as its numbers, and falls.
-/
import Derived.Test.YtioecpiogpjlaaaMathSum
import Derived.Test.YtioecpiogpjlaaaAdd
namespace Go.Proofs.Ytioecpiogpjlaaa
open Go.RowKit
set_option linter.unusedVariables false

/-- the number of a monomial among u terms from the i-th on. -/
def fromC (f : Nat → T) : Nat → Nat → M → Int
  | 0, _, _ => 0
  | u + 1, i, m => if meqB (f i).m m = true then (f i).c else fromC f u (i + 1) m
theorem fromC_none {f : Nat → T} {m : M} : ∀ (u i : Nat), (∀ j, i ≤ j → j < i + u → (f j).m ≠ m) → fromC f u i m = 0
  | 0, _, _ => rfl
  | u + 1, i, h => by
    rw [fromC, if_neg (fun e => h i (Nat.le_refl _) (by omega) (meqB_iff.1 e))]
    exact fromC_none u (i + 1) (fun j h1 h2 => h j (by omega) (by omega))
/-- terms that fall. -/
def Fl (f : Nat → T) (n : Nat) : Prop := (∀ j i, j < i → i < n → rkD (f i).m < rkD (f j).m) ∧ ∀ i, i < n → (f i).m.ok = true ∧ 1 ≤ (f i).c ∧ (f i).c ≤ 100
theorem Fl.high {f : Nat → T} {n i : Nat} {m : M} (h : Fl f n) (hi : i < n → rkD (f i).m < rkD m) : fromC f (n - i) i m = 0 := by
  refine fromC_none _ _ (fun j h1 h2 e => ?_)
  have hin : i < n := by omega
  have h3 := hi hin
  by_cases hji : j = i
  · rw [hji] at e; rw [e] at h3; omega
  · have := h.1 i j (by omega) (by omega)
    rw [e] at this; omega
theorem fromC_step {f : Nat → T} {n i : Nat} (m : M) (hi : i < n) : fromC f (n - i) i m = if meqB (f i).m m = true then (f i).c else fromC f (n - (i + 1)) (i + 1) m := by
  rw [show n - i = (n - (i + 1)) + 1 by omega, fromC]
theorem falls_cons {t : T} {r : List T} (h : Falls r) (h1 : ∀ s ∈ r, rkD s.m < rkD t.m) (h2 : t.m.ok = true ∧ 1 ≤ t.c ∧ t.c ≤ 100) : Falls (t :: r) :=
  ⟨List.pairwise_cons.2 ⟨h1, h.1⟩, fun s hs => by rcases List.mem_cons.1 hs with rfl | hs; exact h2; exact h.2 s hs⟩
theorem mrg_facts {f : Nat → T} {la : Nat} {g : Nat → T} {lb : Nat} (F : Fl f la) (G : Fl g lb) : ∀ (u i k : Nat), la - i + (lb - k) ≤ u →
    (∀ t ∈ mrgI f la g lb u i k, (∃ j, i ≤ j ∧ j < la ∧ t.m = (f j).m) ∨ (∃ j, k ≤ j ∧ j < lb ∧ t.m = (g j).m)) ∧ Falls (mrgI f la g lb u i k) ∧ ∀ m, coef (mrgI f la g lb u i k) m = (fromC f (la - i) i m + fromC g (lb - k) k m) % 101
  | 0, i, k, hu => by
    refine ⟨fun t ht => by simp [mrgI] at ht, ⟨List.Pairwise.nil, fun t ht => by simp [mrgI] at ht⟩, fun m => ?_⟩
    rw [show la - i = 0 by omega, show lb - k = 0 by omega]
    rfl
  | u + 1, i, k, hu => by
    have up : ∀ (n i : Nat), n - i = 0 → ∀ m, fromC f (n - i) i m = 0 := fun n i h m => by rw [h]; rfl
    have low : ∀ {t : T} {i' k' : Nat} {r : Int}, ((∃ j, i' ≤ j ∧ j < la ∧ t.m = (f j).m) ∨ (∃ j, k' ≤ j ∧ j < lb ∧ t.m = (g j).m)) → (i' < la → rkD (f i').m < r) → (k' < lb → rkD (g k').m < r) → rkD t.m < r := by
      intro t i' k' r h h1 h2
      rcases h with ⟨j, a1, a2, a3⟩ | ⟨j, a1, a2, a3⟩
      · rw [a3]
        by_cases hj : j = i'
        · rw [hj]; exact h1 (by omega)
        · have := F.1 i' j (by omega) a2; have := h1 (by omega); omega
      · rw [a3]
        by_cases hj : j = k'
        · rw [hj]; exact h2 (by omega)
        · have := G.1 k' j (by omega) a2; have := h2 (by omega); omega
    -- f i stands ahead of all that is left
    have fi : i < la → (k < lb → rkD (g k).m < rkD (f i).m) → (∀ t ∈ f i :: mrgI f la g lb u (i + 1) k, (∃ j, i ≤ j ∧ j < la ∧ t.m = (f j).m) ∨ (∃ j, k ≤ j ∧ j < lb ∧ t.m = (g j).m)) ∧ Falls (f i :: mrgI f la g lb u (i + 1) k) ∧ ∀ m, coef (f i :: mrgI f la g lb u (i + 1) k) m = (fromC f (la - i) i m + fromC g (lb - k) k m) % 101 := by
      intro hi hk
      obtain ⟨p1, p2, p3⟩ := mrg_facts F G u (i + 1) k (by omega)
      refine ⟨fun t ht => ?_, falls_cons p2 (fun s hs => low (p1 s hs) (fun h => F.1 i (i + 1) (by omega) h) hk) (F.2 i hi), fun m => ?_⟩
      · rcases List.mem_cons.1 ht with rfl | ht
        · exact .inl ⟨i, Nat.le_refl _, hi, rfl⟩
        · exact (p1 t ht).imp (fun ⟨j, a1, a2, a3⟩ => ⟨j, by omega, a2, a3⟩) id
      · rw [fromC_step m hi]
        by_cases hm : meqB (f i).m m = true
        · have := meqB_iff.1 hm
          subst this
          have h0 := F.2 i hi
          rw [coef_cons_same, if_pos hm, G.high hk, Int.add_zero]
          omega
        · rw [coef, if_neg hm, if_neg hm]; exact p3 m
    have gk : k < lb → (i < la → rkD (f i).m < rkD (g k).m) → (∀ t ∈ g k :: mrgI f la g lb u i (k + 1), (∃ j, i ≤ j ∧ j < la ∧ t.m = (f j).m) ∨ (∃ j, k ≤ j ∧ j < lb ∧ t.m = (g j).m)) ∧ Falls (g k :: mrgI f la g lb u i (k + 1)) ∧ ∀ m, coef (g k :: mrgI f la g lb u i (k + 1)) m = (fromC f (la - i) i m + fromC g (lb - k) k m) % 101 := by
      intro hk hi
      obtain ⟨p1, p2, p3⟩ := mrg_facts F G u i (k + 1) (by omega)
      refine ⟨fun t ht => ?_, falls_cons p2 (fun s hs => low (p1 s hs) hi (fun h => G.1 k (k + 1) (by omega) h)) (G.2 k hk), fun m => ?_⟩
      · rcases List.mem_cons.1 ht with rfl | ht
        · exact .inr ⟨k, Nat.le_refl _, hk, rfl⟩
        · exact (p1 t ht).imp id (fun ⟨j, a1, a2, a3⟩ => ⟨j, by omega, a2, a3⟩)
      · rw [fromC_step (f := g) m hk]
        by_cases hm : meqB (g k).m m = true
        · have := meqB_iff.1 hm
          subst this
          have h0 := G.2 k hk
          rw [coef_cons_same, if_pos hm, F.high hi, Int.zero_add]
          omega
        · rw [coef, if_neg hm, if_neg hm]; exact p3 m
    simp only [mrgI]
    by_cases hik : i < la ∧ k < lb
    · rw [if_pos hik]
      have hrk := rk_deg (F.2 i hik.1).1 (G.2 k hik.2).1
      by_cases h1 : 0 < M.ord 1 (f i).m (g k).m
      · rw [if_pos h1]
        exact fi hik.1 (fun _ => (ord_pos (F.2 i hik.1).1 (G.2 k hik.2).1).1 h1)
      · rw [if_neg h1]
        by_cases h2 : M.ord 1 (f i).m (g k).m < 0
        · rw [if_pos h2]
          refine gk hik.2 (fun _ => ?_)
          rw [← hrk] at h2
          unfold c3 at h2
          split at h2
          · assumption
          · split at h2 <;> omega
        · rw [if_neg h2]
          have heq : rkD (f i).m = rkD (g k).m := by
            have h3 : M.ord 1 (f i).m (g k).m = 0 := by omega
            rw [← hrk] at h3
            unfold c3 at h3
            split at h3
            · omega
            · split at h3 <;> omega
          have hmm := rkD_inj (F.2 i hik.1).1 (G.2 k hik.2).1 heq
          obtain ⟨p1, p2, p3⟩ := mrg_facts F G u (i + 1) (k + 1) (by omega)
          have hsum : ∀ m, (fromC f (la - i) i m + fromC g (lb - k) k m) % 101 = if meqB (f i).m m = true then ((f i).c + (g k).c) % 101 else (fromC f (la - (i + 1)) (i + 1) m + fromC g (lb - (k + 1)) (k + 1) m) % 101 := fun m => by
            rw [fromC_step m hik.1, fromC_step (f := g) m hik.2, ← hmm]
            split <;> rfl
          have hhi : coef (mrgI f la g lb u (i + 1) (k + 1)) (f i).m = 0 := by
            rw [p3, F.high (fun h => F.1 i (i + 1) (by omega) h), G.high (fun h => by rw [hmm]; exact G.1 k (k + 1) (by omega) h)]
            rfl
          have q1 : ∀ t ∈ mrgI f la g lb u (i + 1) (k + 1), (∃ j, i ≤ j ∧ j < la ∧ t.m = (f j).m) ∨ (∃ j, k ≤ j ∧ j < lb ∧ t.m = (g j).m) := fun t ht => (p1 t ht).imp (fun ⟨j, a1, a2, a3⟩ => ⟨j, by omega, a2, a3⟩) (fun ⟨j, a1, a2, a3⟩ => ⟨j, by omega, a2, a3⟩)
          by_cases hz : ((f i).c + (g k).c) % 101 ≠ 0
          · rw [if_pos hz]
            refine ⟨fun t ht => ?_, falls_cons p2 (fun s hs => low (p1 s hs) (fun h => F.1 i (i + 1) (by omega) h) (fun h => by rw [hmm]; exact G.1 k (k + 1) (by omega) h)) ⟨(F.2 i hik.1).1, by dsimp only; omega, by dsimp only; omega⟩, fun m => ?_⟩
            · rcases List.mem_cons.1 ht with rfl | ht
              · exact .inl ⟨i, Nat.le_refl _, hik.1, rfl⟩
              · exact q1 t ht
            · rw [hsum m, coef]
              by_cases hm : meqB (f i).m m = true
              · rw [if_pos hm, if_pos hm]
              · rw [if_neg hm, if_neg hm]; exact p3 m
          · rw [if_neg hz]
            refine ⟨q1, p2, fun m => ?_⟩
            rw [hsum m]
            by_cases hm : meqB (f i).m m = true
            · have := meqB_iff.1 hm
              subst this
              rw [if_pos hm, hhi]; omega
            · rw [if_neg hm]; exact p3 m
    · rw [if_neg hik]
      by_cases hi : i < la
      · rw [if_pos hi]
        exact fi hi (fun h => absurd ⟨hi, h⟩ hik)
      · rw [if_neg hi]
        by_cases hk : k < lb
        · rw [if_pos hk]
          exact gk hk (fun h => absurd h hi)
        · rw [if_neg hk]
          refine ⟨fun t ht => (by cases ht), ⟨List.Pairwise.nil, fun t ht => (by cases ht)⟩, fun m => ?_⟩
          rw [show la - i = 0 by omega, show lb - k = 0 by omega]
          rfl
end Go.Proofs.Ytioecpiogpjlaaa
