/-
  An operator is free of others just where no greatest monomial of theirs divides one of its own.
-/
import Derived.Test.YtfjmpempemingaaGaq
import Derived.Test.YtfjmpempemingaaGbn
import Derived.Test.YtfjmpempemingaaGae
namespace Go.Proofs.Ytfjmpempemingaa
open Go.RowKit Go.Deep Go.Joins
set_option linter.unusedVariables false

def smK (ST : List M) (m : M) : Nat → Bool
  | 0 => false
  | k + 1 => smK ST m k || M.dvd (lfm ST k) m
def smI (ST : List M) (p : List T) : Nat → Bool
  | 0 => false
  | i + 1 => smI ST p i || smK ST (lf p i).m ST.length
theorem smK_iff (ST : List M) (m : M) : ∀ n, smK ST m n = true ↔ ∃ k, k < n ∧ M.dvd (lfm ST k) m = true
  | 0 => ⟨fun h => (by cases h), fun ⟨k, h, _⟩ => absurd h (Nat.not_lt_zero _)⟩
  | n + 1 => by
    rw [smK, Bool.or_eq_true, smK_iff ST m n]
    constructor
    · rintro (⟨k, h1, h2⟩ | h)
      · exact ⟨k, by omega, h2⟩
      · exact ⟨n, by omega, h⟩
    · rintro ⟨k, h1, h2⟩
      by_cases e : k = n
      · exact .inr (e ▸ h2)
      · exact .inl ⟨k, by omega, h2⟩
theorem smI_iff (ST : List M) (p : List T) : ∀ n, smI ST p n = true ↔ ∃ i, i < n ∧ ∃ k, k < ST.length ∧ M.dvd (lfm ST k) (lf p i).m = true
  | 0 => ⟨fun h => (by cases h), fun ⟨k, h, _⟩ => absurd h (Nat.not_lt_zero _)⟩
  | n + 1 => by
    rw [smI, Bool.or_eq_true, smI_iff ST p n, smK_iff]
    constructor
    · rintro (⟨k, h1, h2⟩ | h)
      · exact ⟨k, by omega, h2⟩
      · exact ⟨n, by omega, h⟩
    · rintro ⟨k, h1, h2⟩
      by_cases e : k = n
      · exact .inr (e ▸ h2)
      · exact .inl ⟨k, by omega, h2⟩
theorem lfm_stL (o : Int) (ln : Nat → Nat) (f : Nat → Nat → T) : ∀ n i, i < n → lfm (stL o ln f n) i = (ldAt o ln f i).m
  | 0, i, h => absurd h (Nat.not_lt_zero _)
  | n + 1, i, h => by
    have hl := stL_len o ln f n
    by_cases e : i = n
    · subst e
      show (stL o ln f i ++ [(ldAt o ln f i).m]).getD i ⟨0, 0, 0, 0⟩ = _
      rw [List.getD_eq_getElem?_getD, List.getElem?_append_right (by omega), hl]
      simp
    · have := lfm_stL o ln f n i (by omega)
      show (stL o ln f n ++ [(ldAt o ln f n).m]).getD i ⟨0, 0, 0, 0⟩ = _
      rw [List.getD_eq_getElem?_getD, List.getElem?_append_left (by omega), ← List.getD_eq_getElem?_getD]
      exact this
theorem free_some {o : Int} {p : List T} {n : Nat} {ln : Nat → Nat} {f : Nat → Nat → T} {ST : List M} (hS : stairs o n ln f = ST) (ho : 1 ≤ o ∧ o ≤ 3) (hp : okL p = true) (hl : lstOk n ln f = true) : redFree o p.length (lf p) n ln f = !smI ST p p.length := by
  have hS' : ST = stL o ln f n := by rw [← hS, stairs, if_pos ⟨ho, hl⟩]
  subst hS'
  have e : smI (stL o ln f n) p p.length = true ↔ ¬ redFree o p.length (lf p) n ln f = true := by
    rw [smI_iff, stL_len, redFree, decide_eq_true_eq]
    constructor
    · rintro ⟨i, h1, k, h2, h3⟩ ⟨_, _, _, h4⟩
      have := h4 i h1 k h2
      rw [← lfm_stL o ln f n k h2, h3] at this
      cases this
    · intro h
      apply Classical.byContradiction
      intro h5
      refine h ⟨ho, hp, hl, fun i h1 k h2 => ?_⟩
      cases e : M.dvd (ldAt o ln f k).m (lf p i).m
      · rfl
      · exact absurd ⟨i, h1, k, h2, by rw [lfm_stL o ln f n k h2]; exact e⟩ h5
  cases h1 : smI (stL o ln f n) p p.length <;> cases h2 : redFree o p.length (lf p) n ln f <;> simp [h1, h2] at e ⊢
theorem dvdI_of {m u : M} {b : Bool} (h : M.dvd m u = b) (w : World) :
    Calls Try.prog 9 #[.agg #[.int .i64 m.x, .int .i64 m.y, .int .i64 m.d, .int .i64 m.e], .agg #[.int .i64 u.x, .int .i64 u.y, .int .i64 u.d, .int .i64 u.e]] w fun r w' => r = .returned (.bool b) ∧ Below w.heap.size w w' := by
  rw [← h]
  exact monDividesI _ _ _ _ _ _ _ _ w
end Go.Proofs.Ytfjmpempemingaa
