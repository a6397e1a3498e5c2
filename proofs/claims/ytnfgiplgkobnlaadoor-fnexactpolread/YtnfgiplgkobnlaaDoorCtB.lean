/-
  The text of an operator, cut at each '+', is the texts of its terms.
-/
import Derived.Test.YtnfgiplgkobnlaaDoorCtA
import Derived.Test.YtnfgiplgkobnlaaDoorRdA
namespace Go.Proofs.YtnfgiplgkobnlaaDoor
set_option linter.unusedVariables false
theorem isD_no {c : UInt8} (h : isD c = true) : c ≠ 43 := by
  rintro rfl
  revert h
  decide
theorem fpw_no {k : UInt8} {n : Int} (hk : k ≠ 43) (hn : n ≤ 100) : ∀ c ∈ fpw k n, c ≠ 43 := by
  intro c hc
  unfold fpw at hc
  split at hc
  · cases hc
  · split at hc
    · simp at hc; rw [hc]; exact hk
    · rcases List.mem_cons.1 hc with h | h
      · rw [h]; exact hk
      · exact isD_no (dec_isD _ (by omega) c h)
theorem monT_no43 {m : M} (h : M.ok m = true) : ∀ c ∈ monT m, c ≠ 43 := by
  intro c hc
  by_cases h0 : monS m = []
  · rw [monT_one h h0] at hc
    simp at hc
    rw [hc]
    decide
  · rw [monT_is h h0, monS_is] at hc
    obtain ⟨x1, x2, y1, y2, d1, d2, e1, e2⟩ := M.ok_iff.1 h
    simp only [List.mem_append] at hc
    rcases hc with ((hc | hc) | hc) | hc
    · exact fpw_no (by decide) (by omega) c hc
    · exact fpw_no (by decide) (by omega) c hc
    · exact fpw_no (by decide) (by omega) c hc
    · exact fpw_no (by decide) (by omega) c hc
theorem trm_no43 {t : T} (hc : t.c ≤ 100) (h : M.ok t.m = true) : ∀ c ∈ trmT t, c ≠ 43 := by
  intro c h1
  have hd : ∀ c ∈ dcD t.c, c ≠ 43 := fun c h2 => isD_no (dec_isD _ (by omega) c h2)
  unfold trmT at h1
  split at h1
  · exact hd c h1
  · split at h1
    · exact monT_no43 h c h1
    · rcases List.mem_append.1 h1 with q | q
      · exact hd c q
      · exact monT_no43 h c q
theorem jnL_snoc : ∀ {ws : List (List UInt8)} (h : ws ≠ []) (w : List UInt8), jnL (ws ++ [w]) = jnL ws ++ 43 :: w
  | [], h, _ => absurd rfl h
  | [v], _, w => rfl
  | v :: u :: r, _, w => by
    show jnL (v :: ((u :: r) ++ [w])) = _
    rw [jnL_cons (by simp), jnL_snoc (ws := u :: r) (by simp) w, jnL_cons (w := v) (r := u :: r) (by simp), List.append_assoc]
    rfl
/-- the words of the first k terms. -/
def wrds (f : Nat → T) : Nat → List (List UInt8)
  | 0 => []
  | k + 1 => wrds f k ++ [trmT (f k)]
theorem wrds_len (f : Nat → T) : ∀ k, (wrds f k).length = k
  | 0 => rfl
  | k + 1 => by unfold wrds; simp [wrds_len f k]
theorem jn_wrds (f : Nat → T) : ∀ k, jnL (wrds f k) = jnT f k
  | 0 => rfl
  | k + 1 => by
    by_cases h : k = 0
    · subst h; simp [wrds, jnT, jnL]
    · have hne : wrds f k ≠ [] := fun e => h (by have := wrds_len f k; rw [e] at this; simpa using this.symm)
      unfold wrds jnT
      rw [jnL_snoc hne, jn_wrds f k, if_neg h]
      simp
theorem wrds_no {f : Nat → T} : ∀ k, (∀ i, i < k → (f i).c ≤ 100 ∧ M.ok (f i).m = true) → ∀ w ∈ wrds f k, ∀ c ∈ w, c ≠ 43
  | 0, _ => fun w hw => by cases hw
  | k + 1, h => fun w hw => by
    unfold wrds at hw
    rcases List.mem_append.1 hw with q | q
    · exact wrds_no k (fun i hi => h i (by omega)) w q
    · simp at q
      rw [q]
      exact trm_no43 (h k (by omega)).1 (h k (by omega)).2
/-- the text of an operator that is not 0, cut. -/
theorem cut_polT {n : Nat} {f : Nat → T} (h : polOk n f = true) (h0 : n ≠ 0) : cutL (polT n f) = wrds f n := by
  have hk := (polOk_is h).2
  rw [polT_is h h0, ← jn_wrds, cut_jn (fun e => h0 (by have := wrds_len f n; rw [e] at this; simpa using this.symm)) (wrds_no n (fun i hi => ⟨(hk i hi).1.2, (hk i hi).2⟩))]
end Go.Proofs.YtnfgiplgkobnlaaDoor
