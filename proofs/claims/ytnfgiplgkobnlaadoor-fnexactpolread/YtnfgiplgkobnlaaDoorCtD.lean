/-
  Reading an operator, as lists of bytes: the model's way and the program's are one.
-/
import Derived.Test.YtnfgiplgkobnlaaDoorCtC
import Derived.Test.YtnfgiplgkobnlaaDoorAdd
namespace Go.Proofs.YtnfgiplgkobnlaaDoor
set_option linter.unusedVariables false
def wT (s : List UInt8) : List T := (cutL s).map trmR
/-- what PolRead answers. -/
def polR (s : List UInt8) : List T × Bool := if s = [48] then ([], true) else if s.length ≤ 400 ∧ (polOk (wT s).length (lf (wT s)) = true ∧ polT (wT s).length (lf (wT s)) = s) then (wT s, true) else ([], false)
theorem polR_zero : polR [48] = ([], true) := by unfold polR; rw [if_pos rfl]
theorem polR_yes {s : List UInt8} (h0 : s ≠ [48]) (h1 : s.length ≤ 400) (h2 : polOk (wT s).length (lf (wT s)) = true) (h3 : polT (wT s).length (lf (wT s)) = s) : polR s = (wT s, true) := by
  unfold polR; rw [if_neg h0, if_pos ⟨h1, h2, h3⟩]
theorem polR_no {s : List UInt8} (h0 : s ≠ [48]) (h : ¬ (s.length ≤ 400 ∧ (polOk (wT s).length (lf (wT s)) = true ∧ polT (wT s).length (lf (wT s)) = s))) : polR s = ([], false) := by
  unfold polR; rw [if_neg h0, if_neg h]
theorem wT_len (s : List UInt8) : (wT s).length = (cutL s).length := by unfold wT; simp
def okc (t : T) : Prop := (1 ≤ t.c ∧ t.c ≤ 100) ∧ M.ok t.m = true
/-- what the program reads of a word. -/
def TRd (w : List UInt8) (t : T) (b : Bool) : Prop := (b = true → okc t → trmT t = w) ∧ ∀ t0, okc t0 → trmT t0 = w → t = t0 ∧ b = true
theorem lf_at {L : List T} {i : Nat} {t : T} (h : L[i]? = some t) : lf L i = t := by unfold lf; rw [List.getD_eq_getElem?_getD, h]; rfl
theorem wrds_at (f : Nat → T) : ∀ {k i : Nat}, i < k → (wrds f k)[i]? = some (trmT (f i))
  | 0, i, h => by omega
  | k + 1, i, h => by
    unfold wrds
    by_cases e : i < k
    · rw [List.getElem?_append_left (by rw [wrds_len]; exact e), wrds_at f e]
    · have : i = k := by omega
      subst this
      rw [List.getElem?_append_right (by rw [wrds_len]; omega), wrds_len]
      simp
/-- the words of what is read are the texts of its terms. -/
theorem polR_words {s : List UInt8} (h0 : s ≠ [48]) (h : (polR s).2 = true) : s.length ≤ 400 ∧ ∃ (n : Nat) (f : Nat → T), n ≠ 0 ∧ polOk n f = true ∧ cutL s = wrds f n ∧ (∀ i, i < n → okc (f i)) ∧ (wT s).length = n ∧ (∀ i, i < n → lf (wT s) i = f i) := by
  by_cases q : s.length ≤ 400 ∧ (polOk (wT s).length (lf (wT s)) = true ∧ polT (wT s).length (lf (wT s)) = s)
  · obtain ⟨q1, q2, q3⟩ := q
    have hne : (wT s).length ≠ 0 := by
      rw [wT_len]
      intro e
      exact cut_ne s (List.length_eq_zero_iff.1 e)
    refine ⟨q1, _, _, hne, q2, ?_, fun i hi => (polOk_is q2).2 i hi, rfl, fun i _ => rfl⟩
    have := cut_polT q2 hne
    rw [q3] at this
    exact this
  · rw [polR_no h0 q] at h
    cases h
theorem okc_wT {s : List UInt8} : True := trivial
/-- all words were read, and it is an operator. -/
theorem polR_all {s : List UInt8} {ts : List T} (h0 : s ≠ [48]) (hs : s.length ≤ 400) (hl : ts.length = (cutL s).length) (hr : ∀ (i : Nat) (w : List UInt8) (t : T), (cutL s)[i]? = some w → ts[i]? = some t → TRd w t true) (hok : polOk ts.length (lf ts) = true) : polR s = (ts, true) := by
  have hts : wT s = ts := by
    apply List.ext_getElem?
    intro i
    unfold wT
    rw [List.getElem?_map]
    by_cases hi : i < ts.length
    · obtain ⟨t, ht⟩ : ∃ t, ts[i]? = some t := ⟨_, List.getElem?_eq_getElem hi⟩
      obtain ⟨w, hw⟩ : ∃ w, (cutL s)[i]? = some w := ⟨_, List.getElem?_eq_getElem (by omega)⟩
      have hk : okc t := by
        have := (polOk_is hok).2 i hi
        rw [lf_at ht] at this
        exact this
      have e := (hr i w t hw ht).1 rfl hk
      rw [hw, ht]
      show some (trmR w) = some t
      rw [← e, trmR_trm hk.1.1 hk.1.2 hk.2]
    · rw [List.getElem?_eq_none (by omega), List.getElem?_eq_none (by omega)]
      rfl
  have hn : ts.length ≠ 0 := by rw [hl]; intro e; exact cut_ne s (List.length_eq_zero_iff.1 e)
  have hw : cutL s = wrds (lf ts) ts.length := by
    apply List.ext_getElem?
    intro i
    by_cases hi : i < ts.length
    · obtain ⟨t, ht⟩ : ∃ t, ts[i]? = some t := ⟨_, List.getElem?_eq_getElem hi⟩
      obtain ⟨w, hw⟩ : ∃ w, (cutL s)[i]? = some w := ⟨_, List.getElem?_eq_getElem (by omega)⟩
      have hk : okc t := by
        have := (polOk_is hok).2 i hi
        rw [lf_at ht] at this
        exact this
      have e := (hr i w t hw ht).1 rfl hk
      rw [hw, wrds_at _ hi, lf_at ht, e]
    · rw [List.getElem?_eq_none (by omega), List.getElem?_eq_none (by rw [wrds_len]; omega)]
  have ht : polT ts.length (lf ts) = s := by
    rw [polT_is hok hn, ← jn_wrds, ← hw, jn_cut]
  have := polR_yes h0 hs (by rw [hts]; exact hok) (by rw [hts]; exact ht)
  rw [hts] at this
  exact this
/-- a word was not read. -/
theorem polR_bad {s : List UInt8} {i : Nat} {w : List UInt8} {t : T} (h0 : s ≠ [48]) (hw : (cutL s)[i]? = some w) (hr : TRd w t false) : polR s = ([], false) := by
  cases h : (polR s).2
  · unfold polR at h ⊢
    rw [if_neg h0] at h ⊢
    split at h
    · cases h
    · rename_i q
      rw [if_neg q]
  · obtain ⟨_, n, f, hn, hok, hc, hk, _, _⟩ := polR_words h0 h
    have hi : i < n := by
      have := (List.getElem?_eq_some_iff.1 hw).1
      rw [hc, wrds_len] at this
      exact this
    rw [hc, wrds_at f hi] at hw
    cases hw
    exact absurd (hr.2 (f i) (hk i hi) rfl).2 (by simp)
/-- all words were read, but it is no operator. -/
theorem polR_not {s : List UInt8} {ts : List T} (h0 : s ≠ [48]) (hl : ts.length = (cutL s).length) (hr : ∀ (i : Nat) (w : List UInt8) (t : T), (cutL s)[i]? = some w → ts[i]? = some t → TRd w t true) (hok : polOk ts.length (lf ts) = false) : polR s = ([], false) := by
  cases h : (polR s).2
  · unfold polR at h ⊢
    rw [if_neg h0] at h ⊢
    split at h
    · cases h
    · rename_i q
      rw [if_neg q]
  · obtain ⟨_, n, f, hn, hok', hc, hk, hl', hf⟩ := polR_words h0 h
    have hts : wT s = ts := by
      apply List.ext_getElem?
      intro i
      by_cases hi : i < ts.length
      · obtain ⟨t, ht⟩ : ∃ t, ts[i]? = some t := ⟨_, List.getElem?_eq_getElem hi⟩
        obtain ⟨w, hw⟩ : ∃ w, (cutL s)[i]? = some w := ⟨_, List.getElem?_eq_getElem (by omega)⟩
        have hin : i < n := by
          have := (List.getElem?_eq_some_iff.1 hw).1
          rw [hc, wrds_len] at this
          exact this
        have hw' := hw
        rw [hc, wrds_at f hin] at hw'
        have e := (hr i w t hw ht).2 (f i) (hk i hin) (by cases hw'; rfl)
        have hx : (wT s)[i]? = some (lf (wT s) i) := by
          unfold lf
          rw [List.getD_eq_getElem?_getD, List.getElem?_eq_getElem (by omega)]
          rfl
        rw [hx, hf i hin, ht, e.1]
      · rw [List.getElem?_eq_none (by rw [wT_len]; omega), List.getElem?_eq_none (by omega)]
    have h2 : polOk (wT s).length (lf (wT s)) = true := by
      unfold polR at h
      rw [if_neg h0] at h
      split at h
      · rename_i q
        exact q.2.1
      · cases h
    rw [hts, hok] at h2
    cases h2
end Go.Proofs.YtnfgiplgkobnlaaDoor
