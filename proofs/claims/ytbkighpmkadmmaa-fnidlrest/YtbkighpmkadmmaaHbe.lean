/-
  What is left of a pair of operators: what is true of it.
  Whether an operator is free of others: the model.
  The first of some terms that is wanted, and whether there is one: the program.
-/
import Derived.Test.YtbkighpmkadmmaaHbc
import Derived.Test.YtbkighpmkadmmaaHbd
import Derived.Test.YtbkighpmkadmmaaHak
import Derived.Shelf.Abstract
namespace Go.Proofs.Ytbkighpmkadmmaa
open Go.RowKit
set_option linter.unusedVariables false

theorem coef_ne_mem1 {m : M} : ∀ {L : List T}, coef L m ≠ 0 → ∃ t ∈ L, t.m = m
  | [], h => absurd rfl h
  | t :: r, h => by
    rw [coef] at h
    split at h
    · rename_i he
      exact ⟨t, List.mem_cons_self .., meqB_iff.1 he⟩
    · obtain ⟨s, hs, e⟩ := coef_ne_mem1 h
      exact ⟨s, List.mem_cons_of_mem _ hs, e⟩
theorem mem_coef1 {L : List T} (h : Falls L) {t : T} (ht : t ∈ L) : coef L t.m = t.c ∧ coef L t.m ≠ 0 := by
  have h1 : coef L t.m = t.c := by
    induction L with
    | nil => cases ht
    | cons s r ih =>
      rw [coef]
      rcases List.mem_cons.1 ht with rfl | ht'
      · rw [if_pos (meqB_iff.2 rfl)]
      · have h1 := h.head t ht'
        rw [if_neg (fun e => by rw [meqB_iff.1 e] at h1; omega)]
        exact ih h.tail ht'
  have h2 := h.2 t ht
  exact ⟨h1, by omega⟩
theorem mul_okM {a c b : M} (h : M.mul a c = (b, true)) : b.ok = true := by
  unfold M.mul at h
  split at h
  · rename_i q; cases h; exact q.2.2
  · cases h
theorem sprPoly_parts {o : Int} {A B L : List T} (h : sprPoly o (lf A) A.length (lf B) B.length = (L, true)) :
    sprOk o A.length (lf A) B.length (lf B) = true ∧ ∃ X Y, wmV [sprU o A.length (lf A) B.length (lf B)] A = (X, true) ∧ wmV [sprV o A.length (lf A) B.length (lf B)] B = (Y, true) ∧ okL X = true ∧ okL Y = true ∧ L = subL X Y ∧ L.length ≤ 400 := by
  unfold sprPoly at h
  by_cases hk : sprOk o A.length (lf A) B.length (lf B) = true
  · refine ⟨hk, ?_⟩
    rw [if_pos hk] at h
    unfold diffV at h
    by_cases h2 : (wylMul (lf [sprU o A.length (lf A) B.length (lf B)]) 1 (lf A) A.length).2 = true ∧ (wylMul (lf [sprV o A.length (lf A) B.length (lf B)]) 1 (lf B) B.length).2 = true
    · rw [if_pos h2] at h
      obtain ⟨X, hX⟩ : ∃ X, wmV [sprU o A.length (lf A) B.length (lf B)] A = (X, true) := by
        rcases wmV_if [sprU o A.length (lf A) B.length (lf B)] A with e | e
        · exact absurd h2.1 (by rw [show wylMul (lf [sprU o A.length (lf A) B.length (lf B)]) 1 (lf A) A.length = ([], false) from e]; simp)
        · exact e
      obtain ⟨Y, hY⟩ : ∃ Y, wmV [sprV o A.length (lf A) B.length (lf B)] B = (Y, true) := by
        rcases wmV_if [sprV o A.length (lf A) B.length (lf B)] B with e | e
        · exact absurd h2.2 (by rw [show wylMul (lf [sprV o A.length (lf A) B.length (lf B)]) 1 (lf B) B.length = ([], false) from e]; simp)
        · exact e
      rw [show wylMul (lf [sprU o A.length (lf A) B.length (lf B)]) 1 (lf A) A.length = (X, true) from hX, show wylMul (lf [sprV o A.length (lf A) B.length (lf B)]) 1 (lf B) B.length = (Y, true) from hY] at h
      rcases subV_case X Y with e | ⟨_, _, hl, e⟩
      · rw [show polSub (lf X) X.length (lf Y) Y.length = ([], false) from e] at h
        cases h
      · rw [show polSub (lf X) X.length (lf Y) Y.length = (subL X Y, true) from e] at h
        have hL : subL X Y = L := by cases h; rfl
        exact ⟨X, Y, hX, hY, wm_ok hX, wm_ok hY, hL.symm, by rw [← hL]; exact hl⟩
    · rw [if_neg h2] at h; cases h
  · rw [if_neg hk] at h; cases h
theorem spr_ok {o : Int} {A B L : List T} (h : sprPoly o (lf A) A.length (lf B) B.length = (L, true)) : okL L = true := by
  obtain ⟨hk, X, Y, hX, hY, oX, oY, rfl, hl⟩ := sprPoly_parts h
  exact okL_of hl (subL_facts (okL_falls oX).2 (okL_falls oY).2).1
theorem top_prod {o : Int} {u : T} {A X : List T} (gu : u.m.ok = true ∧ 1 ≤ u.c ∧ u.c ≤ 100) (hA : ldB o A = true) (h : wmV [u] A = (X, true)) {b : M} (hb : M.mul u.m (ldT o A).m = (b, true)) (hc : fMul u.c (ldT o A).c = 1) :
    coef X b = 1 ∧ ∀ t ∈ X, rkW o t.m ≤ rkW o b := by
  obtain ⟨ho, oA, _⟩ := ldB_iff.1 hA
  have hu : ldB o [u] = true := ldB_iff.2 ⟨ho, one_ok gu, by simp⟩
  obtain ⟨e1, e2⟩ := ld_prod ho h
  rw [hu, hA] at e1
  have hX : ldB o X = true := e1
  obtain ⟨e3, e4⟩ := e2 hu hA
  have eu : ldT o [u] = u := by
    have := (ld_top hu).1
    simpa using this
  rw [eu] at e3 e4
  have eb : (ldT o X).m = b := by
    have := e3.symm.trans (show M.mul ⟨u.m.x, u.m.y, u.m.d, u.m.e⟩ ⟨(ldT o A).m.x, (ldT o A).m.y, (ldT o A).m.d, (ldT o A).m.e⟩ = (b, true) from hb)
    cases this; rfl
  obtain ⟨t1, t2⟩ := ld_top hX
  have hm := (mem_coef1 (okL_falls (wm_ok h)).2 t1).1
  rw [eb] at t2 hm
  refine ⟨?_, t2⟩
  rw [hm, ← e4, hc]
/-- no monomial of it is as great as what both greatest ones divide. -/
theorem spr_below {o : Int} {A B L : List T} (h : sprPoly o (lf A) A.length (lf B) B.length = (L, true)) : ∀ t ∈ L, M.cmp o t.m (sprB o A.length (lf A) B.length (lf B)) < 0 := by
  obtain ⟨hk, X, Y, hX, hY, oX, oY, rfl, hl⟩ := sprPoly_parts h
  obtain ⟨gU, gV⟩ := spr_good hk
  obtain ⟨m1, m2, c1, c2, _⟩ := spr_law hk
  have hk' := hk
  unfold sprOk at hk'
  rw [Bool.and_eq_true] at hk'
  obtain ⟨x1, x2⟩ := top_prod gU (show ldB o A = true from hk'.1) hX m1 c1
  obtain ⟨y1, y2⟩ := top_prod gV (show ldB o B = true from hk'.2) hY m2 c2
  have fX := (okL_falls oX).2
  have fY := (okL_falls oY).2
  obtain ⟨fL, cL⟩ := subL_facts fX fY
  have ho := (leadOk_parts hk'.1).1
  have hbok : (sprB o A.length (lf A) B.length (lf B)).ok = true := mul_okM m1
  generalize sprB o A.length (lf A) B.length (lf B) = b at *
  intro t ht
  have tok := (fL.2 t ht).1
  obtain ⟨q1, q2⟩ := mem_coef1 fL ht
  have hne : t.m ≠ b := fun e => by
    apply q2
    rw [e, cL b, x1, y1]
    decide
  have hle : rkW o t.m ≤ rkW o b := by
    by_cases hx : coef X t.m = 0
    · by_cases hy : coef Y t.m = 0
      · exact absurd (by rw [cL, hx, hy]; decide) q2
      · obtain ⟨s, hs, e⟩ := coef_ne_mem1 hy
        rw [← e]; exact y2 s hs
    · obtain ⟨s, hs, e⟩ := coef_ne_mem1 hx
      rw [← e]; exact x2 s hs
  have hlt : rkW o t.m ≠ rkW o b := fun e => hne (rkW_inj _ _ tok hbok e)
  unfold M.cmp
  rw [if_pos ⟨ho, tok, hbok⟩, rkW_ord ho tok hbok]
  unfold c3
  split
  · omega
  · split <;> omega
end Go.Proofs.Ytbkighpmkadmmaa
namespace Go.Proofs.Ytbkighpmkadmmaa
open Go.RowKit Go.Deep Go.Joins
set_option linter.unusedVariables false

theorem lstOk_all {n : Nat} {ln : Nat → Nat} {f : Nat → Nat → T} (h : lstOk n ln f = true) : n ≤ 12 ∧ ∀ i, i < n → ln i ≠ 0 ∧ polOk (ln i) (f i) = true := of_decide_eq_true h
end Go.Proofs.Ytbkighpmkadmmaa
namespace Go.Proofs.Ytbkighpmkadmmaa
open Go.RowKit Go.Deep Go.Joins
set_option linter.unusedVariables false

/-- the place of the first of the first terms that is wanted; -1, if there is none. -/
def idxF (p : T → Bool) (f : Nat → T) : Nat → Int
  | 0 => -1
  | n + 1 => if 0 ≤ idxF p f n then idxF p f n else if p (f n) = true then (n : Int) else -1
theorem idx_none {p : T → Bool} {f : Nat → T} : ∀ {k : Nat}, (∀ j, j < k → p (f j) = false) → idxF p f k = -1
  | 0, _ => rfl
  | k + 1, h => by
    have h1 := idx_none (p := p) (f := f) (k := k) (fun j hj => h j (by omega))
    unfold idxF
    rw [h1, if_neg (by omega), if_neg (by rw [h k (by omega)]; decide)]
theorem idx_hit {p : T → Bool} {f : Nat → T} {k : Nat} (h : ∀ j, j < k → p (f j) = false) (hk : p (f k) = true) : ∀ n, k < n → idxF p f n = (k : Int)
  | 0, h0 => by omega
  | n + 1, h0 => by
    by_cases e : k = n
    · subst e
      unfold idxF
      rw [idx_none h, if_neg (by omega), if_pos hk]
    · have h1 := idx_hit h hk n (by omega)
      unfold idxF
      rw [h1, if_pos (by omega)]
theorem idx_iff {p : T → Bool} {f : Nat → T} : ∀ {n : Nat}, 0 ≤ idxF p f n ↔ ∃ i, i < n ∧ p (f i) = true
  | 0 => ⟨fun h => absurd (show (0 : Int) ≤ -1 from h) (by decide), fun ⟨_, h, _⟩ => by omega⟩
  | n + 1 => by
    have ih := idx_iff (p := p) (f := f) (n := n)
    unfold idxF
    by_cases h : 0 ≤ idxF p f n
    · rw [if_pos h]
      exact ⟨fun _ => by obtain ⟨i, hi, hp⟩ := ih.1 h; exact ⟨i, by omega, hp⟩, fun _ => h⟩
    · rw [if_neg h]
      by_cases hp : p (f n) = true
      · rw [if_pos hp]
        exact ⟨fun _ => ⟨n, by omega, hp⟩, fun _ => by omega⟩
      · rw [if_neg hp]
        refine ⟨fun hh => absurd hh (by decide), fun ⟨i, hi, hpi⟩ => ?_⟩
        by_cases e : i = n
        · subst e; exact absurd hpi hp
        · exact absurd (ih.2 ⟨i, by omega, hpi⟩) h
end Go.Proofs.Ytbkighpmkadmmaa
