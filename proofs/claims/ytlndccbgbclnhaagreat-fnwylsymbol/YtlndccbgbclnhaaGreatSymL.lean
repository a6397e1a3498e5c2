/-
  At the top all commutes.
-/
import Derived.Test.YtlndccbgbclnhaaGreatGba
import Derived.Test.YtlndccbgbclnhaaGreatGbb
import Derived.Test.YtlndccbgbclnhaaGreatGbc
namespace Go.Proofs.YtlndccbgbclnhaaGreat
open Go.RowKit
set_option linter.unusedVariables false

theorem slp_wt : Wt slp := fun a b i k => by simp only [slp, M.sum]; omega
theorem su_filter {α : Type} (p : α → Bool) (f : α → Fq) : ∀ L : List α, su (L.filter p) f = su L (fun t => if p t = true then f t else 0)
  | [] => rfl
  | t :: r => by
    rw [List.filter_cons, su]
    by_cases h : p t = true
    · rw [if_pos h, if_pos h, su, su_filter p f r]
    · rw [if_neg h, if_neg h, su_filter p f r]; grind
theorem sym_ok {L : List T} (h : okL L = true) : okL (symV L) = true := by
  have f := okL_falls h
  rw [symV_ok h]
  exact okL_of (Nat.le_trans (List.length_filter_le _ _) f.1) ⟨f.2.1.sublist (List.filter_sublist), fun t ht => f.2.2 t (List.mem_filter.1 ht).1⟩
theorem sym_len {L : List T} (h : okL L = true) : (symV L).length ≤ L.length := by rw [symV_ok h]; exact List.length_filter_le _ _
theorem sym_prod {A B P : List T} (h : wmV A B = (P, true)) (hA : A ≠ []) (hB : B ≠ []) (lA : A.length ≤ 5) (lB : B.length ≤ 5) : cmV (symV A) (symV B) = (symV P, true) := by
  obtain ⟨oA, oB⟩ := wm_args h
  have oP := wm_ok h
  have hm := (mo_prod slp_cnt slp_nnD h hA hB).2
  have sA := sym_ok oA
  have sB := sym_ok oB
  have ml : (symV A).length * (symV B).length ≤ 5 * 5 := Nat.mul_le_mul (Nat.le_trans (sym_len oA) lA) (Nat.le_trans (sym_len oB) lB)
  obtain ⟨Y, hY⟩ := cm_of sA sB (fun a ha b hb => by
    rw [symV_ok oA] at ha
    rw [symV_ok oB] at hb
    exact (wm_lin h).2 a (List.mem_filter.1 ha).1 b (List.mem_filter.1 hb).1) (by omega)
  have e : Y = symV P := eq_of_lin (cm_facts hY).2.2.1 (sym_ok oP) (fun φ => by
    rw [(cm_facts hY).2.2.2.1]
    have e1 : lin φ (symV P) = lin (fun m => if (slp m == moL slp P) = true then φ m else 0) P := by
      rw [symV_ok oP]
      unfold lin
      rw [su_filter]
      refine su_congr (fun t _ => ?_)
      show _ = zz t.c * (if (slp t.m == moL slp P) = true then φ t.m else 0)
      by_cases q : (slp t.m == moL slp P) = true
      · rw [if_pos q, if_pos q]
      · rw [if_neg q, if_neg q]; grind
    rw [e1, wm_top slp_wt h (n := moL slp P) (fun a ha b hb => by
      have h1 := moL_ge (q := slp) oA ha
      have h2 := moL_ge (q := slp) oB hb
      rw [hm]; omega) _ (fun m hlt => by
      rw [if_neg]
      intro q
      have := beq_iff_eq.1 q
      omega)]
    rw [symV_ok oA, symV_ok oB, su_filter]
    refine su_congr (fun a ha => ?_)
    have h1 := moL_ge (q := slp) oA ha
    have zr : ∀ x : Fq, x * 0 = 0 := by intro x; grind
    by_cases q : (slp a.m == moL slp A) = true
    · rw [if_pos q, su_filter]
      refine su_congr (fun b hb => ?_)
      have h2 := moL_ge (q := slp) oB hb
      have hs := (slp_cnt a.m b.m 0 0).2
      have qa := beq_iff_eq.1 q
      by_cases q2 : (slp b.m == moL slp B) = true
      · have qb := beq_iff_eq.1 q2
        rw [if_pos q2, if_pos (beq_iff_eq.2 (by rw [hs, hm]; omega))]
      · rw [if_neg q2, if_neg, zr]
        intro q3
        have := beq_iff_eq.1 q3
        exact q2 (beq_iff_eq.2 (by rw [hs, hm] at this; omega))
    · rw [if_neg q]
      refine (su_zero _ _ (fun b hb => ?_)).symm
      have h2 := moL_ge (q := slp) oB hb
      have hs := (slp_cnt a.m b.m 0 0).2
      rw [if_neg, zr]
      intro q3
      have := beq_iff_eq.1 q3
      exact q (beq_iff_eq.2 (by rw [hs, hm] at this; omega)))
  rw [hY, e]
theorem sym_apart {A B Z : List T} (h : apV A B = (Z, true)) (hA : A ≠ []) (hB : B ≠ []) : moL slp Z < moL slp A + moL slp B := by
  rcases apV_case A B with h1 | ⟨P, Q, hP, hQ, oP, oQ, hl, h1⟩
  · rw [h1] at h; simp at h
  rw [h1] at h
  simp only [Prod.mk.injEq, and_true] at h
  obtain ⟨oA, oB⟩ := wm_args hP
  have fP := (okL_falls oP).2
  have fQ := (okL_falls oQ).2
  have fZ := (subL_facts fP fQ).1
  have oZ : okL Z = true := by rw [← h]; exact okL_of hl fZ
  rw [h] at fZ
  have nn : 0 ≤ moL slp A + moL slp B := by
    obtain ⟨a, ha⟩ := List.exists_mem_of_ne_nil A hA
    obtain ⟨b, hb⟩ := List.exists_mem_of_ne_nil B hB
    have h1 := moL_ge (q := slp) oA ha
    have h2 := moL_ge (q := slp) oB hb
    have h3 := slp_nnD _ ((okL_falls oA).2.2 a ha).1
    have h4 := slp_nnD _ ((okL_falls oB).2.2 b hb).1
    omega
  rcases moL_at (q := slp) oZ with h2 | ⟨t, ht, h2⟩
  · omega
  · rw [h2]
    have rt := fZ.2 t ht
    by_cases hlt : slp t.m < moL slp A + moL slp B
    · exact hlt
    · exfalso
      have low : ∀ m, slp m < moL slp A + moL slp B → dl t.m m = 0 := fun m hm => by
        unfold dl
        rw [if_neg]
        intro q
        rw [meqB_eq.1 q] at hlt
        omega
      have e1 := wm_top slp_wt hP (n := moL slp A + moL slp B) (fun a ha b hb => by
        have h1 := moL_ge (q := slp) oA ha
        have h2 := moL_ge (q := slp) oB hb
        omega) (dl t.m) low
      have e2 := wm_top slp_wt hQ (n := moL slp A + moL slp B) (fun b hb a ha => by
        have h1 := moL_ge (q := slp) oA ha
        have h2 := moL_ge (q := slp) oB hb
        omega) (dl t.m) low
      have e3 : lin (dl t.m) P = lin (dl t.m) Q := by
        rw [e1, e2, su_swap]
        refine su_congr (fun b _ => su_congr (fun a _ => ?_))
        rw [sum_comm' a.m]
        grind
      have e4 : zz (coef P t.m) = zz (coef Q t.m) := by rw [← lin_dl fP rt.1, ← lin_dl fQ rt.1, e3]
      have e5 := zz_inj (coef_range fP t.m) (coef_range fQ t.m) e4
      have e6 := (subL_facts fP fQ).2 t.m
      rw [h, e5] at e6
      have e7 := (mem_coef fZ ht)
      have r := coef_range fQ t.m
      have : (coef Q t.m + 100 * coef Q t.m % 101) % 101 = 0 := by omega
      rw [this] at e6
      exact e7.2 e6
theorem sym_zl {B P : List T} (h : wmV [] B = (P, true)) : P = [] := by
  have h1 := Rp_mul stdG h
  rw [Rp_nil, Lq.nil_mul] at h1
  exact nil_of_Rp (wm_falls h) h1
theorem sym_zr {A P : List T} (h : wmV A [] = (P, true)) : P = [] := by
  have h1 := Rp_mul stdG h
  rw [Rp_nil, Lq.mul_nil] at h1
  exact nil_of_Rp (wm_falls h) h1
theorem sym_none : symV [] = [] := by rw [symV_ok okL_nil]; rfl
theorem cm_zl {B : List T} (h : okL B = true) : cmV [] B = ([], true) := by
  obtain ⟨X, hX⟩ := cm_of okL_nil h (fun a ha => by cases ha) (by simp)
  have e : X = [] := eq_of_lin (cm_facts hX).2.2.1 okL_nil (fun φ => by rw [(cm_facts hX).2.2.2.1]; rfl)
  rw [hX, e]
theorem cm_zr {A : List T} (h : okL A = true) : cmV A [] = ([], true) := by
  obtain ⟨X, hX⟩ := cm_of h okL_nil (fun a _ b hb => by cases hb) (by simp)
  have e : X = [] := eq_of_lin (cm_facts hX).2.2.1 okL_nil (fun φ => by
    rw [(cm_facts hX).2.2.2.1]
    exact su_zero _ _ (fun a _ => rfl))
  rw [hX, e]
end Go.Proofs.YtlndccbgbclnhaaGreat
