/-
  Less than 0, factor by factor: products, and who stays as it is.
-/
import Derived.Test.YtfcmkkagjkkgjaaRepN2
namespace Go.Proofs.Ytfcmkkagjkkgjaa
open Go.RowKit
set_option linter.unusedVariables false

theorem tuT_ok {a : T} (ha : a.m.ok = true ∧ 0 ≤ a.c ∧ a.c ≤ 100) : (tuT a).m = a.m ∧ 0 ≤ (tuT a).c ∧ (tuT a).c ≤ 100 := ⟨rfl, (sg_range a (dg a)).1, (sg_range a (dg a)).2⟩
theorem tuT_zz {a : T} (ha : a.m.ok = true) : zz (tuT a).c = zz a.c * sq1 (dg a).toNat := by
  obtain ⟨x1, x2, y1, y2, d1, d2, e1, e2⟩ := M.ok_iff.1 ha
  show zz (a.c * sgn (dg a) % 101) = _
  rw [zz_mod, zz_mul, sgn_at (by unfold dg; omega)]
theorem rowM_tu {K : List T} {a : T} {f f' : Nat → T} {lb : Nat} (hK : Falls K) (ha : a.m.ok = true ∧ 0 ≤ a.c ∧ a.c ≤ 100) (hg : Good f lb) (he : ∀ i, i < lb → f' i = tuT (f i)) : ∀ k, k ≤ lb → rowM (K.map tuT) (tuT a) f' k = (rowM K a f k).map (fun X => X.map tuT)
  | 0, _ => rfl
  | k + 1, hk => by
    rw [rowM, rowM, rowM_tu hK ha hg he k (by omega)]
    cases hr : rowM K a f k with
    | none => rfl
    | some K1 =>
      show stepM (K1.map tuT) (tuT a) (f' k) = (stepM K1 a (f k)).map _
      have hf1 := rowM_falls2 hK ha hg k K1 (by omega) hr
      have h2 := hg k (by omega)
      rw [he k (by omega)]
      refine step_tu hf1 ha h2 (tuT_ok ha) (tuT_ok h2) ?_
      rw [tuT_zz ha.1, tuT_zz h2.1]
      grind
theorem mulM_tu {f f2 g g2 : Nat → T} {la lb : Nat} (hf : Good f la) (hg : Good g lb) (he : ∀ i, i < la → f2 i = tuT (f i)) (he2 : ∀ i, i < lb → g2 i = tuT (g i)) : ∀ i, i ≤ la → mulM f2 g2 lb i = (mulM f g lb i).map (fun X => X.map tuT)
  | 0, _ => rfl
  | i + 1, hi => by
    rw [mulM, mulM, mulM_tu hf hg he he2 i (by omega)]
    cases hr : mulM f g lb i with
    | none => rfl
    | some K1 =>
      show rowM (K1.map tuT) (f2 i) g2 lb = (rowM K1 (f i) g lb).map _
      rw [he i (by omega)]
      exact rowM_tu (mulM_falls2 hf hg i K1 (by omega) hr) (hf i (by omega)) hg he2 lb (Nat.le_refl _)
theorem wm_tu {A B P : List T} (h : wmV A B = (P, true)) : wmV (tuV A) (tuV B) = (tuV P, true) := by
  obtain ⟨oA, oB⟩ := wm_args h
  have oP := wm_ok h
  have tA := (tu_facts oA).1
  have tB := (tu_facts oB).1
  unfold wmV wylMul at h ⊢
  rw [if_pos ⟨oA, oB⟩] at h
  rw [if_pos ⟨tA, tB⟩, tuV_len oA, tuV_len oB]
  obtain ⟨l1, g1⟩ := good_ok (show polOk A.length (lf A) = true from oA)
  obtain ⟨l2, g2⟩ := good_ok (show polOk B.length (lf B) = true from oB)
  rw [mulM_tu g1 g2 (fun i hi => lf_tu oA hi) (fun i hi => lf_tu oB hi) A.length (Nat.le_refl _)]
  cases hm : mulM (lf A) (lf B) B.length A.length with
  | none => rw [hm] at h; simp [mulO] at h
  | some K =>
    rw [hm] at h
    have e : K = P := by simpa [mulO] using h
    rw [e, tuV_map oP]; rfl
/-- whether the first terms have all an even number of factors. -/
def evN (f : Nat → T) : Nat → Bool
  | 0 => true
  | i + 1 => evN f i && decide ((f i).m.deg % 2 = 0)
theorem evN_iff (f : Nat → T) : ∀ n, evN f n = true ↔ ∀ i, i < n → (f i).m.deg % 2 = 0
  | 0 => ⟨fun _ i hi => by omega, fun _ => rfl⟩
  | n + 1 => by
    rw [evN, Bool.and_eq_true, decide_eq_true_eq, evN_iff f n]
    constructor
    · rintro ⟨h1, h2⟩ i hi
      by_cases e : i = n
      · rw [e]; exact h2
      · exact h1 i (by omega)
    · intro h
      exact ⟨fun i hi => h i (by omega), h n (by omega)⟩
theorem tu_even {A : List T} (oA : okL A = true) : sq (tuV A) A = evN (lf A) A.length := by
  have fA := (okL_falls oA).2
  have key : tuV A = A ↔ evN (lf A) A.length = true := by
    rw [evN_iff, tuV_map oA]
    have one : ∀ t ∈ A, tuT t = t ↔ t.m.deg % 2 = 0 := fun t ht => by
      have hr := fA.2 t ht
      obtain ⟨x1, x2, y1, y2, d1, d2, e1, e2⟩ := M.ok_iff.1 hr.1
      have ed : t.m.deg = dg t := by unfold M.deg dg; simp [hr.1]
      rw [ed]
      constructor
      · intro h
        have hc : t.c * sgn (dg t) % 101 = t.c := congrArg T.c h
        by_cases h2 : dg t % 2 = 0
        · exact h2
        · unfold sgn at hc
          rw [if_neg h2] at hc
          omega
      · intro h
        show (⟨t.c * sgn (dg t) % 101, t.m⟩ : T) = t
        unfold sgn
        rw [if_pos h, show t.c * 1 % 101 = t.c by omega]
    constructor
    · intro h i hi
      rw [lf_eq hi]
      refine (one _ (List.getElem_mem hi)).1 ?_
      have := congrArg (fun L => L[i]?) h
      simp only [List.getElem?_map, List.getElem?_eq_getElem hi, Option.map_some, Option.some.injEq] at this
      exact this
    · intro h
      refine List.ext_getElem (by simp) (fun i h1 h2 => ?_)
      rw [List.getElem_map]
      have := h i h2
      rw [lf_eq h2] at this
      exact (one _ (List.getElem_mem h2)).2 this
  cases h : evN (lf A) A.length
  · cases h2 : sq (tuV A) A
    · rfl
    · rw [key.1 (sq_iff.1 h2)] at h; cases h
  · exact sq_iff.2 (key.2 h)
theorem tu_bad {A : List T} (h : okL A = false) : tuV A = [] := if_neg (fun hh => by rw [show polOk A.length (lf A) = false from h] at hh; cases hh)
end Go.Proofs.Ytfcmkkagjkkgjaa
