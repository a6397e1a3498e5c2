/-
  What operators do to forms, as linear maps: products, sums.
-/
import Derived.Test.YtlndccbgbclnhaaGaz
import Derived.Test.YtlndccbgbclnhaaDoM
namespace Go.Proofs.Ytlndccbgbclnhaa
open Go.RowKit
set_option linter.unusedVariables false

def wdV (L K : List T) : List T × Bool := wylDo (lf L) L.length (lf K) K.length
/-- no slopes in any term. -/
def Frm (L : List T) : Prop := ∀ t ∈ L, t.m.d = 0 ∧ t.m.e = 0
theorem frm_nil : Frm [] := fun t h => by cases h
theorem frm_iff {L : List T} : freeL L = true ↔ okL L = true ∧ Frm L := by
  unfold freeL polFree
  rw [Bool.and_eq_true, decide_eq_true_eq]
  constructor
  · rintro ⟨h1, h2⟩
    refine ⟨h1, fun t ht => ?_⟩
    obtain ⟨i, hi, rfl⟩ := List.mem_iff_getElem.1 ht
    have h3 := h2 i hi
    have h4 := M.ok_iff.1 ((okL_falls h1).2.2 _ ht).1
    rw [lf_eq hi] at h3
    omega
  · rintro ⟨h1, h2⟩
    refine ⟨h1, fun i hi => ?_⟩
    rw [lf_eq hi]
    have := h2 _ (List.getElem_mem hi)
    omega
/-- a form, held against what is counted. -/
def pf (u : Vq) (L : List T) : Fq := lin (fun m => u m.x.toNat m.y.toNat) L
theorem Rp_frm {L : List T} (h : Frm L) (u : Vq) (n k : Nat) : (Rp stdG L).f u n k = pf (fun p q => u (n + p) (k + q)) L := by
  refine su_congr (fun t ht => ?_)
  obtain ⟨hd, he⟩ := h t ht
  show zz t.c * (mo stdG t.m).f u n k = zz t.c * u (n + t.m.x.toNat) (k + t.m.y.toNat)
  rw [mo_std, hd, he]
  show zz t.c * (nf 1 * nf 1 * u (n - 0 + t.m.x.toNat) (k - 0 + t.m.y.toNat)) = _
  rw [nf_one, Nat.sub_zero, Nat.sub_zero]
  grind
theorem eq_of_pf {P Q : List T} (hP : Falls P) (hQ : Falls Q) (fP : Frm P) (fQ : Frm Q) (h : ∀ u, pf u P = pf u Q) : P = Q :=
  eq_of_Rp hP hQ (Lq.ext fun u n k => by rw [Rp_frm fP, Rp_frm fQ, h])
theorem pf_add (u : Vq) {L K : List T} (hL : Falls L) (hK : Falls K) : pf u (addL L K) = pf u L + pf u K := lin_add _ hL hK
theorem pf_sc (u : Vq) (c : Int) (L : List T) : pf u (scL c L) = zz c * pf u L := lin_sc _ c L
theorem pf_va (u v : Vq) (L : List T) : pf (va u v) L = pf u L + pf v L := lin_sum _ _ L
theorem pf_vs (c : Fq) (u : Vq) (L : List T) : pf (vs c u) L = c * pf u L := lin_mul _ _ L
theorem put_mem {xs : List T} (h : TOK xs) {t : T} (ht : t ∈ putAll xs []) : ∃ s ∈ xs, s.m = t.m := by
  have hf := putAll_facts xs [] h falls_nil
  by_cases hx : ∃ s ∈ xs, s.m = t.m
  · exact hx
  · exfalso
    have hr := hf.1.2 t ht
    have h0 := coef_at_mem hf.1 ht
    rw [hf.2, addAllT_other t.m _ _ (fun s hs e => hx ⟨s, hs, e⟩)] at h0
    change (0 : Int) = t.c at h0
    omega
theorem add_mem {L K : List T} (hL : Falls L) (hK : Falls K) {t : T} (ht : t ∈ addL L K) : (∃ s ∈ L, s.m = t.m) ∨ ∃ s ∈ K, s.m = t.m := by
  have hf := addL_facts hL hK
  have hr := hf.1.2 t ht
  have h0 := coef_at_mem hf.1 ht
  rw [hf.2] at h0
  have key : ∀ X : List T, coef X t.m ≠ 0 → ∃ s ∈ X, s.m = t.m := fun X => by
    induction X with
    | nil => intro h; exact absurd rfl h
    | cons s r ih =>
      intro h
      rw [coef] at h
      by_cases e : meqB s.m t.m = true
      · exact ⟨s, List.mem_cons_self .., meqB_eq.1 e⟩
      · rw [if_neg e] at h
        obtain ⟨x, hx, he⟩ := ih h
        exact ⟨x, List.mem_cons_of_mem _ hx, he⟩
  by_cases h1 : coef L t.m = 0
  · right
    refine key K (fun h2 => ?_)
    rw [h1, h2] at h0
    simp at h0
    omega
  · exact .inl (key L h1)
theorem frm_add {L K : List T} (hL : Falls L) (hK : Falls K) (fL : Frm L) (fK : Frm K) : Frm (addL L K) := fun t ht => by
  rcases add_mem hL hK ht with ⟨s, hs, e⟩ | ⟨s, hs, e⟩
  · rw [← e]; exact fL s hs
  · rw [← e]; exact fK s hs
theorem faF : ∀ X D : Fin 16, zz (fFall (X.val : Int) (D.val : Int)) = nf (faN X.val D.val) := by decide +kernel
theorem zz_fall {x d : Int} (x0 : 0 ≤ x) (x1 : x ≤ 15) (d0 : 0 ≤ d) (d1 : d ≤ 15) : zz (fFall x d) = nf (faN x.toNat d.toNat) := by
  have h := faF ⟨x.toNat, by omega⟩ ⟨d.toNat, by omega⟩
  simp only [Int.toNat_of_nonneg x0, Int.toNat_of_nonneg d0] at h
  exact h
theorem zz_fMul {a b : Int} (ha : 0 ≤ a ∧ a ≤ 100) (hb : 0 ≤ b ∧ b ≤ 100) : zz (fMul a b) = zz a * zz b := by
  rw [fMul_in ha.1 ha.2 hb.1 hb.2, zz_mod, zz_mul]
theorem doO_lin (u : Vq) {a b : T} (ha : a.m.ok = true ∧ 0 ≤ a.c ∧ a.c ≤ 100) (hb : b.m.ok = true ∧ 0 ≤ b.c ∧ b.c ≤ 100) : pf u ((doO a b).map (·.1)) = zz b.c * (zz a.c * (mo stdG a.m).f u b.m.x.toNat b.m.y.toNat) := by
  obtain ⟨ax0, ax1, ay0, ay1, ad0, ad1, ae0, ae1⟩ := M.ok_iff.1 ha.1
  obtain ⟨bx0, bx1, by0, by1, bd0, bd1, be0, be1⟩ := M.ok_iff.1 hb.1
  have zl : ∀ x : Fq, 0 * x = 0 := by intro x; grind
  have zr : ∀ x : Fq, x * 0 = 0 := by intro x; grind
  rw [mo_std]
  unfold doO
  split
  · rename_i h
    show (0 : Fq) = _
    rcases h with h | h
    · rw [faN_high _ _ (show b.m.x.toNat < a.m.d.toNat by omega), nf_zero, zl, zl, zr, zr]
    · rw [faN_high _ _ (show b.m.y.toNat < a.m.e.toNat by omega), nf_zero, zr, zl, zr, zr]
  · rename_i h
    have hx : ¬ b.m.x < a.m.d := fun q => h (.inl q)
    have hy : ¬ b.m.y < a.m.e := fun q => h (.inr q)
    show zz (fMul (fMul a.c b.c) (fMul (fFall b.m.x a.m.d) (fFall b.m.y a.m.e))) * u (b.m.x - a.m.d + a.m.x).toNat (b.m.y - a.m.e + a.m.y).toNat + 0 = _
    have b1 : 0 ≤ fFall b.m.x a.m.d ∧ fFall b.m.x a.m.d ≤ 100 := by unfold fFall; split; exact fl_bd _ _; omega
    have b2 : 0 ≤ fFall b.m.y a.m.e ∧ fFall b.m.y a.m.e ≤ 100 := by unfold fFall; split; exact fl_bd _ _; omega
    rw [zz_fMul (fMul_bd _ _) (fMul_bd _ _), zz_fMul ha.2 hb.2, zz_fMul b1 b2, zz_fall bx0 bx1 ad0 ad1, zz_fall by0 by1 ae0 ae1, show (b.m.x - a.m.d + a.m.x).toNat = b.m.x.toNat - a.m.d.toNat + a.m.x.toNat by omega, show (b.m.y - a.m.e + a.m.y).toNat = b.m.y.toNat - a.m.e.toNat + a.m.y.toNat by omega]
    grind
theorem pf_append (u : Vq) (L K : List T) : pf u (L ++ K) = pf u L + pf u K := su_append _ L K
theorem rowDo_lin (u : Vq) {a : T} {g : Nat → T} {lb : Nat} (ha : a.m.ok = true ∧ 0 ≤ a.c ∧ a.c ≤ 100) (hg : Good g lb) : ∀ k, k ≤ lb → pf u ((rowDo a g k).map (·.1)) = su (List.range k) (fun j => zz (g j).c * (zz a.c * (mo stdG a.m).f u (g j).m.x.toNat (g j).m.y.toNat))
  | 0, _ => rfl
  | k + 1, hk => by
    rw [rowDo, List.map_append, pf_append, rowDo_lin u ha hg k (by omega), doO_lin u ha (hg k (by omega)), List.range_succ, su_append]
    show _ + _ = _ + (_ + 0)
    grind
theorem allDo_lin (u : Vq) {f g : Nat → T} {la lb : Nat} (hf : Good f la) (hg : Good g lb) : ∀ i, i ≤ la → pf u ((allDo f g lb i).map (·.1)) = su (List.range lb) (fun j => zz (g j).c * su (List.range i) (fun k => zz (f k).c * (mo stdG (f k).m).f u (g j).m.x.toNat (g j).m.y.toNat))
  | 0, _ => by
    show (0 : Fq) = _
    rw [su_zero]
    intro t _
    show zz (g t).c * (0 : Fq) = 0
    grind
  | i + 1, hi => by
    rw [allDo, List.map_append, pf_append, allDo_lin u hf hg i (by omega), rowDo_lin u (hf i (by omega)) hg lb (Nat.le_refl _), ← su_add]
    refine su_congr (fun j _ => ?_)
    rw [List.range_succ, su_append]
    show _ = _ * (_ + (_ + 0))
    grind
theorem su_lf (L : List T) (f : T → Fq) : su L f = su (List.range L.length) (fun i => f (lf L i)) := by
  have e : L = (List.range L.length).map (lf L) := by
    refine List.ext_getElem (by simp) (fun i h1 h2 => ?_)
    rw [List.getElem_map, List.getElem_range, lf_eq h1]
  have := su_map (lf L) f (List.range L.length)
  rw [← e] at this
  exact this
/-- which monomials an operator's terms make of a form's. -/
def DoOk (A K : List T) : Prop := ∀ a ∈ A, ∀ b ∈ K, b.m.x < a.m.d ∨ b.m.y < a.m.e ∨ (doT a b).m.ok = true
theorem rowDo_ok (a : T) (g : Nat → T) : ∀ k, allOk (rowDo a g k) = true ↔ ∀ j, j < k → (g j).m.x < a.m.d ∨ (g j).m.y < a.m.e ∨ (doT a (g j)).m.ok = true
  | 0 => ⟨fun _ j hj => by omega, fun _ => rfl⟩
  | k + 1 => by
    rw [rowDo, allOk_append, Bool.and_eq_true, rowDo_ok a g k]
    have h1 : allOk (doO a (g k)) = true ↔ ((g k).m.x < a.m.d ∨ (g k).m.y < a.m.e ∨ (doT a (g k)).m.ok = true) := by
      unfold doO
      split
      · rename_i h
        exact ⟨fun _ => h.elim .inl (fun q => .inr (.inl q)), fun _ => rfl⟩
      · rename_i h
        have hx : ¬ (g k).m.x < a.m.d := fun q => h (.inl q)
        have hy : ¬ (g k).m.y < a.m.e := fun q => h (.inr q)
        constructor
        · intro q; right; right; simpa [allOk, doD] using q
        · rintro (q | q | q)
          · exact absurd q hx
          · exact absurd q hy
          · simpa [allOk, doD] using q
    rw [h1]
    constructor
    · rintro ⟨p, q⟩ j hj
      by_cases e : j = k
      · rw [e]; exact q
      · exact p j (by omega)
    · intro p
      exact ⟨fun j hj => p j (by omega), p k (by omega)⟩
theorem allDo_ok (f g : Nat → T) (lb : Nat) : ∀ i, allOk (allDo f g lb i) = true ↔ ∀ k, k < i → ∀ j, j < lb → (g j).m.x < (f k).m.d ∨ (g j).m.y < (f k).m.e ∨ (doT (f k) (g j)).m.ok = true
  | 0 => ⟨fun _ j hj => by omega, fun _ => rfl⟩
  | i + 1 => by
    rw [allDo, allOk_append, Bool.and_eq_true, allDo_ok f g lb i, rowDo_ok]
    constructor
    · rintro ⟨p, q⟩ k hk
      by_cases e : k = i
      · rw [e]; exact q
      · exact p k (by omega)
    · intro p
      exact ⟨fun k hk => p k (by omega), p i (by omega)⟩
theorem doOk_iff (A K : List T) : allOk (allDo (lf A) (lf K) K.length A.length) = true ↔ DoOk A K := by
  rw [allDo_ok]
  constructor
  · intro h a ha b hb
    obtain ⟨i, hi, rfl⟩ := List.mem_iff_getElem.1 ha
    obtain ⟨j, hj, rfl⟩ := List.mem_iff_getElem.1 hb
    have := h i hi j hj
    rwa [lf_eq hi, lf_eq hj] at this
  · intro h k hk j hj
    rw [lf_eq hk, lf_eq hj]
    exact h _ (List.getElem_mem hk) _ (List.getElem_mem hj)
theorem wd_of {A K : List T} (oA : okL A = true) (fK : freeL K = true) (h : DoOk A K) : ∃ X, wdV A K = (X, true) := by
  refine ⟨putAll ((allDo (lf A) (lf K) K.length A.length).map (·.1)) [], ?_⟩
  unfold wdV wylDo
  rw [if_pos ⟨oA, fK⟩, if_pos ((doOk_iff A K).2 h)]
theorem wd_facts {A K X : List T} (h : wdV A K = (X, true)) : okL A = true ∧ freeL K = true ∧ DoOk A K ∧ okL X = true ∧ Frm X ∧ ∀ u, pf u X = pf ((Rp stdG A).f u) K := by
  unfold wdV wylDo at h
  split at h
  · rename_i hh
    split at h
    · rename_i hk
      simp only [Prod.mk.injEq, and_true] at h
      obtain ⟨l1, g1⟩ := good_ok hh.1
      have oK := (frm_iff.1 hh.2).1
      obtain ⟨l2, g2⟩ := good_ok oK
      have hf := putAll_facts _ [] (tok_do hk) falls_nil
      refine ⟨hh.1, hh.2, (doOk_iff A K).1 hk, ?_, ?_, fun u => ?_⟩
      · rw [← h]
        exact okL_of (by have := doL_short hk; omega) hf.1
      · rw [← h]
        intro t ht
        obtain ⟨s, hs, e⟩ := put_mem (tok_do hk) ht
        obtain ⟨x, _, rfl⟩ := List.mem_map.1 hs
        rw [← e]
        exact ⟨x.2.2.2.1, x.2.2.2.2⟩
      · rw [← h]
        show lin _ (putAll _ []) = _
        rw [lin_putAll _ _ (tok_do hk) falls_nil, lin_nil]
        have := allDo_lin u g1 g2 A.length (Nat.le_refl _)
        unfold pf at this
        rw [this]
        unfold pf lin
        rw [su_lf K]
        have z : ∀ x : Fq, 0 + x = x := by intro x; grind
        rw [z]
        refine su_congr (fun j _ => ?_)
        show _ = zz (lf K j).c * su A (fun t => zz t.c * (mo stdG t.m).f u (lf K j).m.x.toNat (lf K j).m.y.toNat)
        rw [su_lf A]
    · simp at h
  · simp at h
theorem putT_le (c : Int) (m : M) (L : List T) : (putT c m L).length ≤ L.length + 1 := by
  unfold putT
  split
  · omega
  · have := addT_len (lf L) L.length (fun _ => (⟨c, m⟩ : T)) 1 0 0
    omega
theorem putAll_le : ∀ (xs L : List T), (putAll xs L).length ≤ L.length + xs.length
  | [], L => Nat.le_refl _
  | t :: r, L => by
    have h1 := putAll_le r (putT t.c t.m L)
    have h2 := putT_le t.c t.m L
    show (putAll r (putT t.c t.m L)).length ≤ _
    rw [List.length_cons]
    omega
theorem wd_len {A K X : List T} (h : wdV A K = (X, true)) : X.length ≤ A.length * K.length := by
  unfold wdV wylDo at h
  split at h
  · split at h
    · simp only [Prod.mk.injEq, and_true] at h
      rw [← h]
      have h1 := putAll_le ((allDo (lf A) (lf K) K.length A.length).map (·.1)) []
      rw [List.length_map] at h1
      have h2 := allDo_len (lf A) (lf K) K.length A.length
      simp only [List.length_nil] at h1
      omega
    · simp at h
  · simp at h
theorem wdV_if (A K : List T) : wdV A K = ([], false) ∨ ∃ X, wdV A K = (X, true) := by
  unfold wdV wylDo
  split
  · split
    · exact .inr ⟨_, rfl⟩
    · exact .inl rfl
  · exact .inl rfl
theorem wd_free {A K X : List T} (h : wdV A K = (X, true)) : freeL X = true := by
  obtain ⟨_, _, _, o, f, _⟩ := wd_facts h
  exact frm_iff.2 ⟨o, f⟩
theorem wd_eq {A K X Y : List T} (h : wdV A K = (X, true)) (oY : freeL Y = true) (hu : ∀ u, pf ((Rp stdG A).f u) K = pf u Y) : X = Y := by
  obtain ⟨_, _, _, o, f, e⟩ := wd_facts h
  obtain ⟨o2, f2⟩ := frm_iff.1 oY
  exact eq_of_pf (okL_falls o).2 (okL_falls o2).2 f f2 (fun u => by rw [e, hu])
/-- what a product does is what its factors do, the second one first. -/
theorem wd_mul {Q P QP K X Y Z : List T} (h1 : wdV P K = (X, true)) (h2 : wmV Q P = (QP, true)) (h3 : wdV Q X = (Y, true)) (h4 : wdV QP K = (Z, true)) : Y = Z := by
  refine wd_eq h3 (wd_free h4) (fun u => ?_)
  rw [(wd_facts h4).2.2.2.2.2, (wd_facts h1).2.2.2.2.2, Rp_mul _ h2]
  rfl
theorem okL_add {L K : List T} (oL : okL L = true) (oK : okL K = true) (h : L.length + K.length ≤ 400) : addV L K = (addL L K, true) ∧ okL (addL L K) = true := by
  have hl : (addL L K).length ≤ 400 := by have := addL_len L K; omega
  exact ⟨addV_ok oL oK hl, okL_of hl (addL_facts (okL_falls oL).2 (okL_falls oK).2).1⟩
theorem dok_add {A B K : List T} (fA : Falls A) (fB : Falls B) (h1 : DoOk A K) (h2 : DoOk B K) : DoOk (addL A B) K := fun a ha b hb => by
  have key : ∀ s : T, s.m = a.m → (b.m.x < s.m.d ∨ b.m.y < s.m.e ∨ (doT s b).m.ok = true) → (b.m.x < a.m.d ∨ b.m.y < a.m.e ∨ (doT a b).m.ok = true) := fun s e h => by
    have e2 : (doT s b).m = (doT a b).m := by unfold doT; rw [e]
    rw [e2, e] at h
    exact h
  rcases add_mem fA fB ha with ⟨s, hs, e⟩ | ⟨s, hs, e⟩
  · exact key s e (h1 s hs b hb)
  · exact key s e (h2 s hs b hb)
theorem dok_add2 {A K L : List T} (fK : Falls K) (fL : Falls L) (h1 : DoOk A K) (h2 : DoOk A L) : DoOk A (addL K L) := fun a ha b hb => by
  have key : ∀ s : T, s.m = b.m → (s.m.x < a.m.d ∨ s.m.y < a.m.e ∨ (doT a s).m.ok = true) → (b.m.x < a.m.d ∨ b.m.y < a.m.e ∨ (doT a b).m.ok = true) := fun s e h => by
    have e2 : (doT a s).m = (doT a b).m := by unfold doT; rw [e]
    rw [e2, e] at h
    exact h
  rcases add_mem fK fL hb with ⟨s, hs, e⟩ | ⟨s, hs, e⟩
  · exact key s e (h1 a ha s hs)
  · exact key s e (h2 a ha s hs)
/-- a sum of operators does what both do. -/
theorem wd_add {A B K X Y : List T} (h1 : wdV A K = (X, true)) (h2 : wdV B K = (Y, true)) (hl : A.length + B.length ≤ 400) (hx : X.length + Y.length ≤ 400) : addV A B = (addL A B, true) ∧ addV X Y = (addL X Y, true) ∧ wdV (addL A B) K = (addL X Y, true) := by
  obtain ⟨oA, fK, dA, oX, fX, eX⟩ := wd_facts h1
  obtain ⟨oB, _, dB, oY, fY, eY⟩ := wd_facts h2
  have a1 := okL_add oA oB hl
  have a2 := okL_add oX oY hx
  refine ⟨a1.1, a2.1, ?_⟩
  obtain ⟨Z, hZ⟩ := wd_of a1.2 fK (dok_add (okL_falls oA).2 (okL_falls oB).2 dA dB)
  rw [hZ]
  have : Z = addL X Y := wd_eq hZ (frm_iff.2 ⟨a2.2, frm_add (okL_falls oX).2 (okL_falls oY).2 fX fY⟩) (fun u => by
    rw [pf_add u (okL_falls oX).2 (okL_falls oY).2, eX, eY, Rp_add _ (okL_falls oA).2 (okL_falls oB).2, ← pf_va]
    rfl)
  rw [this]
theorem wd_add2 {A K L X Y : List T} (h1 : wdV A K = (X, true)) (h2 : wdV A L = (Y, true)) (hl : K.length + L.length ≤ 400) (hx : X.length + Y.length ≤ 400) : addV K L = (addL K L, true) ∧ addV X Y = (addL X Y, true) ∧ wdV A (addL K L) = (addL X Y, true) := by
  obtain ⟨oA, fK, dA, oX, fX, eX⟩ := wd_facts h1
  obtain ⟨_, fL, dB, oY, fY, eY⟩ := wd_facts h2
  obtain ⟨oK, gK⟩ := frm_iff.1 fK
  obtain ⟨oL, gL⟩ := frm_iff.1 fL
  have a1 := okL_add oK oL hl
  have a2 := okL_add oX oY hx
  refine ⟨a1.1, a2.1, ?_⟩
  have fr := frm_iff.2 ⟨a1.2, frm_add (okL_falls oK).2 (okL_falls oL).2 gK gL⟩
  obtain ⟨Z, hZ⟩ := wd_of oA fr (dok_add2 (okL_falls oK).2 (okL_falls oL).2 dA dB)
  rw [hZ]
  have : Z = addL X Y := wd_eq hZ (frm_iff.2 ⟨a2.2, frm_add (okL_falls oX).2 (okL_falls oY).2 fX fY⟩) (fun u => by
    rw [pf_add u (okL_falls oX).2 (okL_falls oY).2, eX, eY, pf_add _ (okL_falls oK).2 (okL_falls oL).2])
  rw [this]
def oneL : List T := [⟨1, ⟨0, 0, 0, 0⟩⟩]
theorem oneL_ok : okL oneL = true := by decide
theorem wd_one {K : List T} (h : freeL K = true) : wdV oneL K = (K, true) := by
  obtain ⟨oK, gK⟩ := frm_iff.1 h
  obtain ⟨Z, hZ⟩ := wd_of oneL_ok h (fun a ha b hb => by
    obtain rfl := List.mem_singleton.1 ha
    refine .inr (.inr ?_)
    have h1 := ((okL_falls oK).2.2 b hb).1
    have h2 := gK b hb
    obtain ⟨x0, x1, y0, y1, d0, d1, e0, e1⟩ := M.ok_iff.1 h1
    refine M.ok_iff.2 ?_
    simp only [doT]
    omega)
  rw [hZ]
  have : Z = K := wd_eq hZ h (fun u => by
    congr 1
    funext n k
    show zz 1 * (mo stdG ⟨0, 0, 0, 0⟩).f u n k + 0 = u n k
    rw [mo_std]
    show zz 1 * (nf 1 * nf 1 * u (n - 0 + 0) (k - 0 + 0)) + 0 = _
    rw [nf_one, zz_one, Nat.sub_zero, Nat.sub_zero]
    grind)
  rw [this]
end Go.Proofs.Ytlndccbgbclnhaa
