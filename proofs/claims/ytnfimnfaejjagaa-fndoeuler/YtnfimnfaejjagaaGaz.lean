/-
  What is true of products: brackets, sums on both sides, how far two are apart.
  What an operator does to a form of the times: the terms, one by one.
  What operators do to forms, as linear maps: products, sums.
-/
import Derived.Test.YtnfimnfaejjagaaGay
import Derived.Test.YtnfimnfaejjagaaGat
import Derived.Test.YtnfimnfaejjagaaGal
import Derived.Test.YtnfimnfaejjagaaGah
namespace Go.Proofs.Ytnfimnfaejjagaa
open Go.RowKit
set_option linter.unusedVariables false

theorem wm_ok {A B P : List T} (h : wmV A B = (P, true)) : okL P = true := by
  rcases wmV_case A B with h1 | ⟨Q, h1, o⟩
  · rw [h1] at h; simp at h
  · rw [h1] at h
    simp only [Prod.mk.injEq, and_true] at h
    rw [← h]; exact o
theorem wmV_if (A B : List T) : wmV A B = ([], false) ∨ ∃ P, wmV A B = (P, true) := (wmV_case A B).imp id (fun ⟨P, h, _⟩ => ⟨P, h⟩)
theorem addV_if (A B : List T) : addV A B = ([], false) ∨ ∃ P, addV A B = (P, true) := (addV_case A B).imp id (fun ⟨_, _, _, h⟩ => ⟨_, h⟩)
theorem wm_falls {A B P : List T} (h : wmV A B = (P, true)) : Falls P := (okL_falls (wm_ok h)).2
theorem wm_args {A B P : List T} (h : wmV A B = (P, true)) : okL A = true ∧ okL B = true := by
  unfold wmV wylMul at h
  split at h
  · rename_i hh; exact hh
  · simp at h
theorem wm_assoc {A B C X Y U V : List T} (h1 : wmV A B = (X, true)) (h2 : wmV B C = (Y, true)) (h3 : wmV X C = (U, true)) (h4 : wmV A Y = (V, true)) : U = V := by
  refine eq_of_Rp (wm_falls h3) (wm_falls h4) ?_
  rw [Rp_mul _ h3, Rp_mul _ h1, Rp_mul _ h4, Rp_mul _ h2, Lq.mul_assoc]
theorem addV_eq {A B S : List T} (oA : okL A = true) (oB : okL B = true) (oS : okL S = true) (h : Lq.sum (Rp stdG A) (Rp stdG B) = Rp stdG S) : addV A B = (S, true) := by
  have e : addL A B = S := eq_of_Rp (addL_facts (okL_falls oA).2 (okL_falls oB).2).1 (okL_falls oS).2 (by rw [Rp_add _ (okL_falls oA).2 (okL_falls oB).2]; exact h)
  rw [addV_ok oA oB (by rw [e]; exact (okL_falls oS).1), e]
theorem wm_left {A B C S X Y U : List T} (hS : addV B C = (S, true)) (h1 : wmV A B = (X, true)) (h2 : wmV A C = (Y, true)) (h3 : wmV A S = (U, true)) : addV X Y = (U, true) := by
  rcases addV_case B C with h | ⟨oB, oC, hl, h⟩
  · rw [h] at hS; simp at hS
  rw [h] at hS
  simp only [Prod.mk.injEq, and_true] at hS
  refine addV_eq (wm_ok h1) (wm_ok h2) (wm_ok h3) ?_
  rw [Rp_mul _ h1, Rp_mul _ h2, Rp_mul _ h3, ← hS, Rp_add _ (okL_falls oB).2 (okL_falls oC).2, Lq.mul_sum]
theorem wm_right {A B C S X Y U : List T} (hS : addV B C = (S, true)) (h1 : wmV B A = (X, true)) (h2 : wmV C A = (Y, true)) (h3 : wmV S A = (U, true)) : addV X Y = (U, true) := by
  rcases addV_case B C with h | ⟨oB, oC, hl, h⟩
  · rw [h] at hS; simp at hS
  rw [h] at hS
  simp only [Prod.mk.injEq, and_true] at hS
  refine addV_eq (wm_ok h1) (wm_ok h2) (wm_ok h3) ?_
  rw [Rp_mul _ h1, Rp_mul _ h2, Rp_mul _ h3, ← hS, Rp_add _ (okL_falls oB).2 (okL_falls oC).2, Lq.sum_mul]
/-! so many times a product -/
def scT1 (c : Int) (t : T) : T := ⟨c * t.c % 101, t.m⟩
theorem addL_sc {c : Int} (c1 : 1 ≤ c) (c2 : c ≤ 100) {K X : List T} (hK : Falls K) (hX : Falls X) : addL (scL c K) (scL c X) = scL c (addL K X) := by
  have f1 := scL_falls c1 c2 hK
  have f2 := scL_falls c1 c2 hX
  refine eq_of_Rp (addL_facts f1 f2).1 (scL_falls c1 c2 (addL_facts hK hX).1) ?_
  rw [Rp_add _ f1 f2, Rp_sc, Rp_sc, Rp_sc, Rp_add _ hK hX, Lq.sc_sum]
theorem pair_sc {c : Int} (c1 : 1 ≤ c) (c2 : c ≤ 100) {a b : T} {m : M} (h : Two a b m) : Two (scT1 c a) b m ∧ pairL (scT1 c a) b = scL c (pairL a b) := by
  have h2 : Two (scT1 c a) b m := ⟨h.ok1, h.ok2, h.ok3, h.gx, h.gy, h.gd, h.ge, ⟨by show 0 ≤ c * a.c % 101; omega, by show c * a.c % 101 ≤ 100; omega⟩, h.c2⟩
  refine ⟨h2, eq_of_Rp (pairL_facts h2).1 (scL_falls c1 c2 (pairL_facts h).1) ?_⟩
  rw [Rp_pair _ h2, Rp_sc, Rp_pair _ h, Lq.sc_sc]
  congr 1
  show zz (c * a.c % 101) * zz b.c = _
  rw [zz_mod, zz_mul]; grind
theorem rowM_sc {c : Int} (c1 : 1 ≤ c) (c2 : c ≤ 100) {K : List T} {a : T} {f : Nat → T} {lb : Nat} (hK : Falls K) (ha : a.m.ok = true ∧ 0 ≤ a.c ∧ a.c ≤ 100) (hg : Good f lb) : ∀ k, k ≤ lb → rowM (scL c K) (scT1 c a) f k = (rowM K a f k).map (scL c)
  | 0, _ => rfl
  | k + 1, hk => by
    rw [rowM, rowM, rowM_sc c1 c2 hK ha hg k (by omega)]
    cases hr : rowM K a f k with
    | none => rfl
    | some K1 =>
      show stepM (scL c K1) (scT1 c a) (f k) = (stepM K1 a (f k)).map (scL c)
      have hf1 := rowM_falls2 hK ha hg k K1 (by omega) hr
      have h2 := hg k (by omega)
      unfold stepM
      show (if (a.m.sum (f k).m).ok = true ∧ (addL (scL c K1) (pairL (scT1 c a) (f k))).length ≤ 400 then some (addL (scL c K1) (pairL (scT1 c a) (f k))) else none) = _
      by_cases hok : (a.m.sum (f k).m).ok = true
      · have tw : Two a (f k) (a.m.sum (f k).m) := ⟨ha.1, h2.1, hok, rfl, rfl, rfl, rfl, ha.2, h2.2⟩
        rw [(pair_sc c1 c2 tw).2, addL_sc c1 c2 hf1 (pairL_facts tw).1, scL_len]
        by_cases hl : (addL K1 (pairL a (f k))).length ≤ 400
        · rw [if_pos ⟨hok, hl⟩, if_pos ⟨hok, hl⟩]; rfl
        · rw [if_neg (fun h => hl h.2), if_neg (fun h => hl h.2)]; rfl
      · rw [if_neg (fun h => hok h.1), if_neg (fun h => hok h.1)]; rfl
theorem mulM_sc {c : Int} (c1 : 1 ≤ c) (c2 : c ≤ 100) {f f' f2 : Nat → T} {la lb : Nat} (hf : Good f la) (hg : Good f' lb) (he : ∀ i, i < la → f2 i = scT1 c (f i)) : ∀ i, i ≤ la → mulM f2 f' lb i = (mulM f f' lb i).map (scL c)
  | 0, _ => by show some [] = some (scL c []); rw [show scL c [] = [] from by rw [scL_map]; rfl]
  | i + 1, hi => by
    rw [mulM, mulM, mulM_sc c1 c2 hf hg he i (by omega)]
    cases hr : mulM f f' lb i with
    | none => rfl
    | some K1 =>
      show rowM (scL c K1) (f2 i) f' lb = (rowM K1 (f i) f' lb).map (scL c)
      rw [he i (by omega)]
      exact rowM_sc c1 c2 (mulM_falls2 hf hg i K1 (by omega) hr) (hf i (by omega)) hg lb (Nat.le_refl _)
theorem wm_sc {c : Int} (c1 : 1 ≤ c) (c2 : c ≤ 100) {A B P : List T} (h : wmV A B = (P, true)) : wmV (scL c A) B = (scL c P, true) := by
  obtain ⟨oA, oB⟩ := wm_args h
  have oS : okL (scL c A) = true := okL_of (by rw [scL_len]; exact (okL_falls oA).1) (scL_falls c1 c2 (okL_falls oA).2)
  unfold wmV wylMul at h ⊢
  rw [if_pos ⟨oA, oB⟩] at h
  rw [if_pos ⟨oS, oB⟩]
  obtain ⟨l1, g1⟩ := good_ok oA
  obtain ⟨l2, g2⟩ := good_ok oB
  rw [scL_len, mulM_sc c1 c2 g1 g2 (fun i hi => by rw [scL, lf_scT _ _ _ _ hi]; rfl) A.length (Nat.le_refl _)]
  cases hm : mulM (lf A) (lf B) B.length A.length with
  | none => rw [hm] at h; simp [mulO] at h
  | some K =>
    rw [hm] at h
    have : K = P := by simpa [mulO] using h
    rw [this]; rfl
/-! how far two are apart -/
theorem sum_f (A B : Lq) (u : Vq) (n k : Nat) : (Lq.sum A B).f u n k = A.f u n k + B.f u n k := rfl
theorem sc_f (c : Fq) (A : Lq) (u : Vq) (n k : Nat) : (Lq.sc c A).f u n k = c * A.f u n k := rfl
theorem nil_f (u : Vq) (n k : Nat) : Lq.nil.f u n k = 0 := rfl
end Go.Proofs.Ytnfimnfaejjagaa
namespace Go.Proofs.Ytnfimnfaejjagaa
open Go.RowKit
set_option linter.unusedVariables false

/-- what a term of an operator does to one of a form. -/
def doT (a b : T) : T := ⟨fMul (fMul a.c b.c) (fMul (fFall b.m.x a.m.d) (fFall b.m.y a.m.e)), ⟨b.m.x - a.m.d + a.m.x, b.m.y - a.m.e + a.m.y, 0, 0⟩⟩
/-- a term of times alone, whatever stands in it. -/
abbrev DT : Type := { t : T // 0 ≤ t.c ∧ t.c ≤ 100 ∧ t.m.d = 0 ∧ t.m.e = 0 }
def encD (x : DT) : Array Value := #[.agg #[.int .i64 x.1.c, .int .i64 x.1.m.x, .int .i64 x.1.m.y, .int .i64 x.1.m.d, .int .i64 x.1.m.e]]
def doD (a b : T) : DT := ⟨doT a b, (fMul_bd _ _).1, (fMul_bd _ _).2, rfl, rfl⟩
def doO (a b : T) : List DT := if b.m.x < a.m.d ∨ b.m.y < a.m.e then [] else [doD a b]
def rowDo (a : T) (g : Nat → T) : Nat → List DT
  | 0 => []
  | k + 1 => rowDo a g k ++ doO a (g k)
def allDo (f g : Nat → T) (lb : Nat) : Nat → List DT
  | 0 => []
  | i + 1 => allDo f g lb i ++ rowDo (f i) g lb
theorem doO_len (a b : T) : (doO a b).length ≤ 1 := by unfold doO; split <;> simp
theorem rowDo_len (a : T) (g : Nat → T) : ∀ k, (rowDo a g k).length ≤ k
  | 0 => Nat.le_refl _
  | k + 1 => by have h1 := rowDo_len a g k; have h2 := doO_len a (g k); rw [rowDo, List.length_append]; omega
theorem allDo_len (f g : Nat → T) (lb : Nat) : ∀ i, (allDo f g lb i).length ≤ i * lb
  | 0 => Nat.zero_le _
  | i + 1 => by have h1 := allDo_len f g lb i; have h2 := rowDo_len (f i) g lb; rw [allDo, List.length_append, Nat.succ_mul]; omega
theorem rowDo_pre (a : T) (g : Nat → T) {k : Nat} : ∀ {j : Nat}, k ≤ j → rowDo a g k <+: rowDo a g j
  | 0, h => by obtain rfl : k = 0 := by omega
               exact List.prefix_refl _
  | j + 1, h => by
    by_cases e : k = j + 1
    · rw [e]
      exact List.prefix_refl _
    · exact (rowDo_pre a g (j := j) (by omega)).trans (List.prefix_append _ _)
theorem allDo_pre (f g : Nat → T) (lb : Nat) {k : Nat} : ∀ {j : Nat}, k ≤ j → allDo f g lb k <+: allDo f g lb j
  | 0, h => by obtain rfl : k = 0 := by omega
               exact List.prefix_refl _
  | j + 1, h => by
    by_cases e : k = j + 1
    · rw [e]
      exact List.prefix_refl _
    · exact (allDo_pre f g lb (j := j) (by omega)).trans (List.prefix_append _ _)
/-- those that came so far are a beginning of all. -/
theorem soFar_pre (f g : Nat → T) (lb la : Nat) {i k : Nat} (hi : i < la) (hk : k ≤ lb) : allDo f g lb i ++ rowDo (f i) g k <+: allDo f g lb la := by
  refine List.IsPrefix.trans ?_ (allDo_pre f g lb (k := i + 1) (j := la) (by omega))
  rw [allDo]
  exact (List.prefix_append_right_inj _).2 (rowDo_pre _ _ hk)
def allOk (L : List DT) : Bool := L.all (fun t => t.1.m.ok)
theorem allOk_append (L R : List DT) : allOk (L ++ R) = (allOk L && allOk R) := by simp [allOk]
theorem allOk_pre {L R : List DT} (h : L <+: R) (hL : allOk L = false) : allOk R = false := by
  obtain ⟨X, rfl⟩ := h
  rw [allOk_append, hL]; rfl
def wylDo (f : Nat → T) (la : Nat) (g : Nat → T) (lb : Nat) : List T × Bool := if polOk la f = true ∧ polFree lb g = true then (if allOk (allDo f g lb la) = true then (putAll ((allDo f g lb la).map (·.1)) [], true) else ([], false)) else ([], false)
theorem tok_do {L : List DT} (h : allOk L = true) : TOK (L.map (·.1)) := by
  intro t ht
  obtain ⟨x, hx, rfl⟩ := List.mem_map.1 ht
  have hx2 := x.2
  exact ⟨(List.all_eq_true.1 h) x hx, hx2.1, hx2.2.1⟩
theorem addAllT_other (m : M) : ∀ (xs : List T) (c : M → Int), (∀ t ∈ xs, t.m ≠ m) → addAllT c xs m = c m
  | [], c, _ => rfl
  | t :: r, c, h => by
    show addAllT (updC c t.m t.c) r m = _
    rw [addAllT_other m r _ (fun s hs => h s (List.mem_cons_of_mem _ hs)), updC_other (fun e => h t (List.mem_cons_self ..) e.symm)]
theorem coef_at_mem {L : List T} (h : Falls L) {t : T} (ht : t ∈ L) : coef L t.m = t.c := by
  induction L with
  | nil => cases ht
  | cons s r ih =>
    rw [coef]
    rcases List.mem_cons.1 ht with rfl | ht'
    · rw [if_pos (meqB_iff.2 rfl)]
    · have h1 := (List.pairwise_cons.1 h.1).1 t ht'
      rw [if_neg (fun e => by rw [meqB_iff.1 e] at h1; omega)]
      exact ih h.tail ht'
def allF : List M := (List.range 16).flatMap fun (x : Nat) => (List.range 16).map fun (y : Nat) => (⟨(x : Int), (y : Int), 0, 0⟩ : M)
theorem allF_len : allF.length = 256 := by
  unfold allF
  rw [flat_len 16 _ (fun x => by simp)]
  simp
theorem allF_mem {m : M} (h : m.ok = true) (hd : m.d = 0) (he : m.e = 0) : m ∈ allF := by
  obtain ⟨x1, x2, y1, y2, d1, d2, e1, e2⟩ := M.ok_iff.1 h
  unfold allF
  refine List.mem_flatMap.2 ⟨m.x.toNat, List.mem_range.2 (by omega), List.mem_map.2 ⟨m.y.toNat, List.mem_range.2 (by omega), ?_⟩⟩
  cases m
  simp only at x1 y1 hd he ⊢
  rw [Int.toNat_of_nonneg x1, Int.toNat_of_nonneg y1, hd, he]
theorem doL_short {L : List DT} (h : allOk L = true) : (putAll (L.map (·.1)) []).length ≤ 256 := by
  have hf := putAll_facts (L.map (·.1)) [] (tok_do h) falls_nil
  have hnd : ((putAll (L.map (·.1)) []).map (·.m)).Nodup := by
    rw [List.Nodup, List.pairwise_map]
    exact hf.1.1.imp (fun {a b} hab e => by rw [e] at hab; omega)
  haveI : DecidableEq M := fun a b => Classical.propDecidable (a = b)
  have hl := len_of_sub ((putAll (L.map (·.1)) []).map (·.m)) allF hnd (fun m hm => by
    obtain ⟨t, ht, rfl⟩ := List.mem_map.1 hm
    have hr := hf.1.2 t ht
    by_cases hx : ∃ s ∈ L.map (·.1), s.m = t.m
    · obtain ⟨s, hs, he⟩ := hx
      obtain ⟨x, _, rfl⟩ := List.mem_map.1 hs
      have hx2 := x.2
      rw [← he] at hr ⊢
      exact allF_mem hr.1 hx2.2.2.1 hx2.2.2.2
    · exfalso
      have h0 := coef_at_mem hf.1 ht
      rw [hf.2, addAllT_other t.m _ _ (fun s hs e => hx ⟨s, hs, e⟩)] at h0
      change (0 : Int) = t.c at h0
      omega)
  rw [allF_len, List.length_map] at hl
  exact hl
theorem wylDo_len (f : Nat → T) (la : Nat) (g : Nat → T) (lb : Nat) : (wylDo f la g lb).1.length ≤ 400 := by
  unfold wylDo
  split
  · split
    · rename_i h
      have := doL_short h
      show (putAll _ []).length ≤ 400
      omega
    · simp
  · simp
theorem putAll_snoc (xs : List T) (t : T) (L : List T) : putAll (xs ++ [t]) L = putT t.c t.m (putAll xs L) := by simp [putAll]
theorem addAllT_snoc (xs : List T) (t : T) (c : M → Int) : addAllT c (xs ++ [t]) = updC (addAllT c xs) t.m t.c := by simp [addAllT]
end Go.Proofs.Ytnfimnfaejjagaa
namespace Go.Proofs.Ytnfimnfaejjagaa
open Go.RowKit
set_option linter.unusedVariables false

def wdV (L K : List T) : List T × Bool := wylDo (lf L) L.length (lf K) K.length
/-- no slopes in any term. -/
def Frm (L : List T) : Prop := ∀ t ∈ L, t.m.d = 0 ∧ t.m.e = 0
theorem frm_nil : Frm [] := fun t h => by cases h
theorem frm_iff {L : List T} : freeL L = true ↔ okL L = true ∧ Frm L := by
  unfold freeL polFree
  rw [Bool.and_eq_true, decide_eq_true_eq]
  constructor
  · rintro ⟨h1, h2⟩
    refine ⟨h1, fun t ht => ?_⟩
    obtain ⟨i, hi, rfl⟩ := List.mem_iff_getElem.1 ht
    have h3 := h2 i hi
    have h4 := M.ok_iff.1 ((okL_falls h1).2.2 _ ht).1
    rw [lf_eq hi] at h3
    omega
  · rintro ⟨h1, h2⟩
    refine ⟨h1, fun i hi => ?_⟩
    rw [lf_eq hi]
    have := h2 _ (List.getElem_mem hi)
    omega
/-- a form, held against what is counted. -/
def pf (u : Vq) (L : List T) : Fq := lin (fun m => u m.x.toNat m.y.toNat) L
theorem Rp_frm {L : List T} (h : Frm L) (u : Vq) (n k : Nat) : (Rp stdG L).f u n k = pf (fun p q => u (n + p) (k + q)) L := by
  refine su_congr (fun t ht => ?_)
  obtain ⟨hd, he⟩ := h t ht
  show zz t.c * (mo stdG t.m).f u n k = zz t.c * u (n + t.m.x.toNat) (k + t.m.y.toNat)
  rw [mo_std, hd, he]
  show zz t.c * (nf 1 * nf 1 * u (n - 0 + t.m.x.toNat) (k - 0 + t.m.y.toNat)) = _
  rw [nf_one, Nat.sub_zero, Nat.sub_zero]
  grind
theorem eq_of_pf {P Q : List T} (hP : Falls P) (hQ : Falls Q) (fP : Frm P) (fQ : Frm Q) (h : ∀ u, pf u P = pf u Q) : P = Q :=
  eq_of_Rp hP hQ (Lq.ext fun u n k => by rw [Rp_frm fP, Rp_frm fQ, h])
theorem pf_add (u : Vq) {L K : List T} (hL : Falls L) (hK : Falls K) : pf u (addL L K) = pf u L + pf u K := lin_add _ hL hK
theorem pf_sc (u : Vq) (c : Int) (L : List T) : pf u (scL c L) = zz c * pf u L := lin_sc _ c L
theorem pf_va (u v : Vq) (L : List T) : pf (va u v) L = pf u L + pf v L := lin_sum _ _ L
theorem pf_vs (c : Fq) (u : Vq) (L : List T) : pf (vs c u) L = c * pf u L := lin_mul _ _ L
theorem put_mem {xs : List T} (h : TOK xs) {t : T} (ht : t ∈ putAll xs []) : ∃ s ∈ xs, s.m = t.m := by
  have hf := putAll_facts xs [] h falls_nil
  by_cases hx : ∃ s ∈ xs, s.m = t.m
  · exact hx
  · exfalso
    have hr := hf.1.2 t ht
    have h0 := coef_at_mem hf.1 ht
    rw [hf.2, addAllT_other t.m _ _ (fun s hs e => hx ⟨s, hs, e⟩)] at h0
    change (0 : Int) = t.c at h0
    omega
theorem add_mem {L K : List T} (hL : Falls L) (hK : Falls K) {t : T} (ht : t ∈ addL L K) : (∃ s ∈ L, s.m = t.m) ∨ ∃ s ∈ K, s.m = t.m := by
  have hf := addL_facts hL hK
  have hr := hf.1.2 t ht
  have h0 := coef_at_mem hf.1 ht
  rw [hf.2] at h0
  have key : ∀ X : List T, coef X t.m ≠ 0 → ∃ s ∈ X, s.m = t.m := fun X => by
    induction X with
    | nil => intro h; exact absurd rfl h
    | cons s r ih =>
      intro h
      rw [coef] at h
      by_cases e : meqB s.m t.m = true
      · exact ⟨s, List.mem_cons_self .., meqB_eq.1 e⟩
      · rw [if_neg e] at h
        obtain ⟨x, hx, he⟩ := ih h
        exact ⟨x, List.mem_cons_of_mem _ hx, he⟩
  by_cases h1 : coef L t.m = 0
  · right
    refine key K (fun h2 => ?_)
    rw [h1, h2] at h0
    simp at h0
    omega
  · exact .inl (key L h1)
theorem frm_add {L K : List T} (hL : Falls L) (hK : Falls K) (fL : Frm L) (fK : Frm K) : Frm (addL L K) := fun t ht => by
  rcases add_mem hL hK ht with ⟨s, hs, e⟩ | ⟨s, hs, e⟩
  · rw [← e]; exact fL s hs
  · rw [← e]; exact fK s hs
theorem faF : ∀ X D : Fin 16, zz (fFall (X.val : Int) (D.val : Int)) = nf (faN X.val D.val) := by decide +kernel
theorem zz_fall {x d : Int} (x0 : 0 ≤ x) (x1 : x ≤ 15) (d0 : 0 ≤ d) (d1 : d ≤ 15) : zz (fFall x d) = nf (faN x.toNat d.toNat) := by
  have h := faF ⟨x.toNat, by omega⟩ ⟨d.toNat, by omega⟩
  simp only [Int.toNat_of_nonneg x0, Int.toNat_of_nonneg d0] at h
  exact h
theorem zz_fMul {a b : Int} (ha : 0 ≤ a ∧ a ≤ 100) (hb : 0 ≤ b ∧ b ≤ 100) : zz (fMul a b) = zz a * zz b := by
  rw [fMul_in ha.1 ha.2 hb.1 hb.2, zz_mod, zz_mul]
theorem doO_lin (u : Vq) {a b : T} (ha : a.m.ok = true ∧ 0 ≤ a.c ∧ a.c ≤ 100) (hb : b.m.ok = true ∧ 0 ≤ b.c ∧ b.c ≤ 100) : pf u ((doO a b).map (·.1)) = zz b.c * (zz a.c * (mo stdG a.m).f u b.m.x.toNat b.m.y.toNat) := by
  obtain ⟨ax0, ax1, ay0, ay1, ad0, ad1, ae0, ae1⟩ := M.ok_iff.1 ha.1
  obtain ⟨bx0, bx1, by0, by1, bd0, bd1, be0, be1⟩ := M.ok_iff.1 hb.1
  have zl : ∀ x : Fq, 0 * x = 0 := by intro x; grind
  have zr : ∀ x : Fq, x * 0 = 0 := by intro x; grind
  rw [mo_std]
  unfold doO
  split
  · rename_i h
    show (0 : Fq) = _
    rcases h with h | h
    · rw [faN_high _ _ (show b.m.x.toNat < a.m.d.toNat by omega), nf_zero, zl, zl, zr, zr]
    · rw [faN_high _ _ (show b.m.y.toNat < a.m.e.toNat by omega), nf_zero, zr, zl, zr, zr]
  · rename_i h
    have hx : ¬ b.m.x < a.m.d := fun q => h (.inl q)
    have hy : ¬ b.m.y < a.m.e := fun q => h (.inr q)
    show zz (fMul (fMul a.c b.c) (fMul (fFall b.m.x a.m.d) (fFall b.m.y a.m.e))) * u (b.m.x - a.m.d + a.m.x).toNat (b.m.y - a.m.e + a.m.y).toNat + 0 = _
    have b1 : 0 ≤ fFall b.m.x a.m.d ∧ fFall b.m.x a.m.d ≤ 100 := by unfold fFall; split; exact fl_bd _ _; omega
    have b2 : 0 ≤ fFall b.m.y a.m.e ∧ fFall b.m.y a.m.e ≤ 100 := by unfold fFall; split; exact fl_bd _ _; omega
    rw [zz_fMul (fMul_bd _ _) (fMul_bd _ _), zz_fMul ha.2 hb.2, zz_fMul b1 b2, zz_fall bx0 bx1 ad0 ad1, zz_fall by0 by1 ae0 ae1, show (b.m.x - a.m.d + a.m.x).toNat = b.m.x.toNat - a.m.d.toNat + a.m.x.toNat by omega, show (b.m.y - a.m.e + a.m.y).toNat = b.m.y.toNat - a.m.e.toNat + a.m.y.toNat by omega]
    grind
theorem pf_append (u : Vq) (L K : List T) : pf u (L ++ K) = pf u L + pf u K := su_append _ L K
theorem rowDo_lin (u : Vq) {a : T} {g : Nat → T} {lb : Nat} (ha : a.m.ok = true ∧ 0 ≤ a.c ∧ a.c ≤ 100) (hg : Good g lb) : ∀ k, k ≤ lb → pf u ((rowDo a g k).map (·.1)) = su (List.range k) (fun j => zz (g j).c * (zz a.c * (mo stdG a.m).f u (g j).m.x.toNat (g j).m.y.toNat))
  | 0, _ => rfl
  | k + 1, hk => by
    rw [rowDo, List.map_append, pf_append, rowDo_lin u ha hg k (by omega), doO_lin u ha (hg k (by omega)), List.range_succ, su_append]
    show _ + _ = _ + (_ + 0)
    grind
theorem allDo_lin (u : Vq) {f g : Nat → T} {la lb : Nat} (hf : Good f la) (hg : Good g lb) : ∀ i, i ≤ la → pf u ((allDo f g lb i).map (·.1)) = su (List.range lb) (fun j => zz (g j).c * su (List.range i) (fun k => zz (f k).c * (mo stdG (f k).m).f u (g j).m.x.toNat (g j).m.y.toNat))
  | 0, _ => by
    show (0 : Fq) = _
    rw [su_zero]
    intro t _
    show zz (g t).c * (0 : Fq) = 0
    grind
  | i + 1, hi => by
    rw [allDo, List.map_append, pf_append, allDo_lin u hf hg i (by omega), rowDo_lin u (hf i (by omega)) hg lb (Nat.le_refl _), ← su_add]
    refine su_congr (fun j _ => ?_)
    rw [List.range_succ, su_append]
    show _ = _ * (_ + (_ + 0))
    grind
theorem su_lf (L : List T) (f : T → Fq) : su L f = su (List.range L.length) (fun i => f (lf L i)) := by
  have e : L = (List.range L.length).map (lf L) := by
    refine List.ext_getElem (by simp) (fun i h1 h2 => ?_)
    rw [List.getElem_map, List.getElem_range, lf_eq h1]
  have := su_map (lf L) f (List.range L.length)
  rw [← e] at this
  exact this
/-- which monomials an operator's terms make of a form's. -/
def DoOk (A K : List T) : Prop := ∀ a ∈ A, ∀ b ∈ K, b.m.x < a.m.d ∨ b.m.y < a.m.e ∨ (doT a b).m.ok = true
theorem rowDo_ok (a : T) (g : Nat → T) : ∀ k, allOk (rowDo a g k) = true ↔ ∀ j, j < k → (g j).m.x < a.m.d ∨ (g j).m.y < a.m.e ∨ (doT a (g j)).m.ok = true
  | 0 => ⟨fun _ j hj => by omega, fun _ => rfl⟩
  | k + 1 => by
    rw [rowDo, allOk_append, Bool.and_eq_true, rowDo_ok a g k]
    have h1 : allOk (doO a (g k)) = true ↔ ((g k).m.x < a.m.d ∨ (g k).m.y < a.m.e ∨ (doT a (g k)).m.ok = true) := by
      unfold doO
      split
      · rename_i h
        exact ⟨fun _ => h.elim .inl (fun q => .inr (.inl q)), fun _ => rfl⟩
      · rename_i h
        have hx : ¬ (g k).m.x < a.m.d := fun q => h (.inl q)
        have hy : ¬ (g k).m.y < a.m.e := fun q => h (.inr q)
        constructor
        · intro q; right; right; simpa [allOk, doD] using q
        · rintro (q | q | q)
          · exact absurd q hx
          · exact absurd q hy
          · simpa [allOk, doD] using q
    rw [h1]
    constructor
    · rintro ⟨p, q⟩ j hj
      by_cases e : j = k
      · rw [e]; exact q
      · exact p j (by omega)
    · intro p
      exact ⟨fun j hj => p j (by omega), p k (by omega)⟩
theorem allDo_ok (f g : Nat → T) (lb : Nat) : ∀ i, allOk (allDo f g lb i) = true ↔ ∀ k, k < i → ∀ j, j < lb → (g j).m.x < (f k).m.d ∨ (g j).m.y < (f k).m.e ∨ (doT (f k) (g j)).m.ok = true
  | 0 => ⟨fun _ j hj => by omega, fun _ => rfl⟩
  | i + 1 => by
    rw [allDo, allOk_append, Bool.and_eq_true, allDo_ok f g lb i, rowDo_ok]
    constructor
    · rintro ⟨p, q⟩ k hk
      by_cases e : k = i
      · rw [e]; exact q
      · exact p k (by omega)
    · intro p
      exact ⟨fun k hk => p k (by omega), p i (by omega)⟩
theorem doOk_iff (A K : List T) : allOk (allDo (lf A) (lf K) K.length A.length) = true ↔ DoOk A K := by
  rw [allDo_ok]
  constructor
  · intro h a ha b hb
    obtain ⟨i, hi, rfl⟩ := List.mem_iff_getElem.1 ha
    obtain ⟨j, hj, rfl⟩ := List.mem_iff_getElem.1 hb
    have := h i hi j hj
    rwa [lf_eq hi, lf_eq hj] at this
  · intro h k hk j hj
    rw [lf_eq hk, lf_eq hj]
    exact h _ (List.getElem_mem hk) _ (List.getElem_mem hj)
theorem wd_of {A K : List T} (oA : okL A = true) (fK : freeL K = true) (h : DoOk A K) : ∃ X, wdV A K = (X, true) := by
  refine ⟨putAll ((allDo (lf A) (lf K) K.length A.length).map (·.1)) [], ?_⟩
  unfold wdV wylDo
  rw [if_pos ⟨oA, fK⟩, if_pos ((doOk_iff A K).2 h)]
theorem wd_facts {A K X : List T} (h : wdV A K = (X, true)) : okL A = true ∧ freeL K = true ∧ DoOk A K ∧ okL X = true ∧ Frm X ∧ ∀ u, pf u X = pf ((Rp stdG A).f u) K := by
  unfold wdV wylDo at h
  split at h
  · rename_i hh
    split at h
    · rename_i hk
      simp only [Prod.mk.injEq, and_true] at h
      obtain ⟨l1, g1⟩ := good_ok hh.1
      have oK := (frm_iff.1 hh.2).1
      obtain ⟨l2, g2⟩ := good_ok oK
      have hf := putAll_facts _ [] (tok_do hk) falls_nil
      refine ⟨hh.1, hh.2, (doOk_iff A K).1 hk, ?_, ?_, fun u => ?_⟩
      · rw [← h]
        exact okL_of (by have := doL_short hk; omega) hf.1
      · rw [← h]
        intro t ht
        obtain ⟨s, hs, e⟩ := put_mem (tok_do hk) ht
        obtain ⟨x, _, rfl⟩ := List.mem_map.1 hs
        rw [← e]
        exact ⟨x.2.2.2.1, x.2.2.2.2⟩
      · rw [← h]
        show lin _ (putAll _ []) = _
        rw [lin_putAll _ _ (tok_do hk) falls_nil, lin_nil]
        have := allDo_lin u g1 g2 A.length (Nat.le_refl _)
        unfold pf at this
        rw [this]
        unfold pf lin
        rw [su_lf K]
        have z : ∀ x : Fq, 0 + x = x := by intro x; grind
        rw [z]
        refine su_congr (fun j _ => ?_)
        show _ = zz (lf K j).c * su A (fun t => zz t.c * (mo stdG t.m).f u (lf K j).m.x.toNat (lf K j).m.y.toNat)
        rw [su_lf A]
    · simp at h
  · simp at h
theorem putT_le (c : Int) (m : M) (L : List T) : (putT c m L).length ≤ L.length + 1 := by
  unfold putT
  split
  · omega
  · have := addT_len (lf L) L.length (fun _ => (⟨c, m⟩ : T)) 1 0 0
    omega
theorem putAll_le : ∀ (xs L : List T), (putAll xs L).length ≤ L.length + xs.length
  | [], L => Nat.le_refl _
  | t :: r, L => by
    have h1 := putAll_le r (putT t.c t.m L)
    have h2 := putT_le t.c t.m L
    show (putAll r (putT t.c t.m L)).length ≤ _
    rw [List.length_cons]
    omega
theorem wd_len {A K X : List T} (h : wdV A K = (X, true)) : X.length ≤ A.length * K.length := by
  unfold wdV wylDo at h
  split at h
  · split at h
    · simp only [Prod.mk.injEq, and_true] at h
      rw [← h]
      have h1 := putAll_le ((allDo (lf A) (lf K) K.length A.length).map (·.1)) []
      rw [List.length_map] at h1
      have h2 := allDo_len (lf A) (lf K) K.length A.length
      simp only [List.length_nil] at h1
      omega
    · simp at h
  · simp at h
theorem wdV_if (A K : List T) : wdV A K = ([], false) ∨ ∃ X, wdV A K = (X, true) := by
  unfold wdV wylDo
  split
  · split
    · exact .inr ⟨_, rfl⟩
    · exact .inl rfl
  · exact .inl rfl
theorem wd_free {A K X : List T} (h : wdV A K = (X, true)) : freeL X = true := by
  obtain ⟨_, _, _, o, f, _⟩ := wd_facts h
  exact frm_iff.2 ⟨o, f⟩
theorem wd_eq {A K X Y : List T} (h : wdV A K = (X, true)) (oY : freeL Y = true) (hu : ∀ u, pf ((Rp stdG A).f u) K = pf u Y) : X = Y := by
  obtain ⟨_, _, _, o, f, e⟩ := wd_facts h
  obtain ⟨o2, f2⟩ := frm_iff.1 oY
  exact eq_of_pf (okL_falls o).2 (okL_falls o2).2 f f2 (fun u => by rw [e, hu])
/-- what a product does is what its factors do, the second one first. -/
theorem wd_mul {Q P QP K X Y Z : List T} (h1 : wdV P K = (X, true)) (h2 : wmV Q P = (QP, true)) (h3 : wdV Q X = (Y, true)) (h4 : wdV QP K = (Z, true)) : Y = Z := by
  refine wd_eq h3 (wd_free h4) (fun u => ?_)
  rw [(wd_facts h4).2.2.2.2.2, (wd_facts h1).2.2.2.2.2, Rp_mul _ h2]
  rfl
theorem okL_add {L K : List T} (oL : okL L = true) (oK : okL K = true) (h : L.length + K.length ≤ 400) : addV L K = (addL L K, true) ∧ okL (addL L K) = true := by
  have hl : (addL L K).length ≤ 400 := by have := addL_len L K; omega
  exact ⟨addV_ok oL oK hl, okL_of hl (addL_facts (okL_falls oL).2 (okL_falls oK).2).1⟩
theorem dok_add {A B K : List T} (fA : Falls A) (fB : Falls B) (h1 : DoOk A K) (h2 : DoOk B K) : DoOk (addL A B) K := fun a ha b hb => by
  have key : ∀ s : T, s.m = a.m → (b.m.x < s.m.d ∨ b.m.y < s.m.e ∨ (doT s b).m.ok = true) → (b.m.x < a.m.d ∨ b.m.y < a.m.e ∨ (doT a b).m.ok = true) := fun s e h => by
    have e2 : (doT s b).m = (doT a b).m := by unfold doT; rw [e]
    rw [e2, e] at h
    exact h
  rcases add_mem fA fB ha with ⟨s, hs, e⟩ | ⟨s, hs, e⟩
  · exact key s e (h1 s hs b hb)
  · exact key s e (h2 s hs b hb)
theorem dok_add2 {A K L : List T} (fK : Falls K) (fL : Falls L) (h1 : DoOk A K) (h2 : DoOk A L) : DoOk A (addL K L) := fun a ha b hb => by
  have key : ∀ s : T, s.m = b.m → (s.m.x < a.m.d ∨ s.m.y < a.m.e ∨ (doT a s).m.ok = true) → (b.m.x < a.m.d ∨ b.m.y < a.m.e ∨ (doT a b).m.ok = true) := fun s e h => by
    have e2 : (doT a s).m = (doT a b).m := by unfold doT; rw [e]
    rw [e2, e] at h
    exact h
  rcases add_mem fK fL hb with ⟨s, hs, e⟩ | ⟨s, hs, e⟩
  · exact key s e (h1 a ha s hs)
  · exact key s e (h2 a ha s hs)
/-- a sum of operators does what both do. -/
theorem wd_add {A B K X Y : List T} (h1 : wdV A K = (X, true)) (h2 : wdV B K = (Y, true)) (hl : A.length + B.length ≤ 400) (hx : X.length + Y.length ≤ 400) : addV A B = (addL A B, true) ∧ addV X Y = (addL X Y, true) ∧ wdV (addL A B) K = (addL X Y, true) := by
  obtain ⟨oA, fK, dA, oX, fX, eX⟩ := wd_facts h1
  obtain ⟨oB, _, dB, oY, fY, eY⟩ := wd_facts h2
  have a1 := okL_add oA oB hl
  have a2 := okL_add oX oY hx
  refine ⟨a1.1, a2.1, ?_⟩
  obtain ⟨Z, hZ⟩ := wd_of a1.2 fK (dok_add (okL_falls oA).2 (okL_falls oB).2 dA dB)
  rw [hZ]
  have : Z = addL X Y := wd_eq hZ (frm_iff.2 ⟨a2.2, frm_add (okL_falls oX).2 (okL_falls oY).2 fX fY⟩) (fun u => by
    rw [pf_add u (okL_falls oX).2 (okL_falls oY).2, eX, eY, Rp_add _ (okL_falls oA).2 (okL_falls oB).2, ← pf_va]
    rfl)
  rw [this]
theorem wd_add2 {A K L X Y : List T} (h1 : wdV A K = (X, true)) (h2 : wdV A L = (Y, true)) (hl : K.length + L.length ≤ 400) (hx : X.length + Y.length ≤ 400) : addV K L = (addL K L, true) ∧ addV X Y = (addL X Y, true) ∧ wdV A (addL K L) = (addL X Y, true) := by
  obtain ⟨oA, fK, dA, oX, fX, eX⟩ := wd_facts h1
  obtain ⟨_, fL, dB, oY, fY, eY⟩ := wd_facts h2
  obtain ⟨oK, gK⟩ := frm_iff.1 fK
  obtain ⟨oL, gL⟩ := frm_iff.1 fL
  have a1 := okL_add oK oL hl
  have a2 := okL_add oX oY hx
  refine ⟨a1.1, a2.1, ?_⟩
  have fr := frm_iff.2 ⟨a1.2, frm_add (okL_falls oK).2 (okL_falls oL).2 gK gL⟩
  obtain ⟨Z, hZ⟩ := wd_of oA fr (dok_add2 (okL_falls oK).2 (okL_falls oL).2 dA dB)
  rw [hZ]
  have : Z = addL X Y := wd_eq hZ (frm_iff.2 ⟨a2.2, frm_add (okL_falls oX).2 (okL_falls oY).2 fX fY⟩) (fun u => by
    rw [pf_add u (okL_falls oX).2 (okL_falls oY).2, eX, eY, pf_add _ (okL_falls oK).2 (okL_falls oL).2])
  rw [this]
def oneL : List T := [⟨1, ⟨0, 0, 0, 0⟩⟩]
theorem oneL_ok : okL oneL = true := by decide
theorem wd_one {K : List T} (h : freeL K = true) : wdV oneL K = (K, true) := by
  obtain ⟨oK, gK⟩ := frm_iff.1 h
  obtain ⟨Z, hZ⟩ := wd_of oneL_ok h (fun a ha b hb => by
    obtain rfl := List.mem_singleton.1 ha
    refine .inr (.inr ?_)
    have h1 := ((okL_falls oK).2.2 b hb).1
    have h2 := gK b hb
    obtain ⟨x0, x1, y0, y1, d0, d1, e0, e1⟩ := M.ok_iff.1 h1
    refine M.ok_iff.2 ?_
    simp only [doT]
    omega)
  rw [hZ]
  have : Z = K := wd_eq hZ h (fun u => by
    congr 1
    funext n k
    show zz 1 * (mo stdG ⟨0, 0, 0, 0⟩).f u n k + 0 = u n k
    rw [mo_std]
    show zz 1 * (nf 1 * nf 1 * u (n - 0 + 0) (k - 0 + 0)) + 0 = _
    rw [nf_one, zz_one, Nat.sub_zero, Nat.sub_zero]
    grind)
  rw [this]
end Go.Proofs.Ytnfimnfaejjagaa
