/-
  Slopes of forms: what their operators do; in either order; of a product.
-/
import Derived.Test.YtnfimnfaejjagaaAtL
import Derived.Test.YtnfimnfaejjagaaSlopeI
import Derived.Test.YtnfimnfaejjagaaSlopeS
namespace Go.Proofs.Ytnfimnfaejjagaa
open Go.RowKit
set_option linter.unusedVariables false

def slV (L : List T) (k : Int) : List T := actSlope k L.length (lf L)
def sK (k : Int) : Lq := if k = 1 then sY else sX
theorem slT_rk {k : Int} {m : M} : rkD (decK k m) = rkD m - (if k = 1 then 65537 else 65552) := by
  unfold decK
  split
  · simp only [rkD, rkL]; omega
  · simp only [rkD, rkL]; omega
theorem dec_ok {k : Int} {m : M} (h : m.ok = true) (hc : 1 ≤ cntK k m) : (decK k m).ok = true := by
  obtain ⟨x1, x2, y1, y2, d1, d2, e1, e2⟩ := M.ok_iff.1 h
  unfold cntK at hc
  unfold decK
  split at hc
  · rename_i e; rw [if_pos e]; exact M.ok_iff.2 (by dsimp only; omega)
  · rename_i e; rw [if_neg e]; exact M.ok_iff.2 (by dsimp only; omega)
theorem cnt_bd {k : Int} {m : M} (h : m.ok = true) : 0 ≤ cntK k m ∧ cntK k m ≤ 15 := by
  obtain ⟨x1, x2, y1, y2, d1, d2, e1, e2⟩ := M.ok_iff.1 h
  unfold cntK
  split <;> omega
theorem slT_falls (k : Int) {f : Nat → T} {n : Nat} (h : Fl f n) : ∀ i, i ≤ n → Falls (slT k f i)
  | 0, _ => falls_nil
  | i + 1, hi => by
    have ih := slT_falls k h i (by omega)
    show Falls (slT k f i ++ slO k (f i))
    unfold slO
    split
    · rename_i hc
      have hr := h.2 i (by omega)
      have hcb := cnt_bd (k := k) hr.1
      have hne := fMul_ne (a := (f i).c) (b := cntK k (f i).m) (by omega) (by omega) (by omega) (by omega)
      rw [fMul_in (by omega) hr.2.2 (by omega) (by omega)] at hne
      refine ⟨?_, fun t ht => ?_⟩
      · refine List.pairwise_append.2 ⟨ih.1, List.pairwise_singleton _ _, fun a ha b hb => ?_⟩
        obtain ⟨j, hj, hcj, rfl⟩ := slT_mem ha
        rw [List.mem_singleton.1 hb]
        show rkD (decK k (f i).m) < rkD (decK k (f j).m)
        rw [slT_rk, slT_rk]
        have := h.1 j i hj (by omega)
        omega
      · rcases List.mem_append.1 ht with ht | ht
        · exact ih.2 t ht
        · rw [List.mem_singleton.1 ht]
          exact ⟨dec_ok hr.1 hc, by show 1 ≤ (f i).c * cntK k (f i).m % 101; omega, by show (f i).c * cntK k (f i).m % 101 ≤ 100; omega⟩
    · rw [List.append_nil]; exact ih
theorem slT_pf (k : Int) (hk : 0 ≤ k ∧ k ≤ 1) (u : Vq) {f : Nat → T} {n : Nat} (h : ∀ i, i < n → (f i).m.ok = true) : ∀ i, i ≤ n → pf u (slT k f i) = su (List.range i) (fun j => zz (f j).c * (sK k).f u (f j).m.x.toNat (f j).m.y.toNat)
  | 0, _ => rfl
  | i + 1, hi => by
    have hm := h i (by omega)
    obtain ⟨x1, x2, y1, y2, d1, d2, e1, e2⟩ := M.ok_iff.1 hm
    show pf u (slT k f i ++ slO k (f i)) = _
    rw [pf_append, slT_pf k hk u h i (by omega), List.range_succ, su_append]
    congr 1
    show _ = zz (f i).c * (sK k).f u (f i).m.x.toNat (f i).m.y.toNat + 0
    have z0 : ∀ x : Fq, x * (0 * 0) = 0 := by intro x; grind
    rcases (show k = 0 ∨ k = 1 by omega) with rfl | rfl
    · show _ = zz (f i).c * (nf (f i).m.x.toNat * u ((f i).m.x.toNat - 1) (f i).m.y.toNat) + 0
      unfold slO
      have ec : cntK 0 (f i).m = (f i).m.x := rfl
      rw [ec]
      split
      · show zz ((f i).c * (f i).m.x % 101) * u ((f i).m.x - 1).toNat (f i).m.y.toNat + 0 = _
        rw [zz_mod, zz_mul, show ((f i).m.x - 1).toNat = (f i).m.x.toNat - 1 by omega, ← zz_nat, Int.toNat_of_nonneg x1]
        grind
      · rename_i hc
        show (0 : Fq) = _
        rw [show (f i).m.x.toNat = 0 by omega, nf_zero]
        grind
    · show _ = zz (f i).c * (nf (f i).m.y.toNat * u (f i).m.x.toNat ((f i).m.y.toNat - 1)) + 0
      unfold slO
      have ec : cntK 1 (f i).m = (f i).m.y := rfl
      rw [ec]
      split
      · show zz ((f i).c * (f i).m.y % 101) * u (f i).m.x.toNat ((f i).m.y - 1).toNat + 0 = _
        rw [zz_mod, zz_mul, show ((f i).m.y - 1).toNat = (f i).m.y.toNat - 1 by omega, ← zz_nat, Int.toNat_of_nonneg y1]
        grind
      · rename_i hc
        show (0 : Fq) = _
        rw [show (f i).m.y.toNat = 0 by omega, nf_zero]
        grind
theorem sl_facts {L : List T} {k : Int} (hf : freeL L = true) (hk : 0 ≤ k ∧ k ≤ 1) : freeL (slV L k) = true ∧ (∀ u, pf u (slV L k) = pf ((sK k).f u) L) ∧ (slV L k).length ≤ L.length ∧ ∀ t ∈ slV L k, ∃ s ∈ L, t.m.x ≤ s.m.x ∧ t.m.y ≤ s.m.y := by
  obtain ⟨oL, gL⟩ := frm_iff.1 hf
  have fl := fl_of_ok (show polOk L.length (lf L) = true from oL)
  have e : slV L k = slT k (lf L) L.length := if_pos ⟨hf, hk.1, hk.2⟩
  have hl := slT_len k (lf L) L.length
  rw [e]
  refine ⟨frm_iff.2 ⟨okL_of (by have := (okL_falls oL).1; omega) (slT_falls k fl _ (Nat.le_refl _)), fun t ht => ?_⟩, fun u => ?_, hl, fun t ht => ?_⟩
  · obtain ⟨j, hj, hc, rfl⟩ := slT_mem ht
    have := gL _ (List.getElem_mem hj)
    rw [lf_eq hj]
    show (decK k L[j].m).d = 0 ∧ (decK k L[j].m).e = 0
    unfold decK
    split <;> exact this
  · rw [slT_pf k hk u (fun i hi => (fl.2 i hi).1) _ (Nat.le_refl _)]
    unfold pf lin
    rw [su_lf L]
  · obtain ⟨j, hj, hc, rfl⟩ := slT_mem ht
    refine ⟨L[j], List.getElem_mem hj, ?_⟩
    rw [lf_eq hj]
    show (decK k L[j].m).x ≤ L[j].m.x ∧ (decK k L[j].m).y ≤ L[j].m.y
    unfold decK
    split <;> (simp only; omega)
theorem sl_no {L : List T} {k : Int} (h : ¬ (freeL L = true ∧ 0 ≤ k ∧ k ≤ 1)) : slV L k = [] := if_neg h
theorem free_eq {P Q : List T} (hP : freeL P = true) (hQ : freeL Q = true) (h : ∀ u, pf u P = pf u Q) : P = Q :=
  eq_of_pf (okL_falls (frm_iff.1 hP).1).2 (okL_falls (frm_iff.1 hQ).1).2 (frm_iff.1 hP).2 (frm_iff.1 hQ).2 h
theorem sl_twice {L : List T} (hf : freeL L = true) : slV (slV L 0) 1 = slV (slV L 1) 0 := by
  have h0 := sl_facts hf (k := 0) ⟨by omega, by omega⟩
  have h1 := sl_facts hf (k := 1) ⟨by omega, by omega⟩
  have h01 := sl_facts h0.1 (k := 1) ⟨by omega, by omega⟩
  have h10 := sl_facts h1.1 (k := 0) ⟨by omega, by omega⟩
  refine free_eq h01.1 h10.1 (fun u => ?_)
  rw [h01.2.1, h10.2.1, h0.2.1, h1.2.1]
  congr 1
  funext n k
  show nf n * (nf k * u (n - 1) (k - 1)) = nf k * (nf n * u (n - 1) (k - 1))
  grind
def dK (k : Int) : List T := [⟨1, if k = 1 then ⟨0, 0, 0, 1⟩ else ⟨0, 0, 1, 0⟩⟩]
/-- a slope is what its operator does. -/
theorem sl_do {L : List T} {k : Int} (hf : freeL L = true) (hk : 0 ≤ k ∧ k ≤ 1) : wdV (dK k) L = (slV L k, true) := by
  obtain ⟨oL, gL⟩ := frm_iff.1 hf
  have hs := sl_facts hf hk
  have od : okL (dK k) = true := by
    rcases (show k = 0 ∨ k = 1 by omega) with rfl | rfl <;> decide
  obtain ⟨Z, hZ⟩ := wd_of od hf (fun a ha b hb => by
    have hb1 := ((okL_falls oL).2.2 b hb).1
    obtain ⟨x1, x2, y1, y2, d1, d2, e1, e2⟩ := M.ok_iff.1 hb1
    rcases (show k = 0 ∨ k = 1 by omega) with rfl | rfl
    · obtain rfl := List.mem_singleton.1 ha
      by_cases hx : b.m.x < 1
      · exact .inl hx
      · refine .inr (.inr (M.ok_iff.2 ?_))
        show 0 ≤ b.m.x - 1 + 0 ∧ b.m.x - 1 + 0 ≤ 15 ∧ 0 ≤ b.m.y - 0 + 0 ∧ b.m.y - 0 + 0 ≤ 15 ∧ (0 : Int) ≤ 0 ∧ (0 : Int) ≤ 15 ∧ (0 : Int) ≤ 0 ∧ (0 : Int) ≤ 15
        omega
    · obtain rfl := List.mem_singleton.1 ha
      by_cases hy : b.m.y < 1
      · exact .inr (.inl hy)
      · refine .inr (.inr (M.ok_iff.2 ?_))
        show 0 ≤ b.m.x - 0 + 0 ∧ b.m.x - 0 + 0 ≤ 15 ∧ 0 ≤ b.m.y - 1 + 0 ∧ b.m.y - 1 + 0 ≤ 15 ∧ (0 : Int) ≤ 0 ∧ (0 : Int) ≤ 15 ∧ (0 : Int) ≤ 0 ∧ (0 : Int) ≤ 15
        omega)
  rw [hZ]
  have : Z = slV L k := wd_eq hZ hs.1 (fun u => by
    rw [hs.2.1]
    congr 1
    funext n j
    rcases (show k = 0 ∨ k = 1 by omega) with rfl | rfl
    · show zz 1 * (mo stdG ⟨0, 0, 1, 0⟩).f u n j + 0 = nf n * u (n - 1) j
      rw [mo_std]
      show zz 1 * (nf (1 * (n - 0)) * nf 1 * u (n - 1 + 0) (j - 0 + 0)) + 0 = _
      rw [zz_one, nf_one, Nat.one_mul, Nat.sub_zero, Nat.sub_zero, Nat.add_zero, Nat.add_zero]
      grind
    · show zz 1 * (mo stdG ⟨0, 0, 0, 1⟩).f u n j + 0 = nf j * u n (j - 1)
      rw [mo_std]
      show zz 1 * (nf 1 * nf (1 * (j - 0)) * u (n - 0 + 0) (j - 1 + 0)) + 0 = _
      rw [zz_one, nf_one, Nat.one_mul, Nat.sub_zero, Nat.sub_zero, Nat.add_zero, Nat.add_zero]
      grind)
  rw [this]
/-! products of forms -/
theorem pair_short {a b : T} (ha : a.m.d = 0 ∧ a.m.e = 0) (hx : 0 ≤ b.m.x) (hy : 0 ≤ b.m.y) : (pairL a b).length ≤ 1 := by
  have lx : limX a b = 0 := by unfold limX; omega
  have ly : limY a b = 0 := by unfold limY; omega
  have := putAll_le (emitN a b (limX a b + 1)) []
  unfold pairL
  rw [lx] at this ⊢
  have e : (emitN a b (0 + 1)).length = 1 := by
    unfold emitN rowN
    rw [ly]; rfl
  rw [e] at this
  simpa using this
theorem rowM_some {K : List T} {a : T} {f : Nat → T} (ha : a.m.d = 0 ∧ a.m.e = 0) : ∀ k, K.length + k ≤ 400 → (∀ j, j < k → (a.m.sum (f j).m).ok = true ∧ (f j).m.ok = true) → ∃ K', rowM K a f k = some K' ∧ K'.length ≤ K.length + k
  | 0, _, _ => ⟨K, rfl, Nat.le_refl _⟩
  | k + 1, hl, h => by
    obtain ⟨K1, h1, h2⟩ := rowM_some (K := K) (f := f) ha k (by omega) (fun j hj => h j (by omega))
    have hb := M.ok_iff.1 (h k (by omega)).2
    have h3 := pair_short (b := f k) ha hb.1 hb.2.2.1
    have h4 := addL_len K1 (pairL a (f k))
    refine ⟨addL K1 (pairL a (f k)), ?_, by omega⟩
    rw [rowM, h1]
    show stepM K1 a (f k) = _
    unfold stepM
    rw [if_pos ⟨(h k (by omega)).1, by omega⟩]
theorem mulM_some {f f' : Nat → T} {la lb : Nat} (hl : la * lb ≤ 400) (hf : ∀ i, i < la → (f i).m.d = 0 ∧ (f i).m.e = 0) (h : ∀ k, k < la → ∀ j, j < lb → ((f k).m.sum (f' j).m).ok = true ∧ (f' j).m.ok = true) : ∀ i, i ≤ la → ∃ K, mulM f f' lb i = some K ∧ K.length ≤ i * lb
  | 0, _ => ⟨[], rfl, by simp⟩
  | i + 1, hi => by
    obtain ⟨K1, h1, h2⟩ := mulM_some hl hf h i (by omega)
    have hb : (i + 1) * lb ≤ la * lb := Nat.mul_le_mul_right _ hi
    have hc : (i + 1) * lb = i * lb + lb := Nat.succ_mul i lb
    obtain ⟨K2, h3, h4⟩ := rowM_some (K := K1) (a := f i) (f := f') (hf i (by omega)) lb (by omega) (fun j hj => h i (by omega) j hj)
    refine ⟨K2, ?_, by omega⟩
    rw [mulM, h1]
    exact h3
theorem wm_of {A B : List T} (fA : freeL A = true) (oB : okL B = true) (h : ∀ a ∈ A, ∀ b ∈ B, (a.m.sum b.m).ok = true) (hl : A.length * B.length ≤ 400) : ∃ P, wmV A B = (P, true) ∧ P.length ≤ A.length * B.length := by
  obtain ⟨oA, gA⟩ := frm_iff.1 fA
  have h1 : polOk A.length (lf A) = true := oA
  have h2 : polOk B.length (lf B) = true := oB
  obtain ⟨K, hK, hKl⟩ := mulM_some (f := lf A) (f' := lf B) hl (fun i hi => by rw [lf_eq hi]; exact gA _ (List.getElem_mem hi)) (fun k hk j hj => by rw [lf_eq hk, lf_eq hj]; exact ⟨h _ (List.getElem_mem hk) _ (List.getElem_mem hj), ((okL_falls oB).2.2 _ (List.getElem_mem hj)).1⟩) A.length (Nat.le_refl _)
  refine ⟨K, ?_, hKl⟩
  unfold wmV wylMul
  rw [if_pos ⟨h1, h2⟩, hK]; rfl
theorem wm_pf {A B P : List T} (gA : Frm A) (gB : Frm B) (h : wmV A B = (P, true)) (v : Vq) : pf v P = pf (fun n k => pf (fun p q => v (n + p) (k + q)) A) B := by
  rw [← pf_zero (wm_frm gA gB h), Rp_mul _ h]
  show (Rp stdG B).f ((Rp stdG A).f v) 0 0 = _
  rw [pf_zero gB]
  congr 1
  funext n k
  rw [Rp_frm gA]
/-- the slope of a product is that of each factor, times the other one. -/
theorem sl_mul {A B P : List T} {k : Int} (fA : freeL A = true) (fB : freeL B = true) (hk : 0 ≤ k ∧ k ≤ 1) (h : wmV A B = (P, true)) (lA : A.length ≤ 5) (lB : B.length ≤ 5) : ∃ X Y, wmV (slV A k) B = (X, true) ∧ wmV A (slV B k) = (Y, true) ∧ addV X Y = (slV P k, true) := by
  obtain ⟨oA, gA⟩ := frm_iff.1 fA
  obtain ⟨oB, gB⟩ := frm_iff.1 fB
  have hs := (wm_lin h).2
  have sA := sl_facts fA hk
  have sB := sl_facts fB hk
  have gP := wm_frm gA gB h
  have fP := frm_iff.2 ⟨wm_ok h, gP⟩
  have sP := sl_facts fP hk
  obtain ⟨osA, gsA⟩ := frm_iff.1 sA.1
  obtain ⟨osB, gsB⟩ := frm_iff.1 sB.1
  have small : ∀ {a a' b b' : M}, a.ok = true → b.ok = true → a'.ok = true → b'.ok = true → a'.x ≤ a.x ∧ a'.y ≤ a.y → b'.x ≤ b.x ∧ b'.y ≤ b.y → a'.d = 0 ∧ a'.e = 0 → b'.d = 0 ∧ b'.e = 0 → (a.sum b).ok = true → (a'.sum b').ok = true := fun {a a' b b'} ha hb ha' hb' h1 h2 h3 h4 h5 => by
    have q1 := M.ok_iff.1 ha
    have q2 := M.ok_iff.1 hb
    have q3 := M.ok_iff.1 ha'
    have q4 := M.ok_iff.1 hb'
    have q5 := M.ok_iff.1 h5
    refine M.ok_iff.2 ?_
    simp only [M.sum] at q5 ⊢
    omega
  have m1 : (slV A k).length * B.length ≤ 5 * 5 := Nat.mul_le_mul (Nat.le_trans sA.2.2.1 lA) lB
  have m2 : A.length * (slV B k).length ≤ 5 * 5 := Nat.mul_le_mul lA (Nat.le_trans sB.2.2.1 lB)
  obtain ⟨X, hX, lX⟩ := wm_of sA.1 oB (fun a ha b hb => by
    obtain ⟨s, hs1, hs2⟩ := sA.2.2.2 a ha
    exact small ((okL_falls oA).2.2 s hs1).1 ((okL_falls oB).2.2 b hb).1 ((okL_falls osA).2.2 a ha).1 ((okL_falls oB).2.2 b hb).1 hs2 ⟨Int.le_refl _, Int.le_refl _⟩ (gsA a ha) (gB b hb) (hs s hs1 b hb)) (by omega)
  obtain ⟨Y, hY, lY⟩ := wm_of fA osB (fun a ha b hb => by
    obtain ⟨s, hs1, hs2⟩ := sB.2.2.2 b hb
    exact small ((okL_falls oA).2.2 a ha).1 ((okL_falls oB).2.2 s hs1).1 ((okL_falls oA).2.2 a ha).1 ((okL_falls osB).2.2 b hb).1 ⟨Int.le_refl _, Int.le_refl _⟩ hs2 (gA a ha) (gsB b hb) (hs a ha s hs1)) (by omega)
  refine ⟨X, Y, hX, hY, ?_⟩
  have gX := wm_frm gsA gB hX
  have gY := wm_frm gA gsB hY
  have a1 := okL_add (wm_ok hX) (wm_ok hY) (by omega)
  have e : addL X Y = slV P k := free_eq (frm_iff.2 ⟨a1.2, frm_add (wm_falls hX) (wm_falls hY) gX gY⟩) sP.1 (fun u => by
    rw [pf_add u (wm_falls hX) (wm_falls hY), wm_pf gsA gB hX, wm_pf gA gsB hY, sP.2.1, wm_pf gA gB h, sB.2.1]
    rw [← pf_va]
    congr 1
    funext n j
    show pf (fun p q => u (n + p) (j + q)) (slV A k) + (sK k).f (fun n k => pf (fun p q => u (n + p) (k + q)) A) n j = pf (fun p q => (sK k).f u (n + p) (j + q)) A
    rw [sA.2.1]
    rcases (show k = 0 ∨ k = 1 by omega) with rfl | rfl
    · show pf (fun p q => nf p * u (n + (p - 1)) (j + q)) A + nf n * pf (fun p q => u (n - 1 + p) (j + q)) A = pf (fun p q => nf (n + p) * u (n + p - 1) (j + q)) A
      rw [← pf_vs, ← pf_va]
      congr 1
      funext p q
      show nf p * u (n + (p - 1)) (j + q) + nf n * u (n - 1 + p) (j + q) = nf (n + p) * u (n + p - 1) (j + q)
      rw [nf_add]
      cases n with
      | zero =>
        rw [nf_zero, Nat.zero_add, Nat.zero_add]; grind
      | succ n =>
        cases p with
        | zero => rw [nf_zero, Nat.add_zero]; grind
        | succ p => rw [show n + 1 + (p + 1 - 1) = n + p + 1 by omega, show n + 1 - 1 + (p + 1) = n + p + 1 by omega, show n + 1 + (p + 1) - 1 = n + p + 1 by omega]; grind
    · show pf (fun p q => nf q * u (n + p) (j + (q - 1))) A + nf j * pf (fun p q => u (n + p) (j - 1 + q)) A = pf (fun p q => nf (j + q) * u (n + p) (j + q - 1)) A
      rw [← pf_vs, ← pf_va]
      congr 1
      funext p q
      show nf q * u (n + p) (j + (q - 1)) + nf j * u (n + p) (j - 1 + q) = nf (j + q) * u (n + p) (j + q - 1)
      rw [nf_add]
      cases j with
      | zero =>
        rw [nf_zero, Nat.zero_add, Nat.zero_add]; grind
      | succ j =>
        cases q with
        | zero => rw [nf_zero, Nat.add_zero]; grind
        | succ q => rw [show j + 1 + (q + 1 - 1) = j + q + 1 by omega, show j + 1 - 1 + (q + 1) = j + q + 1 by omega, show j + 1 + (q + 1) - 1 = j + q + 1 by omega]; grind)
  rw [a1.1, e]
section
variable {w : World} {a : Option Addr} {ca : Nat} {L : List T}
theorem slI_L (k : Int) (ha : RL w a ca L) : Calls Try.prog 21 #[.slice a L.length ca, .int .i64 k] w (One1 w (slV L k)) :=
  (actSlopeI w a L.length ca (lf L) k ha).mono fun _ _ h => one_owns (actSlope_len _ _ _) h
theorem slS_L (k : Int) (ha : RL w a ca L) : Calls Try.prog 22 #[.slice a L.length ca, .int .i64 k] w (One1 w (slV L k)) :=
  (actSlopeS w a L.length ca (lf L) k ha).mono fun _ _ h => one_owns (actSlope_len _ _ _) h
end
end Go.Proofs.Ytnfimnfaejjagaa
