/-
  The slope of a form, as a list: its terms stay in order.
-/
import Derived.Test.YtnfimnfaejjagaaGaf
import Derived.Test.YtnfimnfaejjagaaGap
namespace Go.Proofs.Ytnfimnfaejjagaa
open Go.RowKit
set_option linter.unusedVariables false

def cntK (k : Int) (m : M) : Int := if k = 1 then m.y else m.x
def decK (k : Int) (m : M) : M := if k = 1 then ⟨m.x, m.y - 1, m.d, m.e⟩ else ⟨m.x - 1, m.y, m.d, m.e⟩
def slO (k : Int) (t : T) : List T := if 1 ≤ cntK k t.m then [⟨t.c * cntK k t.m % 101, decK k t.m⟩] else []
def slT (k : Int) (f : Nat → T) : Nat → List T
  | 0 => []
  | i + 1 => slT k f i ++ slO k (f i)
def actSlope (k : Int) (n : Nat) (f : Nat → T) : List T := if polFree n f = true ∧ 0 ≤ k ∧ k ≤ 1 then slT k f n else []
theorem slO_len (k : Int) (t : T) : (slO k t).length ≤ 1 := by unfold slO; split <;> simp
theorem slT_len (k : Int) (f : Nat → T) : ∀ i, (slT k f i).length ≤ i
  | 0 => by simp [slT]
  | i + 1 => by
    have h1 := slT_len k f i
    have h2 := slO_len k (f i)
    simp only [slT, List.length_append]; omega
theorem slT_mem {k : Int} {f : Nat → T} {t : T} : ∀ {i : Nat}, t ∈ slT k f i → ∃ j, j < i ∧ 1 ≤ cntK k (f j).m ∧ t = ⟨(f j).c * cntK k (f j).m % 101, decK k (f j).m⟩
  | 0, h => by simp [slT] at h
  | i + 1, h => by
    simp only [slT] at h
    rcases List.mem_append.1 h with h | h
    · obtain ⟨j, hj, h1, h2⟩ := slT_mem h
      exact ⟨j, by omega, h1, h2⟩
    · unfold slO at h
      split at h
      · rename_i hc
        simp at h
        exact ⟨i, by omega, hc, h⟩
      · cases h
theorem slT_c (k : Int) (f : Nat → T) (i : Nat) : Cok (slT k f i) := by
  intro t ht
  obtain ⟨j, _, _, rfl⟩ := slT_mem ht
  dsimp only; omega
theorem actSlope_len (k : Int) (n : Nat) (f : Nat → T) : (actSlope k n f).length ≤ 400 := by
  unfold actSlope
  split
  · rename_i h
    have h1 := slT_len k f n
    have h2 : polFree n f = true := h.1
    simp only [polFree, Bool.and_eq_true] at h2
    have h3 := (polOk_c h2.1).1
    omega
  · simp
theorem decK_ok {k : Int} {m : M} (h : m.ok = true) (hc : 1 ≤ cntK k m) : (decK k m).ok = true ∧ rkD (decK k m) = rkD m - (if k = 1 then 65537 else 65552) := by
  have hm := M.ok_iff.1 h
  unfold cntK at hc
  unfold decK
  split at hc
  · rename_i hk
    rw [if_pos hk, if_pos hk]
    exact ⟨M.ok_iff.2 (by dsimp only; omega), by unfold rkD rkL; dsimp only; omega⟩
  · rename_i hk
    rw [if_neg hk, if_neg hk]
    exact ⟨M.ok_iff.2 (by dsimp only; omega), by unfold rkD rkL; dsimp only; omega⟩
theorem ok_desc {n : Nat} {f : Nat → T} (h : polOk n f = true) {j : Nat} : ∀ {i : Nat}, j < i → i < n → rkD (f i).m < rkD (f j).m
  | 0, hj, _ => absurd hj (Nat.not_lt_zero _)
  | i + 1, hj, hi => by
    have hm := polOk_m h
    simp only [polOk, decide_eq_true_eq] at h
    have h1 := h.2 (i + 1) hi
    simp only [okAt, Bool.and_eq_true, Bool.or_eq_true, decide_eq_true_eq] at h1
    have h2 := h1.2.resolve_left (by omega)
    rw [show i + 1 - 1 = i by omega] at h2
    have h3 := (ord_pos (hm i (by omega)) (hm (i + 1) hi)).1 h2
    by_cases hji : j = i
    · rw [hji]; exact h3
    · have := ok_desc (n := n) (f := f) (by simp only [polOk, decide_eq_true_eq]; exact h) (j := j) (i := i) (by omega) (by omega)
      omega
theorem lf_at {L : List T} {i : Nat} (h : i < L.length) : lf L i = L[i] := by
  unfold lf
  rw [List.getD_eq_getElem?_getD, List.getElem?_eq_getElem h]; rfl
theorem addT_tail (L : List T) (t : T) (h : ∀ u ∈ L, 0 < M.ord 1 u.m t.m) : ∀ (r i : Nat), i + r = L.length → addT (lf L) L.length (fun _ => t) 1 i 0 = L.drop i ++ [t]
  | 0, i, hi => by
    rw [addT_lt (by omega) (.inl (by omega)), addT_end (by omega) (by omega), List.drop_eq_nil_of_le (by omega)]; rfl
  | r + 1, i, hi => by
    have hl : i < L.length := by omega
    rw [addT_gt hl (.inr (by rw [lf_at hl]; exact h _ (List.getElem_mem hl))), addT_tail L t h r (i + 1) (by omega), List.drop_eq_getElem_cons hl, lf_at hl]; rfl
theorem mul_nz {c n : Int} (c1 : 1 ≤ c) (c2 : c ≤ 100) (n1 : 1 ≤ n) (n2 : n ≤ 15) : c * n % 101 ≠ 0 := by
  have h : n = 1 ∨ n = 2 ∨ n = 3 ∨ n = 4 ∨ n = 5 ∨ n = 6 ∨ n = 7 ∨ n = 8 ∨ n = 9 ∨ n = 10 ∨ n = 11 ∨ n = 12 ∨ n = 13 ∨ n = 14 ∨ n = 15 := by omega
  rcases h with rfl | rfl | rfl | rfl | rfl | rfl | rfl | rfl | rfl | rfl | rfl | rfl | rfl | rfl | rfl <;> omega
theorem put_slT {k : Int} {n i : Nat} {f : Nat → T} (h : polOk n f = true) (hi : i < n) : putT ((f i).c * cntK k (f i).m % 101) (decK k (f i).m) (slT k f i) = slT k f (i + 1) := by
  have hm := polOk_m h
  have hm1 := M.ok_iff.1 (hm i hi)
  have hcc : 1 ≤ (f i).c ∧ (f i).c ≤ 100 := by
    have h0 := h
    simp only [polOk, decide_eq_true_eq] at h0
    have h1 := h0.2 i hi
    simp only [okAt, Bool.and_eq_true, decide_eq_true_eq] at h1
    exact h1.1.1
  have hcn : 0 ≤ cntK k (f i).m ∧ cntK k (f i).m ≤ 15 := by unfold cntK; split <;> omega
  simp only [slT]
  by_cases hc : 1 ≤ cntK k (f i).m
  · rw [slO, if_pos hc, putT, if_neg (mul_nz hcc.1 hcc.2 hc hcn.2)]
    rw [addT_tail (slT k f i) ⟨(f i).c * cntK k (f i).m % 101, decK k (f i).m⟩ (fun u hu => ?_) (slT k f i).length 0 (by omega)]
    · rfl
    · obtain ⟨j, hj, hcj, rfl⟩ := slT_mem hu
      have a1 := decK_ok (hm j (by omega)) hcj
      have a2 := decK_ok (hm i hi) hc
      have a3 := ok_desc h hj hi
      exact (ord_pos a1.1 a2.1).2 (by omega)
  · have h0 : cntK k (f i).m = 0 := by omega
    rw [slO, if_neg hc, h0, Int.mul_zero, show (0 : Int) % 101 = 0 from rfl, putT, if_pos rfl, List.append_nil]
end Go.Proofs.Ytnfimnfaejjagaa
