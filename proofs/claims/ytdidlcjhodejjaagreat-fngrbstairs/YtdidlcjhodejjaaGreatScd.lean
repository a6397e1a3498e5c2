/-
  The least basis, as lists: what is true of all that GrbLeast answers.
-/
import Derived.Test.YtdidlcjhodejjaaGreatScc
namespace Go.Proofs.YtdidlcjhodejjaaGreat
open Go.RowKit Go.Deep Go.Joins
set_option linter.unusedVariables false

abbrev lmO (o : Int) (p : List T) : M := (ldL o p).m
def Anti (o : Int) (l : List (List T)) : Prop := l.Pairwise (fun a b => M.dvd (lmO o a) (lmO o b) = false ∧ M.dvd (lmO o b) (lmO o a) = false)
theorem dvd_self {m : M} (h : m.ok = true) : M.dvd m m = true := by unfold M.dvd; simp [h]
theorem need_pair {k : Nat → M} {n i j : Nat} (hi : i < n) (hj : j < n) (hij : i ≠ j) (h1 : need k n i = true) (h2 : need k n j = true) : M.dvd (k i) (k j) = false := by
  cases hd : M.dvd (k i) (k j)
  · rfl
  · have q1 := of_decide_eq_true h1
    have q2 := of_decide_eq_true h2
    by_cases e : meqB (k i) (k j) = true
    · have e' := meqB_eq.1 e
      by_cases hl : i < j
      · exact absurd ⟨hij, hd, .inr hl⟩ (q2 i hi)
      · exact absurd ⟨fun q => hij q.symm, by rw [e'] at hd ⊢; exact hd, .inr (by omega)⟩ (q1 j hj)
    · exact absurd ⟨hij, hd, .inl (by cases h : meqB (k i) (k j); rfl; exact absurd h e)⟩ (q2 i hi)
theorem sel_anti {o : Int} {n : Nat} {L : Nat → List T} : ∀ j, j ≤ n → Anti o (selN (need (fun i => (ldL o (L i)).m) n) L j)
  | 0, _ => List.Pairwise.nil
  | j + 1, hj => by
    unfold selN
    split
    · rename_i hn
      refine List.pairwise_append.2 ⟨sel_anti j (by omega), List.pairwise_singleton _ _, fun a ha b hb => ?_⟩
      obtain ⟨i, hi, hni, rfl⟩ := selN_mem ha
      rw [List.mem_singleton.1 hb]
      exact ⟨need_pair (k := fun i => (ldL o (L i)).m) (by omega) (by omega) (by omega) hni hn, need_pair (k := fun i => (ldL o (L i)).m) (by omega) (by omega) (by omega) hn hni⟩
    · exact sel_anti j (by omega)
theorem insN_perm {α : Type} (lt : α → α → Bool) (x : α) : ∀ l : List α, (insN lt x l).Perm (x :: l)
  | [] => List.Perm.refl _
  | y :: r => by
    show (if lt x y = true then x :: y :: r else y :: insN lt x r).Perm _
    split
    · exact List.Perm.refl _
    · exact ((insN_perm lt x r).cons y).trans (List.Perm.swap x y r)
theorem srtN_perm {α : Type} (lt : α → α → Bool) : ∀ l acc : List α, (srtN lt acc l).Perm (acc ++ l)
  | [], acc => by rw [List.append_nil]; exact List.Perm.refl _
  | x :: r, acc => by
    refine (srtN_perm lt r (insN lt x acc)).trans ?_
    refine ((insN_perm lt x acc).append_right r).trans ?_
    exact (List.perm_middle (a := x) (l₁ := acc) (l₂ := r)).symm
theorem least_anti (o : Int) (n : Nat) (L : Nat → List T) : Anti o (leastL o n L) := by
  refine ((srtN_perm (ltO o) _ []).pairwise_iff (fun h => ⟨h.2, h.1⟩)).2 ?_
  rw [List.nil_append]
  exact sel_anti n (Nat.le_refl _)
def RiseL (o : Int) (l : List (List T)) : Prop := l.Pairwise (fun a b => rkW o (lmO o a) ≤ rkW o (lmO o b))
theorem insN_riseL {o : Int} {x : List T} : ∀ {l : List (List T)}, RiseL o l → RiseL o (insN (ltO o) x l)
  | [], _ => List.pairwise_singleton _ _
  | y :: r, h => by
    obtain ⟨h1, h2⟩ := List.pairwise_cons.1 h
    show RiseL o (if ltO o x y = true then x :: y :: r else y :: insN (ltO o) x r)
    by_cases e : ltO o x y = true
    · rw [if_pos e]
      have e' : rkW o (lmO o x) < rkW o (lmO o y) := of_decide_eq_true e
      refine List.pairwise_cons.2 ⟨fun z hz => ?_, h⟩
      rcases List.mem_cons.1 hz with rfl | hz
      · omega
      · have := h1 z hz
        omega
    · rw [if_neg e]
      have e' : rkW o (lmO o y) ≤ rkW o (lmO o x) := by
        rcases Int.lt_or_le (rkW o (lmO o x)) (rkW o (lmO o y)) with q | q
        · exact absurd (decide_eq_true q) e
        · exact q
      refine List.pairwise_cons.2 ⟨fun z hz => ?_, insN_riseL h2⟩
      rcases insN_mem.1 hz with rfl | hz
      · exact e'
      · exact h1 z hz
theorem srtN_riseL {o : Int} : ∀ {l acc : List (List T)}, RiseL o acc → RiseL o (srtN (ltO o) acc l)
  | [], acc, h => h
  | x :: r, acc, h => srtN_riseL (l := r) (insN_riseL h)
/-- the place of one. -/
theorem lof_put {l : List (List T)} {i : Nat} {Y : List T} (h : i < l.length) (j : Nat) : Lof (putL l i Y) j = if j = i then Y else Lof l j := by
  show (putL l i Y).getD j [] = if j = i then Y else l.getD j []
  rw [putL_set h, List.getD_eq_getElem?_getD, List.getD_eq_getElem?_getD, List.getElem?_set]
  by_cases e : i = j
  · subst e; simp [h]
  · rw [if_neg e, if_neg (fun q => e q.symm)]
theorem lof_oth {l : List (List T)} {i j : Nat} (hj : j < l.length) (hij : j ≠ i) : Lof l j ∈ othL l i := by
  show l.getD j [] ∈ l.take i ++ l.drop (i + 1)
  rw [List.getD_eq_getElem?_getD, List.getElem?_eq_getElem hj]
  show l[j] ∈ _
  rcases Nat.lt_or_ge j i with h | h
  · exact List.mem_append_left _ (List.mem_iff_getElem.2 ⟨j, by rw [List.length_take]; omega, by rw [List.getElem_take]⟩)
  · refine List.mem_append_right _ (List.mem_iff_getElem.2 ⟨j - (i + 1), by rw [List.length_drop]; omega, ?_⟩)
    rw [List.getElem_drop]
    congr 1
    omega
theorem oth_lof {l : List (List T)} {i : Nat} {q : List T} (h : q ∈ othL l i) : ∃ j, j < l.length ∧ j ≠ i ∧ Lof l j = q := by
  rcases List.mem_append.1 h with h | h
  · obtain ⟨j, hj, rfl⟩ := List.mem_iff_getElem.1 h
    rw [List.length_take] at hj
    refine ⟨j, by omega, by omega, ?_⟩
    show l.getD j [] = _
    rw [List.getD_eq_getElem?_getD, List.getElem?_eq_getElem (by omega), List.getElem_take]; rfl
  · obtain ⟨j, hj, rfl⟩ := List.mem_iff_getElem.1 h
    rw [List.length_drop] at hj
    refine ⟨i + 1 + j, by omega, by omega, ?_⟩
    show l.getD (i + 1 + j) [] = _
    rw [List.getD_eq_getElem?_getD, List.getElem?_eq_getElem (by omega), List.getElem_drop]; rfl
/-- on the way: the first i are done. -/
structure LsO (o : Int) (N i : Nat) (l l0 : List (List T)) : Prop where
  len : l.length = N
  ok : okA l
  lead : ∀ j, j < N → lmO o (Lof l j) = lmO o (Lof l0 j)
  anti : ∀ j k, j < N → k < N → j ≠ k → M.dvd (lmO o (Lof l j)) (lmO o (Lof l k)) = false
  done : ∀ k, k < i → (ldL o (Lof l k)).c = 1 ∧ ∀ t ∈ Lof l k, ∀ j, j < N → j ≠ k → M.dvd (lmO o (Lof l j)) t.m = false
theorem LsO.step {o : Int} {N i : Nat} {l l0 : List (List T)} (h : LsO o N i l l0) (hi : i < N) {Y : List T} (hY : lftL o (Lof l i) (othL l i) = some Y) : LsO o N (i + 1) (putL l i Y) l0 := by
  have hil : i < l.length := by rw [h.len]; exact hi
  obtain ⟨k1, k2, k3⟩ := lftL_lead hY (h.ok _ (lof_mem hil)).2 (fun q hq => by
    obtain ⟨j, hj, hji, rfl⟩ := oth_lof hq
    exact h.anti j i (by rw [← h.len]; exact hj) hi hji)
  have hm : ∀ j, lmO o (Lof (putL l i Y) j) = lmO o (Lof l j) := fun j => by
    rw [lof_put hil]
    by_cases e : j = i
    · rw [if_pos e, e]; exact k1
    · rw [if_neg e]
  refine ⟨by rw [putL_len hil]; exact h.len, putL_ok h.ok (lftL_ok hY), fun j hj => by rw [hm]; exact h.lead j hj, fun j k hj hk hjk => by rw [hm, hm]; exact h.anti j k hj hk hjk, fun k hk => ?_⟩
  have e2 : ∀ j, lmO o (Lof (putL l i Y) j) = lmO o (Lof l j) := hm
  by_cases e : k = i
  · subst e
    have e3 : Lof (putL l k Y) k = Y := by rw [lof_put hil, if_pos rfl]
    rw [e3]
    refine ⟨k2, fun t ht j hj hjk => ?_⟩
    rw [e2]
    exact k3 t ht _ (lof_oth (by rw [h.len]; exact hj) hjk)
  · have e3 : Lof (putL l i Y) k = Lof l k := by rw [lof_put hil, if_neg e]
    rw [e3]
    obtain ⟨d1, d2⟩ := h.done k (by omega)
    exact ⟨d1, fun t ht j hj hjk => by rw [e2]; exact d2 t ht j hj hjk⟩
theorem LsO.run {o : Int} {N : Nat} {l0 : List (List T)} : ∀ {u i : Nat} {l l' : List (List T)}, i + u = N → LsO o N i l l0 → lstRun o u i l = some l' → LsO o N N l' l0
  | 0, i, l, l', hu, h, hr => by
    have hr' : some l = some l' := hr
    cases hr'
    have : i = N := by omega
    subst this
    exact h
  | u + 1, i, l, l', hu, h, hr => by
    cases hY : lftL o (Lof l i) (othL l i) with
    | none => rw [lstRun_no hY] at hr; cases hr
    | some Y => rw [lstRun_yes hY] at hr; exact LsO.run (by omega) (h.step (by omega) hY) hr
theorem pw_lof {R : List T → List T → Prop} {l : List (List T)} (h : l.Pairwise R) {i j : Nat} (hij : i < j) (hj : j < l.length) : R (Lof l i) (Lof l j) := by
  have := List.pairwise_iff_getElem.1 h i j (by omega) hj hij
  show R (l.getD i []) (l.getD j [])
  rw [List.getD_eq_getElem?_getD, List.getD_eq_getElem?_getD, List.getElem?_eq_getElem hj, List.getElem?_eq_getElem (show i < l.length by omega)]
  exact this
/-- what is true of a least basis. -/
structure Least (o : Int) (l : List (List T)) : Prop where
  ho : 1 ≤ o ∧ o ≤ 3
  le : l.length ≤ 12
  ok : okA l
  anti : ∀ j k, j < l.length → k < l.length → j ≠ k → M.dvd (lmO o (Lof l j)) (lmO o (Lof l k)) = false
  one : ∀ k, k < l.length → (ldL o (Lof l k)).c = 1
  free : ∀ k, k < l.length → ∀ t ∈ Lof l k, ∀ j, j < l.length → j ≠ k → M.dvd (lmO o (Lof l j)) t.m = false
  rise : ∀ j k, j < k → k < l.length → rkW o (lmO o (Lof l j)) < rkW o (lmO o (Lof l k))
theorem grbLeast_parts {o : Int} {n : Nat} {L : Nat → List T} {l : List (List T)} (h : grbLeast o n L = some l) : (1 ≤ o ∧ o ≤ 3) ∧ lstOk n (lN L) (fN L) = true ∧ lstRun o (leastL o n L).length 0 (leastL o n L) = some l := by
  unfold grbLeast at h
  split at h
  · rename_i hh; exact ⟨hh.1, hh.2, h⟩
  · cases h
theorem grbLeast_lso {o : Int} {n : Nat} {L : Nat → List T} {l : List (List T)} (h : grbLeast o n L = some l) : LsO o (leastL o n L).length (leastL o n L).length l (leastL o n L) := by
  obtain ⟨ho, hl, hr⟩ := grbLeast_parts h
  obtain ⟨k1, k2⟩ := leastL_ok (o := o) hl
  refine LsO.run (Nat.zero_add _) ⟨rfl, k1, fun _ _ => rfl, fun j k hj hk hjk => ?_, fun k hk => absurd hk (Nat.not_lt_zero _)⟩ hr
  have ha := least_anti o n L
  rcases Nat.lt_or_gt_of_ne hjk with q | q
  · exact (pw_lof ha q hk).1
  · exact (pw_lof ha q hj).2
theorem grbLeast_least {o : Int} {n : Nat} {L : Nat → List T} {l : List (List T)} (h : grbLeast o n L = some l) : Least o l := by
  obtain ⟨ho, hl, hr⟩ := grbLeast_parts h
  obtain ⟨k1, k2⟩ := leastL_ok (o := o) hl
  have hs := grbLeast_lso h
  have hle := hs.len
  refine ⟨ho, by omega, hs.ok, fun j k hj hk => hs.anti j k (by omega) (by omega), fun k hk => (hs.done k (by omega)).1, fun k hk t ht j hj => (hs.done k (by omega)).2 t ht j (by omega), fun j k hjk hk => ?_⟩
  rw [hs.lead j (by omega), hs.lead k (by omega)]
  have hr : RiseL o (leastL o n L) := srtN_riseL List.Pairwise.nil
  have h1 := pw_lof hr hjk (by omega)
  have h2 := (pw_lof (least_anti o n L) hjk (by omega)).1
  have o1 := ldL_ok (o := o) (k1 _ (lof_mem (l := leastL o n L) (i := j) (by omega)))
  have o2 := ldL_ok (o := o) (k1 _ (lof_mem (l := leastL o n L) (i := k) (by omega)))
  rcases Int.lt_or_le (rkW o (lmO o (Lof (leastL o n L) j))) (rkW o (lmO o (Lof (leastL o n L) k))) with q | q
  · exact q
  · have e := rkW_inj (o := o) _ _ o1 o2 (show rkW o (lmO o (Lof (leastL o n L) j)) = rkW o (lmO o (Lof (leastL o n L) k)) by omega)
    have e' : lmO o (Lof (leastL o n L) j) = lmO o (Lof (leastL o n L) k) := e
    rw [e', dvd_self o2] at h2
    cases h2
end Go.Proofs.YtdidlcjhodejjaaGreat
