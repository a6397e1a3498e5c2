/-
  What an operator does to a form of the times: the terms, one by one.
-/
import Derived.Test.YtlndccbgbclnhaaGat
import Derived.Test.YtlndccbgbclnhaaGal
import Derived.Test.YtlndccbgbclnhaaGah
namespace Go.Proofs.Ytlndccbgbclnhaa
open Go.RowKit
set_option linter.unusedVariables false

/-- what a term of an operator does to one of a form. -/
def doT (a b : T) : T := ⟨fMul (fMul a.c b.c) (fMul (fFall b.m.x a.m.d) (fFall b.m.y a.m.e)), ⟨b.m.x - a.m.d + a.m.x, b.m.y - a.m.e + a.m.y, 0, 0⟩⟩
/-- a term of times alone, whatever stands in it. -/
abbrev DT : Type := { t : T // 0 ≤ t.c ∧ t.c ≤ 100 ∧ t.m.d = 0 ∧ t.m.e = 0 }
def encD (x : DT) : Array Value := #[.agg #[.int .i64 x.1.c, .int .i64 x.1.m.x, .int .i64 x.1.m.y, .int .i64 x.1.m.d, .int .i64 x.1.m.e]]
def doD (a b : T) : DT := ⟨doT a b, (fMul_bd _ _).1, (fMul_bd _ _).2, rfl, rfl⟩
def doO (a b : T) : List DT := if b.m.x < a.m.d ∨ b.m.y < a.m.e then [] else [doD a b]
def rowDo (a : T) (g : Nat → T) : Nat → List DT
  | 0 => []
  | k + 1 => rowDo a g k ++ doO a (g k)
def allDo (f g : Nat → T) (lb : Nat) : Nat → List DT
  | 0 => []
  | i + 1 => allDo f g lb i ++ rowDo (f i) g lb
theorem doO_len (a b : T) : (doO a b).length ≤ 1 := by unfold doO; split <;> simp
theorem rowDo_len (a : T) (g : Nat → T) : ∀ k, (rowDo a g k).length ≤ k
  | 0 => Nat.le_refl _
  | k + 1 => by have h1 := rowDo_len a g k; have h2 := doO_len a (g k); rw [rowDo, List.length_append]; omega
theorem allDo_len (f g : Nat → T) (lb : Nat) : ∀ i, (allDo f g lb i).length ≤ i * lb
  | 0 => Nat.zero_le _
  | i + 1 => by have h1 := allDo_len f g lb i; have h2 := rowDo_len (f i) g lb; rw [allDo, List.length_append, Nat.succ_mul]; omega
theorem rowDo_pre (a : T) (g : Nat → T) {k : Nat} : ∀ {j : Nat}, k ≤ j → rowDo a g k <+: rowDo a g j
  | 0, h => by obtain rfl : k = 0 := by omega
               exact List.prefix_refl _
  | j + 1, h => by
    by_cases e : k = j + 1
    · rw [e]
      exact List.prefix_refl _
    · exact (rowDo_pre a g (j := j) (by omega)).trans (List.prefix_append _ _)
theorem allDo_pre (f g : Nat → T) (lb : Nat) {k : Nat} : ∀ {j : Nat}, k ≤ j → allDo f g lb k <+: allDo f g lb j
  | 0, h => by obtain rfl : k = 0 := by omega
               exact List.prefix_refl _
  | j + 1, h => by
    by_cases e : k = j + 1
    · rw [e]
      exact List.prefix_refl _
    · exact (allDo_pre f g lb (j := j) (by omega)).trans (List.prefix_append _ _)
/-- those that came so far are a beginning of all. -/
theorem soFar_pre (f g : Nat → T) (lb la : Nat) {i k : Nat} (hi : i < la) (hk : k ≤ lb) : allDo f g lb i ++ rowDo (f i) g k <+: allDo f g lb la := by
  refine List.IsPrefix.trans ?_ (allDo_pre f g lb (k := i + 1) (j := la) (by omega))
  rw [allDo]
  exact (List.prefix_append_right_inj _).2 (rowDo_pre _ _ hk)
def allOk (L : List DT) : Bool := L.all (fun t => t.1.m.ok)
theorem allOk_append (L R : List DT) : allOk (L ++ R) = (allOk L && allOk R) := by simp [allOk]
theorem allOk_pre {L R : List DT} (h : L <+: R) (hL : allOk L = false) : allOk R = false := by
  obtain ⟨X, rfl⟩ := h
  rw [allOk_append, hL]; rfl
def wylDo (f : Nat → T) (la : Nat) (g : Nat → T) (lb : Nat) : List T × Bool := if polOk la f = true ∧ polFree lb g = true then (if allOk (allDo f g lb la) = true then (putAll ((allDo f g lb la).map (·.1)) [], true) else ([], false)) else ([], false)
theorem tok_do {L : List DT} (h : allOk L = true) : TOK (L.map (·.1)) := by
  intro t ht
  obtain ⟨x, hx, rfl⟩ := List.mem_map.1 ht
  have hx2 := x.2
  exact ⟨(List.all_eq_true.1 h) x hx, hx2.1, hx2.2.1⟩
theorem addAllT_other (m : M) : ∀ (xs : List T) (c : M → Int), (∀ t ∈ xs, t.m ≠ m) → addAllT c xs m = c m
  | [], c, _ => rfl
  | t :: r, c, h => by
    show addAllT (updC c t.m t.c) r m = _
    rw [addAllT_other m r _ (fun s hs => h s (List.mem_cons_of_mem _ hs)), updC_other (fun e => h t (List.mem_cons_self ..) e.symm)]
theorem coef_at_mem {L : List T} (h : Falls L) {t : T} (ht : t ∈ L) : coef L t.m = t.c := by
  induction L with
  | nil => cases ht
  | cons s r ih =>
    rw [coef]
    rcases List.mem_cons.1 ht with rfl | ht'
    · rw [if_pos (meqB_iff.2 rfl)]
    · have h1 := (List.pairwise_cons.1 h.1).1 t ht'
      rw [if_neg (fun e => by rw [meqB_iff.1 e] at h1; omega)]
      exact ih h.tail ht'
def allF : List M := (List.range 16).flatMap fun (x : Nat) => (List.range 16).map fun (y : Nat) => (⟨(x : Int), (y : Int), 0, 0⟩ : M)
theorem allF_len : allF.length = 256 := by
  unfold allF
  rw [flat_len 16 _ (fun x => by simp)]
  simp
theorem allF_mem {m : M} (h : m.ok = true) (hd : m.d = 0) (he : m.e = 0) : m ∈ allF := by
  obtain ⟨x1, x2, y1, y2, d1, d2, e1, e2⟩ := M.ok_iff.1 h
  unfold allF
  refine List.mem_flatMap.2 ⟨m.x.toNat, List.mem_range.2 (by omega), List.mem_map.2 ⟨m.y.toNat, List.mem_range.2 (by omega), ?_⟩⟩
  cases m
  simp only at x1 y1 hd he ⊢
  rw [Int.toNat_of_nonneg x1, Int.toNat_of_nonneg y1, hd, he]
theorem doL_short {L : List DT} (h : allOk L = true) : (putAll (L.map (·.1)) []).length ≤ 256 := by
  have hf := putAll_facts (L.map (·.1)) [] (tok_do h) falls_nil
  have hnd : ((putAll (L.map (·.1)) []).map (·.m)).Nodup := by
    rw [List.Nodup, List.pairwise_map]
    exact hf.1.1.imp (fun {a b} hab e => by rw [e] at hab; omega)
  haveI : DecidableEq M := fun a b => Classical.propDecidable (a = b)
  have hl := len_of_sub ((putAll (L.map (·.1)) []).map (·.m)) allF hnd (fun m hm => by
    obtain ⟨t, ht, rfl⟩ := List.mem_map.1 hm
    have hr := hf.1.2 t ht
    by_cases hx : ∃ s ∈ L.map (·.1), s.m = t.m
    · obtain ⟨s, hs, he⟩ := hx
      obtain ⟨x, _, rfl⟩ := List.mem_map.1 hs
      have hx2 := x.2
      rw [← he] at hr ⊢
      exact allF_mem hr.1 hx2.2.2.1 hx2.2.2.2
    · exfalso
      have h0 := coef_at_mem hf.1 ht
      rw [hf.2, addAllT_other t.m _ _ (fun s hs e => hx ⟨s, hs, e⟩)] at h0
      change (0 : Int) = t.c at h0
      omega)
  rw [allF_len, List.length_map] at hl
  exact hl
theorem wylDo_len (f : Nat → T) (la : Nat) (g : Nat → T) (lb : Nat) : (wylDo f la g lb).1.length ≤ 400 := by
  unfold wylDo
  split
  · split
    · rename_i h
      have := doL_short h
      show (putAll _ []).length ≤ 400
      omega
    · simp
  · simp
theorem putAll_snocD (xs : List T) (t : T) (L : List T) : putAll (xs ++ [t]) L = putT t.c t.m (putAll xs L) := by simp [putAll]
theorem addAllT_snoc (xs : List T) (t : T) (c : M → Int) : addAllT c (xs ++ [t]) = updC (addAllT c xs) t.m t.c := by simp [addAllT]
end Go.Proofs.Ytlndccbgbclnhaa
