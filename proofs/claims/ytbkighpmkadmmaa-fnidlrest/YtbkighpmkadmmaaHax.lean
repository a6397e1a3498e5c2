/-
  The product of two terms added to a sum.
  Products of operators: their lists and numbers.
  The product of two operators: the program.
-/
import Derived.Test.YtbkighpmkadmmaaHaw
import Derived.Test.YtbkighpmkadmmaaHac
import Derived.Test.YtbkighpmkadmmaaHan
import Derived.Test.YtbkighpmkadmmaaHau
namespace Go.Proofs.Ytbkighpmkadmmaa
open Go.RowKit Go.Maps
set_option linter.unusedVariables false

theorem Two.of {a b : T} (h1 : a.m.ok = true) (h2 : b.m.ok = true) (h3 : (a.m.sum b.m).ok = true) (c1 : 0 ≤ a.c ∧ a.c ≤ 100) (c2 : 0 ≤ b.c ∧ b.c ≤ 100) : Two a b (a.m.sum b.m) := ⟨h1, h2, h3, rfl, rfl, rfl, rfl, c1, c2⟩
end Go.Proofs.Ytbkighpmkadmmaa
namespace Go.Proofs.Ytbkighpmkadmmaa
open Go.RowKit
set_option linter.unusedVariables false

/-- the term of a product in which i of the first slopes and k of the second ones were taken. -/
def termN (a b : T) (i k : Nat) : T := ⟨a.c * b.c % 101 * wy a.m.d b.m.x i % 101 * wy a.m.e b.m.y k % 101, ⟨a.m.x + b.m.x - i, a.m.y + b.m.y - k, a.m.d + b.m.d - i, a.m.e + b.m.e - k⟩⟩
def rowN (a b : T) (i k : Nat) : List T := (List.range k).map (termN a b i)
def emitN (a b : T) (i : Nat) : List T := (List.range i).flatMap fun i => rowN a b i (limY a b + 1)
theorem emitN_succ (a b : T) (i : Nat) : emitN a b (i + 1) = emitN a b i ++ rowN a b i (limY a b + 1) := by simp [emitN, List.range_succ]
theorem rowN_succ (a b : T) (i k : Nat) : rowN a b i (k + 1) = rowN a b i k ++ [termN a b i k] := by simp [rowN, List.range_succ]
theorem takeK_fst {lim : Nat} {s t : Int} {k : Nat} (h : k ≤ lim) : (takeK lim s t k).1.1 = (k : Int) := if_pos h
theorem emit_is {a b : T} {g : M} (h : Two a b g) : (emit h (allX a b)).map (·.1) = emitN a b (limX a b + 1) := by
  have key : ∀ i, i ≤ limX a b → ((allY a b).map (termK h (takeK (limX a b) a.m.d b.m.x i))).map (·.1) = rowN a b i (limY a b + 1) := fun i hi => by
    unfold allY uptoK rowN
    rw [List.map_map, List.map_map]
    refine List.map_congr_left (fun k hk => ?_)
    rw [List.mem_range] at hk
    show termT a b g (takeK (limX a b) a.m.d b.m.x i) (takeK (limY a b) a.m.e b.m.y k) = termN a b i k
    unfold termT termN
    rw [takeK_fst hi, takeK_fst (show k ≤ limY a b by omega), h.gx, h.gy, h.gd, h.ge]
    rfl
  have : ∀ n, n ≤ limX a b + 1 → (emit h (uptoK (limX a b) a.m.d b.m.x n)).map (·.1) = emitN a b n := fun n => by
    induction n with
    | zero => intro _; rfl
    | succ n ih =>
      intro hn
      rw [← uptoK_succ, emit_snoc, List.map_append, ih (by omega), key n (by omega), emitN_succ]
  exact this _ (Nat.le_refl _)
theorem emit_tok {a b : T} {g : M} (h : Two a b g) : TOK (emitN a b (limX a b + 1)) := by
  rw [← emit_is h]
  intro t ht
  obtain ⟨x, _, rfl⟩ := List.mem_map.1 ht
  exact x.2
/-- the product of two terms. -/
def pairL (a b : T) : List T := putAll (emitN a b (limX a b + 1)) []
theorem pairL_facts {a b : T} {g : M} (h : Two a b g) : Falls (pairL a b) ∧ coef (pairL a b) = addAllT (fun _ => 0) (emitN a b (limX a b + 1)) := putAll_facts _ [] (emit_tok h) falls_nil
/-- one step of a product: nothing, if it is too much. -/
def stepM (K : List T) (a b : T) : Option (List T) := if (a.m.sum b.m).ok = true ∧ (addL K (pairL a b)).length ≤ 400 then some (addL K (pairL a b)) else none
def rowM (K : List T) (a : T) (g : Nat → T) : Nat → Option (List T)
  | 0 => some K
  | k + 1 => (rowM K a g k).bind fun K' => stepM K' a (g k)
def mulM (f : Nat → T) (g : Nat → T) (lb : Nat) : Nat → Option (List T)
  | 0 => some []
  | i + 1 => (mulM f g lb i).bind fun K => rowM K (f i) g lb
theorem rowM_none {K : List T} {a : T} {g : Nat → T} {k : Nat} (h : rowM K a g k = none) : ∀ j, k ≤ j → rowM K a g j = none := fun j hj => by
  induction j with
  | zero =>
    have e : k = 0 := by omega
    rw [e] at h
    exact h
  | succ j ih =>
    by_cases e : k = j + 1
    · rw [← e]; exact h
    · rw [rowM, ih (by omega)]; rfl
theorem mulM_none {f g : Nat → T} {lb i : Nat} (h : mulM f g lb i = none) : ∀ j, i ≤ j → mulM f g lb j = none := fun j hj => by
  induction j with
  | zero =>
    have e : i = 0 := by omega
    rw [e] at h
    exact h
  | succ j ih =>
    by_cases e : i = j + 1
    · rw [← e]; exact h
    · rw [mulM, ih (by omega)]; rfl
def wylMul (f : Nat → T) (la : Nat) (g : Nat → T) (lb : Nat) : List T × Bool := if polOk la f = true ∧ polOk lb g = true then mulO (mulM f g lb la) else ([], false)
theorem rowM_len {K : List T} {a : T} {g : Nat → T} (hK : K.length ≤ 400) : ∀ k K', rowM K a g k = some K' → K'.length ≤ 400
  | 0, K', h => by cases h; exact hK
  | k + 1, K', h => by
    rw [rowM] at h
    cases hr : rowM K a g k with
    | none => rw [hr] at h; cases h
    | some K1 =>
      rw [hr] at h
      change stepM K1 a (g k) = some K' at h
      unfold stepM at h
      split at h
      · rename_i hh; cases h; exact hh.2
      · cases h
theorem mulM_len {f g : Nat → T} {lb : Nat} : ∀ i K, mulM f g lb i = some K → K.length ≤ 400
  | 0, K, h => by cases h; exact Nat.zero_le _
  | i + 1, K, h => by
    rw [mulM] at h
    cases hr : mulM f g lb i with
    | none => rw [hr] at h; cases h
    | some K1 =>
      rw [hr] at h
      exact rowM_len (mulM_len i K1 hr) lb K h
end Go.Proofs.Ytbkighpmkadmmaa
namespace Go.Proofs.Ytbkighpmkadmmaa
open Go.RowKit Go.Maps
set_option linter.unusedVariables false

end Go.Proofs.Ytbkighpmkadmmaa
