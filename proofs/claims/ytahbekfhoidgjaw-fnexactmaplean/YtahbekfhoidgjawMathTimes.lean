/-
  What a sum's numbers are behind an operator, so many times.
-/
import Derived.Test.YtahbekfhoidgjawFlOk
import Derived.Test.YtahbekfhoidgjawSumT
namespace Go.Proofs.Ytahbekfhoidgjaw
open Go.RowKit
set_option linter.unusedVariables false

theorem fromC_skip {f : Nat → T} {m : M} : ∀ (u i : Nat), (f (i + u)).m ≠ m → fromC f (u + 1) i m = fromC f u i m
  | 0, i, h => by
    show (if meqB (f i).m m = true then (f i).c else 0) = 0
    exact if_neg (fun e => h (meqB_iff.1 e))
  | u + 1, i, h => by
    have := fromC_skip (f := f) (m := m) u (i + 1) (by rw [show i + 1 + u = i + (u + 1) by omega]; exact h)
    show (if meqB (f i).m m = true then (f i).c else fromC f (u + 1) (i + 1) m) = (if meqB (f i).m m = true then (f i).c else fromC f u (i + 1) m)
    rw [this]
theorem fromC_hit {f : Nat → T} {m : M} : ∀ (u i : Nat), (∀ j, i ≤ j → j < i + u → (f j).m ≠ m) → (f (i + u)).m = m → fromC f (u + 1) i m = (f (i + u)).c
  | 0, i, _, h => by
    show (if meqB (f i).m m = true then (f i).c else 0) = (f i).c
    exact if_pos (meqB_iff.2 h)
  | u + 1, i, h0, h => by
    rw [fromC, if_neg (fun e => h0 i (Nat.le_refl _) (by omega) (meqB_iff.1 e))]
    have := fromC_hit (f := f) (m := m) u (i + 1) (fun j h1 h2 => h0 j (by omega) (by omega)) (by rw [show i + 1 + u = i + (u + 1) by omega]; exact h)
    rw [this, show i + 1 + u = i + (u + 1) by omega]
theorem timesC_is {k : Int} {f : Nat → T} {c : M → Int} {n : Nat} (F : Fl f n) (hc : ∀ m, 0 ≤ c m ∧ c m ≤ 100) : ∀ (i : Nat), i ≤ n → ∀ m, timesC k f c i m = (c m + k * fromC f i 0 m % 101) % 101
  | 0, _, m => by
    have := hc m
    simp only [timesC, fromC, Int.mul_zero]
    omega
  | i + 1, hi, m => by
    have ih := timesC_is (k := k) F hc i (by omega)
    simp only [timesC]
    by_cases hm : m = (f i).m
    · subst hm
      rw [updC_same, ih]
      have h0 : fromC f i 0 (f i).m = 0 := fromC_none i 0 (fun j _ h2 e => by have := F.1 j i (by omega) (by omega); rw [e] at this; omega)
      have h1 : fromC f (i + 1) 0 (f i).m = (f i).c := by
        have := fromC_hit (f := f) (m := (f i).m) i 0 (fun j _ h2 e => by have := F.1 j i (by omega) (by omega); rw [e] at this; omega) (by rw [Nat.zero_add])
        rw [this, Nat.zero_add]
      rw [h0, h1]
      have := hc (f i).m
      simp only [Int.mul_zero]
      omega
    · rw [updC_other hm, ih, fromC_skip i 0 (by rw [Nat.zero_add]; exact fun e => hm e.symm)]
/-- what the sum of a and c times b has as its numbers. -/
theorem sum_two {c : Int} {f g : Nat → T} {la lb : Nat} (F : Fl f la) (G : Fl g lb) (m : M) : timesC c g (timesC 1 f (fun _ => 0) la) lb m = (fromC f la 0 m + c * fromC g lb 0 m) % 101 := by
  have hz : ∀ m : M, (0 : Int) ≤ (fun _ => 0 : M → Int) m ∧ (fun _ => 0 : M → Int) m ≤ 100 := fun _ => ⟨Int.le_refl _, by show (0 : Int) ≤ 100; decide⟩
  have h1 := timesC_is (k := 1) F hz la (Nat.le_refl _)
  have h2 := timesC_is (k := c) G (c := timesC 1 f (fun _ => 0) la) (fun m => by rw [h1]; omega) lb (Nat.le_refl _) m
  rw [h2, h1]
  simp only [Int.one_mul]
  omega
end Go.Proofs.Ytahbekfhoidgjaw
