/-
  A sum while it is made, as the numbers of its monomials.
-/
import Derived.Test.YtioecpiogpjlaaaMapK
namespace Go.Proofs.Ytioecpiogpjlaaa
open Go.RowKit Go.Maps
set_option linter.unusedVariables false

theorem keyM_inj {a b : M} (ha : a.ok = true) (hb : b.ok = true) (h : keyM a = keyM b) : a = b := by
  have h1 := keyOfM ha
  have h2 := keyOfM hb
  rw [← h] at h2
  have h3 := lawM.inj h1 h2
  cases a; cases b
  simpa using h3
/-- the map in block b (of at most n entries) is the sum whose monomial m has the number c m. -/
def SumR (w : World) (b n : Nat) (c : M → Int) : Prop :=
  ∃ D : DataW Unit, w.ownsMap Try.prog 38 (plainElem Try.prog 54) b n D ∧ (∀ m, 0 ≤ c m ∧ c m ≤ 100) ∧
    (∀ m : M, m.ok = true → D.atKey (keyM m) (.lit (.int .i64 0)) = .lit (.int .i64 (c m)) ∧ (Maps.has D (keyM m) = true ↔ c m ≠ 0)) ∧ (∀ kl, Maps.has D kl = true → ∃ m : M, m.ok = true ∧ kl = keyM m)
def meq (a b : M) : Bool := decide (a.x = b.x ∧ a.y = b.y ∧ a.d = b.d ∧ a.e = b.e)
theorem meq_iff {a b : M} : meq a b = true ↔ a = b := by cases a; cases b; simp [meq]
def updC (c : M → Int) (m : M) (v : Int) (x : M) : Int := if meq x m = true then (c m + v) % 101 else c x
theorem updC_same (c : M → Int) (m : M) (v : Int) : updC c m v m = (c m + v) % 101 := if_pos (meq_iff.2 rfl)
theorem updC_other {c : M → Int} {m x : M} {v : Int} (h : x ≠ m) : updC c m v x = c x := if_neg (fun e => h (meq_iff.1 e))
theorem SumR.grown {w w' : World} {b n : Nat} {c : M → Int} {row : Option Nat} (h : SumR w b n c) (hg : w.grownBy w' row) (hne : some b ≠ row) : SumR w' b n c := by
  obtain ⟨D, ⟨es, clock, h1, h2, h3, h4⟩, h5⟩ := h
  have hlt : b < w.heap.size := by
    rcases Nat.lt_or_ge b w.heap.size with h | h
    · exact h
    · rw [Array.getElem?_eq_none h] at h1; cases h1
  exact ⟨D, ⟨es, clock, (hg.block b hlt hne).trans h1, h2, h3, h4⟩, h5⟩
theorem sumAddR (b n : Nat) (c : M → Int) (v : Int) (m : M) (w : World) (hm : m.ok = true) (h : SumR w b n c) (hn : n < maxLen) (h0 : 0 ≤ v) (h1 : v ≤ 100) :
    Calls Try.prog 36 #[.map (some b), .int .i64 v, .agg #[.int .i64 m.x, .int .i64 m.y, .int .i64 m.d, .int .i64 m.e]] w fun e w' => e = .returned (.tuple #[]) ∧ SumR w' b (n + 1) (updC c m v) ∧ w.grownBy w' (some b) := by
  obtain ⟨D, hown, hc, hat, hks⟩ := h
  have hD : IsMap D := (hown.tidy lawM).isMap
  have hK : WideAt.IsKeyLit (keyM m) := lawM.key (keyOfM hm)
  refine (sumAdd b n D (c m) v m w hm hown hn (hat m hm).1 (hc m).1 (hc m).2 h0 h1).mono ?_
  rintro e w' ⟨rfl, ho, hg⟩
  refine ⟨rfl, ⟨_, ho, fun x => ?_, fun x hx => ?_, fun kl hkl => ?_⟩, hg⟩
  · unfold updC
    split
    · omega
    · exact hc x
  · by_cases hxm : x = m
    · subst hxm
      rw [updC_same]
      unfold addD
      split
      · rename_i hz
        rw [atKey_del_same, has_del_same, hz]
        exact ⟨rfl, by simp⟩
      · rename_i hz
        rw [atKey_put_same hD hK, has_put_same hD hK]
        exact ⟨rfl, by simp [hz]⟩
    · have hne : keyM x ≠ keyM m := fun e => hxm (keyM_inj hx hm e)
      rw [updC_other hxm]
      unfold addD
      split
      · rw [atKey_del_other hne, has_del_other hne]; exact hat x hx
      · rw [atKey_put_other hne, has_put_other hne]; exact hat x hx
  · by_cases hkm : kl = keyM m
    · exact ⟨m, hm, hkm⟩
    · unfold addD at hkl
      split at hkl
      · rw [has_del_other hkm] at hkl; exact hks kl hkl
      · rw [has_put_other hkm] at hkl; exact hks kl hkl
end Go.Proofs.Ytioecpiogpjlaaa
