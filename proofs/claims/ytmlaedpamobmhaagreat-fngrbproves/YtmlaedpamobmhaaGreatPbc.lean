/-
  The first of some terms that is wanted, and whether there is one: the program.
  The greatest terms of a list of operators: the program.
  The two terms of a pair of operators: the program and the model.
-/
import Derived.Test.YtmlaedpamobmhaaGreatPbb
import Derived.Shelf.Abstract
import Derived.Test.YtmlaedpamobmhaaGreatPaz
import Derived.Deep.RegionHeld3
import Derived.Deep.Light
namespace Go.Proofs.YtmlaedpamobmhaaGreat
open Go.RowKit Go.Deep Go.Joins
set_option linter.unusedVariables false

/-- the place of the first of the first terms that is wanted; -1, if there is none. -/
def idxF (p : T → Bool) (f : Nat → T) : Nat → Int
  | 0 => -1
  | n + 1 => if 0 ≤ idxF p f n then idxF p f n else if p (f n) = true then (n : Int) else -1
theorem idx_none {p : T → Bool} {f : Nat → T} : ∀ {k : Nat}, (∀ j, j < k → p (f j) = false) → idxF p f k = -1
  | 0, _ => rfl
  | k + 1, h => by
    have h1 := idx_none (p := p) (f := f) (k := k) (fun j hj => h j (by omega))
    unfold idxF
    rw [h1, if_neg (by omega), if_neg (by rw [h k (by omega)]; decide)]
theorem idx_hit {p : T → Bool} {f : Nat → T} {k : Nat} (h : ∀ j, j < k → p (f j) = false) (hk : p (f k) = true) : ∀ n, k < n → idxF p f n = (k : Int)
  | 0, h0 => by omega
  | n + 1, h0 => by
    by_cases e : k = n
    · subst e
      unfold idxF
      rw [idx_none h, if_neg (by omega), if_pos hk]
    · have h1 := idx_hit h hk n (by omega)
      unfold idxF
      rw [h1, if_pos (by omega)]
theorem idx_iff {p : T → Bool} {f : Nat → T} : ∀ {n : Nat}, 0 ≤ idxF p f n ↔ ∃ i, i < n ∧ p (f i) = true
  | 0 => ⟨fun h => absurd (show (0 : Int) ≤ -1 from h) (by decide), fun ⟨_, h, _⟩ => by omega⟩
  | n + 1 => by
    have ih := idx_iff (p := p) (f := f) (n := n)
    unfold idxF
    by_cases h : 0 ≤ idxF p f n
    · rw [if_pos h]
      exact ⟨fun _ => by obtain ⟨i, hi, hp⟩ := ih.1 h; exact ⟨i, by omega, hp⟩, fun _ => h⟩
    · rw [if_neg h]
      by_cases hp : p (f n) = true
      · rw [if_pos hp]
        exact ⟨fun _ => ⟨n, by omega, hp⟩, fun _ => by omega⟩
      · rw [if_neg hp]
        refine ⟨fun hh => absurd hh (by decide), fun ⟨i, hi, hpi⟩ => ?_⟩
        by_cases e : i = n
        · subst e; exact absurd hpi hp
        · exact absurd (ih.2 ⟨i, by omega, hpi⟩) h
end Go.Proofs.YtmlaedpamobmhaaGreat
namespace Go.Proofs.YtmlaedpamobmhaaGreat
open Go.RowKit Go.Deep Go.Joins
set_option linter.unusedVariables false

end Go.Proofs.YtmlaedpamobmhaaGreat
namespace Go.Proofs.YtmlaedpamobmhaaGreat
open Go.RowKit Go.Deep Go.Joins
set_option linter.unusedVariables false

/-- the term that, times a greatest term, is 1 times a monomial. -/
def sprT (l : T) (b : M) : T := ⟨fInv l.c, (M.over b l.m).1⟩
def sprOk (o : Int) (n : Nat) (f : Nat → T) (m : Nat) (g : Nat → T) : Bool := leadOk o n f && leadOk o m g
def sprB (o : Int) (n : Nat) (f : Nat → T) (m : Nat) (g : Nat → T) : M := M.both (leadT o n f).m (leadT o m g).m
def sprU (o : Int) (n : Nat) (f : Nat → T) (m : Nat) (g : Nat → T) : T := if sprOk o n f m g = true then sprT (leadT o n f) (sprB o n f m g) else zeroT
def sprV (o : Int) (n : Nat) (f : Nat → T) (m : Nat) (g : Nat → T) : T := if sprOk o n f m g = true then sprT (leadT o m g) (sprB o n f m g) else zeroT
end Go.Proofs.YtmlaedpamobmhaaGreat
