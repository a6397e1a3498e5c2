/-
  How the rows' readings of lists of operators are opened.
  Counting within a side: the mathematics of IdlFlat.
-/
import Derived.Test.YtmlaedpamobmhabGag
import Derived.ProofKit
import Derived.Deep.Slices
import Derived.Lib.SmallJoins
import Derived.Test.YtmlaedpamobmhabGal
namespace Go.Proofs.Ytmlaedpamobmhab
open Go.RowKit Go.Deep Go.Joins
set_option linter.unusedVariables false

/-- A slice of slices of terms that came in. -/
def IsLists (w : World) (a : Option Addr) (n cap : Nat) (ad : Nat → Option Addr) (ln cp : Nat → Nat) (f : Nat → Nat → T) : Prop :=
  n ≤ cap ∧ cap ≤ maxLen ∧ (n = 0 ∨ ∃ b off, a = some ⟨b, off, none⟩ ∧ b < w.heap.size ∧ ∀ i, i < n → w.cell? ⟨b, off + i, none⟩ = some (.slice (ad i) (ln i) (cp i))) ∧ ∀ i, i < n → IsTerms w (ad i) (ln i) (cp i) (f i)
theorem IsLists.rd {w : World} {a : Option Addr} {n cap : Nat} {ad : Nat → Option Addr} {ln cp : Nat → Nat} {f : Nat → Nat → T} (h : IsLists w a n cap ad ln cp f) (hn : n * 40 ≤ 140737488351232) (hl : ∀ i, i < n → ln i * 40 ≤ 140737488351232) : RdS w a n cap ad ln cp f :=
  ⟨h.1, hn, h.2.2.1, fun i hi => (h.2.2.2 i hi).rd (hl i hi)⟩
theorem cellsOfS : Try.prog.cellsOf 68 = 1 := by kernel_rfl
theorem slice_of_trod {H : Type} {enc : TypeId × Value → H} {w : World} {base : Nat} {spare : Nat → Bool} {held : Bool} {fuel : Nat} {v : Value} {x : DataW H × List MemPlace}
    (h : DataW.trod enc Try.prog w base spare held fuel 68 [v] = some x) : ∃ (t : Option Addr × Nat × Nat) (f : Nat → T), v = .slice t.1 t.2.1 t.2.2 ∧ IsTerms w t.1 t.2.1 t.2.2 f := by
  have h' := h
  rcases open_slice Try.underlying68 h with ⟨hc, _⟩ | ⟨ad, len, cp, m, k, D, Pl, hc, _⟩
  · simp at hc
    subst hc
    obtain ⟨f, hf⟩ := terms_open h'
    exact ⟨(none, 0, 0), f, rfl, hf⟩
  · simp at hc
    subst hc
    obtain ⟨f, hf⟩ := terms_open h'
    exact ⟨(some ad, len, cp), f, rfl, hf⟩
set_option maxRecDepth 100000 in
theorem lists_open {H : Type} {enc : TypeId × Value → H} {w : World} {base : Nat} {spare : Nat → Bool} {held : Bool} {fuel : Nat} {a : Option Addr} {n cap : Nat} {x : DataW H × List MemPlace}
    (h : DataW.trod enc Try.prog w base spare held fuel 41 [.slice a n cap] = some x) : ∃ ad ln cp f, IsLists w a n cap ad ln cp f := by
  rcases open_slice Try.underlying41 h with ⟨hc, _⟩ | ⟨ad, len, cp, m, k, D, Pl, hc, _, hl, hm, hmm, _, hx⟩
  · simp at hc
    obtain ⟨rfl, rfl, rfl⟩ := hc
    exact ⟨fun _ => none, fun _ => 0, fun _ => 0, fun _ _ => ⟨0, ⟨0, 0, 0, 0⟩⟩, Nat.le_refl _, Nat.zero_le _, .inl rfl, fun i hi => absurd hi (Nat.not_lt_zero _)⟩
  · simp at hc
    obtain ⟨rfl, rfl, rfl⟩ := hc
    by_cases h0 : n = 0
    · exact ⟨fun _ => none, fun _ => 0, fun _ => 0, fun _ _ => ⟨0, ⟨0, 0, 0, 0⟩⟩, hl, hm, .inl h0, fun i hi => by omega⟩
    have hnm : n ≤ m := by rw [hmm]; split <;> omega
    have each : ∀ i, i < n → ∃ t : (Option Addr × Nat × Nat) × (Nat → T), w.cell? (ad.add i) = some (.slice t.1.1 t.1.2.1 t.1.2.2) ∧ IsTerms w t.1.1 t.1.2.1 t.1.2.2 t.2 := by
      intro i hi
      obtain ⟨cs', h1, h2⟩ := hx i (by omega)
      rw [cellsOfS] at h1
      obtain ⟨_, hlen, hcell⟩ := World.cells?_some h1
      match cs', hlen with
      | [v0], _ =>
        obtain ⟨t, f, rfl, ht⟩ := slice_of_trod h2
        have c0 := hcell 0 (by omega)
        rw [add_add] at c0
        exact ⟨(t, f), by simpa using c0, ht⟩
    haveI : Inhabited ((Option Addr × Nat × Nat) × (Nat → T)) := ⟨((none, 0, 0), fun _ => ⟨0, ⟨0, 0, 0, 0⟩⟩)⟩
    obtain ⟨q, hq⟩ := choose_lt each
    obtain ⟨b, off, spot⟩ := ad
    have hs : spot = none := by
      have := World.cell?_spot (hq 0 (by omega)).1
      simpa [Addr.add] using this
    subst hs
    have hadd : ∀ j, (⟨b, off, none⟩ : Addr).add j = ⟨b, off + j, none⟩ := fun j => by unfold Addr.add; split <;> simp_all
    refine ⟨fun i => (q i).1.1, fun i => (q i).1.2.1, fun i => (q i).1.2.2, fun i => (q i).2, hl, hm, .inr ⟨b, off, rfl, ?_, fun i hi => ?_⟩, fun i hi => (hq i hi).2⟩
    · have := World.block_lt_of_cell? w _ (hq 0 (by omega)).1
      rw [hadd] at this
      exact this
    · have := (hq i hi).1
      rw [hadd] at this
      exact this
end Go.Proofs.Ytmlaedpamobmhab
namespace Go.Proofs.Ytmlaedpamobmhab
open Go.RowKit
set_option linter.unusedVariables false

/-- the sum of the first n. -/
def sumN (φ : Nat → Nat) : Nat → Nat
  | 0 => 0
  | n + 1 => sumN φ n + φ n
theorem sumN_congr {φ ψ : Nat → Nat} : ∀ {n : Nat}, (∀ i, i < n → φ i = ψ i) → sumN φ n = sumN ψ n
  | 0, _ => rfl
  | n + 1, h => by
    show sumN φ n + φ n = sumN ψ n + ψ n
    rw [sumN_congr (fun i hi => h i (by omega)), h n (by omega)]
theorem sumN_add (φ ψ : Nat → Nat) : ∀ n, sumN (fun i => φ i + ψ i) n = sumN φ n + sumN ψ n
  | 0 => rfl
  | n + 1 => by
    show sumN (fun i => φ i + ψ i) n + (φ n + ψ n) = (sumN φ n + φ n) + (sumN ψ n + ψ n)
    rw [sumN_add φ ψ n]
    omega
theorem sumN_zero : ∀ n, sumN (fun _ => 0) n = 0
  | 0 => rfl
  | n + 1 => by show sumN (fun _ => 0) n + 0 = 0; rw [sumN_zero n]
theorem sumN_swap (φ : Nat → Nat → Nat) (m : Nat) : ∀ n, sumN (fun i => sumN (φ i) m) n = sumN (fun k => sumN (fun i => φ i k) n) m
  | 0 => (sumN_zero m).symm
  | n + 1 => by
    show sumN (fun i => sumN (φ i) m) n + sumN (φ n) m = _
    rw [sumN_swap φ m n, ← sumN_add]
    rfl
theorem sumN_split (φ : Nat → Nat) (a : Nat) : ∀ b, sumN φ (a + b) = sumN φ a + sumN (fun i => φ (a + i)) b
  | 0 => rfl
  | b + 1 => by
    show sumN φ (a + b) + φ (a + b) = sumN φ a + (sumN (fun i => φ (a + i)) b + φ (a + b))
    rw [sumN_split φ a b]
    omega
/-- a number's last digit and the rest. -/
theorem sumN_digits (φ : Nat → Nat → Nat) {b : Nat} (hb : 0 < b) : ∀ c, sumN (fun n => φ (n % b) (n / b)) (b * c) = sumN (fun k => sumN (fun i => φ i k) b) c
  | 0 => rfl
  | c + 1 => by
    show sumN (fun n => φ (n % b) (n / b)) (b * c + b) = sumN (fun k => sumN (fun i => φ i k) b) c + sumN (fun i => φ i c) b
    rw [sumN_split, sumN_digits φ hb c]
    congr 1
    refine sumN_congr fun i hi => ?_
    show φ ((b * c + i) % b) ((b * c + i) / b) = φ i c
    rw [Nat.mul_add_mod, Nat.mod_eq_of_lt hi, Nat.mul_add_div hb, Nat.div_eq_of_lt hi, Nat.add_zero]
/-- the four digits of a number, and four loops. -/
theorem sum_four (φ : Nat → Nat → Nat → Nat → Nat) {b : Nat} (hb : 0 < b) :
    sumN (fun n => φ (n % b) (n / b % b) (n / b / b % b) (n / b / b / b)) (b * (b * (b * b))) = sumN (fun x => sumN (fun y => sumN (fun d => sumN (fun e => φ x y d e) b) b) b) b := by
  rw [sumN_digits (fun x k => φ x (k % b) (k / b % b) (k / b / b)) hb (b * (b * b))]
  rw [sumN_digits (fun y k => sumN (fun x => φ x y (k % b) (k / b)) b) hb (b * b)]
  rw [sumN_digits (fun d e => sumN (fun y => sumN (fun x => φ x y d e) b) b) hb b]
  -- e d y x: turned to x y d e
  have h1 : ∀ e, sumN (fun d => sumN (fun y => sumN (fun x => φ x y d e) b) b) b = sumN (fun x => sumN (fun y => sumN (fun d => φ x y d e) b) b) b := fun e => by
    have s1 : sumN (fun d => sumN (fun y => sumN (fun x => φ x y d e) b) b) b = sumN (fun d => sumN (fun x => sumN (fun y => φ x y d e) b) b) b := sumN_congr fun d _ => sumN_swap (fun y x => φ x y d e) b b
    rw [s1, sumN_swap (fun d x => sumN (fun y => φ x y d e) b) b b]
    exact sumN_congr fun x _ => sumN_swap (fun d y => φ x y d e) b b
  rw [sumN_congr (fun e _ => h1 e), sumN_swap (fun e x => sumN (fun y => sumN (fun d => φ x y d e) b) b) b b]
  refine sumN_congr fun x _ => ?_
  rw [sumN_swap (fun e y => sumN (fun d => φ x y d e) b) b b]
  refine sumN_congr fun y _ => ?_
  exact sumN_swap (fun e d => φ x y d e) b b
/-- a monomial that is counted. -/
def fm (x y d e : Nat) : M := ⟨x, y, d, e⟩
def fGood (o : Int) (n : Nat) (ln : Nat → Nat) (f : Nat → Nat → T) (m : M) : Bool := decide (idxF (fun t => M.dvd t.m m) (ldAt o ln f) n < 0)
def fEdge (s : Nat) (x y d e : Nat) : Bool := decide (x = s ∨ y = s ∨ d = s ∨ e = s)
/-- how many are counted, and how many of these have one as great as the side. -/
def flatN (o : Int) (n : Nat) (ln : Nat → Nat) (f : Nat → Nat → T) (s : Nat) : Nat := sumN (fun x => sumN (fun y => sumN (fun d => sumN (fun e => if fGood o n ln f (fm x y d e) = true then 1 else 0) (s + 1)) (s + 1)) (s + 1)) (s + 1)
def flatE (o : Int) (n : Nat) (ln : Nat → Nat) (f : Nat → Nat → T) (s : Nat) : Nat := sumN (fun x => sumN (fun y => sumN (fun d => sumN (fun e => if fGood o n ln f (fm x y d e) = true ∧ fEdge s x y d e = true then 1 else 0) (s + 1)) (s + 1)) (s + 1)) (s + 1)
def idlFlat (o : Int) (n : Nat) (ln : Nat → Nat) (f : Nat → Nat → T) (side : Int) : Int × Bool :=
  if (1 ≤ o ∧ o ≤ 3) ∧ lstOk n ln f = true ∧ 0 ≤ side ∧ side ≤ 6 then ((flatN o n ln f side.toNat : Int), decide (flatE o n ln f side.toNat = 0)) else (0, false)
end Go.Proofs.Ytmlaedpamobmhab
