/-
  How the rows' readings of lists of operators are opened.
-/
import Derived.Test.YtkoaiogakkldgaaGag
import Derived.ProofKit
import Derived.Deep.Slices
import Derived.Lib.SmallJoins
namespace Go.Proofs.Ytkoaiogakkldgaa
open Go.RowKit Go.Deep Go.Joins
set_option linter.unusedVariables false

/-- A slice of slices of terms that came in. -/
def IsLists (w : World) (a : Option Addr) (n cap : Nat) (ad : Nat → Option Addr) (ln cp : Nat → Nat) (f : Nat → Nat → T) : Prop :=
  n ≤ cap ∧ cap ≤ maxLen ∧ (n = 0 ∨ ∃ b off, a = some ⟨b, off, none⟩ ∧ b < w.heap.size ∧ ∀ i, i < n → w.cell? ⟨b, off + i, none⟩ = some (.slice (ad i) (ln i) (cp i))) ∧ ∀ i, i < n → IsTerms w (ad i) (ln i) (cp i) (f i)
theorem IsLists.rd {w : World} {a : Option Addr} {n cap : Nat} {ad : Nat → Option Addr} {ln cp : Nat → Nat} {f : Nat → Nat → T} (h : IsLists w a n cap ad ln cp f) (hn : n * 40 ≤ 140737488351232) (hl : ∀ i, i < n → ln i * 40 ≤ 140737488351232) : RdS w a n cap ad ln cp f :=
  ⟨h.1, hn, h.2.2.1, fun i hi => (h.2.2.2 i hi).rd (hl i hi)⟩
theorem cellsOfS : Try.prog.cellsOf 34 = 1 := by kernel_rfl
theorem slice_of_trod {H : Type} {enc : TypeId × Value → H} {w : World} {base : Nat} {spare : Nat → Bool} {held : Bool} {fuel : Nat} {v : Value} {x : DataW H × List MemPlace}
    (h : DataW.trod enc Try.prog w base spare held fuel 34 [v] = some x) : ∃ (t : Option Addr × Nat × Nat) (f : Nat → T), v = .slice t.1 t.2.1 t.2.2 ∧ IsTerms w t.1 t.2.1 t.2.2 f := by
  have h' := h
  rcases open_slice Try.underlying34 h with ⟨hc, _⟩ | ⟨ad, len, cp, m, k, D, Pl, hc, _⟩
  · simp at hc
    subst hc
    obtain ⟨f, hf⟩ := terms_open h'
    exact ⟨(none, 0, 0), f, rfl, hf⟩
  · simp at hc
    subst hc
    obtain ⟨f, hf⟩ := terms_open h'
    exact ⟨(some ad, len, cp), f, rfl, hf⟩
set_option maxRecDepth 100000 in
theorem lists_open {H : Type} {enc : TypeId × Value → H} {w : World} {base : Nat} {spare : Nat → Bool} {held : Bool} {fuel : Nat} {a : Option Addr} {n cap : Nat} {x : DataW H × List MemPlace}
    (h : DataW.trod enc Try.prog w base spare held fuel 22 [.slice a n cap] = some x) : ∃ ad ln cp f, IsLists w a n cap ad ln cp f := by
  rcases open_slice Try.underlying22 h with ⟨hc, _⟩ | ⟨ad, len, cp, m, k, D, Pl, hc, _, hl, hm, hmm, _, hx⟩
  · simp at hc
    obtain ⟨rfl, rfl, rfl⟩ := hc
    exact ⟨fun _ => none, fun _ => 0, fun _ => 0, fun _ _ => ⟨0, ⟨0, 0, 0, 0⟩⟩, Nat.le_refl _, Nat.zero_le _, .inl rfl, fun i hi => absurd hi (Nat.not_lt_zero _)⟩
  · simp at hc
    obtain ⟨rfl, rfl, rfl⟩ := hc
    by_cases h0 : n = 0
    · exact ⟨fun _ => none, fun _ => 0, fun _ => 0, fun _ _ => ⟨0, ⟨0, 0, 0, 0⟩⟩, hl, hm, .inl h0, fun i hi => by omega⟩
    have hnm : n ≤ m := by rw [hmm]; split <;> omega
    have each : ∀ i, i < n → ∃ t : (Option Addr × Nat × Nat) × (Nat → T), w.cell? (ad.add i) = some (.slice t.1.1 t.1.2.1 t.1.2.2) ∧ IsTerms w t.1.1 t.1.2.1 t.1.2.2 t.2 := by
      intro i hi
      obtain ⟨cs', h1, h2⟩ := hx i (by omega)
      rw [cellsOfS] at h1
      obtain ⟨_, hlen, hcell⟩ := World.cells?_some h1
      match cs', hlen with
      | [v0], _ =>
        obtain ⟨t, f, rfl, ht⟩ := slice_of_trod h2
        have c0 := hcell 0 (by omega)
        rw [add_add] at c0
        exact ⟨(t, f), by simpa using c0, ht⟩
    haveI : Inhabited ((Option Addr × Nat × Nat) × (Nat → T)) := ⟨((none, 0, 0), fun _ => ⟨0, ⟨0, 0, 0, 0⟩⟩)⟩
    obtain ⟨q, hq⟩ := choose_lt each
    obtain ⟨b, off, spot⟩ := ad
    have hs : spot = none := by
      have := World.cell?_spot (hq 0 (by omega)).1
      simpa [Addr.add] using this
    subst hs
    have hadd : ∀ j, (⟨b, off, none⟩ : Addr).add j = ⟨b, off + j, none⟩ := fun j => by unfold Addr.add; split <;> simp_all
    refine ⟨fun i => (q i).1.1, fun i => (q i).1.2.1, fun i => (q i).1.2.2, fun i => (q i).2, hl, hm, .inr ⟨b, off, rfl, ?_, fun i hi => ?_⟩, fun i hi => (hq i hi).2⟩
    · have := World.block_lt_of_cell? w _ (hq 0 (by omega)).1
      rw [hadd] at this
      exact this
    · have := (hq i hi).1
      rw [hadd] at this
      exact this
end Go.Proofs.Ytkoaiogakkldgaa
