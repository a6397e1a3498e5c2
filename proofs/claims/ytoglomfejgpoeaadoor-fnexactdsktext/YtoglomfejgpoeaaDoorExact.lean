/-
  What the exact laws lean on besides: terms in memory behind marks elsewhere.
-/
import Derived.Test.YtoglomfejgpoeaaDoorAdd
import Derived.Test.YtoglomfejgpoeaaDoorOpen
namespace Go.Proofs.YtoglomfejgpoeaaDoor
open Go.RowKit
set_option linter.unusedVariables false

theorem termsEq_same (n : Nat) (f : Nat → T) : termsEq n f n f = true := by
  simp only [termsEq, decide_eq_true_eq]
  exact ⟨trivial, fun i _ => T.eqB_iff.2 rfl⟩
theorem Wr.grown {w w' : World} {a : Option Addr} {n : Nat} {f : Nat → T} {row : Option Nat} (h : Wr w a n f) (hg : w.grownBy w' row) (hne : n = 0 ∨ ∀ b off, a = some ⟨b, off, none⟩ → some b ≠ row) : Wr w' a n f := by
  rcases h with h0 | ⟨g, off, N, F, rfl, hR, hN, hF⟩
  · exact .inl h0
  · rcases hne with h0 | hne
    · exact .inl h0
    · exact .inr ⟨g, off, N, F, rfl, hR.of_block (hg.block g hR.lt (hne g off rfl)), hN, hF⟩
theorem Own.wr {w : World} {g n : Nat} {f : Nat → T} (h : Own w g n f) : Wr w (some ⟨g, 0, none⟩) n f :=
  .inr ⟨g, 0, n * 5, cf f, rfl, h, by omega, fun j hj => by rw [Nat.zero_add]⟩
theorem Wr.rd {w : World} {a : Option Addr} {n cap : Nat} {f : Nat → T} (h : Wr w a n f) (hc : n ≤ cap) (hn : n * 40 ≤ 140737488351232) : Rd w a n cap f := by
  refine ⟨hc, hn, ?_⟩
  rcases h with h0 | ⟨g, off, N, F, rfl, hR, hN, hF⟩
  · exact .inl h0
  · have hcell : ∀ j, j < n * 5 → w.cell? ⟨g, off + j, none⟩ = some (cf f j) := fun j hj => by rw [hR.cell (by omega), hF j hj]
    refine .inr ⟨g, off, rfl, hR.lt, fun i hi => ?_⟩
    have e1 : off + i * 5 + 1 = off + (i * 5 + 1) := by omega
    have e2 : off + i * 5 + 2 = off + (i * 5 + 2) := by omega
    have e3 : off + i * 5 + 3 = off + (i * 5 + 3) := by omega
    have e4 : off + i * 5 + 4 = off + (i * 5 + 4) := by omega
    exact ⟨by rw [hcell _ (by omega), cf0], by rw [e1, hcell _ (by omega), cf1], by rw [e2, hcell _ (by omega), cf2], by rw [e3, hcell _ (by omega), cf3], by rw [e4, hcell _ (by omega), cf4]⟩
theorem bel_grown {w w1 w2 : World} {row : Option Nat} (h : Below w.heap.size w w1) (hg : w1.grownBy w2 row) (hr : ∀ k, row = some k → w.heap.size ≤ k) : Below w.heap.size w w2 := h.grown hg h.size hr
/-- Where a slice of terms lies: below a block number. -/
def Under (a : Option Addr) (n B : Nat) : Prop := n = 0 ∨ ∀ b off, a = some ⟨b, off, none⟩ → b < B
/-- .. from a block number on. -/
def From (a : Option Addr) (n B : Nat) : Prop := n = 0 ∨ ∀ b off, a = some ⟨b, off, none⟩ → B ≤ b
theorem Rd.under {w : World} {a : Option Addr} {n cap : Nat} {f : Nat → T} (h : Rd w a n cap f) : Under a n w.heap.size := by
  rcases h.2.2 with h0 | ⟨b, off, rfl, hlt, _⟩
  · exact .inl h0
  · exact .inr fun b' off' e => by cases e; exact hlt
theorem Out.from {lo : Nat} {w : World} {a : Option Addr} {cap : Nat} {L : List T} (h : Out lo w a cap L) : From a L.length lo := by
  rcases h.2.2 with h0 | ⟨g, off, rfl, hlo⟩
  · exact .inl h0
  · exact .inr fun b' off' e => by cases e; exact hlo
theorem Under.off {a : Option Addr} {n B X : Nat} (h : Under a n B) (hX : B ≤ X) : n = 0 ∨ ∀ b off, a = some ⟨b, off, none⟩ → some b ≠ some X := by
  rcases h with h0 | h
  · exact .inl h0
  · exact .inr fun b off e => by have := h b off e; simp; omega
theorem From.off {a : Option Addr} {n B X : Nat} (h : From a n B) (hX : X < B) : n = 0 ∨ ∀ b off, a = some ⟨b, off, none⟩ → some b ≠ some X := by
  rcases h with h0 | h
  · exact .inl h0
  · exact .inr fun b off e => by have := h b off e; simp; omega
theorem Under.mono {a : Option Addr} {n B B' : Nat} (h : Under a n B) (hB : B ≤ B') : Under a n B' := by
  rcases h with h0 | h
  · exact .inl h0
  · exact .inr fun b off e => Nat.lt_of_lt_of_le (h b off e) hB
/-- Two slices that lie apart: a mark in one is none in the other. -/
theorem apart {a c : Option Addr} {n m B : Nat} (h : Under a n B) (k : From c m B) (hm : m ≠ 0) {w : World} {f : Nat → T} (hw : Wr w c m f) : n = 0 ∨ ∀ b off, a = some ⟨b, off, none⟩ → some b ≠ c.map (·.block) := by
  rcases h with h0 | h
  · exact .inl h0
  · rcases k with k0 | k
    · exact absurd k0 hm
    · rcases hw with w0 | ⟨g, off, N, F, rfl, _⟩
      · exact absurd w0 hm
      · exact .inr fun b off' e => by
          have h1 := h b off' e
          have h2 := k g off rfl
          simp
          omega
theorem polAdd_len (f : Nat → T) (la : Nat) (g : Nat → T) (lb : Nat) : (polAdd f la g lb).1.length ≤ 400 := by
  unfold polAdd
  split
  · rename_i h; exact h.2.2
  · simp
end Go.Proofs.YtoglomfejgpoeaaDoor
