/-
  How the rows' readings of terms are opened: a slice of terms that came in is a row of numbers, five a term.
-/
import Derived.Test.YtoglomfejgpoeaaDoorHelp
import Derived.ProofKit
import Derived.Deep.Slices
import Derived.Lib.SmallJoins
namespace Go.Proofs.YtoglomfejgpoeaaDoor
open Go.RowKit Go.Deep Go.Joins
set_option linter.unusedVariables false

/-- A slice of terms that came in. -/
def IsTerms (w : World) (a : Option Addr) (n cap : Nat) (f : Nat → T) : Prop :=
  n ≤ cap ∧ cap ≤ maxLen ∧ (n = 0 ∨ ∃ b off, a = some ⟨b, off, none⟩ ∧ b < w.heap.size ∧ ∀ i, i < n → Cells w b (off + i * 5) (f i))
theorem IsTerms.rd {w : World} {a : Option Addr} {n cap : Nat} {f : Nat → T} (h : IsTerms w a n cap f) (hn : n * 40 ≤ 140737488351232) : Rd w a n cap f := ⟨h.1, hn, h.2.2⟩
theorem cellsOfT : Tryd.prog.cellsOf 62 = 5 := by kernel_rfl
theorem cellsOfM : Tryd.prog.cellsOf 60 = 4 := by kernel_rfl
theorem cellsOfI : Tryd.prog.cellsOf 3 = 1 := by kernel_rfl
set_option maxRecDepth 100000 in
theorem terms_open {H : Type} {enc : TypeId × Value → H} {w : World} {base : Nat} {spare : Nat → Bool} {held : Bool} {fuel : Nat} {a : Option Addr} {n cap : Nat} {x : DataW H × List MemPlace}
    (h : DataW.trod enc Tryd.prog w base spare held fuel 22 [.slice a n cap] = some x) : ∃ f, IsTerms w a n cap f := by
  rcases open_slice Tryd.underlying22 h with ⟨hc, _⟩ | ⟨ad, len, cp, m, k, D, Pl, hc, _, hl, hm, hmm, _, hx⟩
  · simp at hc
    obtain ⟨rfl, rfl, rfl⟩ := hc
    exact ⟨fun _ => ⟨0, ⟨0, 0, 0, 0⟩⟩, Nat.le_refl _, Nat.zero_le _, .inl rfl⟩
  · simp at hc
    obtain ⟨rfl, rfl, rfl⟩ := hc
    by_cases h0 : n = 0
    · exact ⟨fun _ => ⟨0, ⟨0, 0, 0, 0⟩⟩, hl, hm, .inl h0⟩
    have hnm : n ≤ m := by rw [hmm]; split <;> omega
    have each : ∀ i, i < n → ∃ t : Int × Int × Int × Int × Int, w.cell? (ad.add (i * 5)) = some (.int .i64 t.1) ∧ w.cell? (ad.add (i * 5 + 1)) = some (.int .i64 t.2.1) ∧ w.cell? (ad.add (i * 5 + 2)) = some (.int .i64 t.2.2.1) ∧ w.cell? (ad.add (i * 5 + 3)) = some (.int .i64 t.2.2.2.1) ∧ w.cell? (ad.add (i * 5 + 4)) = some (.int .i64 t.2.2.2.2) := by
      intro i hi
      obtain ⟨cs', h1, h2⟩ := hx i (by omega)
      rw [cellsOfT] at h1
      obtain ⟨_, hlen, hcell⟩ := World.cells?_some h1
      obtain ⟨xs, kk, hk, hxy, _, hxl, hf⟩ := DataW.trod_struct Tryd.underlying62 h2
      match cs', hlen, xs, hxl with
      | [v0, v1, v2, v3, v4], _, [p0, p1], _ =>
        have g0 := hf 0 _ rfl
        have g1 := hf 1 _ rfl
        simp [cellsOfI, cellsOfM] at g0 g1
        obtain ⟨y0, y1, y2, y3, n4, _, _, q0, q1, q2, q3⟩ := trod_struct4 Tryd.underlying60 g1
        simp [cellsOfI] at q0 q1 q2 q3
        obtain ⟨z0, e0, _, _⟩ := DataW.trod_int Tryd.underlying3 g0
        obtain ⟨z1, e1, _, _⟩ := DataW.trod_int Tryd.underlying3 q0
        obtain ⟨z2, e2, _, _⟩ := DataW.trod_int Tryd.underlying3 q1
        obtain ⟨z3, e3, _, _⟩ := DataW.trod_int Tryd.underlying3 q2
        obtain ⟨z4, e4, _, _⟩ := DataW.trod_int Tryd.underlying3 q3
        simp at e0 e1 e2 e3 e4
        subst e0 e1 e2 e3 e4
        have c0 := hcell 0 (by omega)
        have c1 := hcell 1 (by omega)
        have c2 := hcell 2 (by omega)
        have c3 := hcell 3 (by omega)
        have c4 := hcell 4 (by omega)
        rw [add_add] at c0 c1 c2 c3 c4
        exact ⟨(z0, z1, z2, z3, z4), by simpa using c0, by simpa using c1, by simpa using c2, by simpa using c3, by simpa using c4⟩
    obtain ⟨q, hq⟩ := choose_lt each
    obtain ⟨b, off, spot⟩ := ad
    have hs : spot = none := by
      have := World.cell?_spot (hq 0 (by omega)).1
      simpa [Addr.add] using this
    subst hs
    have hadd : ∀ j, (⟨b, off, none⟩ : Addr).add j = ⟨b, off + j, none⟩ := fun j => by unfold Addr.add; split <;> simp_all
    refine ⟨fun i => ⟨(q i).1, ⟨(q i).2.1, (q i).2.2.1, (q i).2.2.2.1, (q i).2.2.2.2⟩⟩, hl, hm, .inr ⟨b, off, rfl, ?_, fun i hi => ?_⟩⟩
    · have := World.block_lt_of_cell? w _ (hq 0 (by omega)).1
      rw [hadd] at this
      exact this
    · obtain ⟨c0, c1, c2, c3, c4⟩ := hq i hi
      rw [hadd] at c0 c1 c2 c3 c4
      exact ⟨c0, c1, c2, c3, c4⟩
end Go.Proofs.YtoglomfejgpoeaaDoor
