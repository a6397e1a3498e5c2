/-
  What the functions of chapter 3's model return: operators as rows of terms in memory.
-/
import Derived.Test.YtnfgiplgkobnlabDoorMono
import Derived.WalkSmall
import Derived.Test.YtnfgiplgkobnlabDoorExt
namespace Go.Proofs.YtnfgiplgkobnlabDoor
open Go.RowKit
set_option linter.unusedVariables false

/-- a term: a number and a monomial. -/
structure T where
  c : Int
  m : M
/-- the i-th term is one that may stand there. -/
def okAt (f : Nat → T) (i : Nat) : Bool := decide (1 ≤ (f i).c ∧ (f i).c ≤ 100) && (f i).m.ok && (decide (i = 0) || decide (0 < M.ord 1 (f (i - 1)).m (f i).m))
def polOk (n : Nat) (f : Nat → T) : Bool := decide (n ≤ 400 ∧ ∀ i, i < n → okAt f i = true)
/-- the five cells of a term. -/
def Cells (w : World) (b o : Nat) (t : T) : Prop :=
  w.cell? ⟨b, o, none⟩ = some (.int .i64 t.c) ∧ w.cell? ⟨b, o + 1, none⟩ = some (.int .i64 t.m.x) ∧ w.cell? ⟨b, o + 2, none⟩ = some (.int .i64 t.m.y) ∧ w.cell? ⟨b, o + 3, none⟩ = some (.int .i64 t.m.d) ∧ w.cell? ⟨b, o + 4, none⟩ = some (.int .i64 t.m.e)
/-- a slice of terms that can be read. -/
def Rd (w : World) (a : Option Addr) (n cap : Nat) (f : Nat → T) : Prop :=
  n ≤ cap ∧ n * 40 ≤ 140737488351232 ∧ (n = 0 ∨ ∃ b off, a = some ⟨b, off, none⟩ ∧ b < w.heap.size ∧ ∀ i, i < n → Cells w b (off + i * 5) (f i))
theorem Cells.below {w w' : World} {b o : Nat} {t : T} {B : Nat} (h : Cells w b o t) (hb : Below B w w') (hB : b < B) : Cells w' b o t := by
  obtain ⟨h0, h1, h2, h3, h4⟩ := h
  exact ⟨(hb.cell (p := ⟨b, o, none⟩) hB).trans h0, (hb.cell (p := ⟨b, o + 1, none⟩) hB).trans h1, (hb.cell (p := ⟨b, o + 2, none⟩) hB).trans h2, (hb.cell (p := ⟨b, o + 3, none⟩) hB).trans h3, (hb.cell (p := ⟨b, o + 4, none⟩) hB).trans h4⟩
theorem Rd.below {w w' : World} {a : Option Addr} {n cap : Nat} {f : Nat → T} (h : Rd w a n cap f) (hb : Below w.heap.size w w') : Rd w' a n cap f := by
  obtain ⟨h1, h2, h3⟩ := h
  refine ⟨h1, h2, ?_⟩
  rcases h3 with h0 | ⟨b, off, rfl, hlt, hc⟩
  · exact .inl h0
  · exact .inr ⟨b, off, rfl, Nat.lt_of_lt_of_le hlt hb.size, fun i hi => (hc i hi).below hb hlt⟩

end Go.Proofs.YtnfgiplgkobnlabDoor
