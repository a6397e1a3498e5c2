/-
  What reading a line hands back; a box of a line's five cells.
-/
import Derived.Test.YtkcmamepoplcdaaGreatDoorDrA
import Derived.Test.YtkcmamepoplcdaaGreatDoorGae
import Derived.Test.YtkcmamepoplcdaaGreatDoorGah
namespace Go.Proofs.YtkcmamepoplcdaaGreatDoor
open Go.RowKit
set_option linter.unusedVariables false
def LnOut (w : World) (s : List UInt8) (r : Ending) (w' : World) : Prop := ∃ pa cap, r = .returned (.tuple #[.agg #[.int .i64 (dskR s).1.k, .int .i64 (dskR s).1.to, .int .i64 (dskR s).1.a, .int .i64 (dskR s).1.b, .slice pa (dskR s).1.P.length cap], .bool (dskR s).2]) ∧ Below w.heap.size w w' ∧ Out w.heap.size w' pa cap (dskR s).1.P
theorem out_nn (lo : Nat) (w : World) : Out lo w none 0 [] := ⟨⟨Nat.le_refl _, by simp, .inl rfl⟩, .inl rfl, .inl rfl⟩
theorem lnout_no {w w' : World} {s : List UInt8} (h : ∀ l, IsLn l s → False) (hb : Below w.heap.size w w') : LnOut w s (.returned (.tuple #[.agg #[.int .i64 0, .int .i64 0, .int .i64 0, .int .i64 0, .slice none 0 0], .bool false])) w' := by
  unfold LnOut
  rw [dskR_no h]
  exact ⟨none, 0, rfl, hb, out_nn _ _⟩
theorem lnout_yes {w w' : World} {s : List UInt8} {l : Lne} {pa : Option Addr} {cap : Nat} (h : IsLn l s) (hb : Below w.heap.size w w') (ho : Out w.heap.size w' pa cap l.P) : LnOut w s (.returned (.tuple #[.agg #[.int .i64 l.k, .int .i64 l.to, .int .i64 l.a, .int .i64 l.b, .slice pa l.P.length cap], .bool true])) w' := by
  unfold LnOut
  rw [dskR_is h]
  exact ⟨pa, cap, rfl, hb, ho⟩
/-- five cells that may be written. -/
def V5 (w : World) (b : Nat) (x0 x1 x2 x3 x4 : Value) : Prop := (w.cell? ⟨b, 0, none⟩ = some x0 ∧ w.cell? ⟨b, 1, none⟩ = some x1 ∧ w.cell? ⟨b, 2, none⟩ = some x2 ∧ w.cell? ⟨b, 3, none⟩ = some x3 ∧ w.cell? ⟨b, 4, none⟩ = some x4) ∧ ∀ j, w.frozen? ⟨b, j, none⟩ = false
theorem V5.lt {w : World} {b : Nat} {x0 x1 x2 x3 x4 : Value} (h : V5 w b x0 x1 x2 x3 x4) : b < w.heap.size := World.block_lt_of_cell? w _ h.1.1
theorem V5.below {w w' : World} {b : Nat} {x0 x1 x2 x3 x4 : Value} (h : V5 w b x0 x1 x2 x3 x4) (hb : Below w.heap.size w w') : V5 w' b x0 x1 x2 x3 x4 :=
  ⟨⟨(hb.cell (p := ⟨b, 0, none⟩) h.lt).trans h.1.1, (hb.cell (p := ⟨b, 1, none⟩) h.lt).trans h.1.2.1, (hb.cell (p := ⟨b, 2, none⟩) h.lt).trans h.1.2.2.1, (hb.cell (p := ⟨b, 3, none⟩) h.lt).trans h.1.2.2.2.1, (hb.cell (p := ⟨b, 4, none⟩) h.lt).trans h.1.2.2.2.2⟩, fun j => (hb.frozen (p := ⟨b, j, none⟩) h.lt).trans (h.2 j)⟩
theorem V5.box (w : World) (y : TypeId) (x0 x1 x2 x3 x4 : Value) : V5 (w.alloc (.cells #[x0, x1, x2, x3, x4] y)) w.heap.size x0 x1 x2 x3 x4 :=
  ⟨⟨by rw [World.cell?_alloc_at _ _ _ _ rfl]; rfl, by rw [World.cell?_alloc_at _ _ _ _ rfl]; rfl, by rw [World.cell?_alloc_at _ _ _ _ rfl]; rfl, by rw [World.cell?_alloc_at _ _ _ _ rfl]; rfl, by rw [World.cell?_alloc_at _ _ _ _ rfl]; rfl⟩, fun j => by rw [World.frozen?_alloc_at _ _ _ _ rfl]⟩
theorem V5.other {w : World} {b : Nat} {x0 x1 x2 x3 x4 : Value} (h : V5 w b x0 x1 x2 x3 x4) {b' k : Nat} (hne : b' ≠ b) (v : Value) : V5 (w.setCell ⟨b', k, none⟩ v) b x0 x1 x2 x3 x4 := by
  have ne : ∀ j, (⟨b', k, none⟩ : Addr) ≠ ⟨b, j, none⟩ := fun j e => hne (by cases e; rfl)
  exact ⟨⟨by rw [World.cell?_setCell_other _ _ _ _ (ne 0)]; exact h.1.1, by rw [World.cell?_setCell_other _ _ _ _ (ne 1)]; exact h.1.2.1, by rw [World.cell?_setCell_other _ _ _ _ (ne 2)]; exact h.1.2.2.1, by rw [World.cell?_setCell_other _ _ _ _ (ne 3)]; exact h.1.2.2.2.1, by rw [World.cell?_setCell_other _ _ _ _ (ne 4)]; exact h.1.2.2.2.2⟩, fun j => by rw [World.frozen?_setCell]; exact h.2 j⟩
theorem V5.set2 {w : World} {b : Nat} {x0 x1 x2 x3 x4 : Value} (h : V5 w b x0 x1 x2 x3 x4) (v : Value) : V5 (w.setCell ⟨b, 2, none⟩ v) b x0 x1 v x3 x4 :=
  ⟨⟨by rw [World.cell?_setCell_other _ _ _ _ (by simp)]; exact h.1.1, by rw [World.cell?_setCell_other _ _ _ _ (by simp)]; exact h.1.2.1, World.cell?_setCell_same _ _ _ h.1.2.2.1, by rw [World.cell?_setCell_other _ _ _ _ (by simp)]; exact h.1.2.2.2.1, by rw [World.cell?_setCell_other _ _ _ _ (by simp)]; exact h.1.2.2.2.2⟩, fun j => by rw [World.frozen?_setCell]; exact h.2 j⟩
theorem V5.set3 {w : World} {b : Nat} {x0 x1 x2 x3 x4 : Value} (h : V5 w b x0 x1 x2 x3 x4) (v : Value) : V5 (w.setCell ⟨b, 3, none⟩ v) b x0 x1 x2 v x4 :=
  ⟨⟨by rw [World.cell?_setCell_other _ _ _ _ (by simp)]; exact h.1.1, by rw [World.cell?_setCell_other _ _ _ _ (by simp)]; exact h.1.2.1, by rw [World.cell?_setCell_other _ _ _ _ (by simp)]; exact h.1.2.2.1, World.cell?_setCell_same _ _ _ h.1.2.2.2.1, by rw [World.cell?_setCell_other _ _ _ _ (by simp)]; exact h.1.2.2.2.2⟩, fun j => by rw [World.frozen?_setCell]; exact h.2 j⟩
theorem V5.set4 {w : World} {b : Nat} {x0 x1 x2 x3 x4 : Value} (h : V5 w b x0 x1 x2 x3 x4) (v : Value) : V5 (w.setCell ⟨b, 4, none⟩ v) b x0 x1 x2 x3 v :=
  ⟨⟨by rw [World.cell?_setCell_other _ _ _ _ (by simp)]; exact h.1.1, by rw [World.cell?_setCell_other _ _ _ _ (by simp)]; exact h.1.2.1, by rw [World.cell?_setCell_other _ _ _ _ (by simp)]; exact h.1.2.2.1, by rw [World.cell?_setCell_other _ _ _ _ (by simp)]; exact h.1.2.2.2.1, World.cell?_setCell_same _ _ _ h.1.2.2.2.2⟩, fun j => by rw [World.frozen?_setCell]; exact h.2 j⟩
theorem V5.set0 {w : World} {b : Nat} {x0 x1 x2 x3 x4 : Value} (h : V5 w b x0 x1 x2 x3 x4) (v : Value) : V5 (w.setCell ⟨b, 0, none⟩ v) b v x1 x2 x3 x4 :=
  ⟨⟨World.cell?_setCell_same _ _ _ h.1.1, by rw [World.cell?_setCell_other _ _ _ _ (by simp)]; exact h.1.2.1, by rw [World.cell?_setCell_other _ _ _ _ (by simp)]; exact h.1.2.2.1, by rw [World.cell?_setCell_other _ _ _ _ (by simp)]; exact h.1.2.2.2.1, by rw [World.cell?_setCell_other _ _ _ _ (by simp)]; exact h.1.2.2.2.2⟩, fun j => by rw [World.frozen?_setCell]; exact h.2 j⟩
theorem V5.set1 {w : World} {b : Nat} {x0 x1 x2 x3 x4 : Value} (h : V5 w b x0 x1 x2 x3 x4) (v : Value) : V5 (w.setCell ⟨b, 1, none⟩ v) b x0 v x2 x3 x4 :=
  ⟨⟨by rw [World.cell?_setCell_other _ _ _ _ (by simp)]; exact h.1.1, World.cell?_setCell_same _ _ _ h.1.2.1, by rw [World.cell?_setCell_other _ _ _ _ (by simp)]; exact h.1.2.2.1, by rw [World.cell?_setCell_other _ _ _ _ (by simp)]; exact h.1.2.2.2.1, by rw [World.cell?_setCell_other _ _ _ _ (by simp)]; exact h.1.2.2.2.2⟩, fun j => by rw [World.frozen?_setCell]; exact h.2 j⟩
theorem out_far {lo lo' : Nat} {w : World} {a : Option Addr} {cap : Nat} {L : List T} (h : Out lo w a cap L) (hl : lo' ≤ lo) : Out lo' w a cap L := ⟨h.1, h.2.1, h.2.2.imp id (fun ⟨g, off, e, q⟩ => ⟨g, off, e, Nat.le_trans hl q⟩)⟩
theorem out_set {lo : Nat} {w : World} {a : Option Addr} {cap : Nat} {L : List T} (h : Out lo w a cap L) {b k : Nat} {v : Value} (hb : b < lo) : Out lo (w.setCell ⟨b, k, none⟩ v) a cap L := by
  obtain ⟨⟨h1, h2, h3⟩, h4, h5⟩ := h
  refine ⟨⟨h1, h2, ?_⟩, ?_, h5⟩
  · rcases h3 with h0 | ⟨g, off, e, hlt, hc⟩
    · exact .inl h0
    · rcases h5 with h0 | ⟨g', off', e', hg⟩
      · exact .inl h0
      · rw [e] at e'
        cases e'
        have ne : ∀ j, (⟨b, k, none⟩ : Addr) ≠ ⟨g, j, none⟩ := fun j q => by cases q; omega
        refine .inr ⟨g, off, e, by simpa using hlt, fun i hi => ?_⟩
        obtain ⟨c0, c1, c2, c3, c4⟩ := hc i hi
        exact ⟨by rw [World.cell?_setCell_other _ _ _ _ (ne _)]; exact c0, by rw [World.cell?_setCell_other _ _ _ _ (ne _)]; exact c1, by rw [World.cell?_setCell_other _ _ _ _ (ne _)]; exact c2, by rw [World.cell?_setCell_other _ _ _ _ (ne _)]; exact c3, by rw [World.cell?_setCell_other _ _ _ _ (ne _)]; exact c4⟩
  · rcases h4 with h0 | ⟨g, off, M, F, e, hr, hn, hf⟩
    · exact .inl h0
    · rcases h5 with h0 | ⟨g', off', e', hg⟩
      · exact .inl h0
      · rw [e] at e'
        cases e'
        obtain ⟨c, hc, hz⟩ := hr
        exact .inr ⟨g, off, M, F, e, ⟨c, by rw [Below.heap_setCell _ _ _ _ (show g ≠ b by omega)]; exact hc, hz⟩, hn, hf⟩
theorem out_sets {lo : Nat} {w : World} {a : Option Addr} {cap : Nat} {L : List T} (h : Out lo w a cap L) {b : Nat} (hb : b < lo) (v0 v1 v2 v3 v4 : Value) : Out lo (((((w.setCell ⟨b, 0, none⟩ v0).setCell ⟨b, 1, none⟩ v1).setCell ⟨b, 2, none⟩ v2).setCell ⟨b, 3, none⟩ v3).setCell ⟨b, 4, none⟩ v4) a cap L := out_set (out_set (out_set (out_set (out_set h hb) hb) hb) hb) hb
end Go.Proofs.YtkcmamepoplcdaaGreatDoor
