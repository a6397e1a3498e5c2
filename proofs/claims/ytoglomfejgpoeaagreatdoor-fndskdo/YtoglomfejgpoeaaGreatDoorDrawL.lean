/-
  The draw of a list of operators: some operators, each in memory of its own.
-/
import Derived.Test.YtoglomfejgpoeaaGreatDoorGbp
import Derived.Test.YtoglomfejgpoeaaGreatDoorGbn
import Derived.Deep.RegionHeld3
import Derived.Deep.Light
import Derived.Deep.AppendLies
namespace Go.Proofs.YtoglomfejgpoeaaGreatDoor
open Go.RowKit Go.Deep Go.Joins
set_option linter.unusedVariables false

theorem sl_new3 (u : World) (N : Nat) (t : TypeId) (x0 x1 x2 : Int) (hN : N ≤ u.heap.size) : Sl (u.alloc (.cells #[.int .i64 x0, .int .i64 x1, .int .i64 x2] t)) N 3 (.slice (some ⟨u.heap.size, 0, none⟩) 3 3) := by
  refine ⟨u.heap.size, rfl, hN, fun i hi => ?_⟩
  rw [World.cell?_alloc_at _ _ _ _ rfl]
  have h5 : i = 0 ∨ i = 1 ∨ i = 2 := by omega
  rcases h5 with rfl | rfl | rfl <;> exact ⟨_, rfl⟩
def FJ (B N : Nat) (w : World) (v : Value) : Nat → Prop
  | 0 => v = .pointer (some ⟨B, 0, none⟩)
  | 1 => Pk 2 v
  | 2 => Sl w N 3 v
  | 3 => v = .pointer (some ⟨B, 0, none⟩)
  | 4 => Pk 3 v
  | 5 => Ix w N v
  | 6 => Ld v
  | 7 => v = .pointer (some ⟨B, 0, none⟩)
  | 8 => Pk 3 v
  | 9 => Ld v
  | 10 => Sl w N 3 v
  | 11 => v = .pointer (some ⟨B, 0, none⟩)
  | 12 => Pk 3 v
  | 13 => Ix w N v
  | 14 => Ld v
  | 15 => Ag v
  | _ => True
theorem FJ.move {B N : Nat} {w w' : World} {v : Value} {k : Nat} (h : FJ B N w v k) (hb : Beside B w w') (hB : B < N) : FJ B N w' v k := by
  unfold FJ at h ⊢
  split at h <;> first | exact h | exact Sl.move h hb hB | exact Ix.move h hb hB
def MJ (F : (Nat → Value) → Act) (B p : Nat) (W : World) (N : Nat) (l : Array Bool) (a : Act) (u : World) : Prop :=
  ∃ (q : Nat) (vs : Nat → Value), a = F vs ∧ Rdr u B q ∧ q + undone l ≤ p + 18 ∧ Beside B W u ∧ N ≤ u.heap.size ∧ l.size = 18 ∧
    (l.getD 17 false = true → ∀ k, k < 17 → l.getD k false = true) ∧ (∀ k, l.getD k false = true → l.getD 17 false = false → FJ B N u (vs k) k) ∧ (l.getD 16 false = true → Al u N (vs 16))
theorem MJ.step {F : (Nat → Value) → Act} {B p : Nat} {W : World} {N : Nat} {l : Array Bool} {u u' : World} {q' : Nat} {vs : Nat → Value} {i : Nat} {v : Value} (hB : B < N)
    (hR : Rdr u' B q') (hq : q' + undone (l.setIfInBounds i true) ≤ p + 18) (hW : Beside B W u) (hN : N ≤ u.heap.size) (hl : l.size = 18) (h17 : l.getD 17 false = false) (hi : i ≠ 17)
    (hf : ∀ k, l.getD k false = true → l.getD 17 false = false → FJ B N u (vs k) k) (h16 : l.getD 16 false = true → Al u N (vs 16)) (hm : Beside B u u')
    (hv : FJ B N u' v i) (hv' : i = 16 → Al u' N v) (a : Act) (ha : a = F (fun k => if k = i then v else vs k)) : MJ F B p W N (l.setIfInBounds i true) a u' := by
  refine ⟨q', fun k => if k = i then v else vs k, ha, hR, hq, hW.trans hm, Nat.le_trans hN hm.size, by simp [hl], ?_, ?_, ?_⟩
  · intro h
    rw [getD_set_ne false hi, h17] at h
    cases h
  · intro k hk _
    by_cases hki : k = i
    · have hv2 : FJ B N u' v k := by rw [hki]; exact hv
      exact Eq.mpr (congrArg (fun z => FJ B N u' z k) (if_pos hki)) hv2
    · rw [getD_set_ne false (fun e => hki e.symm)] at hk
      simp only [if_neg hki]
      exact (hf k hk h17).move hm hB
  · intro hk
    by_cases hki : 16 = i
    · exact Eq.mpr (congrArg (fun z => Al u' N z) (if_pos hki)) (hv' hki.symm)
    · rw [getD_set_ne false (fun e => hki e.symm)] at hk
      simp only [if_neg hki]
      exact (h16 hk).move hm hB
abbrev G4 (g : Nat) (a0 a1 a2 a3 : Int) (u : World) : Prop := u.cell? ⟨g, 0, none⟩ = some (.int .i64 a0) ∧ u.cell? ⟨g, 1, none⟩ = some (.int .i64 a1) ∧ u.cell? ⟨g, 2, none⟩ = some (.int .i64 a2) ∧ u.cell? ⟨g, 3, none⟩ = some (.int .i64 a3)
theorem G4.beside {g B : Nat} {a0 a1 a2 a3 : Int} {u u' : World} (h : G4 g a0 a1 a2 a3 u) (hb : Beside B u u') (hg : g ≠ B) : G4 g a0 a1 a2 a3 u' :=
  have l := World.block_lt_of_cell? u ⟨g, 0, none⟩ h.1
  ⟨(hb.cell l hg).trans h.1, (hb.cell l hg).trans h.2.1, (hb.cell l hg).trans h.2.2.1, (hb.cell l hg).trans h.2.2.2⟩
theorem G4.below {g : Nat} {a0 a1 a2 a3 : Int} {u u' : World} (h : G4 g a0 a1 a2 a3 u) (hb : Below u.heap.size u u') : G4 g a0 a1 a2 a3 u' :=
  have l := World.block_lt_of_cell? u ⟨g, 0, none⟩ h.1
  ⟨(hb.cell (p := ⟨g, 0, none⟩) l).trans h.1, (hb.cell (p := ⟨g, 1, none⟩) l).trans h.2.1, (hb.cell (p := ⟨g, 2, none⟩) l).trans h.2.2.1, (hb.cell (p := ⟨g, 3, none⟩) l).trans h.2.2.2⟩
/-- a slice of terms that can be read, in a block of its own. -/
def El (w : World) (lo : Nat) (g : Option Nat) (v : Value) : Prop := ∃ a n c f, v = .slice a n c ∧ Rd w a n c f ∧ n ≤ 5 ∧ (n = 0 ∨ ∃ b off, a = some ⟨b, off, none⟩ ∧ lo ≤ b ∧ some b ≠ g)
theorem El.below {w w' : World} {lo : Nat} {g : Option Nat} {v : Value} (h : El w lo g v) (hb : Below w.heap.size w w') : El w' lo g v := by
  obtain ⟨a, n, c, f, rfl, hr, hn, hx⟩ := h
  exact ⟨a, n, c, f, rfl, hr.below hb, hn, hx⟩
theorem El.beside {w w' : World} {B lo : Nat} {g : Option Nat} {v : Value} (h : El w lo g v) (hb : Beside B w w') (hB : B < lo) : El w' lo g v := by
  obtain ⟨a, n, c, f, rfl, hr, hn, hx⟩ := h
  refine ⟨a, n, c, f, rfl, hr.beside hb ?_, hn, hx⟩
  rcases hx with h0 | ⟨b, off, rfl, hlo, _⟩
  · exact .inl h0
  · exact .inr fun b' off' e => by cases e; omega
theorem El.none {w : World} {lo : Nat} {g : Option Nat} {v : Value} (h : El w lo g v) : El w lo none v := by
  obtain ⟨a, n, c, f, rfl, hr, hn, hx⟩ := h
  exact ⟨a, n, c, f, rfl, hr, hn, hx.imp id fun ⟨b, off, e, hlo, _⟩ => ⟨b, off, e, hlo, by simp⟩⟩
theorem El.grown {w w' : World} {lo g H : Nat} {row : Option Nat} {v : Value} (h : El w lo row v) (hg : w.grownBy w' row) (hat : row = some g ∨ g = H) (hH : w.heap.size ≤ H) : El w' lo (some g) v := by
  obtain ⟨a, n, c, f, rfl, hr, hn, hx⟩ := h
  rcases hx with h0 | ⟨b, off, rfl, hlo, hne⟩
  · exact ⟨a, n, c, f, rfl, hr.grown hg (.inl h0), hn, .inl h0⟩
  · by_cases h0 : n = 0
    · exact ⟨_, n, c, f, rfl, hr.grown hg (.inl h0), hn, .inl h0⟩
    refine ⟨_, n, c, f, rfl, hr.grown hg (.inr fun b' off' e => by cases e; exact hne), hn, .inr ⟨b, off, rfl, hlo, ?_⟩⟩
    have hlt : b < w.heap.size := by
      rcases hr.2.2 with h1 | ⟨b', off', e, hl, _⟩
      · exact absurd h1 h0
      · cases e; exact hl
    rcases hat with e | e
    · rw [← e]; exact hne
    · intro ee
      have : b = g := by simpa using ee
      omega
theorem infoTS : (Tryz.prog.info? 22).map (fun i => (i.zero, i.size, i.bytes)) = some (some (.slice none 0 0), 1, 24) := by kernel_rfl
end Go.Proofs.YtoglomfejgpoeaaGreatDoor
