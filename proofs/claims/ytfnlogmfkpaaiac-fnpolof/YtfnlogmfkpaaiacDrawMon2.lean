/-
  The draws of two monomials: some two, and nothing that was there is turned.
-/
import Derived.Test.YtfnlogmfkpaaiacDrawMon
import Derived.Test.YtfnlogmfkpaaiacMono
namespace Go.Proofs.Ytfnlogmfkpaaiac
open Go.RowKit
set_option linter.unusedVariables false

theorem W4.below {n g : Nat} {w w' : World} (h : W4 w g) (hb : Below n w w') (hg : g < n) : W4 w' g := by
  obtain ⟨⟨x0, x1, x2, x3, c0, c1, c2, c3⟩, f0, f1, f2, f3⟩ := h
  have he := hb.block g hg
  have fz : ∀ o, w'.frozen? ⟨g, o, none⟩ = w.frozen? ⟨g, o, none⟩ := fun o => World.frozen?_of_block he
  have cz : ∀ o, w'.cell? ⟨g, o, none⟩ = w.cell? ⟨g, o, none⟩ := fun o => World.cell?_of_block he
  exact ⟨⟨x0, x1, x2, x3, (cz 0).trans c0, (cz 1).trans c1, (cz 2).trans c2, (cz 3).trans c3⟩, (fz 0).trans f0, (fz 1).trans f1, (fz 2).trans f2, (fz 3).trans f3⟩
theorem w4_new (w : World) (t : TypeId) : W4 (w.alloc (.cells #[.int .i64 0, .int .i64 0, .int .i64 0, .int .i64 0] t)) w.heap.size :=
  ⟨⟨0, 0, 0, 0, by rw [World.cell?_alloc_at _ _ _ _ rfl]; rfl, by rw [World.cell?_alloc_at _ _ _ _ rfl]; rfl, by rw [World.cell?_alloc_at _ _ _ _ rfl]; rfl, by rw [World.cell?_alloc_at _ _ _ _ rfl]; rfl⟩, by rw [World.frozen?_alloc_at _ _ _ _ rfl], by rw [World.frozen?_alloc_at _ _ _ _ rfl], by rw [World.frozen?_alloc_at _ _ _ _ rfl], by rw [World.frozen?_alloc_at _ _ _ _ rfl]⟩
theorem W4.far {g b o : Nat} {w : World} {v : Value} (h : W4 w g) (hn : g ≠ b) : W4 (w.setCell ⟨b, o, none⟩ v) g := by
  obtain ⟨⟨x0, x1, x2, x3, c0, c1, c2, c3⟩, f0, f1, f2, f3⟩ := h
  exact ⟨⟨x0, x1, x2, x3, (cell_set_far hn).trans c0, (cell_set_far hn).trans c1, (cell_set_far hn).trans c2, (cell_set_far hn).trans c3⟩, (frozen_set_far hn).trans f0, (frozen_set_far hn).trans f1, (frozen_set_far hn).trans f2, (frozen_set_far hn).trans f3⟩
set_option maxRecDepth 100000 in
set_option maxHeartbeats 1000000 in
theorem drawMonMul (w : World) (a : Option Addr) (len cap : Nat) (h : Src w a len cap) :
    Calls Try.prog 32 #[.slice a len cap] w fun e w' => ∃ x y d z x' y' d' z', e = .returned (.tuple #[.agg #[.int .i64 x, .int .i64 y, .int .i64 d, .int .i64 z], .agg #[.int .i64 x', .int .i64 y', .int .i64 d', .int .i64 z']]) ∧ Below w.heap.size w w' := by
  have hb0 : Below w.heap.size w ((w.alloc (.cells #[.int .i64 0, .int .i64 0, .int .i64 0, .int .i64 0] 24)).alloc (.cells #[.int .i64 0, .int .i64 0, .int .i64 0, .int .i64 0] 24)) := ((Below.refl _ _).alloc (Nat.le_refl _) _).alloc (by simp) _
  have hsz : ((w.alloc (.cells #[.int .i64 0, .int .i64 0, .int .i64 0, .int .i64 0] 24)).alloc (.cells #[.int .i64 0, .int .i64 0, .int .i64 0, .int .i64 0] 24)).heap.size > w.heap.size + 1 := by simp
  have wa : W4 ((w.alloc (.cells #[.int .i64 0, .int .i64 0, .int .i64 0, .int .i64 0] 24)).alloc (.cells #[.int .i64 0, .int .i64 0, .int .i64 0, .int .i64 0] 24)) w.heap.size := (w4_new w _).below ((Below.refl _ _).alloc (Nat.le_refl _) _) (by simp)
  have wb : W4 ((w.alloc (.cells #[.int .i64 0, .int .i64 0, .int .i64 0, .int .i64 0] 24)).alloc (.cells #[.int .i64 0, .int .i64 0, .int .i64 0, .int .i64 0] 24)) (w.heap.size + 1) := by
    have := w4_new (w.alloc (.cells #[.int .i64 0, .int .i64 0, .int .i64 0, .int .i64 0] 24)) 24
    simpa using this
  have s0 := h.below hb0
  go_enter Try.func32, Try.ntmps32
  go_wp2_with fail
  generalize ((w.alloc (.cells #[.int .i64 0, .int .i64 0, .int .i64 0, .int .i64 0] 24)).alloc (.cells #[.int .i64 0, .int .i64 0, .int .i64 0, .int .i64 0] 24)) = W at hb0 hsz wa wb s0 ⊢
  refine (open_any _ _ _ _ s0).mono ?_
  rintro e w1 ⟨rfl, r1, b1⟩
  have wa1 := wa.below b1 (by omega)
  have wb1 := wb.below b1 (by omega)
  have bz1 := hb0.trans (b1.mono hb0.size)
  have hs1 := b1.size
  clear h wa wb s0 b1
  go_wp2_with fail
  refine (mon_any _ _ _ 12 r1 (by omega) (by omega) (by omega)).mono ?_
  rintro e w2 ⟨x, y, d, z, q, rfl, hq, r2, s2⟩
  have wa2 := wa1.move s2 (by omega)
  have wb2 := wb1.move s2 (by omega)
  have bz2 := s2.below bz1 (by omega) (by omega)
  clear r1 wa1 wb1 bz1
  go_wp2_with fail
  refine (mon_any _ _ _ 12 r2 (by omega) (by omega) (by omega)).mono ?_
  rintro e w3 ⟨x', y', d', z', q', rfl, hq', r3, s3⟩
  have hs2 := s2.size
  obtain ⟨⟨a0, a1, a2, a3, c0, c1, c2, c3⟩, f0, f1, f2, f3⟩ := wa2.move s3 (by omega)
  obtain ⟨⟨b0, b1, b2, b3, d0, d1, d2, d3⟩, t0, t1, t2, t3⟩ := wb2.move s3 (by omega)
  have bz3 := s3.below bz2 (by omega) (by omega)
  clear r2 r3 s2 s3 wa2 wb2 bz2 hb0
  go_wp2
  try simp only [Exit.inBlock, Exit.then]
  refine bodyPost_ret (v := .tuple #[.agg #[.int .i64 x, .int .i64 y, .int .i64 d, .int .i64 z], .agg #[.int .i64 x', .int .i64 y', .int .i64 d', .int .i64 z']]) (by simp [results, Try.results32, go_sem, *]) rfl ?_
  exact ⟨_, _, _, _, _, _, _, _, rfl, (((((((bz3.setCell (by simp) _).setCell (by simp) _).setCell (by simp) _).setCell (by simp) _).setCell (by simp) _).setCell (by simp) _).setCell (by simp) _).setCell (by simp) _⟩
theorem drawMonBoth (w : World) (a : Option Addr) (len cap : Nat) (h : Src w a len cap) :
    Calls Try.prog 8 #[.slice a len cap] w fun e w' => ∃ x y d z x' y' d' z', e = .returned (.tuple #[.agg #[.int .i64 x, .int .i64 y, .int .i64 d, .int .i64 z], .agg #[.int .i64 x', .int .i64 y', .int .i64 d', .int .i64 z']]) ∧ Below w.heap.size w w' := by
  have hb0 : Below w.heap.size w ((w.alloc (.cells #[.int .i64 0, .int .i64 0, .int .i64 0, .int .i64 0] 24)).alloc (.cells #[.int .i64 0, .int .i64 0, .int .i64 0, .int .i64 0] 24)) := ((Below.refl _ _).alloc (Nat.le_refl _) _).alloc (by simp) _
  have hsz : ((w.alloc (.cells #[.int .i64 0, .int .i64 0, .int .i64 0, .int .i64 0] 24)).alloc (.cells #[.int .i64 0, .int .i64 0, .int .i64 0, .int .i64 0] 24)).heap.size > w.heap.size + 1 := by simp
  have wa : W4 ((w.alloc (.cells #[.int .i64 0, .int .i64 0, .int .i64 0, .int .i64 0] 24)).alloc (.cells #[.int .i64 0, .int .i64 0, .int .i64 0, .int .i64 0] 24)) w.heap.size := (w4_new w _).below ((Below.refl _ _).alloc (Nat.le_refl _) _) (by simp)
  have wb : W4 ((w.alloc (.cells #[.int .i64 0, .int .i64 0, .int .i64 0, .int .i64 0] 24)).alloc (.cells #[.int .i64 0, .int .i64 0, .int .i64 0, .int .i64 0] 24)) (w.heap.size + 1) := by
    have := w4_new (w.alloc (.cells #[.int .i64 0, .int .i64 0, .int .i64 0, .int .i64 0] 24)) 24
    simpa using this
  have s0 := h.below hb0
  go_enter Try.func8, Try.ntmps8
  go_wp2_with fail
  generalize ((w.alloc (.cells #[.int .i64 0, .int .i64 0, .int .i64 0, .int .i64 0] 24)).alloc (.cells #[.int .i64 0, .int .i64 0, .int .i64 0, .int .i64 0] 24)) = W at hb0 hsz wa wb s0 ⊢
  refine (drawMonMul _ _ _ _ s0).mono ?_
  rintro e w1 ⟨x, y, d, z, x', y', d', z', rfl, b1⟩
  obtain ⟨⟨a0, a1, a2, a3, c0, c1, c2, c3⟩, f0, f1, f2, f3⟩ := wa.below b1 (by omega)
  obtain ⟨⟨b0, b1', b2, b3, d0, d1, d2, d3⟩, t0, t1, t2, t3⟩ := wb.below b1 (by omega)
  have bz3 := hb0.trans (b1.mono hb0.size)
  clear h wa wb s0 b1 hb0
  go_wp2
  try simp only [Exit.inBlock, Exit.then]
  refine bodyPost_ret (v := .tuple #[.agg #[.int .i64 x, .int .i64 y, .int .i64 d, .int .i64 z], .agg #[.int .i64 x', .int .i64 y', .int .i64 d', .int .i64 z']]) (by simp [results, Try.results8, go_sem, *]) rfl ?_
  exact ⟨_, _, _, _, _, _, _, _, rfl, (((((((bz3.setCell (by simp) _).setCell (by simp) _).setCell (by simp) _).setCell (by simp) _).setCell (by simp) _).setCell (by simp) _).setCell (by simp) _).setCell (by simp) _⟩
theorem Beside.drew {B : Nat} {a w : World} (h : Beside B a w) : Beside B a w.drew := h.drewN 1
def C4 (w : World) (g : Nat) (x y d z : Int) : Prop := w.cell? ⟨g, 0, none⟩ = some (.int .i64 x) ∧ w.cell? ⟨g, 1, none⟩ = some (.int .i64 y) ∧ w.cell? ⟨g, 2, none⟩ = some (.int .i64 d) ∧ w.cell? ⟨g, 3, none⟩ = some (.int .i64 z)
theorem C4.same {w w' : World} {g : Nat} {x y d z : Int} (h : C4 w g x y d z) (he : w'.heap[g]? = w.heap[g]?) : C4 w' g x y d z :=
  have cz : ∀ o, w'.cell? ⟨g, o, none⟩ = w.cell? ⟨g, o, none⟩ := fun o => World.cell?_of_block he
  ⟨(cz 0).trans h.1, (cz 1).trans h.2.1, (cz 2).trans h.2.2.1, (cz 3).trans h.2.2.2⟩
theorem C4.lt {w : World} {g : Nat} {x y d z : Int} (h : C4 w g x y d z) : g < w.heap.size := World.block_lt_of_cell? w _ h.1
theorem C4.move {B g : Nat} {w w' : World} {x y d z : Int} (h : C4 w g x y d z) (hb : Beside B w w') (hn : g ≠ B) : C4 w' g x y d z := h.same (hb.block g h.lt hn)
theorem C4.below {n g : Nat} {w w' : World} {x y d z : Int} (h : C4 w g x y d z) (hb : Below n w w') (hg : g < n) : C4 w' g x y d z := h.same (hb.block g hg)
theorem c4_new (w : World) (t : TypeId) (x y d z : Int) : C4 (w.alloc (.cells #[.int .i64 x, .int .i64 y, .int .i64 d, .int .i64 z] t)) w.heap.size x y d z :=
  ⟨by rw [World.cell?_alloc_at _ _ _ _ rfl]; rfl, by rw [World.cell?_alloc_at _ _ _ _ rfl]; rfl, by rw [World.cell?_alloc_at _ _ _ _ rfl]; rfl, by rw [World.cell?_alloc_at _ _ _ _ rfl]; rfl⟩
end Go.Proofs.Ytfnlogmfkpaaiac
