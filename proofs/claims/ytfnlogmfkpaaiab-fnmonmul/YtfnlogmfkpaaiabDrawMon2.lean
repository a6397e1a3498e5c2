/-
  The draws of two monomials: some two, and nothing that was there is turned.
-/
import Derived.Test.YtfnlogmfkpaaiabDrawMon
import Derived.Test.YtfnlogmfkpaaiabMono
namespace Go.Proofs.Ytfnlogmfkpaaiab
open Go.RowKit
set_option linter.unusedVariables false

theorem W4.below {n g : Nat} {w w' : World} (h : W4 w g) (hb : Below n w w') (hg : g < n) : W4 w' g := by
  obtain ⟨⟨x0, x1, x2, x3, c0, c1, c2, c3⟩, f0, f1, f2, f3⟩ := h
  have he := hb.block g hg
  have fz : ∀ o, w'.frozen? ⟨g, o, none⟩ = w.frozen? ⟨g, o, none⟩ := fun o => World.frozen?_of_block he
  have cz : ∀ o, w'.cell? ⟨g, o, none⟩ = w.cell? ⟨g, o, none⟩ := fun o => World.cell?_of_block he
  exact ⟨⟨x0, x1, x2, x3, (cz 0).trans c0, (cz 1).trans c1, (cz 2).trans c2, (cz 3).trans c3⟩, (fz 0).trans f0, (fz 1).trans f1, (fz 2).trans f2, (fz 3).trans f3⟩
theorem w4_new (w : World) (t : TypeId) : W4 (w.alloc (.cells #[.int .i64 0, .int .i64 0, .int .i64 0, .int .i64 0] t)) w.heap.size :=
  ⟨⟨0, 0, 0, 0, by rw [World.cell?_alloc_at _ _ _ _ rfl]; rfl, by rw [World.cell?_alloc_at _ _ _ _ rfl]; rfl, by rw [World.cell?_alloc_at _ _ _ _ rfl]; rfl, by rw [World.cell?_alloc_at _ _ _ _ rfl]; rfl⟩, by rw [World.frozen?_alloc_at _ _ _ _ rfl], by rw [World.frozen?_alloc_at _ _ _ _ rfl], by rw [World.frozen?_alloc_at _ _ _ _ rfl], by rw [World.frozen?_alloc_at _ _ _ _ rfl]⟩
theorem W4.far {g b o : Nat} {w : World} {v : Value} (h : W4 w g) (hn : g ≠ b) : W4 (w.setCell ⟨b, o, none⟩ v) g := by
  obtain ⟨⟨x0, x1, x2, x3, c0, c1, c2, c3⟩, f0, f1, f2, f3⟩ := h
  exact ⟨⟨x0, x1, x2, x3, (cell_set_far hn).trans c0, (cell_set_far hn).trans c1, (cell_set_far hn).trans c2, (cell_set_far hn).trans c3⟩, (frozen_set_far hn).trans f0, (frozen_set_far hn).trans f1, (frozen_set_far hn).trans f2, (frozen_set_far hn).trans f3⟩
set_option maxRecDepth 100000 in
set_option maxHeartbeats 1000000 in
theorem drawMonMul (w : World) (a : Option Addr) (len cap : Nat) (h : Src w a len cap) :
    Calls Try.prog 20 #[.slice a len cap] w fun e w' => ∃ x y d z x' y' d' z', e = .returned (.tuple #[.agg #[.int .i64 x, .int .i64 y, .int .i64 d, .int .i64 z], .agg #[.int .i64 x', .int .i64 y', .int .i64 d', .int .i64 z']]) ∧ Below w.heap.size w w' := by
  have hb0 : Below w.heap.size w ((w.alloc (.cells #[.int .i64 0, .int .i64 0, .int .i64 0, .int .i64 0] 29)).alloc (.cells #[.int .i64 0, .int .i64 0, .int .i64 0, .int .i64 0] 29)) := ((Below.refl _ _).alloc (Nat.le_refl _) _).alloc (by simp) _
  have hsz : ((w.alloc (.cells #[.int .i64 0, .int .i64 0, .int .i64 0, .int .i64 0] 29)).alloc (.cells #[.int .i64 0, .int .i64 0, .int .i64 0, .int .i64 0] 29)).heap.size > w.heap.size + 1 := by simp
  have wa : W4 ((w.alloc (.cells #[.int .i64 0, .int .i64 0, .int .i64 0, .int .i64 0] 29)).alloc (.cells #[.int .i64 0, .int .i64 0, .int .i64 0, .int .i64 0] 29)) w.heap.size := (w4_new w _).below ((Below.refl _ _).alloc (Nat.le_refl _) _) (by simp)
  have wb : W4 ((w.alloc (.cells #[.int .i64 0, .int .i64 0, .int .i64 0, .int .i64 0] 29)).alloc (.cells #[.int .i64 0, .int .i64 0, .int .i64 0, .int .i64 0] 29)) (w.heap.size + 1) := by
    have := w4_new (w.alloc (.cells #[.int .i64 0, .int .i64 0, .int .i64 0, .int .i64 0] 29)) 29
    simpa using this
  have s0 := h.below hb0
  go_enter Try.func20, Try.ntmps20
  go_wp2_with fail
  generalize ((w.alloc (.cells #[.int .i64 0, .int .i64 0, .int .i64 0, .int .i64 0] 29)).alloc (.cells #[.int .i64 0, .int .i64 0, .int .i64 0, .int .i64 0] 29)) = W at hb0 hsz wa wb s0 ⊢
  refine (open_any _ _ _ _ s0).mono ?_
  rintro e w1 ⟨rfl, r1, b1⟩
  have wa1 := wa.below b1 (by omega)
  have wb1 := wb.below b1 (by omega)
  have bz1 := hb0.trans (b1.mono hb0.size)
  have hs1 := b1.size
  clear h wa wb s0 b1
  go_wp2_with fail
  refine (mon_any _ _ _ 12 r1 (by omega) (by omega) (by omega)).mono ?_
  rintro e w2 ⟨x, y, d, z, q, rfl, hq, r2, s2⟩
  have wa2 := wa1.move s2 (by omega)
  have wb2 := wb1.move s2 (by omega)
  have bz2 := s2.below bz1 (by omega) (by omega)
  clear r1 wa1 wb1 bz1
  go_wp2_with fail
  refine (mon_any _ _ _ 12 r2 (by omega) (by omega) (by omega)).mono ?_
  rintro e w3 ⟨x', y', d', z', q', rfl, hq', r3, s3⟩
  have hs2 := s2.size
  obtain ⟨⟨a0, a1, a2, a3, c0, c1, c2, c3⟩, f0, f1, f2, f3⟩ := wa2.move s3 (by omega)
  obtain ⟨⟨b0, b1, b2, b3, d0, d1, d2, d3⟩, t0, t1, t2, t3⟩ := wb2.move s3 (by omega)
  have bz3 := s3.below bz2 (by omega) (by omega)
  clear r2 r3 s2 s3 wa2 wb2 bz2 hb0
  go_wp2
  try simp only [Exit.inBlock, Exit.then]
  refine bodyPost_ret (v := .tuple #[.agg #[.int .i64 x, .int .i64 y, .int .i64 d, .int .i64 z], .agg #[.int .i64 x', .int .i64 y', .int .i64 d', .int .i64 z']]) (by simp [results, Try.results20, go_sem, *]) rfl ?_
  exact ⟨_, _, _, _, _, _, _, _, rfl, (((((((bz3.setCell (by simp) _).setCell (by simp) _).setCell (by simp) _).setCell (by simp) _).setCell (by simp) _).setCell (by simp) _).setCell (by simp) _).setCell (by simp) _⟩
theorem Beside.drew {B : Nat} {a w : World} (h : Beside B a w) : Beside B a w.drew := h.drewN 1
def C4 (w : World) (g : Nat) (x y d z : Int) : Prop := w.cell? ⟨g, 0, none⟩ = some (.int .i64 x) ∧ w.cell? ⟨g, 1, none⟩ = some (.int .i64 y) ∧ w.cell? ⟨g, 2, none⟩ = some (.int .i64 d) ∧ w.cell? ⟨g, 3, none⟩ = some (.int .i64 z)
theorem C4.same {w w' : World} {g : Nat} {x y d z : Int} (h : C4 w g x y d z) (he : w'.heap[g]? = w.heap[g]?) : C4 w' g x y d z :=
  have cz : ∀ o, w'.cell? ⟨g, o, none⟩ = w.cell? ⟨g, o, none⟩ := fun o => World.cell?_of_block he
  ⟨(cz 0).trans h.1, (cz 1).trans h.2.1, (cz 2).trans h.2.2.1, (cz 3).trans h.2.2.2⟩
theorem C4.lt {w : World} {g : Nat} {x y d z : Int} (h : C4 w g x y d z) : g < w.heap.size := World.block_lt_of_cell? w _ h.1
theorem C4.move {B g : Nat} {w w' : World} {x y d z : Int} (h : C4 w g x y d z) (hb : Beside B w w') (hn : g ≠ B) : C4 w' g x y d z := h.same (hb.block g h.lt hn)
theorem C4.below {n g : Nat} {w w' : World} {x y d z : Int} (h : C4 w g x y d z) (hb : Below n w w') (hg : g < n) : C4 w' g x y d z := h.same (hb.block g hg)
theorem c4_new (w : World) (t : TypeId) (x y d z : Int) : C4 (w.alloc (.cells #[.int .i64 x, .int .i64 y, .int .i64 d, .int .i64 z] t)) w.heap.size x y d z :=
  ⟨by rw [World.cell?_alloc_at _ _ _ _ rfl]; rfl, by rw [World.cell?_alloc_at _ _ _ _ rfl]; rfl, by rw [World.cell?_alloc_at _ _ _ _ rfl]; rfl, by rw [World.cell?_alloc_at _ _ _ _ rfl]; rfl⟩
set_option maxRecDepth 100000 in
set_option maxHeartbeats 1000000 in
theorem pair_any (w : World) (B p : Nat) (h : Rdr w B p) (hp : p ≤ 80000) :
    Calls Try.prog 51 #[.pointer (some ⟨B, 0, none⟩)] w fun e w' => ∃ x y d z x' y' d' z', e = .returned (.tuple #[.agg #[.int .i64 x, .int .i64 y, .int .i64 d, .int .i64 z], .agg #[.int .i64 x', .int .i64 y', .int .i64 d', .int .i64 z']]) ∧ Beside B w w' := by
  have hB := h.lt
  have hb0 : Beside B w ((w.alloc (.cells #[.int .i64 0, .int .i64 0, .int .i64 0, .int .i64 0] 29)).alloc (.cells #[.int .i64 0, .int .i64 0, .int .i64 0, .int .i64 0] 29)) := ((Beside.refl _ _).alloc _).alloc _
  have hsz : ((w.alloc (.cells #[.int .i64 0, .int .i64 0, .int .i64 0, .int .i64 0] 29)).alloc (.cells #[.int .i64 0, .int .i64 0, .int .i64 0, .int .i64 0] 29)).heap.size > w.heap.size + 1 := by simp
  have wa : W4 ((w.alloc (.cells #[.int .i64 0, .int .i64 0, .int .i64 0, .int .i64 0] 29)).alloc (.cells #[.int .i64 0, .int .i64 0, .int .i64 0, .int .i64 0] 29)) w.heap.size := (w4_new w _).below ((Below.refl _ _).alloc (Nat.le_refl _) _) (by simp)
  have wb : W4 ((w.alloc (.cells #[.int .i64 0, .int .i64 0, .int .i64 0, .int .i64 0] 29)).alloc (.cells #[.int .i64 0, .int .i64 0, .int .i64 0, .int .i64 0] 29)) (w.heap.size + 1) := by
    have := w4_new (w.alloc (.cells #[.int .i64 0, .int .i64 0, .int .i64 0, .int .i64 0] 29)) 29
    simpa using this
  have r0 := (h.alloc (.cells #[.int .i64 0, .int .i64 0, .int .i64 0, .int .i64 0] 29)).alloc (.cells #[.int .i64 0, .int .i64 0, .int .i64 0, .int .i64 0] 29)
  go_enter Try.func51, Try.ntmps51
  go_wp2_with fail
  generalize ((w.alloc (.cells #[.int .i64 0, .int .i64 0, .int .i64 0, .int .i64 0] 29)).alloc (.cells #[.int .i64 0, .int .i64 0, .int .i64 0, .int .i64 0] 29)) = W at hb0 hsz wa wb r0 ⊢
  refine (mon_any _ _ _ 16 r0 (by omega) (by omega) (by omega)).mono ?_
  rintro e w1 ⟨x, y, d, z, q, rfl, hq, r1, s1⟩
  have b1 := hb0.trans s1
  have wa1 := wa.move s1 (by omega)
  have wb1 := wb.move s1 (by omega)
  have hs1 := s1.size
  clear h hb0 wa wb r0 s1
  go_wp2_with fail
  have k1 := c4_new w1 29 x y d z
  refine (mon_any _ _ _ 16 (r1.alloc _) (by omega) (by omega) (by omega)).mono ?_
  rintro e w2 ⟨x', y', d', z', q', rfl, hq', r2, s2⟩
  have b2 := (b1.alloc _).trans s2
  have wa2 := (wa1.move (bes_alloc B w1 _) (by omega)).move s2 (by omega)
  have wb2 := (wb1.move (bes_alloc B w1 _) (by omega)).move s2 (by omega)
  have k2 := k1.move s2 (by omega)
  have hs2 := Nat.le_trans (bes_alloc B w1 (.cells #[.int .i64 x, .int .i64 y, .int .i64 d, .int .i64 z] 29)).size s2.size
  have hk2 := k2.lt
  clear b1 wa1 wb1 r1 k1 s2
  go_wp2_with fail
  have m1 := c4_new w2 29 x' y' d' z'
  refine (pick_any _ _ _ 2 (r2.alloc _) (by omega) (by omega) (by omega)).mono ?_
  rintro e w3 ⟨v, rfl, v0, v1, hk⟩
  have s3 := hk.beside
  have b3 := (b2.alloc _).trans s3
  have wa3 := (wa2.move (bes_alloc B w2 _) (by omega)).move s3 (by omega)
  have wb3 := (wb2.move (bes_alloc B w2 _) (by omega)).move s3 (by omega)
  have k3 := (k2.move (bes_alloc B w2 _) (by omega)).move s3 (by omega)
  have m3 := m1.move s3 (by omega)
  have hm3 := m3.lt
  clear b2 wa2 wb2 r2 k2 m1 s3 hk
  by_cases hv : v = 0
  · subst hv
    obtain ⟨e0, e1, e2, e3⟩ := k3
    obtain ⟨g0, g1, g2, g3⟩ := m3
    go_wp2_with fail
    refine (monMulS _ _ _ _ _ _ _ _ _).mono ?_
    generalize M.mul ⟨x, y, d, z⟩ ⟨x', y', d', z'⟩ = mm
    rintro e w4 ⟨rfl, s4⟩
    obtain ⟨⟨u0, u1, u2, u3⟩, ok⟩ := mm
    have k4 := C4.below ⟨e0, e1, e2, e3⟩ s4 (by omega)
    have m4 := C4.below ⟨g0, g1, g2, g3⟩ s4 (by omega)
    have wa4 := wa3.below s4 (by omega)
    have wb4 := wb3.below s4 (by omega)
    have b4 : Beside B w w4 := b3.trans ⟨s4.os, s4.tape, s4.output, s4.size, fun k hk _ => s4.block k hk⟩
    have hs4 := s4.size
    clear e0 e1 e2 e3 g0 g1 g2 g3 wa3 wb3 b3 s4
    have b5 := b4.alloc (.cells #[.int .i64 u0, .int .i64 u1, .int .i64 u2, .int .i64 u3] 29)
    have k5 := k4.move (bes_alloc B w4 (.cells #[.int .i64 u0, .int .i64 u1, .int .i64 u2, .int .i64 u3] 29)) (by omega)
    have m5 := m4.move (bes_alloc B w4 (.cells #[.int .i64 u0, .int .i64 u1, .int .i64 u2, .int .i64 u3] 29)) (by omega)
    have wa5 := wa4.move (bes_alloc B w4 (.cells #[.int .i64 u0, .int .i64 u1, .int .i64 u2, .int .i64 u3] 29)) (by omega)
    have wb5 := wb4.move (bes_alloc B w4 (.cells #[.int .i64 u0, .int .i64 u1, .int .i64 u2, .int .i64 u3] 29)) (by omega)
    have o5 := c4_new w4 29 u0 u1 u2 u3
    clear b4 k4 m4 wa4 wb4
    cases ok
    · go_wp2_with fail
      generalize (w4.alloc (.cells #[.int .i64 u0, .int .i64 u1, .int .i64 u2, .int .i64 u3] 29)) = w5 at b5 k5 m5 wa5 wb5 o5 ⊢
      obtain ⟨e0, e1, e2, e3⟩ := k5
      obtain ⟨g0, g1, g2, g3⟩ := m5
      obtain ⟨⟨a0, a1, a2, a3, c0, c1, c2, c3⟩, f0, f1, f2, f3⟩ := wa5
      obtain ⟨⟨b0, b1, b2, b3, d0, d1, d2, d3⟩, t0, t1, t2, t3⟩ := wb5
      have n1 : ¬ w2.heap.size = w.heap.size := by omega
      have n2 : ¬ w2.heap.size = w.heap.size + 1 := by omega
      have n3 : ¬ w.heap.size = w2.heap.size := by omega
      have n4 : ¬ w.heap.size + 1 = w2.heap.size := by omega
      have n5 : ¬ w1.heap.size = w.heap.size := by omega
      have n6 : ¬ w1.heap.size = w.heap.size + 1 := by omega
      have n7 : ¬ w.heap.size = w1.heap.size := by omega
      have n8 : ¬ w.heap.size + 1 = w1.heap.size := by omega
      clear o5 hs1 hs2 hs4 hk2 hm3 hsz
      go_region
      all_goals
        go_wp2
        try simp only [Exit.inBlock, Exit.then]
        refine bodyPost_ret (v := .tuple #[.agg #[.int .i64 x, .int .i64 y, .int .i64 d, .int .i64 z], .agg #[.int .i64 x', .int .i64 y', .int .i64 d', .int .i64 z']]) (by simp [results, Try.results51, go_sem, *]) rfl ?_
        exact ⟨_, _, _, _, _, _, _, _, rfl, ((((((((b5.set (by omega)).set (by omega)).set (by omega)).set (by omega)).set (by omega)).set (by omega)).set (by omega)).set (by omega)).drew⟩
    · go_wp2_with fail
      generalize (w4.alloc (.cells #[.int .i64 u0, .int .i64 u1, .int .i64 u2, .int .i64 u3] 29)) = w5 at b5 k5 m5 wa5 wb5 o5 ⊢
      obtain ⟨e0, e1, e2, e3⟩ := k5
      obtain ⟨g0, g1, g2, g3⟩ := o5
      obtain ⟨⟨a0, a1, a2, a3, c0, c1, c2, c3⟩, f0, f1, f2, f3⟩ := wa5
      obtain ⟨⟨b0, b1, b2, b3, d0, d1, d2, d3⟩, t0, t1, t2, t3⟩ := wb5
      have n1 : ¬ w4.heap.size = w.heap.size := by omega
      have n2 : ¬ w4.heap.size = w.heap.size + 1 := by omega
      have n3 : ¬ w.heap.size = w4.heap.size := by omega
      have n4 : ¬ w.heap.size + 1 = w4.heap.size := by omega
      have n5 : ¬ w1.heap.size = w.heap.size := by omega
      have n6 : ¬ w1.heap.size = w.heap.size + 1 := by omega
      have n7 : ¬ w.heap.size = w1.heap.size := by omega
      have n8 : ¬ w.heap.size + 1 = w1.heap.size := by omega
      clear m5 hs1 hs2 hs4 hk2 hm3 hsz
      go_region
      all_goals
        go_wp2
        try simp only [Exit.inBlock, Exit.then]
        refine bodyPost_ret (v := .tuple #[.agg #[.int .i64 x, .int .i64 y, .int .i64 d, .int .i64 z], .agg #[.int .i64 u0, .int .i64 u1, .int .i64 u2, .int .i64 u3]]) (by simp [results, Try.results51, go_sem, *]) rfl ?_
        exact ⟨_, _, _, _, _, _, _, _, rfl, ((((((((b5.set (by omega)).set (by omega)).set (by omega)).set (by omega)).set (by omega)).set (by omega)).set (by omega)).set (by omega)).drew⟩
  · have hvb : (v == 0) = false := by simp [hv]
    obtain ⟨e0, e1, e2, e3⟩ := k3
    obtain ⟨g0, g1, g2, g3⟩ := m3
    obtain ⟨⟨a0, a1, a2, a3, c0, c1, c2, c3⟩, f0, f1, f2, f3⟩ := wa3
    obtain ⟨⟨b0, b1, b2, b3', d0, d1, d2, d3⟩, t0, t1, t2, t3⟩ := wb3
    have b5 := b3
    have n1 : ¬ w2.heap.size = w.heap.size := by omega
    have n2 : ¬ w2.heap.size = w.heap.size + 1 := by omega
    have n3 : ¬ w.heap.size = w2.heap.size := by omega
    have n4 : ¬ w.heap.size + 1 = w2.heap.size := by omega
    have n5 : ¬ w1.heap.size = w.heap.size := by omega
    have n6 : ¬ w1.heap.size = w.heap.size + 1 := by omega
    have n7 : ¬ w.heap.size = w1.heap.size := by omega
    have n8 : ¬ w.heap.size + 1 = w1.heap.size := by omega
    clear hs1 hs2 hk2 hm3 hsz b3
    go_wp2_with fail
    go_region
    all_goals
      go_wp2
      try simp only [Exit.inBlock, Exit.then]
      refine bodyPost_ret (v := .tuple #[.agg #[.int .i64 x, .int .i64 y, .int .i64 d, .int .i64 z], .agg #[.int .i64 x', .int .i64 y', .int .i64 d', .int .i64 z']]) (by simp [results, Try.results51, go_sem, *]) rfl ?_
      exact ⟨_, _, _, _, _, _, _, _, rfl, ((((((((b5.set (by omega)).set (by omega)).set (by omega)).set (by omega)).set (by omega)).set (by omega)).set (by omega)).set (by omega)).drew⟩
set_option maxHeartbeats 1000000 in
theorem drawMonDivides (w : World) (a : Option Addr) (len cap : Nat) (h : Src w a len cap) :
    Calls Try.prog 29 #[.slice a len cap] w fun e w' => ∃ x y d z x' y' d' z', e = .returned (.tuple #[.agg #[.int .i64 x, .int .i64 y, .int .i64 d, .int .i64 z], .agg #[.int .i64 x', .int .i64 y', .int .i64 d', .int .i64 z']]) ∧ Below w.heap.size w w' := by
  have hb0 : Below w.heap.size w ((w.alloc (.cells #[.int .i64 0, .int .i64 0, .int .i64 0, .int .i64 0] 29)).alloc (.cells #[.int .i64 0, .int .i64 0, .int .i64 0, .int .i64 0] 29)) := ((Below.refl _ _).alloc (Nat.le_refl _) _).alloc (by simp) _
  have hsz : ((w.alloc (.cells #[.int .i64 0, .int .i64 0, .int .i64 0, .int .i64 0] 29)).alloc (.cells #[.int .i64 0, .int .i64 0, .int .i64 0, .int .i64 0] 29)).heap.size > w.heap.size + 1 := by simp
  have wa : W4 ((w.alloc (.cells #[.int .i64 0, .int .i64 0, .int .i64 0, .int .i64 0] 29)).alloc (.cells #[.int .i64 0, .int .i64 0, .int .i64 0, .int .i64 0] 29)) w.heap.size := (w4_new w _).below ((Below.refl _ _).alloc (Nat.le_refl _) _) (by simp)
  have wb : W4 ((w.alloc (.cells #[.int .i64 0, .int .i64 0, .int .i64 0, .int .i64 0] 29)).alloc (.cells #[.int .i64 0, .int .i64 0, .int .i64 0, .int .i64 0] 29)) (w.heap.size + 1) := by
    have := w4_new (w.alloc (.cells #[.int .i64 0, .int .i64 0, .int .i64 0, .int .i64 0] 29)) 29
    simpa using this
  have s0 := h.below hb0
  go_enter Try.func29, Try.ntmps29
  go_wp2_with fail
  generalize ((w.alloc (.cells #[.int .i64 0, .int .i64 0, .int .i64 0, .int .i64 0] 29)).alloc (.cells #[.int .i64 0, .int .i64 0, .int .i64 0, .int .i64 0] 29)) = W at hb0 hsz wa wb s0 ⊢
  refine (open_any _ _ _ _ s0).mono ?_
  rintro e w1 ⟨rfl, r1, b1⟩
  have wa1 := wa.below b1 (by omega)
  have wb1 := wb.below b1 (by omega)
  have bz1 := hb0.trans (b1.mono hb0.size)
  have hs1 := b1.size
  clear h wa wb s0 b1
  go_wp2_with fail
  refine (pair_any _ _ _ r1 (by omega)).mono ?_
  rintro e w2 ⟨x, y, d, z, x', y', d', z', rfl, s2⟩
  obtain ⟨⟨a0, a1, a2, a3, c0, c1, c2, c3⟩, f0, f1, f2, f3⟩ := wa1.move s2 (by omega)
  obtain ⟨⟨b0, b1', b2, b3, d0, d1, d2, d3⟩, t0, t1, t2, t3⟩ := wb1.move s2 (by omega)
  have bz3 := s2.below bz1 (by omega) (by omega)
  clear r1 wa1 wb1 bz1 s2 hb0
  go_wp2
  try simp only [Exit.inBlock, Exit.then]
  refine bodyPost_ret (v := .tuple #[.agg #[.int .i64 x, .int .i64 y, .int .i64 d, .int .i64 z], .agg #[.int .i64 x', .int .i64 y', .int .i64 d', .int .i64 z']]) (by simp [results, Try.results29, go_sem, *]) rfl ?_
  exact ⟨_, _, _, _, _, _, _, _, rfl, (((((((bz3.setCell (by simp) _).setCell (by simp) _).setCell (by simp) _).setCell (by simp) _).setCell (by simp) _).setCell (by simp) _).setCell (by simp) _).setCell (by simp) _⟩
set_option maxHeartbeats 1000000 in
theorem drawMonOver (w : World) (a : Option Addr) (len cap : Nat) (h : Src w a len cap) :
    Calls Try.prog 27 #[.slice a len cap] w fun e w' => ∃ x y d z x' y' d' z', e = .returned (.tuple #[.agg #[.int .i64 x, .int .i64 y, .int .i64 d, .int .i64 z], .agg #[.int .i64 x', .int .i64 y', .int .i64 d', .int .i64 z']]) ∧ Below w.heap.size w w' := by
  have hb0 : Below w.heap.size w ((w.alloc (.cells #[.int .i64 0, .int .i64 0, .int .i64 0, .int .i64 0] 29)).alloc (.cells #[.int .i64 0, .int .i64 0, .int .i64 0, .int .i64 0] 29)) := ((Below.refl _ _).alloc (Nat.le_refl _) _).alloc (by simp) _
  have hsz : ((w.alloc (.cells #[.int .i64 0, .int .i64 0, .int .i64 0, .int .i64 0] 29)).alloc (.cells #[.int .i64 0, .int .i64 0, .int .i64 0, .int .i64 0] 29)).heap.size > w.heap.size + 1 := by simp
  have wa : W4 ((w.alloc (.cells #[.int .i64 0, .int .i64 0, .int .i64 0, .int .i64 0] 29)).alloc (.cells #[.int .i64 0, .int .i64 0, .int .i64 0, .int .i64 0] 29)) w.heap.size := (w4_new w _).below ((Below.refl _ _).alloc (Nat.le_refl _) _) (by simp)
  have wb : W4 ((w.alloc (.cells #[.int .i64 0, .int .i64 0, .int .i64 0, .int .i64 0] 29)).alloc (.cells #[.int .i64 0, .int .i64 0, .int .i64 0, .int .i64 0] 29)) (w.heap.size + 1) := by
    have := w4_new (w.alloc (.cells #[.int .i64 0, .int .i64 0, .int .i64 0, .int .i64 0] 29)) 29
    simpa using this
  have s0 := h.below hb0
  go_enter Try.func27, Try.ntmps27
  go_wp2_with fail
  generalize ((w.alloc (.cells #[.int .i64 0, .int .i64 0, .int .i64 0, .int .i64 0] 29)).alloc (.cells #[.int .i64 0, .int .i64 0, .int .i64 0, .int .i64 0] 29)) = W at hb0 hsz wa wb s0 ⊢
  refine (open_any _ _ _ _ s0).mono ?_
  rintro e w1 ⟨rfl, r1, b1⟩
  have wa1 := wa.below b1 (by omega)
  have wb1 := wb.below b1 (by omega)
  have bz1 := hb0.trans (b1.mono hb0.size)
  have hs1 := b1.size
  clear h wa wb s0 b1
  go_wp2_with fail
  refine (pair_any _ _ _ r1 (by omega)).mono ?_
  rintro e w2 ⟨x, y, d, z, x', y', d', z', rfl, s2⟩
  have wa2 := wa1.move s2 (by omega)
  have wb2 := wb1.move s2 (by omega)
  have bz3 := s2.below bz1 (by omega) (by omega)
  have hs2 := s2.size
  clear r1 wa1 wb1 bz1 s2 hb0
  go_wp2_with fail
  have bz5 := (bz3.alloc bz3.size (.cells #[.int .i64 x, .int .i64 y, .int .i64 d, .int .i64 z] 29)).alloc (by simp; omega) (.cells #[.int .i64 x', .int .i64 y', .int .i64 d', .int .i64 z'] 29)
  have b5 : Below w2.heap.size w2 ((w2.alloc (.cells #[.int .i64 x, .int .i64 y, .int .i64 d, .int .i64 z] 29)).alloc (.cells #[.int .i64 x', .int .i64 y', .int .i64 d', .int .i64 z'] 29)) := ((Below.refl _ _).alloc (Nat.le_refl _) _).alloc (by simp) _
  have k5 : C4 ((w2.alloc (.cells #[.int .i64 x, .int .i64 y, .int .i64 d, .int .i64 z] 29)).alloc (.cells #[.int .i64 x', .int .i64 y', .int .i64 d', .int .i64 z'] 29)) w2.heap.size x y d z := (c4_new w2 _ x y d z).below ((Below.refl _ _).alloc (Nat.le_refl _) _) (by simp)
  have m5 : C4 ((w2.alloc (.cells #[.int .i64 x, .int .i64 y, .int .i64 d, .int .i64 z] 29)).alloc (.cells #[.int .i64 x', .int .i64 y', .int .i64 d', .int .i64 z'] 29)) (w2.heap.size + 1) x' y' d' z' := by
    have := c4_new (w2.alloc (.cells #[.int .i64 x, .int .i64 y, .int .i64 d, .int .i64 z] 29)) 29 x' y' d' z'
    simpa using this
  have wa5 := wa2.below b5 (by omega)
  have wb5 := wb2.below b5 (by omega)
  generalize ((w2.alloc (.cells #[.int .i64 x, .int .i64 y, .int .i64 d, .int .i64 z] 29)).alloc (.cells #[.int .i64 x', .int .i64 y', .int .i64 d', .int .i64 z'] 29)) = w5 at bz5 b5 k5 m5 wa5 wb5 ⊢
  obtain ⟨e0, e1, e2, e3⟩ := k5
  obtain ⟨g0, g1, g2, g3⟩ := m5
  obtain ⟨⟨a0, a1, a2, a3, c0, c1, c2, c3⟩, f0, f1, f2, f3⟩ := wa5
  obtain ⟨⟨b0, b1', b2, b3, d0, d1, d2, d3⟩, t0, t1, t2, t3⟩ := wb5
  have n1 : ¬ w2.heap.size = w.heap.size := by omega
  have n2 : ¬ w2.heap.size = w.heap.size + 1 := by omega
  have n3 : ¬ w.heap.size = w2.heap.size := by omega
  have n4 : ¬ w.heap.size + 1 = w2.heap.size := by omega
  have n5 : ¬ w2.heap.size + 1 = w.heap.size := by omega
  have n7 : ¬ w.heap.size = w2.heap.size + 1 := by omega
  clear b5 wa2 wb2 bz3 hs1 hs2 hsz
  go_region
  all_goals
    go_wp2
    try simp only [Exit.inBlock, Exit.then]
    refine bodyPost_ret (v := .tuple #[.agg #[.int .i64 x', .int .i64 y', .int .i64 d', .int .i64 z'], .agg #[.int .i64 x, .int .i64 y, .int .i64 d, .int .i64 z]]) (by simp [results, Try.results27, go_sem, *]) rfl ?_
    exact ⟨_, _, _, _, _, _, _, _, rfl, ((((((((bz5.setCell (by simp) _).setCell (by simp) _).setCell (by simp) _).setCell (by simp) _).setCell (by simp) _).setCell (by simp) _).setCell (by simp) _).setCell (by simp) _).drew⟩
theorem mon_rb (w : World) (B p : Nat) (n : Int) (h : Rdr w B p) (hn : 1 ≤ n) (hn' : n ≤ 100000) (hp : p ≤ 90000) (g1 g2 : Nat) (h1 : W4 w g1) (h2 : W4 w g2) (n1 : g1 ≠ B) (n2 : g2 ≠ B) :
    Calls Try.prog 43 #[.pointer (some ⟨B, 0, none⟩), .int .i64 n] w fun e w' => ∃ x y d z q, e = .returned (.agg #[.int .i64 x, .int .i64 y, .int .i64 d, .int .i64 z]) ∧ q ≤ p + 30 ∧ Rdr w' B q ∧ Beside B w w' ∧ W4 w' g1 ∧ W4 w' g2 ∧ w.heap.size ≤ w'.heap.size ∧ (∀ b o, b < w.heap.size → ¬ b = B → w'.cell? ⟨b, o, none⟩ = w.cell? ⟨b, o, none⟩) := by
  refine (mon_any w B p n h hn hn' hp).mono ?_
  rintro e w' ⟨x, y, d, z, q, he, hq, r, s⟩
  exact ⟨x, y, d, z, q, he, hq, r, s, h1.move s n1, h2.move s n2, s.size, fun b o hb hn => s.cell hb hn⟩
end Go.Proofs.Ytfnlogmfkpaaiab
