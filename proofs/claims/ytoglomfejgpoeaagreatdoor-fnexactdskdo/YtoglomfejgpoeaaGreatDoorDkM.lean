/-
  Lines: a copy lies behind what was there; marks of a line.
-/
import Derived.Test.YtoglomfejgpoeaaGreatDoorGbm
import Derived.Test.YtoglomfejgpoeaaGreatDoorGah
namespace Go.Proofs.YtoglomfejgpoeaaGreatDoor
open Go.RowKit Go.Deep Go.Joins Go.WideShapes Go.ChangeShapes
set_option linter.unusedVariables false
set_option linter.unusedSimpArgs false
set_option maxRecDepth 100000 in
set_option maxHeartbeats 2000000 in
theorem toLine2 (k to a b : Int) (pa : Option Addr) (n cap : Nat) (f : Nat → T) (w : World) (h : Rd w pa n cap f) :
    Calls Tryz.prog 17 #[.agg #[.int .i64 k, .int .i64 to, .int .i64 a, .int .i64 b, .slice pa n cap]] w fun r w' => ∃ g, r = .returned (.agg #[.int .i64 k, .int .i64 to, .int .i64 a, .int .i64 b, .slice (some ⟨g, 0, none⟩) n n]) ∧ Below w.heap.size w w' ∧ Own w' g n f ∧ w.heap.size < g := by
  have HH := Hid.mk' h
  clear h
  go_enter Tryz.func17, Tryz.ntmps17
  go_wp2_with fail
  have hbX := bel_three w (.cells #[.int .i64 k, .int .i64 to, .int .i64 a, .int .i64 b, .slice pa n cap] 33) (.cells #[.int .i64 0, .int .i64 0, .int .i64 0, .int .i64 0, .slice none 0 0] 24) (.cells #[.int .i64 k, .int .i64 to, .int .i64 a, .int .i64 b, .slice none 0 0] 24)
  have h2X : (((w.alloc (.cells #[.int .i64 k, .int .i64 to, .int .i64 a, .int .i64 b, .slice pa n cap] 33)).alloc (.cells #[.int .i64 0, .int .i64 0, .int .i64 0, .int .i64 0, .slice none 0 0] 24)).alloc (.cells #[.int .i64 k, .int .i64 to, .int .i64 a, .int .i64 b, .slice none 0 0] 24)).heap[w.heap.size + 1]? = some (.cells #[.int .i64 0, .int .i64 0, .int .i64 0, .int .i64 0, .slice none 0 0] 24 (0, 0)) := by
    rw [Below.heap_alloc _ _ _ (by simp)]
    have := heap_alloc_new (w.alloc (.cells #[.int .i64 k, .int .i64 to, .int .i64 a, .int .i64 b, .slice pa n cap] 33)) (.cells #[.int .i64 0, .int .i64 0, .int .i64 0, .int .i64 0, .slice none 0 0] 24)
    rwa [World.size_alloc] at this
  have h3X : (((w.alloc (.cells #[.int .i64 k, .int .i64 to, .int .i64 a, .int .i64 b, .slice pa n cap] 33)).alloc (.cells #[.int .i64 0, .int .i64 0, .int .i64 0, .int .i64 0, .slice none 0 0] 24)).alloc (.cells #[.int .i64 k, .int .i64 to, .int .i64 a, .int .i64 b, .slice none 0 0] 24)).heap[w.heap.size + 1 + 1]? = some (.cells #[.int .i64 k, .int .i64 to, .int .i64 a, .int .i64 b, .slice none 0 0] 24 (0, 0)) := by
    have := heap_alloc_new ((w.alloc (.cells #[.int .i64 k, .int .i64 to, .int .i64 a, .int .i64 b, .slice pa n cap] 33)).alloc (.cells #[.int .i64 0, .int .i64 0, .int .i64 0, .int .i64 0, .slice none 0 0] 24)) (.cells #[.int .i64 k, .int .i64 to, .int .i64 a, .int .i64 b, .slice none 0 0] 24)
    rwa [World.size_alloc, World.size_alloc] at this
  have hsX : (((w.alloc (.cells #[.int .i64 k, .int .i64 to, .int .i64 a, .int .i64 b, .slice pa n cap] 33)).alloc (.cells #[.int .i64 0, .int .i64 0, .int .i64 0, .int .i64 0, .slice none 0 0] 24)).alloc (.cells #[.int .i64 k, .int .i64 to, .int .i64 a, .int .i64 b, .slice none 0 0] 24)).heap.size = w.heap.size + 3 := by simp
  generalize (((w.alloc (.cells #[.int .i64 k, .int .i64 to, .int .i64 a, .int .i64 b, .slice pa n cap] 33)).alloc (.cells #[.int .i64 0, .int .i64 0, .int .i64 0, .int .i64 0, .slice none 0 0] 24)).alloc (.cells #[.int .i64 k, .int .i64 to, .int .i64 a, .int .i64 b, .slice none 0 0] 24)) = X at hbX h2X h3X hsX ⊢
  refine (toTerms _ _ _ _ f (HH.out.below hbX)).mono ?_
  rintro e w1 ⟨rfl, hb, ho⟩
  obtain ⟨g, hg⟩ : ∃ g, X.heap.size = g := ⟨_, rfl⟩
  have hgl : w.heap.size + 3 ≤ g := by omega
  rw [hg] at ho ⊢
  obtain ⟨⟨r0, r1, r2, r3, r4⟩, rz⟩ := cells5 ((hb.block _ (by omega)).trans h2X)
  obtain ⟨⟨x0, x1, x2, x3, x4⟩, xz⟩ := cells5 ((hb.block _ (by omega)).trans h3X)
  have HB := Hid.mk' (bel_next hbX hb)
  have HO := Hid.mk' ho
  have hn1 : w.heap.size + 1 ≠ w.heap.size + 1 + 1 := by omega
  have hn2 : w.heap.size + 1 + 1 ≠ w.heap.size + 1 := by omega
  have hg1 : g ≠ w.heap.size + 1 := by omega
  have hg2 : g ≠ w.heap.size + 1 + 1 := by omega
  clear hb ho hbX h2X h3X hsX hg
  go_wp2
  refine bodyPost_ret (v := .agg #[.int .i64 k, .int .i64 to, .int .i64 a, .int .i64 b, .slice (some ⟨g, 0, none⟩) n n]) (by simp [results, Tryz.results17, go_sem, *]) rfl ?_
  refine ⟨g, rfl, ?_, ?_, by omega⟩
  · first
      | exact bel_s5 (HB.out.setCell (p := ⟨w.heap.size + 1 + 1, 4, none⟩) (by show w.heap.size ≤ w.heap.size + 1 + 1; omega) _) (by omega) _ _ _ _ _
      | exact (bel_s5 HB.out (by omega) _ _ _ _ _).setCell (p := ⟨w.heap.size + 1 + 1, 4, none⟩) (by show w.heap.size ≤ w.heap.size + 1 + 1; omega) _
  · refine HO.out.of_block ?_
    repeat (first | rw [Below.heap_setCell _ _ _ _ hg1] | rw [Below.heap_setCell _ _ _ _ hg2])
set_option maxHeartbeats 2000000 in
theorem markLine (k to a b : Int) (g n : Nat) (f : Nat → T) (K : Int) (w : World) (h : Own w g n f) (hn : n ≤ 1048576) (k0 : 0 ≤ K) (k1 : K ≤ 100000000000000) :
    Calls Tryz.prog 11 #[.agg #[.int .i64 k, .int .i64 to, .int .i64 a, .int .i64 b, .slice (some ⟨g, 0, none⟩) n n], .int .i64 K] w fun r w' => r = .returned (.int .i64 (K + 5 * n)) ∧ Beside g w w' := by
  have hb0 := bel_one w (.cells #[.int .i64 k, .int .i64 to, .int .i64 a, .int .i64 b, .slice (some ⟨g, 0, none⟩) n n] 24)
  have HM := Hid.mk' (markTerms _ (some ⟨g, 0, none⟩) n n f K (h.below hb0 h.lt).wr (by omega) k0 (by omega))
  have HB0 := Hid.mk' hb0
  clear hb0 h
  go_enter Tryz.func11, Tryz.ntmps11
  go_wp2_with fail
  refine HM.out.mono ?_
  rintro r w1 ⟨rfl, hg, hz, hw, hs⟩
  have HG : Hid (Beside g w w1) := Hid.mk' ⟨hg.os.trans HB0.out.os, hg.tape.trans HB0.out.tape, hg.output.trans HB0.out.output, by rw [hz]; exact HB0.out.size, fun j hj hn => (hg.block j (Nat.lt_of_lt_of_le hj HB0.out.size) (by simp; exact hn)).trans (HB0.out.block j hj)⟩
  clear hg hz hw hs HM
  go_wp2
  go_ret
  exact ⟨rfl, HG.out⟩
end Go.Proofs.YtoglomfejgpoeaaGreatDoor
