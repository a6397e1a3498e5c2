/-
  The closure by which a sum's monomials are put in order.
-/
import Derived.Test.YtioecpiogpjlaaaRankD
import Derived.Test.YtioecpiogpjlaaaMonoI2
namespace Go.Proofs.Ytioecpiogpjlaaa
open Go.RowKit Go.Sort
set_option linter.unusedVariables false

theorem ExtG.cell {w : World} (x : ExtG w) {b o : Nat} (h : b < w.heap.size) : x.1.cell? ⟨b, o, none⟩ = w.cell? ⟨b, o, none⟩ := x.2.below.cell (p := ⟨b, o, none⟩) h
set_option maxHeartbeats 2000000 in
theorem cmpClosure (Br : Nat) (x y d e x' y' d' e' : Int) (w : World) (h : M.ok ⟨x, y, d, e⟩ = true) (h' : M.ok ⟨x', y', d', e'⟩ = true) (hB : Br < w.heap.size) (hr : w.cell? ⟨Br, 0, none⟩ = some (.func (.func 54) #[] #[])) :
    Calls Try.prog 75 #[.agg #[.int .i64 x, .int .i64 y, .int .i64 d, .int .i64 e], .agg #[.int .i64 x', .int .i64 y', .int .i64 d', .int .i64 e'], .pointer (some ⟨Br, 0, none⟩)] w fun r w' => r = .returned (.int .i64 (c3 (rkD ⟨x, y, d, e⟩) (rkD ⟨x', y', d', e'⟩))) ∧ Gr w w' := by
  have HA := Hid.mk' h
  have HB := Hid.mk' h'
  clear h h'
  go_enter Try.func75, Try.ntmps75
  go_wp2_with fail
  have B1 := Hid.mk' ((Gr.alloc w (.cells #[.int .i64 x, .int .i64 y, .int .i64 d, .int .i64 e] 38)).trans (Gr.alloc _ (.cells #[.int .i64 x', .int .i64 y', .int .i64 d', .int .i64 e'] 38)))
  have r0 : ((w.alloc (.cells #[.int .i64 x, .int .i64 y, .int .i64 d, .int .i64 e] 38)).alloc (.cells #[.int .i64 x', .int .i64 y', .int .i64 d', .int .i64 e'] 38)).cell? ⟨Br, 0, none⟩ = some (.func (.func 54) #[] #[]) := (B1.out.below.cell (p := ⟨Br, 0, none⟩) hB).trans hr
  have a0 : ((w.alloc (.cells #[.int .i64 x, .int .i64 y, .int .i64 d, .int .i64 e] 38)).alloc (.cells #[.int .i64 x', .int .i64 y', .int .i64 d', .int .i64 e'] 38)).cell? ⟨w.heap.size, 0, none⟩ = some (.int .i64 x) := by go_simp
  have a1 : ((w.alloc (.cells #[.int .i64 x, .int .i64 y, .int .i64 d, .int .i64 e] 38)).alloc (.cells #[.int .i64 x', .int .i64 y', .int .i64 d', .int .i64 e'] 38)).cell? ⟨w.heap.size, 1, none⟩ = some (.int .i64 y) := by go_simp
  have a2 : ((w.alloc (.cells #[.int .i64 x, .int .i64 y, .int .i64 d, .int .i64 e] 38)).alloc (.cells #[.int .i64 x', .int .i64 y', .int .i64 d', .int .i64 e'] 38)).cell? ⟨w.heap.size, 2, none⟩ = some (.int .i64 d) := by go_simp
  have a3 : ((w.alloc (.cells #[.int .i64 x, .int .i64 y, .int .i64 d, .int .i64 e] 38)).alloc (.cells #[.int .i64 x', .int .i64 y', .int .i64 d', .int .i64 e'] 38)).cell? ⟨w.heap.size, 3, none⟩ = some (.int .i64 e) := by go_simp
  have b0 : ((w.alloc (.cells #[.int .i64 x, .int .i64 y, .int .i64 d, .int .i64 e] 38)).alloc (.cells #[.int .i64 x', .int .i64 y', .int .i64 d', .int .i64 e'] 38)).cell? ⟨w.heap.size + 1, 0, none⟩ = some (.int .i64 x') := by go_simp
  have b1 : ((w.alloc (.cells #[.int .i64 x, .int .i64 y, .int .i64 d, .int .i64 e] 38)).alloc (.cells #[.int .i64 x', .int .i64 y', .int .i64 d', .int .i64 e'] 38)).cell? ⟨w.heap.size + 1, 1, none⟩ = some (.int .i64 y') := by go_simp
  have b2 : ((w.alloc (.cells #[.int .i64 x, .int .i64 y, .int .i64 d, .int .i64 e] 38)).alloc (.cells #[.int .i64 x', .int .i64 y', .int .i64 d', .int .i64 e'] 38)).cell? ⟨w.heap.size + 1, 2, none⟩ = some (.int .i64 d') := by go_simp
  have b3 : ((w.alloc (.cells #[.int .i64 x, .int .i64 y, .int .i64 d, .int .i64 e] 38)).alloc (.cells #[.int .i64 x', .int .i64 y', .int .i64 d', .int .i64 e'] 38)).cell? ⟨w.heap.size + 1, 3, none⟩ = some (.int .i64 e') := by go_simp
  have z : ((w.alloc (.cells #[.int .i64 x, .int .i64 y, .int .i64 d, .int .i64 e] 38)).alloc (.cells #[.int .i64 x', .int .i64 y', .int .i64 d', .int .i64 e'] 38)).heap.size = w.heap.size + 2 := by simp
  generalize (w.alloc (.cells #[.int .i64 x, .int .i64 y, .int .i64 d, .int .i64 e] 38)).alloc (.cells #[.int .i64 x', .int .i64 y', .int .i64 d', .int .i64 e'] 38) = wb at *
  have ne := ExtG.there wb
  have sr : ∀ u : ExtG wb, u.1.cell? ⟨Br, 0, none⟩ = some (.func (.func 54) #[] #[]) := fun u => (u.cell (by omega)).trans r0
  have s0 : ∀ u : ExtG wb, u.1.cell? ⟨w.heap.size, 0, none⟩ = some (.int .i64 x) := fun u => (u.cell (by omega)).trans a0
  have s1 : ∀ u : ExtG wb, u.1.cell? ⟨w.heap.size, 1, none⟩ = some (.int .i64 y) := fun u => (u.cell (by omega)).trans a1
  have s2 : ∀ u : ExtG wb, u.1.cell? ⟨w.heap.size, 2, none⟩ = some (.int .i64 d) := fun u => (u.cell (by omega)).trans a2
  have s3 : ∀ u : ExtG wb, u.1.cell? ⟨w.heap.size, 3, none⟩ = some (.int .i64 e) := fun u => (u.cell (by omega)).trans a3
  have t0 : ∀ u : ExtG wb, u.1.cell? ⟨w.heap.size + 1, 0, none⟩ = some (.int .i64 x') := fun u => (u.cell (by omega)).trans b0
  have t1 : ∀ u : ExtG wb, u.1.cell? ⟨w.heap.size + 1, 1, none⟩ = some (.int .i64 y') := fun u => (u.cell (by omega)).trans b1
  have t2 : ∀ u : ExtG wb, u.1.cell? ⟨w.heap.size + 1, 2, none⟩ = some (.int .i64 d') := fun u => (u.cell (by omega)).trans b2
  have t3 : ∀ u : ExtG wb, u.1.cell? ⟨w.heap.size + 1, 3, none⟩ = some (.int .i64 e') := fun u => (u.cell (by omega)).trans b3
  clear a0 a1 a2 a3 b0 b1 b2 b3 r0
  refine wp_region_extG (by kernel_rfl) (by kernel_rfl) ?_
  repeat (go_big_quiet_step (first | (go_at_call 76; exact extG_same (compareI _ _ _)) | (go_at_call_of 54 (Value.int IntKind.i64 x); exact extG_grows (rankDegG _ _ _ _ _ HA.out)) | (go_at_call 54; exact extG_grows (rankDegG _ _ _ _ _ HB.out))))
  refine wpQuiet_nil ?_
  rintro _ ⟨u, rfl⟩
  go_wp2
  go_ret
  exact ⟨rfl, B1.out.trans u.2⟩
end Go.Proofs.Ytioecpiogpjlaaa
