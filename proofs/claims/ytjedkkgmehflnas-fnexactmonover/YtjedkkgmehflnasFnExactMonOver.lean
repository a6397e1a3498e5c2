/-
  FnExactMonOver: at every argument the program answers as its model, and writes into none.
-/
import Derived.Test.YtjedkkgmehflnasMonoI2
import Derived.Test.YtjedkkgmehflnasOpenM
import Derived.ProofKit
import Derived.OpenShut
import Derived.Deep.RegionHeld3
import Derived.Deep.Light
namespace Go.Proofs.Ytjedkkgmehflnas.fnExactMonOver
open Go.ChangeShapes Go.WideShapes Go.ChangeAt Go.RowKit Go.Deep Go.Joins
set_option linter.unusedVariables false

def S9 (v u : World) (n : Nat) (x0 y0 z0 u0 x1 y1 z1 u1 : Int) : Prop := Below v.heap.size v u ∧ u.cell? ⟨n, 0, none⟩ = some (.int .i64 x0) ∧ u.cell? ⟨n, 1, none⟩ = some (.int .i64 y0) ∧ u.cell? ⟨n, 2, none⟩ = some (.int .i64 z0) ∧ u.cell? ⟨n, 3, none⟩ = some (.int .i64 u0) ∧ u.cell? ⟨n + 1, 0, none⟩ = some (.int .i64 x1) ∧ u.cell? ⟨n + 1, 1, none⟩ = some (.int .i64 y1) ∧ u.cell? ⟨n + 1, 2, none⟩ = some (.int .i64 z1) ∧ u.cell? ⟨n + 1, 3, none⟩ = some (.int .i64 u1)
variable {v u u' : World} {n : Nat} {x0 y0 z0 u0 x1 y1 z1 u1 : Int}
theorem S9.mk (hB : Below v.heap.size v u) (ha : M4 u n x0 y0 z0 u0) (hb : M4 u (n + 1) x1 y1 z1 u1) : S9 v u n x0 y0 z0 u0 x1 y1 z1 u1 :=
  ⟨hB, ha.1, ha.2.1, ha.2.2.1, ha.2.2.2, hb.1, hb.2.1, hb.2.2.1, hb.2.2.2⟩
theorem S9.a (h : S9 v u n x0 y0 z0 u0 x1 y1 z1 u1) : M4 u n x0 y0 z0 u0 := ⟨h.2.1, h.2.2.1, h.2.2.2.1, h.2.2.2.2.1⟩
theorem S9.b (h : S9 v u n x0 y0 z0 u0 x1 y1 z1 u1) : M4 u (n + 1) x1 y1 z1 u1 := ⟨h.2.2.2.2.2.1, h.2.2.2.2.2.2.1, h.2.2.2.2.2.2.2.1, h.2.2.2.2.2.2.2.2⟩
theorem s9_below (hb : Below u.heap.size u u') (h : S9 v u n x0 y0 z0 u0 x1 y1 z1 u1) : S9 v u' n x0 y0 z0 u0 x1 y1 z1 u1 := .mk (h.1.trans (hb.mono h.1.size)) (h.a.below hb) (h.b.below hb)
theorem s9_alloc {A : Obj} (h : S9 v u n x0 y0 z0 u0 x1 y1 z1 u1) : S9 v (u.alloc A) n x0 y0 z0 u0 x1 y1 z1 u1 := s9_below (bel_one u A) h
theorem s9_drew (h : S9 v u n x0 y0 z0 u0 x1 y1 z1 u1) : S9 v u.drew n x0 y0 z0 u0 x1 y1 z1 u1 := s9_below (Below.refl _ _).drew h
theorem calloc (w : World) (o : Obj) {b i : Nat} (h : b < w.heap.size) : (w.alloc o).cell? ⟨b, i, none⟩ = w.cell? ⟨b, i, none⟩ := (bel_one w o).cell (p := ⟨b, i, none⟩) h
theorem far4' {w : World} {B b o : Nat} {v0 v1 v2 v3 : Value} (h : b ≠ B) : ((((w.setCell ⟨B, 0, none⟩ v0).setCell ⟨B, 1, none⟩ v1).setCell ⟨B, 2, none⟩ v2).setCell ⟨B, 3, none⟩ v3).cell? ⟨b, o, none⟩ = w.cell? ⟨b, o, none⟩ := by
  refine World.cell?_of_block ?_
  rw [Below.heap_setCell _ _ _ _ h, Below.heap_setCell _ _ _ _ h, Below.heap_setCell _ _ _ _ h, Below.heap_setCell _ _ _ _ h]
theorem m4_far {B b : Nat} {v0 v1 v2 v3 : Value} {x y d e : Int} (m : M4 u b x y d e) (h : b ≠ B) : M4 ((((u.setCell ⟨B, 0, none⟩ v0).setCell ⟨B, 1, none⟩ v1).setCell ⟨B, 2, none⟩ v2).setCell ⟨B, 3, none⟩ v3) b x y d e :=
  ⟨(far4' h).trans m.1, (far4' h).trans m.2.1, (far4' h).trans m.2.2.1, (far4' h).trans m.2.2.2⟩
theorem s9_set {B : Nat} {v0 v1 v2 v3 : Value} (h : S9 v u n x0 y0 z0 u0 x1 y1 z1 u1) (hB : n + 1 < B) (hv : v.heap.size ≤ B) : S9 v ((((u.setCell ⟨B, 0, none⟩ v0).setCell ⟨B, 1, none⟩ v1).setCell ⟨B, 2, none⟩ v2).setCell ⟨B, 3, none⟩ v3) n x0 y0 z0 u0 x1 y1 z1 u1 :=
  .mk (bel_set4 h.1 hv _ _ _ _) (m4_far h.a (by omega)) (m4_far h.b (by omega))
theorem s9_again {A B : Obj} (h : S9 v (u.alloc A) n x0 y0 z0 u0 x1 y1 z1 u1) (hz : n + 1 < u.heap.size) (hv : v.heap.size ≤ u.heap.size) : S9 v (u.alloc B) n x0 y0 z0 u0 x1 y1 z1 u1 :=
  .mk (by
      have h1 := h.1
      refine ⟨h1.os, h1.tape, h1.output, ?_, fun k hk => ?_⟩
      · have := h1.size
        simp at this ⊢
        omega
      · have := h1.block k hk
        rw [Below.heap_alloc _ _ _ (by omega)] at this ⊢
        exact this) (by
      obtain ⟨a, b, c, d⟩ := h.a
      rw [calloc _ _ (by omega)] at a b c d
      exact (M4.below ⟨a, b, c, d⟩ (bel_one u B))) (by
      obtain ⟨a, b, c, d⟩ := h.b
      rw [calloc _ _ hz] at a b c d
      exact (M4.below ⟨a, b, c, d⟩ (bel_one u B)))
set_option maxRecDepth 100000 in
set_option maxHeartbeats 8000000 in
theorem walk (x0 y0 z0 u0 x1 y1 z1 u1 : Int) (w : World) : Calls Try.prog 3 #[Value.agg #[Value.int IntKind.i64 x0, Value.int IntKind.i64 y0, Value.int IntKind.i64 z0, Value.int IntKind.i64 u0], Value.agg #[Value.int IntKind.i64 x1, Value.int IntKind.i64 y1, Value.int IntKind.i64 z1, Value.int IntKind.i64 u1]] w fun e w' => e = .returned (.bool true) ∧ Below w.heap.size w w' := by
  go_enter Try.func3, Try.ntmps3
  go_wp2_with fail
  have hS0 : S9 w ((w.alloc (.cells #[.int .i64 x0, .int .i64 y0, .int .i64 z0, .int .i64 u0] 23)).alloc (.cells #[.int .i64 x1, .int .i64 y1, .int .i64 z1, .int .i64 u1] 23)) w.heap.size x0 y0 z0 u0 x1 y1 z1 u1 := .mk (bel_two w _ _) ((M4.box w _ x0 y0 z0 u0).alloc _) (by have h := M4.box (w.alloc (.cells #[.int .i64 x0, .int .i64 y0, .int .i64 z0, .int .i64 u0] 23)) 23 x1 y1 z1 u1; rw [World.size_alloc] at h; exact h)
  generalize ((w.alloc (.cells #[.int .i64 x0, .int .i64 y0, .int .i64 z0, .int .i64 u0] 23)).alloc (.cells #[.int .i64 x1, .int .i64 y1, .int .i64 z1, .int .i64 u1] 23)) = wb at hS0 ⊢
  have hzb : w.heap.size + 1 < wb.heap.size := hS0.b.lt
  refine Code.wp_mono (Q := (fun e a u => e = Exit.normal ∧ ∃ g : Nat, a = { tmps := #[Value.agg #[Value.int IntKind.i64 x0, Value.int IntKind.i64 y0, Value.int IntKind.i64 z0, Value.int IntKind.i64 u0], Value.agg #[Value.int IntKind.i64 x1, Value.int IntKind.i64 y1, Value.int IntKind.i64 z1, Value.int IntKind.i64 u1], Value.pointer (some ⟨w.heap.size, 0, none⟩), Value.pointer (some ⟨w.heap.size + 1, 0, none⟩), Value.bool false, Value.pointer (some ⟨g, 0, none⟩), Value.bool (M.over ⟨x0, y0, z0, u0⟩ ⟨x1, y1, z1, u1⟩).2, undef, undef, Value.tuple #[Value.agg #[Value.int IntKind.i64 (M.over ⟨x0, y0, z0, u0⟩ ⟨x1, y1, z1, u1⟩).1.x, Value.int IntKind.i64 (M.over ⟨x0, y0, z0, u0⟩ ⟨x1, y1, z1, u1⟩).1.y, Value.int IntKind.i64 (M.over ⟨x0, y0, z0, u0⟩ ⟨x1, y1, z1, u1⟩).1.d, Value.int IntKind.i64 (M.over ⟨x0, y0, z0, u0⟩ ⟨x1, y1, z1, u1⟩).1.e], Value.bool (M.over ⟨x0, y0, z0, u0⟩ ⟨x1, y1, z1, u1⟩).2], Value.agg #[Value.int IntKind.i64 x0, Value.int IntKind.i64 y0, Value.int IntKind.i64 z0, Value.int IntKind.i64 u0], Value.agg #[Value.int IntKind.i64 x0, Value.int IntKind.i64 y0, Value.int IntKind.i64 z0, Value.int IntKind.i64 u0], Value.agg #[Value.int IntKind.i64 x1, Value.int IntKind.i64 y1, Value.int IntKind.i64 z1, Value.int IntKind.i64 u1], Value.agg #[Value.int IntKind.i64 x1, Value.int IntKind.i64 y1, Value.int IntKind.i64 z1, Value.int IntKind.i64 u1], Value.tuple #[Value.agg #[Value.int IntKind.i64 (M.over ⟨x0, y0, z0, u0⟩ ⟨x1, y1, z1, u1⟩).1.x, Value.int IntKind.i64 (M.over ⟨x0, y0, z0, u0⟩ ⟨x1, y1, z1, u1⟩).1.y, Value.int IntKind.i64 (M.over ⟨x0, y0, z0, u0⟩ ⟨x1, y1, z1, u1⟩).1.d, Value.int IntKind.i64 (M.over ⟨x0, y0, z0, u0⟩ ⟨x1, y1, z1, u1⟩).1.e], Value.bool (M.over ⟨x0, y0, z0, u0⟩ ⟨x1, y1, z1, u1⟩).2], Value.agg #[Value.int IntKind.i64 (M.over ⟨x0, y0, z0, u0⟩ ⟨x1, y1, z1, u1⟩).1.x, Value.int IntKind.i64 (M.over ⟨x0, y0, z0, u0⟩ ⟨x1, y1, z1, u1⟩).1.y, Value.int IntKind.i64 (M.over ⟨x0, y0, z0, u0⟩ ⟨x1, y1, z1, u1⟩).1.d, Value.int IntKind.i64 (M.over ⟨x0, y0, z0, u0⟩ ⟨x1, y1, z1, u1⟩).1.e], Value.bool (M.over ⟨x0, y0, z0, u0⟩ ⟨x1, y1, z1, u1⟩).2, undef, undef, undef, undef, undef, undef, undef, undef, undef, undef, undef, undef, undef, undef, undef, undef, undef], defers := [] } ∧ M4 u g ((M.over ⟨x0, y0, z0, u0⟩ ⟨x1, y1, z1, u1⟩).1.x) ((M.over ⟨x0, y0, z0, u0⟩ ⟨x1, y1, z1, u1⟩).1.y) ((M.over ⟨x0, y0, z0, u0⟩ ⟨x1, y1, z1, u1⟩).1.d) ((M.over ⟨x0, y0, z0, u0⟩ ⟨x1, y1, z1, u1⟩).1.e) ∧ S9 w u w.heap.size x0 y0 z0 u0 x1 y1 z1 u1)) ?_ ?_
  rotate_left
  · go_region_held3 (fun u => Below w.heap.size w u ∧ u.cell? ⟨w.heap.size, 0, none⟩ = some (Value.int IntKind.i64 x0) ∧ u.cell? ⟨w.heap.size, 1, none⟩ = some (Value.int IntKind.i64 y0) ∧ u.cell? ⟨w.heap.size, 2, none⟩ = some (Value.int IntKind.i64 z0) ∧ u.cell? ⟨w.heap.size, 3, none⟩ = some (Value.int IntKind.i64 u0) ∧ u.cell? ⟨w.heap.size + 1, 0, none⟩ = some (Value.int IntKind.i64 x1) ∧ u.cell? ⟨w.heap.size + 1, 1, none⟩ = some (Value.int IntKind.i64 y1) ∧ u.cell? ⟨w.heap.size + 1, 2, none⟩ = some (Value.int IntKind.i64 z1) ∧ u.cell? ⟨w.heap.size + 1, 3, none⟩ = some (Value.int IntKind.i64 u1)) (first | exact s9_drew hS0 | exact s9_below (by assumption) (by assumption) | exact s9_alloc (by assumption) | exact s9_drew (by assumption) | exact s9_again (by assumption) (by assumption) (by assumption) | exact s9_set (by assumption) (by omega) (by omega)) (first | (go_at_call_of 9 (Value.int IntKind.i64 x0); refine (toMon x0 y0 z0 u0 _).mono ?_; rintro r w1 ⟨rfl, hb1⟩; obtain ⟨hc1, hf1⟩ := bcell hb1; have hs1 := hb1.size; (try simp at hs1); have hz1 : w.heap.size + 1 < w1.heap.size := (by omega); have hv1 : w.heap.size ≤ w1.heap.size := (by omega); (try (have hpwb1 : wb.heap.size < w1.heap.size := (by omega)))) | (go_at_call_of 9 (Value.int IntKind.i64 x1); refine (toMon x1 y1 z1 u1 _).mono ?_; rintro r w2 ⟨rfl, hb2⟩; obtain ⟨hc2, hf2⟩ := bcell hb2; have hs2 := hb2.size; (try simp at hs2); have hz2 : w.heap.size + 1 < w2.heap.size := (by omega); have hv2 : w.heap.size ≤ w2.heap.size := (by omega); (try (have hpwb2 : wb.heap.size < w2.heap.size := (by omega))); (try (have hpw12 : w1.heap.size < w2.heap.size := (by omega)))) | (go_at_call 8; refine (monOverS x0 y0 z0 u0 x1 y1 z1 u1 _).mono ?_; rintro r w3 ⟨rfl, hb3⟩; obtain ⟨hc3, hf3⟩ := bcell hb3; have hs3 := hb3.size; (try simp at hs3); have hz3 : w.heap.size + 1 < w3.heap.size := (by omega); have hv3 : w.heap.size ≤ w3.heap.size := (by omega); (try (have hpwb3 : wb.heap.size < w3.heap.size := (by omega))); (try (have hpw13 : w1.heap.size < w3.heap.size := (by omega))); (try (have hpw23 : w2.heap.size < w3.heap.size := (by omega)))))
    all_goals
      exact ⟨rfl, _, rfl, ⟨by go_simp, by go_simp, by go_simp, by go_simp⟩, by assumption⟩
  · rintro _ _ ua ⟨rfl, g, rfl, hm, hS⟩
    have HM := Hid.mk' hm
    have HS := Hid.mk' hS
    have hg : g < ua.heap.size := hm.lt
    have hzu : w.heap.size + 1 < ua.heap.size := hS.b.lt
    have hS1 : S9 ua ua w.heap.size x0 y0 z0 u0 x1 y1 z1 u1 := .mk (Below.refl _ _) hS.a hS.b
    clear hm hS hS0 hzb
    go_wp2_with fail
    refine Code.wp_mono (Q := (fun e a u => e = Exit.normal ∧ ∃ g2 : Nat, a = { tmps := #[Value.agg #[Value.int IntKind.i64 x0, Value.int IntKind.i64 y0, Value.int IntKind.i64 z0, Value.int IntKind.i64 u0], Value.agg #[Value.int IntKind.i64 x1, Value.int IntKind.i64 y1, Value.int IntKind.i64 z1, Value.int IntKind.i64 u1], Value.pointer (some ⟨w.heap.size, 0, none⟩), Value.pointer (some ⟨w.heap.size + 1, 0, none⟩), Value.bool false, Value.pointer (some ⟨g, 0, none⟩), Value.bool (M.over ⟨x0, y0, z0, u0⟩ ⟨x1, y1, z1, u1⟩).2, Value.pointer (some ⟨g2, 0, none⟩), Value.bool (M.over ⟨x0, y0, z0, u0⟩ ⟨x1, y1, z1, u1⟩).2, Value.tuple #[Value.agg #[Value.int IntKind.i64 (M.over ⟨x0, y0, z0, u0⟩ ⟨x1, y1, z1, u1⟩).1.x, Value.int IntKind.i64 (M.over ⟨x0, y0, z0, u0⟩ ⟨x1, y1, z1, u1⟩).1.y, Value.int IntKind.i64 (M.over ⟨x0, y0, z0, u0⟩ ⟨x1, y1, z1, u1⟩).1.d, Value.int IntKind.i64 (M.over ⟨x0, y0, z0, u0⟩ ⟨x1, y1, z1, u1⟩).1.e], Value.bool (M.over ⟨x0, y0, z0, u0⟩ ⟨x1, y1, z1, u1⟩).2], Value.agg #[Value.int IntKind.i64 x0, Value.int IntKind.i64 y0, Value.int IntKind.i64 z0, Value.int IntKind.i64 u0], Value.agg #[Value.int IntKind.i64 x0, Value.int IntKind.i64 y0, Value.int IntKind.i64 z0, Value.int IntKind.i64 u0], Value.agg #[Value.int IntKind.i64 x1, Value.int IntKind.i64 y1, Value.int IntKind.i64 z1, Value.int IntKind.i64 u1], Value.agg #[Value.int IntKind.i64 x1, Value.int IntKind.i64 y1, Value.int IntKind.i64 z1, Value.int IntKind.i64 u1], Value.tuple #[Value.agg #[Value.int IntKind.i64 (M.over ⟨x0, y0, z0, u0⟩ ⟨x1, y1, z1, u1⟩).1.x, Value.int IntKind.i64 (M.over ⟨x0, y0, z0, u0⟩ ⟨x1, y1, z1, u1⟩).1.y, Value.int IntKind.i64 (M.over ⟨x0, y0, z0, u0⟩ ⟨x1, y1, z1, u1⟩).1.d, Value.int IntKind.i64 (M.over ⟨x0, y0, z0, u0⟩ ⟨x1, y1, z1, u1⟩).1.e], Value.bool (M.over ⟨x0, y0, z0, u0⟩ ⟨x1, y1, z1, u1⟩).2], Value.agg #[Value.int IntKind.i64 (M.over ⟨x0, y0, z0, u0⟩ ⟨x1, y1, z1, u1⟩).1.x, Value.int IntKind.i64 (M.over ⟨x0, y0, z0, u0⟩ ⟨x1, y1, z1, u1⟩).1.y, Value.int IntKind.i64 (M.over ⟨x0, y0, z0, u0⟩ ⟨x1, y1, z1, u1⟩).1.d, Value.int IntKind.i64 (M.over ⟨x0, y0, z0, u0⟩ ⟨x1, y1, z1, u1⟩).1.e], Value.bool (M.over ⟨x0, y0, z0, u0⟩ ⟨x1, y1, z1, u1⟩).2, Value.tuple #[Value.agg #[Value.int IntKind.i64 (M.over ⟨x0, y0, z0, u0⟩ ⟨x1, y1, z1, u1⟩).1.x, Value.int IntKind.i64 (M.over ⟨x0, y0, z0, u0⟩ ⟨x1, y1, z1, u1⟩).1.y, Value.int IntKind.i64 (M.over ⟨x0, y0, z0, u0⟩ ⟨x1, y1, z1, u1⟩).1.d, Value.int IntKind.i64 (M.over ⟨x0, y0, z0, u0⟩ ⟨x1, y1, z1, u1⟩).1.e], Value.bool (M.over ⟨x0, y0, z0, u0⟩ ⟨x1, y1, z1, u1⟩).2], Value.agg #[Value.int IntKind.i64 x0, Value.int IntKind.i64 y0, Value.int IntKind.i64 z0, Value.int IntKind.i64 u0], Value.agg #[Value.int IntKind.i64 x0, Value.int IntKind.i64 y0, Value.int IntKind.i64 z0, Value.int IntKind.i64 u0], Value.agg #[Value.int IntKind.i64 x1, Value.int IntKind.i64 y1, Value.int IntKind.i64 z1, Value.int IntKind.i64 u1], Value.agg #[Value.int IntKind.i64 x1, Value.int IntKind.i64 y1, Value.int IntKind.i64 z1, Value.int IntKind.i64 u1], Value.tuple #[Value.agg #[Value.int IntKind.i64 (M.over ⟨x0, y0, z0, u0⟩ ⟨x1, y1, z1, u1⟩).1.x, Value.int IntKind.i64 (M.over ⟨x0, y0, z0, u0⟩ ⟨x1, y1, z1, u1⟩).1.y, Value.int IntKind.i64 (M.over ⟨x0, y0, z0, u0⟩ ⟨x1, y1, z1, u1⟩).1.d, Value.int IntKind.i64 (M.over ⟨x0, y0, z0, u0⟩ ⟨x1, y1, z1, u1⟩).1.e], Value.bool (M.over ⟨x0, y0, z0, u0⟩ ⟨x1, y1, z1, u1⟩).2], Value.agg #[Value.int IntKind.i64 (M.over ⟨x0, y0, z0, u0⟩ ⟨x1, y1, z1, u1⟩).1.x, Value.int IntKind.i64 (M.over ⟨x0, y0, z0, u0⟩ ⟨x1, y1, z1, u1⟩).1.y, Value.int IntKind.i64 (M.over ⟨x0, y0, z0, u0⟩ ⟨x1, y1, z1, u1⟩).1.d, Value.int IntKind.i64 (M.over ⟨x0, y0, z0, u0⟩ ⟨x1, y1, z1, u1⟩).1.e], Value.bool (M.over ⟨x0, y0, z0, u0⟩ ⟨x1, y1, z1, u1⟩).2, undef, undef, undef, undef, undef, undef, undef, undef, undef], defers := [] } ∧ M4 u g2 ((M.over ⟨x0, y0, z0, u0⟩ ⟨x1, y1, z1, u1⟩).1.x) ((M.over ⟨x0, y0, z0, u0⟩ ⟨x1, y1, z1, u1⟩).1.y) ((M.over ⟨x0, y0, z0, u0⟩ ⟨x1, y1, z1, u1⟩).1.d) ((M.over ⟨x0, y0, z0, u0⟩ ⟨x1, y1, z1, u1⟩).1.e) ∧ S9 ua u w.heap.size x0 y0 z0 u0 x1 y1 z1 u1)) ?_ ?_
    rotate_left
    · go_region_held3 (fun u => Below ua.heap.size ua u ∧ u.cell? ⟨w.heap.size, 0, none⟩ = some (Value.int IntKind.i64 x0) ∧ u.cell? ⟨w.heap.size, 1, none⟩ = some (Value.int IntKind.i64 y0) ∧ u.cell? ⟨w.heap.size, 2, none⟩ = some (Value.int IntKind.i64 z0) ∧ u.cell? ⟨w.heap.size, 3, none⟩ = some (Value.int IntKind.i64 u0) ∧ u.cell? ⟨w.heap.size + 1, 0, none⟩ = some (Value.int IntKind.i64 x1) ∧ u.cell? ⟨w.heap.size + 1, 1, none⟩ = some (Value.int IntKind.i64 y1) ∧ u.cell? ⟨w.heap.size + 1, 2, none⟩ = some (Value.int IntKind.i64 z1) ∧ u.cell? ⟨w.heap.size + 1, 3, none⟩ = some (Value.int IntKind.i64 u1)) (first | exact s9_drew hS1 | exact s9_below (by assumption) (by assumption) | exact s9_alloc (by assumption) | exact s9_drew (by assumption) | exact s9_again (by assumption) (by assumption) (by assumption) | exact s9_set (by assumption) (by omega) (by omega)) (first | (go_at_call_of 9 (Value.int IntKind.i64 x0); refine (toMon x0 y0 z0 u0 _).mono ?_; rintro r w4 ⟨rfl, hb4⟩; obtain ⟨hc4, hf4⟩ := bcell hb4; have hs4 := hb4.size; (try simp at hs4); have hz4 : w.heap.size + 1 < w4.heap.size := (by omega); have hv4 : ua.heap.size ≤ w4.heap.size := (by omega); (try (have hpua4 : ua.heap.size < w4.heap.size := (by omega)))) | (go_at_call_of 9 (Value.int IntKind.i64 x1); refine (toMon x1 y1 z1 u1 _).mono ?_; rintro r w5 ⟨rfl, hb5⟩; obtain ⟨hc5, hf5⟩ := bcell hb5; have hs5 := hb5.size; (try simp at hs5); have hz5 : w.heap.size + 1 < w5.heap.size := (by omega); have hv5 : ua.heap.size ≤ w5.heap.size := (by omega); (try (have hpua5 : ua.heap.size < w5.heap.size := (by omega))); (try (have hpw45 : w4.heap.size < w5.heap.size := (by omega)))) | (go_at_call 10; refine (monOverI x0 y0 z0 u0 x1 y1 z1 u1 _).mono ?_; rintro r w6 ⟨rfl, hb6⟩; obtain ⟨hc6, hf6⟩ := bcell hb6; have hs6 := hb6.size; (try simp at hs6); have hz6 : w.heap.size + 1 < w6.heap.size := (by omega); have hv6 : ua.heap.size ≤ w6.heap.size := (by omega); (try (have hpua6 : ua.heap.size < w6.heap.size := (by omega))); (try (have hpw46 : w4.heap.size < w6.heap.size := (by omega))); (try (have hpw56 : w5.heap.size < w6.heap.size := (by omega)))))
      all_goals
        exact ⟨rfl, _, rfl, ⟨by go_simp, by go_simp, by go_simp, by go_simp⟩, by assumption⟩
    · rintro _ _ ub ⟨rfl, g2, rfl, hm2, hS2⟩
      have BB := Hid.mk' (HS.out.1.trans (hS2.1.mono HS.out.1.size))
      obtain ⟨p0, p1, p2, p3⟩ := hm2
      obtain ⟨r0, r1, r2, r3⟩ := HM.out.below hS2.1
      clear HM HS hS1 hS2
      go_wp2_with fail
      refine (eqMon _ _ _ _ _ _ _ _ _).mono ?_
      rw [M.eqB_same]
      rintro r uc ⟨rfl, hb⟩
      have BC := Hid.mk' (bel_next BB.out hb)
      clear hb
      have hne : ((M.over ⟨x0, y0, z0, u0⟩ ⟨x1, y1, z1, u1⟩).2 != (M.over ⟨x0, y0, z0, u0⟩ ⟨x1, y1, z1, u1⟩).2) = false := by simp
      go_wp2
      go_ret
      exact ⟨rfl, BC.out⟩
theorem own : ownKnob Try.prog.godebug = none := by kernel_rfl
theorem laidOut : laidOutB Try.prog = true := by kernel_rfl
set_option maxRecDepth 100000 in
theorem lifted (os : Os) (started : os.Started) (H : Type) (enc : TypeId × Value → H) :
    ReturnsInHanded {} Try.checked os 3 .any (Rows.fnExactMonOverSpec.pre6 enc Try.prog Try.f3 Rows.fnExactMonOverRow.domain false) (Rows.fnExactMonOverSpec.post enc Try.prog Try.f3 false true false false) := by
  refine returnsInHanded_of_change (C := Try.checked) own started (by kernel_rfl) Try.func3
    (ChangeSpec.witness6 (enc := enc) (C := Try.checked) false ⟨#[], #[.agg #[.int .i64 0, .int .i64 0, .int .i64 0, .int .i64 0], .agg #[.int .i64 0, .int .i64 0, .int .i64 0, .int .i64 0]], []⟩ 8 (by kernel_rfl) (by kernel_rfl) (by kernel_rfl) (by kernel_rfl)) ?_
  intro W base args ds gs before hval0 hW hcnd _
  have hval : ∀ (j : Nat) t v, Try.f3.params[j]? = some t → args[j]? = some v → Value.okWide Try.prog W .any base t v := hval0
  have hW' := hW
  obtain ⟨p, q, hA0, hV, rfl, hfz, hnd⟩ := hW
  have hA : DataW.TrodAll enc Try.prog W 0 (fun _ => true) true Try.f3.params.toList args.toList ds p := hA0
  rw [Try.params3] at hA hval
  obtain ⟨v0, vs0, d0, ds0, p0, q0, hargs, rfl, rfl, h0, r0⟩ := trodAll_cons hA
  obtain ⟨v1, vs1, d1, ds1, p1, q1, rfl, rfl, rfl, h1, r1⟩ := trodAll_cons r0
  obtain ⟨rfl, rfl, rfl⟩ := trodAll_nil r1
  obtain rfl : args = #[v0, v1] := by cases args; simp_all
  obtain ⟨rfl, rfl⟩ := trodVars_none hV
  have k0 := h0
  have lt0 : ∀ x ∈ p0, x.block < W.heap.size := by obtain ⟨m, hm⟩ := k0; exact DataW.trod_lt m _ _ _ hm
  obtain ⟨x0, y0, z0, u0, rfl⟩ := mon_open (hval 0 23 v0 rfl rfl) h0
  have k1 := h1
  have lt1 : ∀ x ∈ p1, x.block < W.heap.size := by obtain ⟨m, hm⟩ := k1; exact DataW.trod_lt m _ _ _ hm
  obtain ⟨x1, y1, z1, u1, rfl⟩ := mon_open (hval 1 23 v1 rfl rfl) h1
  clear hA0 hval0
  refine (walk x0 y0 z0 u0 x1 y1 z1 u1 W ).mono fun e W' ⟨he, bel⟩ => ?_
  subst he
  exact ⟨_, rfl, _, _, _, [], _, [], hW', trodAll_mk1 (shut_bool Try.underlying4 _), (trodAll_cons_mk (Below.trod laidOut (by kernel_rfl) (of_decide_eq_true (by kernel_rfl)) k0 bel lt0) (trodAll_cons_mk (Below.trod laidOut (by kernel_rfl) (of_decide_eq_true (by kernel_rfl)) k1 bel lt1) trodAll_mk0)), rfl, bel.frame _, fun h => by cases h⟩
theorem over : Rows.fnExactMonOverRow.holds Try.pinned (OpenSpec.ofChange Rows.fnExactMonOverSpec) :=
  OpenClaim.holds_of_wide 3 Try.f3 rfl rfl rfl rfl rfl rfl rfl ⟨rfl, rfl, rfl, rfl, rfl⟩ rfl rfl rfl rfl rfl (by kernel_rfl) Try.func3 (by kernel_rfl)
    (of_decide_eq_true (by kernel_rfl)) (by unfold Func.isWrapper; first | (rw [if_pos (by decide +kernel)]; kernel_rfl) | (rw [if_neg (by decide +kernel)]; exact ⟨rfl, rfl⟩))
    (fun os started H enc _ => lifted os started H enc)
end Go.Proofs.Ytjedkkgmehflnas.fnExactMonOver
namespace Go.Proofs.Ytjedkkgmehflnas
theorem fnExactMonOver_holds : Rows.FnExactMonOverSaid := fnExactMonOver.over
#print axioms fnExactMonOver_holds
end Go.Proofs.Ytjedkkgmehflnas
