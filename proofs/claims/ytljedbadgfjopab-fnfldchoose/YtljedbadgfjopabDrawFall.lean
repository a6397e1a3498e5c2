/-
  What DrawFldFall returns: two numbers, whatever the order of evaluation.
-/
import Derived.Test.YtljedbadgfjopabRows
import Derived.WalkKit
import Derived.Deep.RegionWith
import Derived.Test.YtljedbadgfjopabDraw
namespace Go.Proofs.Ytljedbadgfjopab
open Go.RowKit
set_option linter.unusedVariables false

theorem lst8f (a b c d e f g h u : Int) (u0 : 0 ≤ u) (u1 : u < 8) (hl : u.toNat < [Value.int .i64 a, .int .i64 b, .int .i64 c, .int .i64 d, .int .i64 e, .int .i64 f, .int .i64 g, .int .i64 h].length) : [Value.int .i64 a, .int .i64 b, .int .i64 c, .int .i64 d, .int .i64 e, .int .i64 f, .int .i64 g, .int .i64 h][u.toNat]'hl = .int .i64 ([a, b, c, d, e, f, g, h].getD u.toNat 0) := by
  have hu : u = 0 ∨ u = 1 ∨ u = 2 ∨ u = 3 ∨ u = 4 ∨ u = 5 ∨ u = 6 ∨ u = 7 := by omega
  rcases hu with rfl | rfl | rfl | rfl | rfl | rfl | rfl | rfl <;> rfl
theorem lst7f (a b c d e f g u : Int) (u0 : 0 ≤ u) (u1 : u < 7) (hl : u.toNat < [Value.int .i64 a, .int .i64 b, .int .i64 c, .int .i64 d, .int .i64 e, .int .i64 f, .int .i64 g].length) : [Value.int .i64 a, .int .i64 b, .int .i64 c, .int .i64 d, .int .i64 e, .int .i64 f, .int .i64 g][u.toNat]'hl = .int .i64 ([a, b, c, d, e, f, g].getD u.toNat 0) := by
  have hu : u = 0 ∨ u = 1 ∨ u = 2 ∨ u = 3 ∨ u = 4 ∨ u = 5 ∨ u = 6 := by omega
  rcases hu with rfl | rfl | rfl | rfl | rfl | rfl | rfl <;> rfl
theorem tab7 (u : Int) (u0 : 0 ≤ u) (u1 : u < 7) : ∃ g : Int → Int, ∀ y (hl : u.toNat < [Value.int .i64 0, .int .i64 3, .int .i64 15, .int .i64 60, .int .i64 61, .int .i64 (-1), .int .i64 y].length), [Value.int .i64 0, .int .i64 3, .int .i64 15, .int .i64 60, .int .i64 61, .int .i64 (-1), .int .i64 y][u.toNat]'hl = .int .i64 (g y) :=
  ⟨_, fun y hl => lst7f _ _ _ _ _ _ _ u u0 u1 hl⟩
theorem tab8 (u : Int) (u0 : 0 ≤ u) (u1 : u < 8) : ∃ g : Int → Int, ∀ y (hl : u.toNat < [Value.int .i64 0, .int .i64 1, .int .i64 2, .int .i64 15, .int .i64 60, .int .i64 61, .int .i64 (-1), .int .i64 y].length), [Value.int .i64 0, .int .i64 1, .int .i64 2, .int .i64 15, .int .i64 60, .int .i64 61, .int .i64 (-1), .int .i64 y][u.toNat]'hl = .int .i64 (g y) :=
  ⟨_, fun y hl => lst8f _ _ _ _ _ _ _ _ u u0 u1 hl⟩
set_option maxHeartbeats 4000000 in
theorem drawFall (w : World) (a : Option Addr) (len cap : Nat) (h : Src w a len cap) :
    Calls Try.prog 9 #[.slice a len cap] w fun e w' => ∃ x y, e = .returned (.tuple #[.int .i64 x, .int .i64 y]) ∧ Below w.heap.size w w' := by
  go_enter Try.func9, Try.ntmps9
  go_wp2_with fail
  refine (open_any _ _ _ _ h).mono ?_
  rintro e w1 ⟨rfl, r1, b1⟩
  clear h
  have q1 : RB w w1 0 := ⟨r1, b1⟩
  clear r1 b1
  have lt1 := q1.lt
  go_wp2_with fail
  go_region_with (first
    | (go_at_call_of 20 (Value.int IntKind.i64 30); refine (pick_rb w _ _ _ q1.drew (by omega) (by omega) (by omega)).mono ?_; rintro e wA ⟨yA, rfl, yA0, yA1, qA, cfA, szA, neA⟩; clear cfA; have szA' : w1.heap.size ≤ wA.heap.size := szA; clear szA)
    | (go_at_call_of 20 (Value.int IntKind.i64 7); refine (pick_rb w _ _ _ (by first | exact qA | exact qA.alloc _) (by omega) (by omega) (by omega)).mono ?_; rintro e wB ⟨uB, rfl, uB0, uB1, qB, cfB, szB, neB⟩; obtain ⟨g7, hg7⟩ := tab7 uB uB0 uB1; try (have ltAB : wA.heap.size < wB.heap.size := by first | omega | (simp at szB; omega)))
    | (go_at_call_of 20 (Value.int IntKind.i64 16); refine (pick_rb w _ _ _ (by first | exact qB | exact qB.alloc _) (by omega) (by omega) (by omega)).mono ?_; rintro e wC ⟨yC, rfl, yC0, yC1, qC, cfC, szC, neC⟩; have neC1 : ¬ wC.heap.size + 1 = w.heap.size := (by have := qC.lt; omega); try (have ltAC : wA.heap.size < wC.heap.size := by first | omega | (simp at szC; omega)); try (have ltBC : wB.heap.size < wC.heap.size := by first | omega | (simp at szC; omega)))
    | (go_at_call_of 20 (Value.int IntKind.i64 8); refine (pick_rb w _ _ _ (by first | exact qC | exact qC.alloc _ | exact (qC.alloc _).alloc _) (by omega) (by omega) (by omega)).mono ?_; rintro e wD ⟨uD, rfl, uD0, uD1, qD, cfD, szD, neD⟩; obtain ⟨g8, hg8⟩ := tab8 uD uD0 uD1; try (have ltAD : wA.heap.size < wD.heap.size := by first | omega | (simp at szD; omega)); try (have ltBD : wB.heap.size < wD.heap.size := by first | omega | (simp at szD; omega)); try (have ltCD : wC.heap.size < wD.heap.size := by first | omega | (simp at szD; omega)); try (have ltCD' : wC.heap.size + 1 < wD.heap.size := by first | omega | (simp at szD; omega))))
  all_goals
    go_wp2
    go_ret2
    first
      | exact ⟨_, _, rfl, qD.2⟩
      | exact ⟨_, _, rfl, (qD.alloc _).2⟩
      | exact ⟨_, _, rfl, ((qD.alloc _).alloc _).2⟩
theorem drawChoose (w : World) (a : Option Addr) (len cap : Nat) (h : Src w a len cap) :
    Calls Try.prog 4 #[.slice a len cap] w fun e w' => ∃ x y, e = .returned (.tuple #[.int .i64 x, .int .i64 y]) ∧ Below w.heap.size w w' := by
  go_enter Try.func4, Try.ntmps4
  go_wp2_with fail
  refine (drawFall _ _ _ _ h).mono ?_
  rintro e w1 ⟨x, y, rfl, b⟩
  go_wp2
  go_ret2
  exact ⟨x, y, rfl, b⟩
end Go.Proofs.Ytljedbadgfjopab
