/-
  What DrawFldPow returns: two numbers, whatever the order of evaluation.
-/
import Derived.Test.YtljedbadgfjopaaRows
import Derived.WalkKit
import Derived.Deep.RegionWith
import Derived.Test.YtljedbadgfjopaaDraw
namespace Go.Proofs.Ytljedbadgfjopaa
open Go.RowKit
set_option linter.unusedVariables false

theorem lit8 (a b c d e f g h u : Int) (u0 : 0 ≤ u) (u1 : u < 8) : #[Value.int .i64 a, .int .i64 b, .int .i64 c, .int .i64 d, .int .i64 e, .int .i64 f, .int .i64 g, .int .i64 h][u.toNat]? = some (.int .i64 ([a, b, c, d, e, f, g, h].getD u.toNat 0)) := by
  have hu : u = 0 ∨ u = 1 ∨ u = 2 ∨ u = 3 ∨ u = 4 ∨ u = 5 ∨ u = 6 ∨ u = 7 := by omega
  rcases hu with rfl | rfl | rfl | rfl | rfl | rfl | rfl | rfl <;> rfl
theorem lst8 (a b c d e f g h u : Int) (u0 : 0 ≤ u) (u1 : u < 8) (hl : u.toNat < [Value.int .i64 a, .int .i64 b, .int .i64 c, .int .i64 d, .int .i64 e, .int .i64 f, .int .i64 g, .int .i64 h].length) : [Value.int .i64 a, .int .i64 b, .int .i64 c, .int .i64 d, .int .i64 e, .int .i64 f, .int .i64 g, .int .i64 h][u.toNat]'hl = .int .i64 ([a, b, c, d, e, f, g, h].getD u.toNat 0) := by
  have hu : u = 0 ∨ u = 1 ∨ u = 2 ∨ u = 3 ∨ u = 4 ∨ u = 5 ∨ u = 6 ∨ u = 7 := by omega
  rcases hu with rfl | rfl | rfl | rfl | rfl | rfl | rfl | rfl <;> rfl
set_option maxHeartbeats 1000000 in
theorem drawPow (w : World) (a : Option Addr) (len cap : Nat) (h : Src w a len cap) :
    Calls Try.prog 27 #[.slice a len cap] w fun e w' => ∃ x y, e = .returned (.tuple #[.int .i64 x, .int .i64 y]) ∧ Below w.heap.size w w' := by
  go_enter Try.func27, Try.ntmps27
  go_wp2_with fail
  refine (open_any _ _ _ _ h).mono ?_
  rintro e w1 ⟨rfl, r1, b1⟩
  clear h
  have lt1 := r1.lt
  go_wp2_with fail
  go_region_with (first
    | (go_at_call 34; refine (num_any _ _ _ _ (r1.drewN 1) (by omega) (by omega) (by omega)).mono ?_; rintro e w2 ⟨x, q, rfl, hq, r2, s2⟩; have b2 := s2.below (below_drewN b1 1) (Nat.le_refl _) b1.size; clear s2)
    | (go_at_call_of 40 (Value.int IntKind.i64 99); refine (pick_any _ _ _ _ r2 (by omega) (by omega) (by omega)).mono ?_; rintro e w3 ⟨y, rfl, y0, y1, k3⟩; have r3 := k3.rdr r2; have lt3 := r3.lt; have b3 := k3.beside.below b2 (Nat.le_refl _) b2.size; clear k3)
    | (go_at_call_of 40 (Value.int IntKind.i64 8); refine (pick_any _ _ _ _ r3 (by omega) (by omega) (by omega)).mono ?_; rintro e w4 ⟨u, rfl, u0, u1, k4⟩; have b4 := k4.beside.below b3 (Nat.le_refl _) b3.size; have lt4 := (k4.rdr r3).lt; have l8 := fun y => lst8 0 1 2 100 1000 1001 (-1) y u u0 u1; obtain ⟨g8, hg8⟩ : ∃ g : Int → Int, ∀ y, g y = [0, 1, 2, 100, 1000, 1001, -1, y].getD u.toNat 0 := ⟨_, fun _ => rfl⟩; simp only [← hg8] at l8; clear hg8; clear k4)
    | (go_at_call_of 40 (Value.int IntKind.i64 8); refine (pick_any _ _ _ _ (r3.alloc _) (by omega) (by omega) (by omega)).mono ?_; rintro e w4 ⟨u, rfl, u0, u1, k4⟩; have b4 := k4.beside.below (b3.alloc b3.size _) (Nat.le_refl _) (by have := b3.size; simp; omega); have hx : ∃ x, w4.cell? ⟨w3.heap.size, u.toNat, none⟩ = some (.int .i64 x) := ⟨_, by rw [k4.beside.cell (by simp) (by omega), World.cell?_alloc_at _ _ _ _ rfl]; exact lit8 _ _ _ _ _ _ _ _ _ u0 u1⟩; obtain ⟨x4, hx4⟩ := hx; clear k4))
  all_goals
    go_wp2
    go_ret2
    first
      | exact ⟨_, _, rfl, b4⟩
      | exact ⟨_, _, rfl, b4.alloc b4.size _⟩
end Go.Proofs.Ytljedbadgfjopaa
