/-
  What each function of chapter 1, of the program and of its model, returns: the plain numbers of the text Math; none changes the world.
-/
import Derived.Test.YtfnlogmfkpaaiadRows
import Derived.WalkKit
import Derived.Test.YtfnlogmfkpaaiadMath
namespace Go.Proofs.Ytfnlogmfkpaaiad
open Go.RowKit
set_option linter.unusedVariables false

theorem okI_in (a : Int) (w : World) (h1 : 0 ≤ a) (h2 : a ≤ 100) :
    Calls Try.prog 32 #[.int .i64 a] w fun e w' => e = .returned (.bool true) ∧ w' = w := by
  have d1 : decide (a < 101) = true := decide_eq_true (by omega)
  go_enter Try.func32, Try.ntmps32
  go_wp2
  go_ret
  exact ⟨rfl, rfl⟩
theorem okI_out (a : Int) (w : World) (h : a < 0 ∨ 100 < a) :
    Calls Try.prog 32 #[.int .i64 a] w fun e w' => e = .returned (.bool false) ∧ w' = w := by
  rcases h with h | h
  · go_enter Try.func32, Try.ntmps32
    go_wp2
    go_ret
    exact ⟨rfl, rfl⟩
  · have d1 : decide (a < 101) = false := decide_eq_false (by omega)
    go_enter Try.func32, Try.ntmps32
    go_wp2
    go_ret
    exact ⟨rfl, rfl⟩
theorem inS_in (n l h : Int) (w : World) (h1 : l ≤ n) (h2 : n ≤ h) :
    Calls Try.prog 35 #[.int .i64 n, .int .i64 l, .int .i64 h] w fun e w' => e = .returned (.bool true) ∧ w' = w := by
  have d1 : decide (n ≤ h) = true := decide_eq_true h2
  go_enter Try.func35, Try.ntmps35
  go_wp2
  go_ret
  exact ⟨rfl, rfl⟩
theorem inS_out (n l h : Int) (w : World) (hh : n < l ∨ (l ≤ n ∧ h < n)) :
    Calls Try.prog 35 #[.int .i64 n, .int .i64 l, .int .i64 h] w fun e w' => e = .returned (.bool false) ∧ w' = w := by
  rcases hh with h1 | ⟨h1, h2⟩
  · go_enter Try.func35, Try.ntmps35
    go_wp2
    go_ret
    exact ⟨rfl, rfl⟩
  · have d1 : decide (n ≤ h) = false := decide_eq_false (by omega)
    go_enter Try.func35, Try.ntmps35
    go_wp2
    go_ret
    exact ⟨rfl, rfl⟩
theorem okS_in (a : Int) (w : World) (h1 : 0 ≤ a) (h2 : a ≤ 100) :
    Calls Try.prog 12 #[.int .i64 a] w fun e w' => e = .returned (.bool true) ∧ w' = w := by
  go_enter Try.func12, Try.ntmps12
  go_wp2_with (first | (go_at_call 35; first | (refine (inS_in _ _ _ _ (by omega) (by omega)).mono ?_; rintro e w' ⟨rfl, rfl⟩) | (refine (inS_out _ _ _ _ (by omega)).mono ?_; rintro e w' ⟨rfl, rfl⟩)))
  go_ret
  exact ⟨rfl, rfl⟩
theorem okS_out (a : Int) (w : World) (h : a < 0 ∨ 100 < a) :
    Calls Try.prog 12 #[.int .i64 a] w fun e w' => e = .returned (.bool false) ∧ w' = w := by
  rcases h with h | h
  · go_enter Try.func12, Try.ntmps12
    go_wp2_with (first | (go_at_call 35; first | (refine (inS_in _ _ _ _ (by omega) (by omega)).mono ?_; rintro e w' ⟨rfl, rfl⟩) | (refine (inS_out _ _ _ _ (by omega)).mono ?_; rintro e w' ⟨rfl, rfl⟩)))
    go_ret
    exact ⟨rfl, rfl⟩
  · go_enter Try.func12, Try.ntmps12
    go_wp2_with (first | (go_at_call 35; first | (refine (inS_in _ _ _ _ (by omega) (by omega)).mono ?_; rintro e w' ⟨rfl, rfl⟩) | (refine (inS_out _ _ _ _ (by omega)).mono ?_; rintro e w' ⟨rfl, rfl⟩)))
    go_ret
    exact ⟨rfl, rfl⟩
theorem times (a b : Int) (w : World) (h1 : 0 ≤ a) (h2 : a ≤ 100) (h3 : 0 ≤ b) (h4 : b ≤ 100) :
    Calls Try.prog 39 #[.int .i64 a, .int .i64 b] w fun e w' => e = .returned (.int .i64 (a * b % 101)) ∧ w' = w := by
  obtain ⟨hm1, hm2⟩ := mul_bd h1 h2 h3 h4
  go_enter Try.func39, Try.ntmps39
  go_wp2
  go_ret
  exact ⟨rfl, rfl⟩
theorem plus (a b : Int) (w : World) (h1 : 0 ≤ a) (h2 : a ≤ 100) (h3 : 0 ≤ b) (h4 : b ≤ 100) :
    Calls Try.prog 40 #[.int .i64 a, .int .i64 b] w fun e w' => e = .returned (.int .i64 ((a + b) % 101)) ∧ w' = w := by
  go_enter Try.func40, Try.ntmps40
  go_wp2
  go_ret
  exact ⟨rfl, rfl⟩
theorem okI (a : Int) (w : World) :
    Calls Try.prog 32 #[.int .i64 a] w fun e w' => e = .returned (.bool (okB a)) ∧ w' = w := by
  by_cases h : 0 ≤ a ∧ a ≤ 100
  · rw [okB_mk h]; exact okI_in a w h.1 h.2
  · rw [okB_no h]; exact okI_out a w (by omega)
theorem okS (a : Int) (w : World) :
    Calls Try.prog 12 #[.int .i64 a] w fun e w' => e = .returned (.bool (okB a)) ∧ w' = w := by
  by_cases h : 0 ≤ a ∧ a ≤ 100
  · rw [okB_mk h]; exact okS_in a w h.1 h.2
  · rw [okB_no h]; exact okS_out a w (by omega)
theorem mulI (a b : Int) (w : World) :
    Calls Try.prog 15 #[.int .i64 a, .int .i64 b] w fun e w' => e = .returned (.int .i64 (fMul a b)) ∧ w' = w := by
  by_cases h : 0 ≤ a ∧ a ≤ 100 ∧ 0 ≤ b ∧ b ≤ 100
  · rw [fMul_in h.1 h.2.1 h.2.2.1 h.2.2.2]
    obtain ⟨h1, h2, h3, h4⟩ := h
    obtain ⟨hm1, hm2⟩ := mul_bd h1 h2 h3 h4
    go_enter Try.func15, Try.ntmps15
    go_wp2_with (first | (go_at_call 32; first | (refine (okI_in _ _ (by omega) (by omega)).mono ?_; rintro e w' ⟨rfl, rfl⟩) | (refine (okI_out _ _ (by omega)).mono ?_; rintro e w' ⟨rfl, rfl⟩)) | (go_at_call 39; refine (times _ _ _ (by omega) (by omega) (by omega) (by omega)).mono ?_; rintro e w' ⟨rfl, rfl⟩))
    go_ret
    exact ⟨rfl, rfl⟩
  · rw [fMul_out h]
    have h' : a < 0 ∨ 100 < a ∨ (0 ≤ a ∧ a ≤ 100 ∧ b < 0) ∨ (0 ≤ a ∧ a ≤ 100 ∧ 100 < b) := by omega
    clear h
    rcases h' with h | h | ⟨h1, h2, h3⟩ | ⟨h1, h2, h3⟩
    all_goals
      go_enter Try.func15, Try.ntmps15
      go_wp2_with (first | (go_at_call 32; first | (refine (okI_in _ _ (by omega) (by omega)).mono ?_; rintro e w' ⟨rfl, rfl⟩) | (refine (okI_out _ _ (by omega)).mono ?_; rintro e w' ⟨rfl, rfl⟩)) | (go_at_call 39; refine (times _ _ _ (by omega) (by omega) (by omega) (by omega)).mono ?_; rintro e w' ⟨rfl, rfl⟩))
      go_ret
      exact ⟨rfl, rfl⟩
theorem addI (a b : Int) (w : World) :
    Calls Try.prog 16 #[.int .i64 a, .int .i64 b] w fun e w' => e = .returned (.int .i64 (fAdd a b)) ∧ w' = w := by
  by_cases h : 0 ≤ a ∧ a ≤ 100 ∧ 0 ≤ b ∧ b ≤ 100
  · rw [fAdd_in h.1 h.2.1 h.2.2.1 h.2.2.2]
    obtain ⟨h1, h2, h3, h4⟩ := h
    go_enter Try.func16, Try.ntmps16
    go_wp2_with (first | (go_at_call 32; first | (refine (okI_in _ _ (by omega) (by omega)).mono ?_; rintro e w' ⟨rfl, rfl⟩) | (refine (okI_out _ _ (by omega)).mono ?_; rintro e w' ⟨rfl, rfl⟩)) | (go_at_call 40; refine (plus _ _ _ (by omega) (by omega) (by omega) (by omega)).mono ?_; rintro e w' ⟨rfl, rfl⟩))
    go_ret
    exact ⟨rfl, rfl⟩
  · rw [fAdd_out h]
    have h' : a < 0 ∨ 100 < a ∨ (0 ≤ a ∧ a ≤ 100 ∧ b < 0) ∨ (0 ≤ a ∧ a ≤ 100 ∧ 100 < b) := by omega
    clear h
    rcases h' with h | h | ⟨h1, h2, h3⟩ | ⟨h1, h2, h3⟩
    all_goals
      go_enter Try.func16, Try.ntmps16
      go_wp2_with (first | (go_at_call 32; first | (refine (okI_in _ _ (by omega) (by omega)).mono ?_; rintro e w' ⟨rfl, rfl⟩) | (refine (okI_out _ _ (by omega)).mono ?_; rintro e w' ⟨rfl, rfl⟩)) | (go_at_call 40; refine (plus _ _ _ (by omega) (by omega) (by omega) (by omega)).mono ?_; rintro e w' ⟨rfl, rfl⟩))
      go_ret
      exact ⟨rfl, rfl⟩
end Go.Proofs.Ytfnlogmfkpaaiad
