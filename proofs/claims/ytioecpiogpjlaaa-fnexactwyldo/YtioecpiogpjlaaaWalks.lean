/-
  What each function of chapter 1, of the program and of its model, returns: the plain numbers of the text Math; none changes the world.
-/
import Derived.Test.YtioecpiogpjlaaaRows
import Derived.WalkKit
import Derived.Test.YtioecpiogpjlaaaMath
namespace Go.Proofs.Ytioecpiogpjlaaa
open Go.RowKit
set_option linter.unusedVariables false

theorem okI_in (a : Int) (w : World) (h1 : 0 ≤ a) (h2 : a ≤ 100) :
    Calls Try.prog 68 #[.int .i64 a] w fun e w' => e = .returned (.bool true) ∧ w' = w := by
  have d1 : decide (a < 101) = true := decide_eq_true (by omega)
  go_enter Try.func68, Try.ntmps68
  go_wp2
  go_ret
  exact ⟨rfl, rfl⟩
theorem okI_out (a : Int) (w : World) (h : a < 0 ∨ 100 < a) :
    Calls Try.prog 68 #[.int .i64 a] w fun e w' => e = .returned (.bool false) ∧ w' = w := by
  rcases h with h | h
  · go_enter Try.func68, Try.ntmps68
    go_wp2
    go_ret
    exact ⟨rfl, rfl⟩
  · have d1 : decide (a < 101) = false := decide_eq_false (by omega)
    go_enter Try.func68, Try.ntmps68
    go_wp2
    go_ret
    exact ⟨rfl, rfl⟩
theorem inS_in (n l h : Int) (w : World) (h1 : l ≤ n) (h2 : n ≤ h) :
    Calls Try.prog 49 #[.int .i64 n, .int .i64 l, .int .i64 h] w fun e w' => e = .returned (.bool true) ∧ w' = w := by
  have d1 : decide (n ≤ h) = true := decide_eq_true h2
  go_enter Try.func49, Try.ntmps49
  go_wp2
  go_ret
  exact ⟨rfl, rfl⟩
theorem inS_out (n l h : Int) (w : World) (hh : n < l ∨ (l ≤ n ∧ h < n)) :
    Calls Try.prog 49 #[.int .i64 n, .int .i64 l, .int .i64 h] w fun e w' => e = .returned (.bool false) ∧ w' = w := by
  rcases hh with h1 | ⟨h1, h2⟩
  · go_enter Try.func49, Try.ntmps49
    go_wp2
    go_ret
    exact ⟨rfl, rfl⟩
  · have d1 : decide (n ≤ h) = false := decide_eq_false (by omega)
    go_enter Try.func49, Try.ntmps49
    go_wp2
    go_ret
    exact ⟨rfl, rfl⟩
theorem times (a b : Int) (w : World) (h1 : 0 ≤ a) (h2 : a ≤ 100) (h3 : 0 ≤ b) (h4 : b ≤ 100) :
    Calls Try.prog 65 #[.int .i64 a, .int .i64 b] w fun e w' => e = .returned (.int .i64 (a * b % 101)) ∧ w' = w := by
  obtain ⟨hm1, hm2⟩ := mul_bd h1 h2 h3 h4
  go_enter Try.func65, Try.ntmps65
  go_wp2
  go_ret
  exact ⟨rfl, rfl⟩
theorem plus (a b : Int) (w : World) (h1 : 0 ≤ a) (h2 : a ≤ 100) (h3 : 0 ≤ b) (h4 : b ≤ 100) :
    Calls Try.prog 58 #[.int .i64 a, .int .i64 b] w fun e w' => e = .returned (.int .i64 ((a + b) % 101)) ∧ w' = w := by
  go_enter Try.func58, Try.ntmps58
  go_wp2
  go_ret
  exact ⟨rfl, rfl⟩
theorem okI (a : Int) (w : World) :
    Calls Try.prog 68 #[.int .i64 a] w fun e w' => e = .returned (.bool (okB a)) ∧ w' = w := by
  by_cases h : 0 ≤ a ∧ a ≤ 100
  · rw [okB_mk h]; exact okI_in a w h.1 h.2
  · rw [okB_no h]; exact okI_out a w (by omega)
theorem mulI (a b : Int) (w : World) :
    Calls Try.prog 70 #[.int .i64 a, .int .i64 b] w fun e w' => e = .returned (.int .i64 (fMul a b)) ∧ w' = w := by
  by_cases h : 0 ≤ a ∧ a ≤ 100 ∧ 0 ≤ b ∧ b ≤ 100
  · rw [fMul_in h.1 h.2.1 h.2.2.1 h.2.2.2]
    obtain ⟨h1, h2, h3, h4⟩ := h
    obtain ⟨hm1, hm2⟩ := mul_bd h1 h2 h3 h4
    go_enter Try.func70, Try.ntmps70
    go_wp2_with (first | (go_at_call 68; first | (refine (okI_in _ _ (by omega) (by omega)).mono ?_; rintro e w' ⟨rfl, rfl⟩) | (refine (okI_out _ _ (by omega)).mono ?_; rintro e w' ⟨rfl, rfl⟩)) | (go_at_call 65; refine (times _ _ _ (by omega) (by omega) (by omega) (by omega)).mono ?_; rintro e w' ⟨rfl, rfl⟩))
    go_ret
    exact ⟨rfl, rfl⟩
  · rw [fMul_out h]
    have h' : a < 0 ∨ 100 < a ∨ (0 ≤ a ∧ a ≤ 100 ∧ b < 0) ∨ (0 ≤ a ∧ a ≤ 100 ∧ 100 < b) := by omega
    clear h
    rcases h' with h | h | ⟨h1, h2, h3⟩ | ⟨h1, h2, h3⟩
    all_goals
      go_enter Try.func70, Try.ntmps70
      go_wp2_with (first | (go_at_call 68; first | (refine (okI_in _ _ (by omega) (by omega)).mono ?_; rintro e w' ⟨rfl, rfl⟩) | (refine (okI_out _ _ (by omega)).mono ?_; rintro e w' ⟨rfl, rfl⟩)) | (go_at_call 65; refine (times _ _ _ (by omega) (by omega) (by omega) (by omega)).mono ?_; rintro e w' ⟨rfl, rfl⟩))
      go_ret
      exact ⟨rfl, rfl⟩
theorem countI_in (a : Int) (w : World) (h1 : 0 ≤ a) (h2 : a ≤ 60) :
    Calls Try.prog 77 #[.int .i64 a] w fun e w' => e = .returned (.bool true) ∧ w' = w := by
  have d1 : decide (a ≤ 60) = true := decide_eq_true h2
  go_enter Try.func77, Try.ntmps77
  go_wp2
  go_ret
  exact ⟨rfl, rfl⟩
theorem countI_out (a : Int) (w : World) (h : a < 0 ∨ 60 < a) :
    Calls Try.prog 77 #[.int .i64 a] w fun e w' => e = .returned (.bool false) ∧ w' = w := by
  rcases h with h | h
  · go_enter Try.func77, Try.ntmps77
    go_wp2
    go_ret
    exact ⟨rfl, rfl⟩
  · have d1 : decide (a ≤ 60) = false := decide_eq_false (by omega)
    go_enter Try.func77, Try.ntmps77
    go_wp2
    go_ret
    exact ⟨rfl, rfl⟩
set_option maxHeartbeats 400000 in
theorem fall (n k : Int) (w : World) (h1 : 0 ≤ n) (h2 : n ≤ 60) (h3 : 0 ≤ k) (h4 : k ≤ 60) :
    Calls Try.prog 78 #[.int .i64 n, .int .i64 k] w fun e w' => e = .returned (.int .i64 (fl n k.toNat)) ∧ w' = w := by
  go_enter Try.func78, Try.ntmps78
  go_wp2
  go_loop [0, 5, 7] (fun a' r i => ∃ j : Nat, (j : Int) ≤ k ∧ (j : Int) ≤ n ∧ a' = .int .i64 (n - j) ∧ r = .int .i64 (fl n j) ∧ i = .int .i64 j) (fun _ _ i => (k - intOf i).toNat)
  case atStart => exact ⟨0, by omega, by omega, by simp, rfl, rfl⟩
  case round =>
    obtain ⟨j, hj, hjn, rfl, rfl, rfl⟩ := hrel
    obtain ⟨p1, p2⟩ := fl_bd n j
    by_cases hlt : (j : Int) < k
    · by_cases hz : n - (j : Int) = 0
      · have hb : (n - (j : Int) == 0) = true := by simp [hz]
        have hf : Hid (fl n k.toNat = 0) := fl_zero n j k.toNat (by omega) (by omega)
        clear hz
        go_wp2
        go_ret
        exact ⟨ret_int hf.out.symm, rfl⟩
      · have hb : (n - (j : Int) == 0) = false := by simp [hz]
        clear hz
        have hp : 0 < n - (j : Int) := by have := of_eq_false_beq hb; omega
        obtain ⟨t1, t2⟩ := mul_bd p1 p2 (show (0 : Int) ≤ n - j by omega) (show n - (j : Int) ≤ 100 by omega)
        have hs : Hid (fl n (j + 1) = fl n j * (n - j) % 101) := fl_step n j hjn h2
        go_wp2
        go_round
        case rel => exact ⟨j + 1, by omega, by omega, congrArg (Value.int .i64) (by omega), by rw [hs.out]; rfl, by go_num⟩
        case measure => simp [intOf]; omega
    · go_wp2
      go_ret
      exact ⟨ret_int (by rw [show k.toNat = j by omega]), rfl⟩
set_option maxHeartbeats 400000 in
theorem fallS (n k : Int) (w : World) :
    Calls Try.prog 28 #[.int .i64 n, .int .i64 k] w fun e w' => e = .returned (.int .i64 (fFall n k)) ∧ w' = w := by
  by_cases h : 0 ≤ n ∧ n ≤ 60 ∧ 0 ≤ k ∧ k ≤ 60
  · rw [fFall_in h.1 h.2.1 h.2.2.1 h.2.2.2]
    obtain ⟨h1, h2, h3, h4⟩ := h
    go_enter Try.func28, Try.ntmps28
    go_wp2_with (first | (go_at_call 49; first | (refine (inS_in _ _ _ _ (by omega) (by omega)).mono ?_; rintro e w' ⟨rfl, rfl⟩) | (refine (inS_out _ _ _ _ (by omega)).mono ?_; rintro e w' ⟨rfl, rfl⟩)))
    go_loop [5, 6] (fun x i => ∃ j : Nat, (j : Int) ≤ k ∧ i = .int .i64 j ∧ x = .int .i64 (fl n j)) (fun _ i => (k - intOf i).toNat)
    case atStart => exact ⟨0, by omega, rfl, rfl⟩
    case round =>
      obtain ⟨j, hj, rfl, rfl⟩ := hrel
      obtain ⟨p1, p2⟩ := fl_bd n j
      by_cases hlt : (j : Int) < k
      · obtain ⟨t1, t2⟩ := mul_bd p1 p2 (show (0 : Int) ≤ (n - j) % 101 by omega) (show (n - (j : Int)) % 101 ≤ 100 by omega)
        go_wp2
        go_round
        case rel => exact ⟨j + 1, by omega, by go_num, rfl⟩
        case measure => simp [intOf]; omega
      · go_wp2
        go_ret
        exact ⟨ret_int (by rw [show k.toNat = j by omega]), rfl⟩
  · rw [fFall_out h]
    have h' : n < 0 ∨ 60 < n ∨ (0 ≤ n ∧ n ≤ 60 ∧ k < 0) ∨ (0 ≤ n ∧ n ≤ 60 ∧ 60 < k) := by omega
    clear h
    rcases h' with h | h | ⟨h1, h2, h3⟩ | ⟨h1, h2, h3⟩
    all_goals
      go_enter Try.func28, Try.ntmps28
      go_wp2_with (first | (go_at_call 49; first | (refine (inS_in _ _ _ _ (by omega) (by omega)).mono ?_; rintro e w' ⟨rfl, rfl⟩) | (refine (inS_out _ _ _ _ (by omega)).mono ?_; rintro e w' ⟨rfl, rfl⟩)))
      go_ret
      exact ⟨rfl, rfl⟩
theorem fallI (n k : Int) (w : World) :
    Calls Try.prog 71 #[.int .i64 n, .int .i64 k] w fun e w' => e = .returned (.int .i64 (fFall n k)) ∧ w' = w := by
  by_cases h : 0 ≤ n ∧ n ≤ 60 ∧ 0 ≤ k ∧ k ≤ 60
  · rw [fFall_in h.1 h.2.1 h.2.2.1 h.2.2.2]
    obtain ⟨h1, h2, h3, h4⟩ := h
    go_enter Try.func71, Try.ntmps71
    go_wp2_with (first | (go_at_call 77; first | (refine (countI_in _ _ (by omega) (by omega)).mono ?_; rintro e w' ⟨rfl, rfl⟩) | (refine (countI_out _ _ (by omega)).mono ?_; rintro e w' ⟨rfl, rfl⟩)) | (go_at_call 78; refine (fall _ _ _ (by omega) (by omega) (by omega) (by omega)).mono ?_; rintro e w' ⟨rfl, rfl⟩))
    go_ret
    exact ⟨rfl, rfl⟩
  · rw [fFall_out h]
    have h' : n < 0 ∨ 60 < n ∨ (0 ≤ n ∧ n ≤ 60 ∧ k < 0) ∨ (0 ≤ n ∧ n ≤ 60 ∧ 60 < k) := by omega
    clear h
    rcases h' with h | h | ⟨h1, h2, h3⟩ | ⟨h1, h2, h3⟩
    all_goals
      go_enter Try.func71, Try.ntmps71
      go_wp2_with (first | (go_at_call 77; first | (refine (countI_in _ _ (by omega) (by omega)).mono ?_; rintro e w' ⟨rfl, rfl⟩) | (refine (countI_out _ _ (by omega)).mono ?_; rintro e w' ⟨rfl, rfl⟩)) | (go_at_call 78; refine (fall _ _ _ (by omega) (by omega) (by omega) (by omega)).mono ?_; rintro e w' ⟨rfl, rfl⟩))
      go_ret
      exact ⟨rfl, rfl⟩
end Go.Proofs.Ytioecpiogpjlaaa
