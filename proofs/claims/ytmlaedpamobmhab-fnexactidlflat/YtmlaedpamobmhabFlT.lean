/-
  Counting within a side: the model's IdlFlat, all of it.
-/
import Derived.Test.YtmlaedpamobmhabFlS
import Derived.Deep.RegionHeld3
namespace Go.Proofs.Ytmlaedpamobmhab
open Go.RowKit Go.Deep Go.Joins
set_option linter.unusedVariables false

set_option maxRecDepth 100000 in
set_option maxHeartbeats 4000000 in
theorem idlFlatS_o (w : World) (o : Int) (a : Option Addr) (n cap : Nat) (side : Int) (ho : o < 1 ∨ (1 ≤ o ∧ 3 < o)) :
    Calls Try.prog 15 #[.int .i64 o, .slice a n cap, .int .i64 side] w fun r w' => r = .returned (.tuple #[.int .i64 0, .bool false]) ∧ Below w.heap.size w w' := by
  go_enter Try.func15, Try.ntmps15
  go_wp2_with (go_at_call 32; refine (inS_out _ _ _ _ ho).mono ?_; rintro r w' ⟨rfl, hw'⟩; obtain rfl := hw'.symm; clear hw')
  refine bodyPost_ret (results_tmp2 rfl _ _ _) rfl ⟨rfl, Below.refl _ _⟩
set_option maxRecDepth 100000 in
set_option maxHeartbeats 4000000 in
theorem idlFlatS_l (w : World) (o : Int) (a : Option Addr) (n cap : Nat) (ad : Nat → Option Addr) (ln cp : Nat → Nat) (f : Nat → Nat → T) (side : Int) (h : RdS w a n cap ad ln cp f) (o1 : 1 ≤ o) (o2 : o ≤ 3) (hl : lstOk n ln f = false) :
    Calls Try.prog 15 #[.int .i64 o, .slice a n cap, .int .i64 side] w fun r w' => r = .returned (.tuple #[.int .i64 0, .bool false]) ∧ Below w.heap.size w w' := by
  go_enter Try.func15, Try.ntmps15
  go_wp2_with (go_at_call 32; refine (inS_in _ _ _ _ (by omega) (by omega)).mono ?_; rintro r w' ⟨rfl, hw'⟩; obtain rfl := hw'.symm; clear hw')
  refine (lstOkS _ _ _ _ _ _ _ _ h).mono ?_
  rw [hl]
  rintro r w1 ⟨rfl, hb1⟩
  go_wp2
  refine bodyPost_ret (results_tmp2 rfl _ _ _) rfl ⟨rfl, hb1⟩
set_option maxRecDepth 100000 in
set_option maxHeartbeats 4000000 in
theorem idlFlatS_s (w : World) (o : Int) (a : Option Addr) (n cap : Nat) (ad : Nat → Option Addr) (ln cp : Nat → Nat) (f : Nat → Nat → T) (side : Int) (h : RdS w a n cap ad ln cp f) (o1 : 1 ≤ o) (o2 : o ≤ 3) (hl : lstOk n ln f = true) (hs : side < 0 ∨ (0 ≤ side ∧ 6 < side)) :
    Calls Try.prog 15 #[.int .i64 o, .slice a n cap, .int .i64 side] w fun r w' => r = .returned (.tuple #[.int .i64 0, .bool false]) ∧ Below w.heap.size w w' := by
  go_enter Try.func15, Try.ntmps15
  go_wp2_with (go_at_call 32; refine (inS_in _ _ _ _ (by omega) (by omega)).mono ?_; rintro r w' ⟨rfl, hw'⟩; obtain rfl := hw'.symm; clear hw')
  refine (lstOkS _ _ _ _ _ _ _ _ h).mono ?_
  rw [hl]
  rintro r w1 ⟨rfl, hb1⟩
  go_wp2_with (go_at_call 32; refine (inS_out _ _ _ _ hs).mono ?_; rintro r w' ⟨rfl, hw'⟩; obtain rfl := hw'.symm; clear hw')
  refine bodyPost_ret (results_tmp2 rfl _ _ _) rfl ⟨rfl, hb1⟩
theorem idlFlatS (w : World) (o : Int) (a : Option Addr) (n cap : Nat) (ad : Nat → Option Addr) (ln cp : Nat → Nat) (f : Nat → Nat → T) (side : Int) (h : RdS w a n cap ad ln cp f) :
    Calls Try.prog 15 #[.int .i64 o, .slice a n cap, .int .i64 side] w fun r w' => r = .returned (.tuple #[.int .i64 (idlFlat o n ln f side).1, .bool (idlFlat o n ln f side).2]) ∧ Below w.heap.size w w' := by
  by_cases ho : 1 ≤ o ∧ o ≤ 3
  · by_cases hl : lstOk n ln f = true
    · by_cases hs : 0 ≤ side ∧ side ≤ 6
      · obtain ⟨s, rfl⟩ : ∃ s : Nat, side = (s : Int) := ⟨side.toNat, by omega⟩
        have e : idlFlat o n ln f (s : Int) = ((flatN o n ln f s : Int), decide (flatE o n ln f s = 0)) := by
          unfold idlFlat
          rw [if_pos ⟨ho, hl, hs⟩]
          rfl
        rw [e]
        exact idlFlatS_ok w o a n cap ad ln cp f s h ho.1 ho.2 hl (by omega)
      · have e : idlFlat o n ln f side = (0, false) := if_neg (fun c => hs c.2.2)
        rw [e]
        exact idlFlatS_s w o a n cap ad ln cp f side h ho.1 ho.2 hl (by omega)
    · have e : idlFlat o n ln f side = (0, false) := if_neg (fun c => hl c.2.1)
      rw [e]
      exact idlFlatS_l w o a n cap ad ln cp f side h ho.1 ho.2 (by simpa using hl)
  · have e : idlFlat o n ln f side = (0, false) := if_neg (fun c => ho c.1)
    rw [e]
    exact idlFlatS_o w o a n cap side (by omega)
end Go.Proofs.Ytmlaedpamobmhab
