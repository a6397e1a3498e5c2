/-
  The program counts within a side (IdlFlat), all of it.
-/
import Derived.Test.YtmlaedpamobmhabFlJ
import Derived.Deep.RegionHeld3
namespace Go.Proofs.Ytmlaedpamobmhab
open Go.RowKit Go.Deep Go.Joins
set_option linter.unusedVariables false
set_option linter.unusedSimpArgs false
set_option maxRecDepth 100000 in
set_option maxHeartbeats 4000000 in
theorem idlFlatI_no (w : World) (o : Int) (a : Option Addr) (n cap : Nat) (side : Int) (HL : Hid (Calls Try.prog 23 #[.int .i64 o, .slice a n cap] (w.alloc (.cells #[.int .i64 side] 3)) fun r w' => r = .returned (.tuple #[.slice none 0 0, .bool false]) ∧ Below (w.alloc (.cells #[.int .i64 side] 3)).heap.size (w.alloc (.cells #[.int .i64 side] 3)) w')) :
    Calls Try.prog 14 #[.int .i64 o, .slice a n cap, .int .i64 side] w fun r w' => r = .returned (.tuple #[.int .i64 0, .bool false]) ∧ Below w.heap.size w w' := by
  have HB0 := Hid.mk' (bel_one w (.cells #[.int .i64 side] 3))
  obtain ⟨w0, hw0⟩ : ∃ w0, w.alloc (.cells #[.int .i64 side] 3) = w0 := ⟨_, rfl⟩
  rw [hw0] at HL HB0
  refine (callsIn_wide (n := 9)).1 ?_
  refine callsIn_of_wp Try.func14 rfl trivial ?_ rfl
  simp only [Try.ntmps14, List.size_toArray, List.length_cons, List.length_nil, Nat.reduceAdd, Nat.reduceSub, Array.replicate_succ, Array.replicate_zero, List.push_toArray, List.append_toArray, List.nil_append, List.cons_append]
  gi_wp2_with (first
    | (refine ⟨trivial, ?_⟩; gi_at_call 23; refine (callsIn_wide.2 HL.out).mono ?_; rintro e w1 ⟨rfl, hb1⟩; have HB1 := Hid.mk' hb1; clear hb1)
    | gi_in)
  exact bodyPost_ret (results_tmp2 rfl _ _ _) rfl ⟨rfl, bel_next (bel_next HB0.out HB1.out) (bel_one _ _)⟩
set_option maxRecDepth 100000 in
set_option maxHeartbeats 4000000 in
theorem idlFlatI_s (w : World) (o : Int) (a : Option Addr) (n cap : Nat) (ad : Nat → Option Addr) (ln cp : Nat → Nat) (f : Nat → Nat → T) (side : Int) (h : RdS w a n cap ad ln cp f) (o1 : 1 ≤ o) (o2 : o ≤ 3) (hl : lstOk n ln f = true) (hs : side < 0 ∨ (0 ≤ side ∧ 6 < side)) :
    Calls Try.prog 14 #[.int .i64 o, .slice a n cap, .int .i64 side] w fun r w' => r = .returned (.tuple #[.int .i64 0, .bool false]) ∧ Below w.heap.size w w' := by
  have HL := Hid.mk' (redLeadsI (w.alloc (.cells #[.int .i64 side] 3)) o a n cap ad ln cp f (h.below (bel_one w _)) o1 o2 hl)
  have hn := (lstOk_all hl).1
  have hb0 := Boxed.new w 3 (.int .i64 side)
  have HB0 := Hid.mk' hb0
  obtain ⟨w0, hw0⟩ : ∃ w0, w.alloc (.cells #[.int .i64 side] 3) = w0 := ⟨_, rfl⟩
  have HW0 : Hid (Below w.heap.size w w0) := by rw [← hw0]; exact Hid.mk' (bel_one w _)
  have hz0 : w0.heap.size = w.heap.size + 1 := by rw [← hw0]; simp
  rw [hw0] at HL HB0
  clear hb0 h
  refine (callsIn_wide (n := 9)).1 ?_
  refine callsIn_of_wp Try.func14 rfl trivial ?_ rfl
  simp only [Try.ntmps14, List.size_toArray, List.length_cons, List.length_nil, Nat.reduceAdd, Nat.reduceSub, Array.replicate_succ, Array.replicate_zero, List.push_toArray, List.append_toArray, List.nil_append, List.cons_append]
  rcases hs with hs | ⟨hs1, hs2⟩
  all_goals
    gi_wp2_with (first
      | (refine ⟨trivial, ?_⟩; gi_at_call 23; refine (callsIn_wide.2 HL.out).mono ?_; rintro e w1 ⟨v, rfl, hb1, hown1⟩; obtain ⟨a5, c5, hv5, hout⟩ := out_of_owns hown1 (by rw [ldsL_len]; omega); rw [ldsL_len] at hv5; subst hv5; have HB1 := Hid.mk' hb1; have hbx : Boxed w1 w.heap.size 3 (.int .i64 side) := (hb1.block _ (by omega)).trans HB0.out; have hlx := hbx.lt; have hbx2 := hbx.alloc (.cells #[.slice a5 n c5] 29); have c1 := hbx2.cell; clear hb1 hown1 hout hbx hbx2)
      | gi_in)
  · exact bodyPost_ret (results_tmp2 rfl _ _ _) rfl ⟨rfl, bel_next (bel_next HW0.out HB1.out) (bel_one _ _)⟩
  · exact bodyPost_ret (results_tmp2 rfl _ _ _) rfl ⟨rfl, bel_next (bel_next HW0.out HB1.out) (bel_one _ _)⟩
theorem idlFlatI (w : World) (o : Int) (a : Option Addr) (n cap : Nat) (ad : Nat → Option Addr) (ln cp : Nat → Nat) (f : Nat → Nat → T) (side : Int) (h : RdS w a n cap ad ln cp f) :
    Calls Try.prog 14 #[.int .i64 o, .slice a n cap, .int .i64 side] w fun r w' => r = .returned (.tuple #[.int .i64 (idlFlat o n ln f side).1, .bool (idlFlat o n ln f side).2]) ∧ Below w.heap.size w w' := by
  by_cases ho : 1 ≤ o ∧ o ≤ 3
  · by_cases hl : lstOk n ln f = true
    · by_cases hs : 0 ≤ side ∧ side ≤ 6
      · obtain ⟨s, rfl⟩ : ∃ s : Nat, side = (s : Int) := ⟨side.toNat, by omega⟩
        have e : idlFlat o n ln f (s : Int) = ((flatN o n ln f s : Int), decide (flatE o n ln f s = 0)) := by
          unfold idlFlat
          rw [if_pos ⟨ho, hl, hs⟩]
          rfl
        rw [e]
        exact idlFlatI_ok w o a n cap ad ln cp f s h ho.1 ho.2 hl (by omega)
      · have e : idlFlat o n ln f side = (0, false) := if_neg (fun c => hs c.2.2)
        rw [e]
        exact idlFlatI_s w o a n cap ad ln cp f side h ho.1 ho.2 hl (by omega)
    · have e : idlFlat o n ln f side = (0, false) := if_neg (fun c => hl c.2.1)
      rw [e]
      exact idlFlatI_no w o a n cap side (Hid.mk' (redLeadsI_no _ o a n cap ad ln cp f (h.below (bel_one w _)) ho.1 ho.2 (by simpa using hl)))
  · have e : idlFlat o n ln f side = (0, false) := if_neg (fun c => ho c.1)
    rw [e]
    exact idlFlatI_no w o a n cap side (Hid.mk' (redLeadsI_out _ o a n cap (by omega)))
end Go.Proofs.Ytmlaedpamobmhab
