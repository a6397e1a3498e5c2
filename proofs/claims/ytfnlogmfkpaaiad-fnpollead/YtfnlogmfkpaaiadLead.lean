/-
  The greatest term of an operator in an order: the model's function.
-/
import Derived.Test.YtfnlogmfkpaaiadPolI3
namespace Go.Proofs.Ytfnlogmfkpaaiad
open Go.RowKit
set_option linter.unusedVariables false

def leadOk (o : Int) (n : Nat) (f : Nat → T) : Bool := decide (1 ≤ o ∧ o ≤ 3) && polOk n f && decide (0 < n)
def leadT (o : Int) (n : Nat) (f : Nat → T) : T := if leadOk o n f = true then f (leadAt o f n) else ⟨0, ⟨0, 0, 0, 0⟩⟩
theorem leadT_no {o : Int} {n : Nat} {f : Nat → T} (h : leadOk o n f = false) : leadT o n f = ⟨0, ⟨0, 0, 0, 0⟩⟩ := by rw [leadT, if_neg (by rw [h]; decide)]
theorem leadT_yes {o : Int} {n : Nat} {f : Nat → T} (h : leadOk o n f = true) : leadT o n f = f (leadAt o f n) := by rw [leadT, if_pos h]
set_option maxRecDepth 100000 in
set_option maxHeartbeats 4000000 in
theorem polLeadS (w : World) (o : Int) (a : Option Addr) (n cap : Nat) (f : Nat → T) (h : Rd w a n cap f) :
    Calls Try.prog 19 #[.int .i64 o, .slice a n cap] w fun r w' => r = .returned (.tuple #[.agg #[.int .i64 (leadT o n f).c, .int .i64 (leadT o n f).m.x, .int .i64 (leadT o n f).m.y, .int .i64 (leadT o n f).m.d, .int .i64 (leadT o n f).m.e], .bool (leadOk o n f)]) ∧ Below w.heap.size w w' := by
  have HR := Hid.mk' h
  have hn : (n : Int) ≤ 140737488351232 := by have := h.2.1; omega
  clear h
  by_cases ho : 1 ≤ o ∧ o ≤ 3
  · obtain ⟨o1, o2⟩ := ho
    cases hp : polOk n f
    · have e1 : leadOk o n f = false := by simp [leadOk, hp]
      rw [leadT_no e1, e1]
      clear e1
      go_enter Try.func19, Try.ntmps19
      go_wp2_with (go_at_call 35; refine (inS_in _ _ _ _ o1 o2).mono ?_; rintro r w' ⟨rfl, hw'⟩; obtain rfl := hw'.symm; clear hw')
      refine (polOkS _ _ _ _ f (HR.out.below (bel_one w _))).mono ?_
      rw [hp]
      rintro r w1 ⟨rfl, hb1⟩
      obtain ⟨hc1, hf1⟩ := bcell hb1
      have B1 := Hid.mk' (bel_next (bel_one w _) hb1)
      have hz1 : w.heap.size < w1.heap.size := by have := hb1.size; simp at this; omega
      clear hb1
      go_wp2
      refine bodyPost_ret (v := .tuple #[.agg #[.int .i64 0, .int .i64 0, .int .i64 0, .int .i64 0, .int .i64 0], .bool false]) (by simp [results, Try.results19, go_sem, *]) rfl ⟨rfl, ?_⟩
      exact bel_s5 B1.out (by omega) _ _ _ _ _
    · by_cases hn0 : n = 0
      · have e1 : leadOk o n f = false := by simp [leadOk, hn0]
        rw [leadT_no e1, e1]
        clear e1
        subst hn0
        go_enter Try.func19, Try.ntmps19
        go_wp2_with (go_at_call 35; refine (inS_in _ _ _ _ o1 o2).mono ?_; rintro r w' ⟨rfl, hw'⟩; obtain rfl := hw'.symm; clear hw')
        refine (polOkS _ _ _ _ f (HR.out.below (bel_one w _))).mono ?_
        rw [hp]
        rintro r w1 ⟨rfl, hb1⟩
        obtain ⟨hc1, hf1⟩ := bcell hb1
        have B1 := Hid.mk' (bel_next (bel_one w _) hb1)
        have hz1 : w.heap.size < w1.heap.size := by have := hb1.size; simp at this; omega
        clear hb1
        go_wp2
        refine bodyPost_ret (v := .tuple #[.agg #[.int .i64 0, .int .i64 0, .int .i64 0, .int .i64 0, .int .i64 0], .bool false]) (by simp [results, Try.results19, go_sem, *]) rfl ⟨rfl, ?_⟩
        exact bel_s5 B1.out (by omega) _ _ _ _ _
      · have hpos : 0 < n := by omega
        have e1 : leadOk o n f = true := by simp [leadOk, hp, o1, o2, hpos]
        rw [leadT_yes e1, e1]
        clear e1
        have hne : ((n : Int) == 0) = false := by simp; omega
        clear hn0
        have HM := Hid.mk' (polOk_m hp)
        obtain ⟨t, ht⟩ : ∃ t, t = f (leadAt o f n) := ⟨_, rfl⟩
        rw [← ht]
        have HT := Hid.mk' ht
        clear ht
        go_enter Try.func19, Try.ntmps19
        go_wp2_with (go_at_call 35; refine (inS_in _ _ _ _ o1 o2).mono ?_; rintro r w' ⟨rfl, hw'⟩; obtain rfl := hw'.symm; clear hw')
        refine (polOkS _ _ _ _ f (HR.out.below (bel_one w _))).mono ?_
        rw [hp]
        rintro r w1 ⟨rfl, hb1⟩
        obtain ⟨hc1, hf1⟩ := bcell hb1
        have B1 := Hid.mk' (bel_next (bel_one w _) hb1)
        have hz1 : w.heap.size < w1.heap.size := by have := hb1.size; simp at this; omega
        clear hb1
        go_wp2_with fail
        refine (l3LeadS _ _ _ _ _ f (HR.out.below B1.out) hpos HM.out).mono ?_
        rw [← HT.out]
        rintro r w2 ⟨rfl, hb2⟩
        obtain ⟨hc2, hf2⟩ := bcell hb2
        have B2 := Hid.mk' (bel_next B1.out hb2)
        clear hb2
        go_wp2
        refine bodyPost_ret (v := .tuple #[.agg #[.int .i64 t.c, .int .i64 t.m.x, .int .i64 t.m.y, .int .i64 t.m.d, .int .i64 t.m.e], .bool true]) (by simp [results, Try.results19, go_sem, *]) rfl ⟨rfl, ?_⟩
        exact bel_s5 B2.out (by omega) _ _ _ _ _
  · have e1 : leadOk o n f = false := by simp [leadOk, ho]
    rw [leadT_no e1, e1]
    have ho' : o < 1 ∨ (1 ≤ o ∧ 3 < o) := by omega
    clear e1 ho
    go_enter Try.func19, Try.ntmps19
    go_wp2_with (go_at_call 35; refine (inS_out _ _ _ _ ho').mono ?_; rintro r w' ⟨rfl, hw'⟩; obtain rfl := hw'.symm; clear hw')
    refine bodyPost_ret (v := .tuple #[.agg #[.int .i64 0, .int .i64 0, .int .i64 0, .int .i64 0, .int .i64 0], .bool false]) (by simp [results, Try.results19, go_sem, *]) rfl ⟨rfl, ?_⟩
    exact bel_one w _
end Go.Proofs.Ytfnlogmfkpaaiad
