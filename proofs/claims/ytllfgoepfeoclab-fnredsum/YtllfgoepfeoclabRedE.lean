/-
  What is needed, and whether it ends: the program's panic and recover.
-/
import Derived.Test.YtllfgoepfeoclabGay
import Derived.Shelf.Abstract
import Derived.Defers
import Derived.Recover
namespace Go.Proofs.Ytllfgoepfeoclab
open Go.RowKit Go.Deep Go.Joins
set_option linter.unusedVariables false

abbrev tooMuch : Value := .iface 82 (.agg #[])
set_option maxHeartbeats 1000000 in
theorem redNeed_yes (v : Value) (w : World) : Calls Try.prog 25 #[v, .bool true] w fun r w' => r = .returned v ∧ w' = w := by
  go_enter Try.func25, Try.ntmps25
  go_wp2
  go_ret
  exact ⟨rfl, rfl⟩
set_option maxHeartbeats 1000000 in
theorem redNeed_no (v : Value) (w : World) : Calls Try.prog 25 #[v, .bool false] w fun r w' => r = .panicked [{ v := tooMuch, recovered := false }] ∧ w' = w := by
  go_enter Try.func25, Try.ntmps25
  go_wp2
  exact ⟨rfl, rfl, rfl⟩
theorem ta_nil (t : TypeId) (w : World) : (Instr.typeAssert Value.nilIface t 82 true).run Try.prog w = .ok (.tuple #[.agg #[], .bool false]) w := by kernel_rfl
theorem ta_much (t : TypeId) (w : World) : (Instr.typeAssert tooMuch t 82 true).run Try.prog w = .ok (.tuple #[.agg #[], .bool true]) w := by kernel_rfl
theorem ne_nil (w : World) : (binOp BinOp.neq 20 Value.nilIface Value.nilIface).run Try.prog w = .ok (.bool false) w := by kernel_rfl
theorem ne_much (w : World) : (binOp BinOp.neq 20 tooMuch Value.nilIface).run Try.prog w = .ok (.bool true) w := by kernel_rfl
set_option maxRecDepth 100000 in
set_option maxHeartbeats 2000000 in
theorem ends1_idle (w : World) : CallsD Try.prog 47 #[] .returning w fun e u' w' => e = .returned (.tuple #[]) ∧ u' = .returning ∧ w' = w.alloc (.cells #[] 82) := by
  refine callsD_of_wpS Try.func47 rfl fun c₀ cs hu => ?_
  apply wpS_seq
  apply wpS_region
  simp [wpOpsS, go_sem, recoverD, hu, Try.ntmps47, Exit.thenS]
  simp only [Array.replicate]
  refine wpS_of_wp ?_
  have h1 := ta_nil
  have h2 := ta_much
  have h3 := ne_nil
  have h4 := ne_much
  go_wp2
  cases c₀
  simp_all [bodyPostS, results, Try.results47]
set_option maxRecDepth 100000 in
set_option maxHeartbeats 2000000 in
theorem ends1_caught (w : World) : CallsD Try.prog 47 #[] (.panicking [{ v := tooMuch, recovered := false }]) w fun e u' w' => e = .returned (.tuple #[]) ∧ u' = .panicking [{ v := tooMuch, recovered := true }] ∧ w' = w.alloc (.cells #[] 82) := by
  refine callsD_of_wpS Try.func47 rfl fun c₀ cs hu => ?_
  apply wpS_seq
  apply wpS_region
  simp [wpOpsS, go_sem, recoverD, hu, Try.ntmps47, Exit.thenS]
  simp only [Array.replicate]
  refine wpS_of_wp ?_
  have h1 := ta_nil
  have h2 := ta_much
  have h3 := ne_nil
  have h4 := ne_much
  go_wp2
  cases c₀
  simp_all [bodyPostS, results, Try.results47]
set_option maxRecDepth 100000 in
set_option maxHeartbeats 2000000 in
theorem redEnds_yes (g : Nat) (lb : Array Value) (w : World) (Q : World → Prop) (eg : ∀ args w, (callFunc g args).run Try.prog w = .ok (.enter g args) w) (h : Calls Try.prog g lb w fun r w' => r = .returned (.tuple #[]) ∧ Q w') :
    Calls Try.prog 23 #[.func (.func g) #[] lb] w fun r w' => r = .returned (.bool true) ∧ ∃ w1, Q w1 ∧ w' = w1.alloc (.cells #[] 82) := by
  have HC := Hid.mk' h
  clear h
  go_enter_defers Try.func23, Try.ntmps23
  go_wp2_with fail
  refine HC.out.mono ?_
  rintro r w1 ⟨rfl, hq⟩
  have HQ := Hid.mk' hq
  clear hq HC
  go_wp2
  refine leaves_cons (f := 47) (args := #[]) (by simp) (by simp [go_sem]) ?_
  refine (ends1_idle _).mono ?_
  rintro e u' w'' ⟨rfl, rfl, rfl⟩
  simp [Leaves, settle, results, Try.results23, go_sem]
  exact ⟨w1, HQ.out, rfl⟩
set_option maxRecDepth 100000 in
set_option maxHeartbeats 2000000 in
theorem redEnds_no (g : Nat) (lb : Array Value) (w : World) (Q : World → Prop) (eg : ∀ args w, (callFunc g args).run Try.prog w = .ok (.enter g args) w) (h : Calls Try.prog g lb w fun r w' => r = .panicked [{ v := tooMuch, recovered := false }] ∧ Q w') :
    Calls Try.prog 23 #[.func (.func g) #[] lb] w fun r w' => r = .returned (.bool false) ∧ ∃ w1, Q w1 ∧ w' = w1.alloc (.cells #[] 82) := by
  have HC := Hid.mk' h
  clear h
  go_enter_defers Try.func23, Try.ntmps23
  go_wp2_with fail
  refine HC.out.mono ?_
  rintro r w1 ⟨rfl, hq⟩
  have HQ := Hid.mk' hq
  clear hq HC
  go_wp2
  refine leaves_cons (f := 47) (args := #[]) (by simp) (by simp [go_sem]) ?_
  refine (ends1_caught _).mono ?_
  rintro e u' w'' ⟨rfl, rfl, rfl⟩
  simp [Leaves, settle, results, Try.results23, go_sem]
  exact ⟨w1, HQ.out, rfl⟩
end Go.Proofs.Ytllfgoepfeoclab
