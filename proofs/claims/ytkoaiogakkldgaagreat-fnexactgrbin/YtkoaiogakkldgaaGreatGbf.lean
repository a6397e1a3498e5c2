/-
  What is needed, and whether it ends: the program's panic and recover.
-/
import Derived.Test.YtkoaiogakkldgaaGreatGba
import Derived.Shelf.Abstract
import Derived.Defers
import Derived.Recover
namespace Go.Proofs.YtkoaiogakkldgaaGreat
open Go.RowKit Go.Deep Go.Joins
set_option linter.unusedVariables false

abbrev tooMuch : Value := .iface 80 (.agg #[])
set_option maxHeartbeats 1000000 in
theorem redNeed_yes (v : Value) (w : World) : Calls Tryz.prog 48 #[v, .bool true] w fun r w' => r = .returned v ∧ w' = w := by
  go_enter Tryz.func48, Tryz.ntmps48
  go_wp2
  go_ret
  exact ⟨rfl, rfl⟩
set_option maxHeartbeats 1000000 in
theorem redNeed_no (v : Value) (w : World) : Calls Tryz.prog 48 #[v, .bool false] w fun r w' => r = .panicked [{ v := tooMuch, recovered := false }] ∧ w' = w := by
  go_enter Tryz.func48, Tryz.ntmps48
  go_wp2
  exact ⟨rfl, rfl, rfl⟩
theorem ta_nil (t : TypeId) (w : World) : (Instr.typeAssert Value.nilIface t 80 true).run Tryz.prog w = .ok (.tuple #[.agg #[], .bool false]) w := by kernel_rfl
theorem ta_much (t : TypeId) (w : World) : (Instr.typeAssert tooMuch t 80 true).run Tryz.prog w = .ok (.tuple #[.agg #[], .bool true]) w := by kernel_rfl
theorem ne_nil (w : World) : (binOp BinOp.neq 20 Value.nilIface Value.nilIface).run Tryz.prog w = .ok (.bool false) w := by kernel_rfl
theorem ne_much (w : World) : (binOp BinOp.neq 20 tooMuch Value.nilIface).run Tryz.prog w = .ok (.bool true) w := by kernel_rfl
set_option maxRecDepth 100000 in
set_option maxHeartbeats 2000000 in
theorem ends1_idle (w : World) : CallsD Tryz.prog 43 #[] .returning w fun e u' w' => e = .returned (.tuple #[]) ∧ u' = .returning ∧ w' = w.alloc (.cells #[] 80) := by
  refine callsD_of_wpS Tryz.func43 rfl fun c₀ cs hu => ?_
  apply wpS_seq
  apply wpS_region
  simp [wpOpsS, go_sem, recoverD, hu, Tryz.ntmps43, Exit.thenS]
  simp only [Array.replicate]
  refine wpS_of_wp ?_
  have h1 := ta_nil
  have h2 := ta_much
  have h3 := ne_nil
  have h4 := ne_much
  go_wp2
  cases c₀
  simp_all [bodyPostS, results, Tryz.results43]
set_option maxRecDepth 100000 in
set_option maxHeartbeats 2000000 in
theorem ends1_caught (w : World) : CallsD Tryz.prog 43 #[] (.panicking [{ v := tooMuch, recovered := false }]) w fun e u' w' => e = .returned (.tuple #[]) ∧ u' = .panicking [{ v := tooMuch, recovered := true }] ∧ w' = w.alloc (.cells #[] 80) := by
  refine callsD_of_wpS Tryz.func43 rfl fun c₀ cs hu => ?_
  apply wpS_seq
  apply wpS_region
  simp [wpOpsS, go_sem, recoverD, hu, Tryz.ntmps43, Exit.thenS]
  simp only [Array.replicate]
  refine wpS_of_wp ?_
  have h1 := ta_nil
  have h2 := ta_much
  have h3 := ne_nil
  have h4 := ne_much
  go_wp2
  cases c₀
  simp_all [bodyPostS, results, Tryz.results43]
set_option maxRecDepth 100000 in
set_option maxHeartbeats 2000000 in
theorem redEnds_yes (g : Nat) (lb : Array Value) (w : World) (Q : World → Prop) (eg : ∀ args w, (callFunc g args).run Tryz.prog w = .ok (.enter g args) w) (h : Calls Tryz.prog g lb w fun r w' => r = .returned (.tuple #[]) ∧ Q w') :
    Calls Tryz.prog 25 #[.func (.func g) #[] lb] w fun r w' => r = .returned (.bool true) ∧ ∃ w1, Q w1 ∧ w' = w1.alloc (.cells #[] 80) := by
  have HC := Hid.mk' h
  clear h
  go_enter_defers Tryz.func25, Tryz.ntmps25
  go_wp2_with fail
  refine HC.out.mono ?_
  rintro r w1 ⟨rfl, hq⟩
  have HQ := Hid.mk' hq
  clear hq HC
  go_wp2
  refine leaves_cons (f := 43) (args := #[]) (by simp) (by simp [go_sem]) ?_
  refine (ends1_idle _).mono ?_
  rintro e u' w'' ⟨rfl, rfl, rfl⟩
  simp [Leaves, settle, results, Tryz.results25, go_sem]
  exact ⟨w1, HQ.out, rfl⟩
set_option maxRecDepth 100000 in
set_option maxHeartbeats 2000000 in
theorem redEnds_no (g : Nat) (lb : Array Value) (w : World) (Q : World → Prop) (eg : ∀ args w, (callFunc g args).run Tryz.prog w = .ok (.enter g args) w) (h : Calls Tryz.prog g lb w fun r w' => r = .panicked [{ v := tooMuch, recovered := false }] ∧ Q w') :
    Calls Tryz.prog 25 #[.func (.func g) #[] lb] w fun r w' => r = .returned (.bool false) ∧ ∃ w1, Q w1 ∧ w' = w1.alloc (.cells #[] 80) := by
  have HC := Hid.mk' h
  clear h
  go_enter_defers Tryz.func25, Tryz.ntmps25
  go_wp2_with fail
  refine HC.out.mono ?_
  rintro r w1 ⟨rfl, hq⟩
  have HQ := Hid.mk' hq
  clear hq HC
  go_wp2
  refine leaves_cons (f := 43) (args := #[]) (by simp) (by simp [go_sem]) ?_
  refine (ends1_caught _).mono ?_
  rintro e u' w'' ⟨rfl, rfl, rfl⟩
  simp [Leaves, settle, results, Tryz.results25, go_sem]
  exact ⟨w1, HQ.out, rfl⟩
end Go.Proofs.YtkoaiogakkldgaaGreat
