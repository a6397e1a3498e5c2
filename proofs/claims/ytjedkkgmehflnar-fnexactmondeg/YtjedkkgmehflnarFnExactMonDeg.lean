/-
  FnExactMonDeg: at every argument the program answers as its model, and writes into none.
-/
import Derived.Test.YtjedkkgmehflnarMonoI2
import Derived.Test.YtjedkkgmehflnarOpenM
import Derived.ProofKit
import Derived.OpenShut
namespace Go.Proofs.Ytjedkkgmehflnar.fnExactMonDeg
open Go.ChangeShapes Go.WideShapes Go.ChangeAt Go.RowKit Go.Deep Go.Joins
set_option linter.unusedVariables false

set_option maxRecDepth 100000 in
set_option maxHeartbeats 4000000 in
theorem walk (x0 y0 z0 u0 : Int) (w : World) : Calls Try.prog 5 #[.agg #[.int .i64 x0, .int .i64 y0, .int .i64 z0, .int .i64 u0]] w fun e w' => e = .returned (.bool true) ∧ Below w.heap.size w w' := by
  have hne : (M.deg ⟨x0, y0, z0, u0⟩ != M.deg ⟨x0, y0, z0, u0⟩) = false := by simp
  go_enter Try.func5, Try.ntmps5
  go_wp2_with fail
  refine (toMon _ _ _ _ _).mono ?_
  rintro r w1 ⟨rfl, hb⟩
  have B1 := Hid.mk' (bel_next (bel_one w _) hb)
  have A1 := Hid.mk' ((M4.box w _ x0 y0 z0 u0).below hb)
  clear hb
  go_wp2_with fail
  refine (monDegS _ _ _ _ _).mono ?_
  rintro r w2 ⟨rfl, hb⟩
  have B2 := Hid.mk' (bel_next B1.out hb)
  obtain ⟨a0, a1, a2, a3⟩ := A1.out.below hb
  clear hb
  go_wp2_with fail
  refine (toMon _ _ _ _ _).mono ?_
  rintro r w3 ⟨rfl, hb⟩
  have B3 := Hid.mk' (bel_next B2.out hb)
  clear hb
  go_wp2_with fail
  refine (monDegI _ _ _ _ _).mono ?_
  rintro r w4 ⟨rfl, hb⟩
  have B4 := Hid.mk' (bel_next B3.out hb)
  clear hb
  go_wp2
  go_ret
  exact ⟨rfl, B4.out⟩
theorem own : ownKnob Try.prog.godebug = none := by kernel_rfl
theorem laidOut : laidOutB Try.prog = true := by kernel_rfl
set_option maxRecDepth 100000 in
theorem lifted (os : Os) (started : os.Started) (H : Type) (enc : TypeId × Value → H) :
    ReturnsInHanded {} Try.checked os 5 .any (Rows.fnExactMonDegSpec.pre6 enc Try.prog Try.f5 Rows.fnExactMonDegRow.domain false) (Rows.fnExactMonDegSpec.post enc Try.prog Try.f5 false true false false) := by
  refine returnsInHanded_of_change (C := Try.checked) own started (by kernel_rfl) Try.func5
    (ChangeSpec.witness6 (enc := enc) (C := Try.checked) false ⟨#[], #[.agg #[.int .i64 0, .int .i64 0, .int .i64 0, .int .i64 0]], []⟩ 8 (by kernel_rfl) (by kernel_rfl) (by kernel_rfl) (by kernel_rfl)) ?_
  intro W base args ds gs before hval0 hW hcnd _
  have hval : ∀ (j : Nat) t v, Try.f5.params[j]? = some t → args[j]? = some v → Value.okWide Try.prog W .any base t v := hval0
  have hW' := hW
  obtain ⟨p, q, hA0, hV, rfl, hfz, hnd⟩ := hW
  have hA : DataW.TrodAll enc Try.prog W 0 (fun _ => true) true Try.f5.params.toList args.toList ds p := hA0
  rw [Try.params5] at hA hval
  obtain ⟨v0, vs0, d0, ds0, p0, q0, hargs, rfl, rfl, h0, r0⟩ := trodAll_cons hA
  obtain ⟨rfl, rfl, rfl⟩ := trodAll_nil r0
  obtain rfl : args = #[v0] := by cases args; simp_all
  obtain ⟨rfl, rfl⟩ := trodVars_none hV
  have k0 := h0
  have lt0 : ∀ x ∈ p0, x.block < W.heap.size := by obtain ⟨m, hm⟩ := k0; exact DataW.trod_lt m _ _ _ hm
  obtain ⟨x0, y0, z0, u0, rfl⟩ := mon_open (hval 0 25 v0 rfl rfl) h0
  clear hA0 hval0
  refine (walk x0 y0 z0 u0 W ).mono fun e W' ⟨he, bel⟩ => ?_
  subst he
  exact ⟨_, rfl, _, _, _, [], _, [], hW', trodAll_mk1 (shut_bool Try.underlying4 _), (trodAll_cons_mk (Below.trod laidOut (by kernel_rfl) (of_decide_eq_true (by kernel_rfl)) k0 bel lt0) trodAll_mk0), rfl, bel.frame _, fun h => by cases h⟩
theorem over : Rows.fnExactMonDegRow.holds Try.pinned (OpenSpec.ofChange Rows.fnExactMonDegSpec) :=
  OpenClaim.holds_of_wide 5 Try.f5 rfl rfl rfl rfl rfl rfl rfl ⟨rfl, rfl, rfl, rfl, rfl⟩ rfl rfl rfl rfl rfl (by kernel_rfl) Try.func5 (by kernel_rfl)
    (of_decide_eq_true (by kernel_rfl)) (by unfold Func.isWrapper; first | (rw [if_pos (by decide +kernel)]; kernel_rfl) | (rw [if_neg (by decide +kernel)]; exact ⟨rfl, rfl⟩))
    (fun os started H enc _ => lifted os started H enc)
end Go.Proofs.Ytjedkkgmehflnar.fnExactMonDeg
namespace Go.Proofs.Ytjedkkgmehflnar
theorem fnExactMonDeg_holds : Rows.FnExactMonDegSaid := fnExactMonDeg.over
#print axioms fnExactMonDeg_holds
end Go.Proofs.Ytjedkkgmehflnar
