/-
  FnExactFilDegree: at every argument the program answers as its model; it writes into no argument, and its answer owns its memory.
-/
import Derived.Test.YtioecpiogpjlaaaFilS
import Derived.ProofKit
import Derived.OpenShut
import Derived.Deep.RegionHeld3
import Derived.Deep.Light
namespace Go.Proofs.Ytioecpiogpjlaaa.fnExactFilDegree
open Go.ChangeShapes Go.WideShapes Go.ChangeAt Go.RowKit Go.Deep Go.Joins
set_option linter.unusedVariables false

set_option maxRecDepth 100000 in
set_option maxHeartbeats 8000000 in
theorem walk (a0 : Option Addr) (n0 c0 : Nat) (f0 : Nat → T) (w : World) (h0 : IsTerms w a0 n0 c0 f0) : Calls Try.prog 5 #[.slice a0 n0 c0] w fun e w' => e = .returned (.bool true) ∧ Below w.heap.size w w' := by
  have q0 : (n0 : Int) ≤ 9223372036854775807 := by have := h0.1; have := h0.2.1; unfold maxLen at this; omega
  by_cases b0 : (n0 : Int) ≤ 1048576
  · skip
    have B0 := Hid.mk' (Below.refl w.heap.size w)
    have R0 := Hid.mk' (h0.rd (by omega))
    have k0 : n0 * 40 ≤ 140737488351232 := by omega
    have s0 : (0 : Int) ≤ (1048576 : Int) - n0 := by omega
    clear h0
    have hne : (filDegree n0 f0 != filDegree n0 f0) = false := by simp
    go_enter Try.func5, Try.ntmps5
    go_wp2_with fail
    refine (szTerms _ _ _ _ _ q0 (by omega) (by omega)).mono ?_
    rw [if_neg (Int.not_lt.2 s0)]
    rintro e w' ⟨rfl, hw'⟩
    obtain rfl := hw'.symm
    clear hw'
    go_wp2_with fail
    refine (toTerms _ _ _ _ f0 (R0.out.below B0.out)).mono ?_
    rintro e wa ⟨rfl, hb, ho⟩
    have Ba := Hid.mk' (bel_next B0.out hb)
    have Oa := Hid.mk' (ho)
    clear hb
    clear ho
    go_wp2_with fail
    refine (filDegreeS _ _ _ _ f0 (Oa.out.rd k0)).mono ?_
    rintro e wb ⟨rfl, hb⟩
    have Bb := Hid.mk' (bel_next Ba.out hb)
    clear Oa
    clear hb
    go_wp2_with fail
    refine (toTerms _ _ _ _ f0 (R0.out.below Bb.out)).mono ?_
    rintro e wc ⟨rfl, hb, ho⟩
    have Bc := Hid.mk' (bel_next Bb.out hb)
    have Xc := Hid.mk' (ho)
    clear hb
    clear ho
    go_wp2_with fail
    refine (filDegreeI _ _ _ _ f0 (Xc.out.rd k0)).mono ?_
    rintro e wd ⟨rfl, hb⟩
    have Bd := Hid.mk' (bel_next Bc.out hb)
    have Xd := Hid.mk' (Xc.out.below hb Xc.out.lt)
    clear Xc
    clear hb
    go_wp2_with fail
    refine (toTerms _ _ _ _ f0 (R0.out.below Bd.out)).mono ?_
    rintro e we ⟨rfl, hb, ho⟩
    have Be := Hid.mk' (bel_next Bd.out hb)
    have Xe := Hid.mk' (Xd.out.below hb Xd.out.lt)
    clear Xd
    have Ze := Hid.mk' (ho)
    clear hb
    clear ho
    go_wp2_with fail
    refine (eqTerms _ _ _ _ _ _ _ _ _ (Xe.out.rd k0) (Ze.out.rd k0)).mono ?_
    rw [termsEq_same]
    rintro e wf ⟨rfl, hb⟩
    have Bf := Hid.mk' (bel_next Be.out hb)
    clear Xe
    clear Ze
    clear hb
    go_wp2
    go_ret
    exact ⟨rfl, Bf.out⟩
  · skip
    have s0 : (1048576 : Int) - n0 < 0 := by omega
    clear h0
    go_enter Try.func5, Try.ntmps5
    go_wp2_with fail
    refine (szTerms _ _ _ _ _ q0 (by omega) (by omega)).mono ?_
    rw [if_pos s0]
    rintro e w' ⟨rfl, hw'⟩
    obtain rfl := hw'.symm
    clear hw'
    go_wp2
    go_ret
    exact ⟨rfl, (Below.refl w.heap.size w)⟩
theorem own : ownKnob Try.prog.godebug = none := by kernel_rfl
theorem laidOut : laidOutB Try.prog = true := by kernel_rfl
set_option maxRecDepth 100000 in
theorem lifted (os : Os) (started : os.Started) (H : Type) (enc : TypeId × Value → H) :
    ReturnsInHanded {} Try.checked os 5 .any (Rows.fnExactFilDegreeSpec.pre6 enc Try.prog Try.f5 Rows.fnExactFilDegreeRow.domain false) (Rows.fnExactFilDegreeSpec.post enc Try.prog Try.f5 false true false false) := by
  refine returnsInHanded_of_change (C := Try.checked) own started (by kernel_rfl) Try.func5
    (ChangeSpec.witness6 (enc := enc) (C := Try.checked) false ⟨#[], #[.slice none 0 0], []⟩ 8 (by kernel_rfl) (by kernel_rfl) (by kernel_rfl) (by kernel_rfl)) ?_
  intro W base args ds gs before hval0 hW hcnd _
  have hval : ∀ (j : Nat) t v, Try.f5.params[j]? = some t → args[j]? = some v → Value.okWide Try.prog W .any base t v := hval0
  have hW' := hW
  obtain ⟨p, q, hA0, hV, rfl, hfz, hnd⟩ := hW
  have hA : DataW.TrodAll enc Try.prog W 0 (fun _ => true) true Try.f5.params.toList args.toList ds p := hA0
  rw [Try.params5] at hA hval
  obtain ⟨v0, vs0, d0, ds0, p0, q0, hargs, rfl, rfl, h0, r0⟩ := trodAll_cons hA
  obtain ⟨rfl, rfl, rfl⟩ := trodAll_nil r0
  obtain rfl : args = #[v0] := by cases args; simp_all
  obtain ⟨rfl, rfl⟩ := trodVars_none hV
  obtain ⟨a0, n0, c0, rfl⟩ := okWide_slice Try.underlying22 (hval 0 22 v0 rfl rfl)
  have k0 := h0
  have lt0 : ∀ x ∈ p0, x.block < W.heap.size := by obtain ⟨m, hm⟩ := k0; exact DataW.trod_lt m _ _ _ hm
  obtain ⟨f0, w0⟩ : ∃ f, IsTerms W a0 n0 c0 f := by
    obtain ⟨fuel, hf⟩ := h0
    exact terms_open hf
  clear hA0 hval0
  refine (walk a0 n0 c0 f0 W w0).mono fun e W' ⟨he, bel⟩ => ?_
  subst he
  exact ⟨_, rfl, _, _, _, [], _, [], hW', trodAll_mk1 (shut_bool Try.underlying4 _), (trodAll_cons_mk (Below.trod laidOut (by kernel_rfl) (of_decide_eq_true (by kernel_rfl)) k0 bel lt0) trodAll_mk0), rfl, bel.frame _, fun h => by cases h⟩
theorem over : Rows.fnExactFilDegreeRow.holds Try.pinned (OpenSpec.ofChange Rows.fnExactFilDegreeSpec) :=
  OpenClaim.holds_of_wide 5 Try.f5 rfl rfl rfl rfl rfl rfl rfl ⟨rfl, rfl, rfl, rfl, rfl⟩ rfl rfl rfl rfl rfl (by kernel_rfl) Try.func5 (by kernel_rfl)
    (of_decide_eq_true (by kernel_rfl)) (by unfold Func.isWrapper; first | (rw [if_pos (by decide +kernel)]; kernel_rfl) | (rw [if_neg (by decide +kernel)]; exact ⟨rfl, rfl⟩))
    (fun os started H enc _ => lifted os started H enc)
end Go.Proofs.Ytioecpiogpjlaaa.fnExactFilDegree
namespace Go.Proofs.Ytioecpiogpjlaaa
theorem fnExactFilDegree_holds : Rows.FnExactFilDegreeSaid := fnExactFilDegree.over
#print axioms fnExactFilDegree_holds
end Go.Proofs.Ytioecpiogpjlaaa
