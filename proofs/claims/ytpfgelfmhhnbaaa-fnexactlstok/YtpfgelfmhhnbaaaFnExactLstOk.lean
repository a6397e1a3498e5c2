/-
  FnExactLstOk: at every argument the program answers as its model; it writes into no argument.
-/
import Derived.Test.YtpfgelfmhhnbaaaLOpen
import Derived.ProofKit
import Derived.OpenShut
import Derived.Deep.RegionHeld3
import Derived.Deep.Light
namespace Go.Proofs.Ytpfgelfmhhnbaaa.fnExactLstOk
open Go.ChangeShapes Go.WideShapes Go.ChangeAt Go.RowKit Go.Deep Go.Joins
set_option linter.unusedVariables false

set_option maxRecDepth 100000 in
set_option maxHeartbeats 8000000 in
theorem walk (a0 : Option Addr) (n0 c0 : Nat) (ad0 : Nat → Option Addr) (ln0 cp0 : Nat → Nat) (f0 : Nat → Nat → T) (w : World) (h0 : IsLists w a0 n0 c0 ad0 ln0 cp0 f0) : Calls Try.prog 3 #[.slice a0 n0 c0] w fun e w' => e = .returned (.bool true) ∧ Below w.heap.size w w' := by
  have q0 : (n0 : Int) ≤ 9223372036854775807 := by have := h0.1; have := h0.2.1; unfold maxLen at this; omega
  have q1 : ∀ i, i < n0 → (ln0 i : Int) ≤ 9223372036854775807 := fun i hi => by have h := h0.2.2.2 i hi; have := h.1; have := h.2.1; unfold maxLen at this; omega
  have H0 := Hid.mk' h0
  clear h0
  go_enter Try.func3, Try.ntmps3
  go_wp2_with fail
  refine (szLists a0 n0 c0 ad0 ln0 cp0 1048576 w q0 (by omega) (by omega) H0.out.2.2.1 q1).mono ?_
  clear q1
  rintro e w' ⟨z, rfl, hw', hz1, hz⟩
  obtain rfl := hw'.symm
  clear hw'
  by_cases hneg : z < 0
  · go_wp2
    go_ret
    exact ⟨rfl, Below.refl _ _⟩
  · have hb := hz (by omega)
    have hn40 : n0 * 40 ≤ 140737488351232 := by omega
    have hl40 : ∀ i, i < n0 → ln0 i * 40 ≤ 140737488351232 := fun i hi => by have := hb.2 i hi; omega
    have R0 := Hid.mk' (H0.out.rd hn40 hl40)
    have HL := Hid.mk' hl40
    clear hz hb hl40 H0
    have hne : (lstOk n0 ln0 f0 != lstOk n0 ln0 f0) = false := by simp
    go_wp2_with fail
    refine (toLists _ _ _ _ _ _ _ _ R0.out).mono ?_
    rintro e wa ⟨B, rfl, hba, hra, hoa⟩
    have La := Hid.mk' (lists_rd hra (fun i hi => (hoa i hi).2) hn40 HL.out)
    have Ba := Hid.mk' hba
    clear hba hra hoa
    go_wp2_with fail
    refine (lstOkS _ _ _ _ _ _ _ _ La.out).mono ?_
    rintro e wb ⟨rfl, hbb⟩
    have Bb := Hid.mk' (bel_next Ba.out hbb)
    clear hbb La Ba
    go_wp2_with fail
    refine (toLists _ _ _ _ _ _ _ _ (R0.out.below Bb.out)).mono ?_
    rintro e wc ⟨C, rfl, hbc, hrc, hoc⟩
    have Lc := Hid.mk' (lists_rd hrc (fun i hi => (hoc i hi).2) hn40 HL.out)
    have Bc := Hid.mk' (bel_next Bb.out hbc)
    clear hbc hrc hoc Bb
    go_wp2_with fail
    refine (lstOkI _ _ _ _ _ _ _ _ Lc.out).mono ?_
    rintro e wd ⟨rfl, hbd⟩
    have Ld := Hid.mk' (Lc.out.below hbd)
    have Bd := Hid.mk' (bel_next Bc.out hbd)
    clear hbd Lc Bc
    go_wp2_with fail
    refine (toLists _ _ _ _ _ _ _ _ (R0.out.below Bd.out)).mono ?_
    rintro e we ⟨D, rfl, hbe, hre, hoe⟩
    have Le := Hid.mk' (lists_rd hre (fun i hi => (hoe i hi).2) hn40 HL.out)
    have Lf := Hid.mk' (Ld.out.below hbe)
    have Be := Hid.mk' (bel_next Bd.out hbe)
    clear hbe hre hoe Bd Ld
    go_wp2_with fail
    refine (eqLists _ _ _ _ _ _ _ _ _ _ _ _ Lf.out Le.out).mono ?_
    rintro e wf ⟨rfl, hbf⟩
    have Bf := Hid.mk' (bel_next Be.out hbf)
    clear hbf
    go_wp2
    go_ret
    exact ⟨rfl, Bf.out⟩
theorem own : ownKnob Try.prog.godebug = none := by kernel_rfl
theorem laidOut : laidOutB Try.prog = true := by kernel_rfl
set_option maxRecDepth 100000 in
theorem lifted (os : Os) (started : os.Started) (H : Type) (enc : TypeId × Value → H) :
    ReturnsInHanded {} Try.checked os 3 .any (Rows.fnExactLstOkSpec.pre6 enc Try.prog Try.f3 Rows.fnExactLstOkRow.domain false) (Rows.fnExactLstOkSpec.post enc Try.prog Try.f3 false true false false) := by
  refine returnsInHanded_of_change (C := Try.checked) own started (by kernel_rfl) Try.func3
    (ChangeSpec.witness6 (enc := enc) (C := Try.checked) false ⟨#[], #[.slice none 0 0], []⟩ 8 (by kernel_rfl) (by kernel_rfl) (by kernel_rfl) (by kernel_rfl)) ?_
  intro W base args ds gs before hval0 hW hcnd _
  have hval : ∀ (j : Nat) t v, Try.f3.params[j]? = some t → args[j]? = some v → Value.okWide Try.prog W .any base t v := hval0
  have hW' := hW
  obtain ⟨p, q, hA0, hV, rfl, hfz, hnd⟩ := hW
  have hA : DataW.TrodAll enc Try.prog W 0 (fun _ => true) true Try.f3.params.toList args.toList ds p := hA0
  rw [Try.params3] at hA hval
  obtain ⟨v0, vs0, d0, ds0, p0, q0, hargs, rfl, rfl, h0, r0⟩ := trodAll_cons hA
  obtain ⟨rfl, rfl, rfl⟩ := trodAll_nil r0
  obtain rfl : args = #[v0] := by cases args; simp_all
  obtain ⟨rfl, rfl⟩ := trodVars_none hV
  obtain ⟨a0, n0, c0, rfl⟩ := okWide_slice Try.underlying22 (hval 0 22 v0 rfl rfl)
  have k0 := h0
  have lt0 : ∀ x ∈ p0, x.block < W.heap.size := by obtain ⟨m, hm⟩ := k0; exact DataW.trod_lt m _ _ _ hm
  obtain ⟨ad0, ln0, cp0, f0, w0⟩ : ∃ ad ln cp f, IsLists W a0 n0 c0 ad ln cp f := by
    obtain ⟨fuel, hf⟩ := h0
    exact lists_open hf
  clear hA0 hval0
  refine (walk a0 n0 c0 ad0 ln0 cp0 f0 W w0).mono fun e W' ⟨he, bel⟩ => ?_
  subst he
  exact ⟨_, rfl, _, _, _, [], _, [], hW', trodAll_mk1 (shut_bool Try.underlying4 _), (trodAll_cons_mk (Below.trod laidOut (by kernel_rfl) (of_decide_eq_true (by kernel_rfl)) k0 bel lt0) trodAll_mk0), rfl, bel.frame _, fun h => by cases h⟩
theorem over : Rows.fnExactLstOkRow.holds Try.pinned (OpenSpec.ofChange Rows.fnExactLstOkSpec) :=
  OpenClaim.holds_of_wide 3 Try.f3 rfl rfl rfl rfl rfl rfl rfl ⟨rfl, rfl, rfl, rfl, rfl⟩ rfl rfl rfl rfl rfl (by kernel_rfl) Try.func3 (by kernel_rfl)
    (of_decide_eq_true (by kernel_rfl)) (by unfold Func.isWrapper; first | (rw [if_pos (by decide +kernel)]; kernel_rfl) | (rw [if_neg (by decide +kernel)]; exact ⟨rfl, rfl⟩))
    (fun os started H enc _ => lifted os started H enc)
end Go.Proofs.Ytpfgelfmhhnbaaa.fnExactLstOk
namespace Go.Proofs.Ytpfgelfmhhnbaaa
theorem fnExactLstOk_holds : Rows.FnExactLstOkSaid := fnExactLstOk.over
#print axioms fnExactLstOk_holds
end Go.Proofs.Ytpfgelfmhhnbaaa
