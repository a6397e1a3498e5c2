/-
  FnExactPolText: at every operator the program writes the text that its model writes, and it writes into no argument; the listed tables of the library are as the program lays them (the card ties them).
-/
import Derived.Test.YtnfgiplgkobnlaaDoorPxS
import Derived.Test.YtnfgiplgkobnlaaDoorPxI
import Derived.Test.YtnfgiplgkobnlaaDoorPxB
import Derived.Test.YtnfgiplgkobnlaaDoorOpen
import Derived.Test.YtnfgiplgkobnlaaDoorExact
import Derived.Test.YtnfgiplgkobnlaaDoorTie
import Derived.Test.YtnfgiplgkobnlaaDoorCards
import Derived.ProofKit
import Derived.Deep.RegionHeld3
import Derived.Deep.Light
import Derived.OpenShut
import Derived.LaidMore
import Derived.Lay
import Derived.SevenTiedAt
import Derived.Stop.Joined
namespace Go.Proofs.YtnfgiplgkobnlaaDoor.fnExactPolText
open Go.ChangeShapes Go.WideShapes Go.ChangeAt Go.RowKit Go.Deep Go.Joins
set_option linter.unusedVariables false

set_option maxRecDepth 100000 in
set_option maxHeartbeats 8000000 in
theorem walk (a0 : Option Addr) (n0 c0 : Nat) (f0 : Nat → T) (w : World) (h0 : IsTerms w a0 n0 c0 f0) (hT : Tb w) : Calls Tryd.prog 5 #[.slice a0 n0 c0] w fun e w' => e = .returned (.bool true) ∧ Below w.heap.size w w' := by
  have q0 : (n0 : Int) ≤ 9223372036854775807 := by have := h0.1; have := h0.2.1; unfold maxLen at this; omega
  by_cases b0 : (n0 : Int) ≤ 1048576
  · skip
    have B0 := Hid.mk' (Below.refl w.heap.size w)
    have R0 := Hid.mk' (h0.rd (by omega))
    have k0 : n0 * 40 ≤ 140737488351232 := by omega
    have s0 : (0 : Int) ≤ (1048576 : Int) - n0 := by omega
    clear h0
    have HTB := Hid.mk' hT
    clear hT
    obtain ⟨S, hS⟩ : ∃ S, polT n0 f0 = S := ⟨_, rfl⟩
    have HS := Hid.mk' hS
    clear hS
    go_enter Tryd.func5, Tryd.ntmps5
    go_wp2_with fail
    refine (szTerms _ _ _ _ _ q0 (by omega) (by omega)).mono ?_
    rw [if_neg (Int.not_lt.2 s0)]
    rintro e w' ⟨rfl, hw'⟩
    obtain rfl := hw'.symm
    clear hw'
    go_wp2_with fail
    refine (toTerms _ _ _ _ f0 (R0.out.below B0.out)).mono ?_
    rintro e wa ⟨rfl, hb, ho⟩
    have Ba := Hid.mk' (bel_next B0.out hb)
    have Oa := Hid.mk' (ho)
    clear hb
    clear ho
    go_wp2_with fail
    refine (polTextS _ _ _ _ f0 (Oa.out.rd k0)).mono ?_
    rw [HS.out]
    rintro e wb ⟨rfl, hb⟩
    have Bb := Hid.mk' (bel_next Ba.out hb)
    clear Oa
    clear hb
    go_wp2_with fail
    refine (toTerms _ _ _ _ f0 (R0.out.below Bb.out)).mono ?_
    rintro e wc ⟨rfl, hb, ho⟩
    have Bc := Hid.mk' (bel_next Bb.out hb)
    have Xc := Hid.mk' (ho)
    clear hb
    clear ho
    go_wp2_with fail
    refine (polTextI _ _ _ _ f0 (Xc.out.rd k0) (HTB.out.below Bc.out)).mono ?_
    rw [HS.out]
    rintro e wd ⟨rfl, hb⟩
    have Bd := Hid.mk' (bel_next Bc.out hb)
    have Xd := Hid.mk' (Xc.out.below hb Xc.out.lt)
    clear Xc
    clear hb
    go_wp2_with fail
    refine (toTerms _ _ _ _ f0 (R0.out.below Bd.out)).mono ?_
    rintro e we ⟨rfl, hb, ho⟩
    have Be := Hid.mk' (bel_next Bd.out hb)
    have Xe := Hid.mk' (Xd.out.below hb Xd.out.lt)
    clear Xd
    have Ze := Hid.mk' (ho)
    clear hb
    clear ho
    go_wp2_with fail
    refine (eqTerms _ _ _ _ _ _ _ _ _ (Xe.out.rd k0) (Ze.out.rd k0)).mono ?_
    rw [termsEq_same]
    rintro e wf ⟨rfl, hb⟩
    have Bf := Hid.mk' (bel_next Be.out hb)
    clear Xe
    clear Ze
    clear hb
    go_wp2
    go_ret
    exact ⟨rfl, Bf.out⟩
  · skip
    have s0 : (1048576 : Int) - n0 < 0 := by omega
    clear h0
    go_enter Tryd.func5, Tryd.ntmps5
    go_wp2_with fail
    refine (szTerms _ _ _ _ _ q0 (by omega) (by omega)).mono ?_
    rw [if_pos s0]
    rintro e w' ⟨rfl, hw'⟩
    obtain rfl := hw'.symm
    clear hw'
    go_wp2
    go_ret
    exact ⟨rfl, (Below.refl w.heap.size w)⟩
theorem own : ownKnob Tryd.prog.godebug = none := by kernel_rfl
theorem laidOut : laidOutB Tryd.prog = true := by kernel_rfl
set_option maxRecDepth 100000 in
theorem lifted (os : Os) (started : os.Started) (H : Type) (enc : TypeId × Value → H) :
    ReturnsInHanded {} Tryd.checked os 5 .any (fun w args => (Rows.fnExactPolTextSpec.pre enc Tryd.prog Tryd.f5 Rows.fnExactPolTextRow.domain false w args ∧ laidMetH Tryd.prog Rows.fnExactPolTextRow.laid w) ∧ sizedMet enc Tryd.prog Tryd.f5 (OpenSpec.ofChange Rows.fnExactPolTextSpec) false w args)
      (Rows.fnExactPolTextSpec.post enc Tryd.prog Tryd.f5 false true false false) := by
  refine returnsInHanded_of_change_and (C := Tryd.checked) (X := fun w _ => laidMetH Tryd.prog Rows.fnExactPolTextRow.laid w) (fun _ _ _ hh h => h.of_heap hh) own started (by kernel_rfl) Tryd.func5
    (ChangeSpec.witness_shaped (enc := enc) (C := Tryd.checked) (os := os) (X := fun w _ => laidMetH Tryd.prog Rows.fnExactPolTextRow.laid w) false (World.laidAll Tryd.prog os Rows.fnExactPolTextRow.laid) #[.slice none 0 0] 8 (World.laidAll_os _ _ _)
      (World.shaped_of_ZipB (by kernel_rfl) (by kernel_rfl)) (by kernel_rfl) (by kernel_rfl) (by kernel_rfl)
      (by rw [MakeChecks.laidMetH_plain _ _ _ (by kernel_rfl)]; exact laidMet_laidAll _ (by kernel_rfl) (by kernel_rfl))) ?_
  intro W base args ds gs before hval0 hW hcnd _ hL _
  have hval : ∀ (j : Nat) t v, Tryd.f5.params[j]? = some t → args[j]? = some v → Value.okWide Tryd.prog W .any base t v := hval0
  have hW' := hW
  obtain ⟨p, q, hA0, hV, rfl, hfz, hnd⟩ := hW
  have hA : DataW.TrodAll enc Tryd.prog W 0 (fun _ => true) true Tryd.f5.params.toList args.toList ds p := hA0
  rw [Tryd.params5] at hA hval
  obtain ⟨v0, vs0, d0, ds0, p0, q0, hargs, rfl, rfl, h0, r0⟩ := trodAll_cons hA
  obtain ⟨rfl, rfl, rfl⟩ := trodAll_nil r0
  obtain rfl : args = #[v0] := by cases args; simp_all
  obtain ⟨rfl, rfl⟩ := trodVars_none hV
  have k0 := h0
  have lt0 : ∀ x ∈ p0, x.block < W.heap.size := by obtain ⟨m, hm⟩ := k0; exact DataW.trod_lt m _ _ _ hm
  obtain ⟨a0, n0, c0, rfl⟩ := okWide_slice Tryd.underlying35 (hval 0 35 v0 rfl rfl)
  obtain ⟨f0, w0⟩ : ∃ f, IsTerms W a0 n0 c0 f := by
    obtain ⟨fuel, hf⟩ := h0
    exact terms_open hf
  have hTb : Tb W := by
    rw [MakeChecks.laidMetH_plain _ _ _ (by kernel_rfl)] at hL
    exact tab_third hL
  clear hA0 hval0
  refine (walk a0 n0 c0 f0 W w0 hTb).mono fun e W' ⟨he, bel⟩ => ?_
  subst he
  exact ⟨_, rfl, _, _, _, [], _, [], hW', trodAll_mk1 (shut_bool Tryd.underlying4 _), (trodAll_cons_mk (Below.trod laidOut (by kernel_rfl) (of_decide_eq_true (by kernel_rfl)) k0 bel lt0) trodAll_mk0), rfl, bel.frame _, fun h => by cases h⟩
theorem over : Rows.fnExactPolTextRow.holds Tryd.pinned (OpenSpec.ofChange Rows.fnExactPolTextSpec) :=
  OpenClaim.holds_of_wide 5 Tryd.f5 rfl rfl rfl rfl rfl rfl rfl ⟨rfl, rfl, rfl, rfl, rfl⟩ rfl rfl rfl rfl rfl (by kernel_rfl) Tryd.func5 (by kernel_rfl)
    (of_decide_eq_true (by kernel_rfl)) (by unfold Func.isWrapper; first | (rw [if_pos (by decide +kernel)]; kernel_rfl) | (rw [if_neg (by decide +kernel)]; exact ⟨rfl, rfl⟩))
    (fun os started H enc _ => lifted os started H enc)
theorem cardIs : Claim7.holds Tryd.pinned (.plain (OpenSpec.ofChange Rows.fnExactPolTextSpec)) Rows.fnExactPolTextCard :=
  Claim7.holds_tied_plain_at .later [] [.data, .data, .data] true _ true
    over (fun _ h => by cases h) (by kernel_rfl) (fun _ h => by cases h) fnExactPolText_row_tie rfl ⟨rfl, rfl⟩ (by kernel_rfl) rfl
    (fun f fn hf hfn => by
      obtain rfl : f = 5 := Option.some.inj ((show Tryd.prog.funcNamed Rows.fnExactPolTextRow.func = some 5 by kernel_rfl).symm.trans hf) |>.symm
      obtain rfl : fn = Tryd.f5 := (Option.some.inj (Tryd.func5.symm.trans hfn)).symm
      exact ⟨by kernel_rfl, fun j t ht => by
        rw [Tryd.params5] at ht
        have hall : (Tryd.f5.params.toList.all fun u => !Tryd.prog.wantsStandIn u) = true := by kernel_rfl
        have hm : t ∈ Tryd.f5.params.toList := by rw [Tryd.params5]; simpa using Array.mem_of_getElem? ht
        exact (show Tryd.prog.wantsStandIn t = false by simpa using List.all_eq_true.1 hall t hm)⟩)
    (by kernel_rfl)
end Go.Proofs.YtnfgiplgkobnlaaDoor.fnExactPolText
namespace Go.Proofs.YtnfgiplgkobnlaaDoor
theorem fnExactPolText_holds : Rows.FnExactPolTextCardSaid := fnExactPolText.cardIs
#print axioms fnExactPolText_holds
end Go.Proofs.YtnfgiplgkobnlaaDoor
