/-
  FnExactMonText: at every monomial the program writes the text that its model writes; the listed tables of the library are as the program lays them (the card ties them).
-/
import Derived.Test.YtnfgiplgkobnlaaDoorTxS
import Derived.Test.YtnfgiplgkobnlaaDoorTxI
import Derived.Test.YtnfgiplgkobnlaaDoorOpenM
import Derived.Test.YtnfgiplgkobnlaaDoorTie
import Derived.Test.YtnfgiplgkobnlaaDoorCards
import Derived.ProofKit
import Derived.OpenShut
import Derived.LaidMore
import Derived.Lay
import Derived.SevenTiedAt
import Derived.Stop.Joined
namespace Go.Proofs.YtnfgiplgkobnlaaDoor.fnExactMonText
open Go.ChangeShapes Go.WideShapes Go.ChangeAt Go.RowKit Go.Deep Go.Joins
set_option linter.unusedVariables false

set_option maxRecDepth 100000 in
set_option maxHeartbeats 4000000 in
theorem walk (x0 y0 z0 u0 : Int) (w : World) : Calls Tryd.prog 4 #[.agg #[.int .i64 x0, .int .i64 y0, .int .i64 z0, .int .i64 u0]] w fun e w' => e = .returned (.bool true) ∧ Below w.heap.size w w' := by
  obtain ⟨S, hS⟩ : ∃ S, monT ⟨x0, y0, z0, u0⟩ = S := ⟨_, rfl⟩
  have HS := Hid.mk' hS
  clear hS
  go_enter Tryd.func4, Tryd.ntmps4
  go_wp2_with fail
  refine (toMon _ _ _ _ _).mono ?_
  rintro r w1 ⟨rfl, hb⟩
  have B1 := Hid.mk' (bel_next (bel_one w _) hb)
  have A1 := Hid.mk' ((M4.box w _ x0 y0 z0 u0).below hb)
  clear hb
  go_wp2_with fail
  refine (monTextS _ _ _ _ _).mono ?_
  rw [HS.out]
  rintro r w2 ⟨rfl, hb⟩
  have B2 := Hid.mk' (bel_next B1.out hb)
  obtain ⟨a0, a1, a2, a3⟩ := A1.out.below hb
  clear hb
  go_wp2_with fail
  refine (toMon _ _ _ _ _).mono ?_
  rintro r w3 ⟨rfl, hb⟩
  have B3 := Hid.mk' (bel_next B2.out hb)
  clear hb
  go_wp2_with fail
  refine (monTextI _ _ _ _ _).mono ?_
  rw [HS.out]
  rintro r w4 ⟨rfl, hb⟩
  have B4 := Hid.mk' (bel_next B3.out hb)
  clear hb
  go_wp2
  go_ret
  exact ⟨rfl, B4.out⟩
theorem own : ownKnob Tryd.prog.godebug = none := by kernel_rfl
theorem laidOut : laidOutB Tryd.prog = true := by kernel_rfl
set_option maxRecDepth 100000 in
theorem lifted (os : Os) (started : os.Started) (H : Type) (enc : TypeId × Value → H) :
    ReturnsInHanded {} Tryd.checked os 4 .any (fun w args => (Rows.fnExactMonTextSpec.pre enc Tryd.prog Tryd.f4 Rows.fnExactMonTextRow.domain false w args ∧ laidMetH Tryd.prog Rows.fnExactMonTextRow.laid w) ∧ sizedMet enc Tryd.prog Tryd.f4 (OpenSpec.ofChange Rows.fnExactMonTextSpec) false w args)
      (Rows.fnExactMonTextSpec.post enc Tryd.prog Tryd.f4 false true false false) := by
  refine returnsInHanded_of_change_and (C := Tryd.checked) (X := fun w _ => laidMetH Tryd.prog Rows.fnExactMonTextRow.laid w) (fun _ _ _ hh h => h.of_heap hh) own started (by kernel_rfl) Tryd.func4
    (ChangeSpec.witness_shaped (enc := enc) (C := Tryd.checked) (os := os) (X := fun w _ => laidMetH Tryd.prog Rows.fnExactMonTextRow.laid w) false (World.laidAll Tryd.prog os Rows.fnExactMonTextRow.laid) #[.agg #[.int .i64 0, .int .i64 0, .int .i64 0, .int .i64 0]] 8 (World.laidAll_os _ _ _)
      (World.shaped_of_ZipB (by kernel_rfl) (by kernel_rfl)) (by kernel_rfl) (by kernel_rfl) (by kernel_rfl)
      (by rw [MakeChecks.laidMetH_plain _ _ _ (by kernel_rfl)]; exact laidMet_laidAll _ (by kernel_rfl) (by kernel_rfl))) ?_
  intro W base args ds gs before hval0 hW hcnd _ hL _
  have hval : ∀ (j : Nat) t v, Tryd.f4.params[j]? = some t → args[j]? = some v → Value.okWide Tryd.prog W .any base t v := hval0
  have hW' := hW
  obtain ⟨p, q, hA0, hV, rfl, hfz, hnd⟩ := hW
  have hA : DataW.TrodAll enc Tryd.prog W 0 (fun _ => true) true Tryd.f4.params.toList args.toList ds p := hA0
  rw [Tryd.params4] at hA hval
  obtain ⟨v0, vs0, d0, ds0, p0, q0, hargs, rfl, rfl, h0, r0⟩ := trodAll_cons hA
  obtain ⟨rfl, rfl, rfl⟩ := trodAll_nil r0
  obtain rfl : args = #[v0] := by cases args; simp_all
  obtain ⟨rfl, rfl⟩ := trodVars_none hV
  have k0 := h0
  have lt0 : ∀ x ∈ p0, x.block < W.heap.size := by obtain ⟨m, hm⟩ := k0; exact DataW.trod_lt m _ _ _ hm
  obtain ⟨x0, y0, z0, u0, rfl⟩ := mon_open (hval 0 32 v0 rfl rfl) h0
  clear hA0 hval0
  refine (walk x0 y0 z0 u0 W).mono fun e W' ⟨he, bel⟩ => ?_
  subst he
  exact ⟨_, rfl, _, _, _, [], _, [], hW', trodAll_mk1 (shut_bool Tryd.underlying4 _), (trodAll_cons_mk (Below.trod laidOut (by kernel_rfl) (of_decide_eq_true (by kernel_rfl)) k0 bel lt0) trodAll_mk0), rfl, bel.frame _, fun h => by cases h⟩
theorem over : Rows.fnExactMonTextRow.holds Tryd.pinned (OpenSpec.ofChange Rows.fnExactMonTextSpec) :=
  OpenClaim.holds_of_wide 4 Tryd.f4 rfl rfl rfl rfl rfl rfl rfl ⟨rfl, rfl, rfl, rfl, rfl⟩ rfl rfl rfl rfl rfl (by kernel_rfl) Tryd.func4 (by kernel_rfl)
    (of_decide_eq_true (by kernel_rfl)) (by unfold Func.isWrapper; first | (rw [if_pos (by decide +kernel)]; kernel_rfl) | (rw [if_neg (by decide +kernel)]; exact ⟨rfl, rfl⟩))
    (fun os started H enc _ => lifted os started H enc)
theorem cardIs : Claim7.holds Tryd.pinned (.plain (OpenSpec.ofChange Rows.fnExactMonTextSpec)) Rows.fnExactMonTextCard :=
  Claim7.holds_tied_plain_at .later [] [.data, .data, .data] true _ true
    over (fun _ h => by cases h) (by kernel_rfl) (fun _ h => by cases h) fnExactMonText_row_tie rfl ⟨rfl, rfl⟩ (by kernel_rfl) rfl
    (fun f fn hf hfn => by
      obtain rfl : f = 4 := Option.some.inj ((show Tryd.prog.funcNamed Rows.fnExactMonTextRow.func = some 4 by kernel_rfl).symm.trans hf) |>.symm
      obtain rfl : fn = Tryd.f4 := (Option.some.inj (Tryd.func4.symm.trans hfn)).symm
      exact ⟨by kernel_rfl, fun j t ht => by
        rw [Tryd.params4] at ht
        have hall : (Tryd.f4.params.toList.all fun u => !Tryd.prog.wantsStandIn u) = true := by kernel_rfl
        have hm : t ∈ Tryd.f4.params.toList := by rw [Tryd.params4]; simpa using Array.mem_of_getElem? ht
        exact (show Tryd.prog.wantsStandIn t = false by simpa using List.all_eq_true.1 hall t hm)⟩)
    (by kernel_rfl)
end Go.Proofs.YtnfgiplgkobnlaaDoor.fnExactMonText
namespace Go.Proofs.YtnfgiplgkobnlaaDoor
theorem fnExactMonText_holds : Rows.FnExactMonTextCardSaid := fnExactMonText.cardIs
#print axioms fnExactMonText_holds
end Go.Proofs.YtnfgiplgkobnlaaDoor
