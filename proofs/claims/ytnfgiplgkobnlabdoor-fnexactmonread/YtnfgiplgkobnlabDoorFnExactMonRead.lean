/-
  FnExactMonRead: at every text the program reads the monomial that its model reads; the listed tables and errors of the library are as the program lays them (the card ties them).
-/
import Derived.Test.YtnfgiplgkobnlabDoorRdM
import Derived.Test.YtnfgiplgkobnlabDoorRdG
import Derived.Test.YtnfgiplgkobnlabDoorRdE
import Derived.Test.YtnfgiplgkobnlabDoorOpenM
import Derived.Test.YtnfgiplgkobnlabDoorTie
import Derived.Test.YtnfgiplgkobnlabDoorCards
import Derived.ProofKit
import Derived.ShutString
import Derived.ChangeOld
import Derived.OpenShut
import Derived.LaidMore
import Derived.Lay
import Derived.SevenTiedAt
import Derived.Stop.Joined
namespace Go.Proofs.YtnfgiplgkobnlabDoor.fnExactMonRead
open Go.ChangeMaps (open_string shut_string)
open Go.ChangeShapes Go.WideShapes Go.ChangeAt Go.RowKit Go.Deep Go.Joins
set_option linter.unusedVariables false

set_option maxRecDepth 100000 in
set_option maxHeartbeats 4000000 in
theorem walk (s : List UInt8) (w : World) (hE : Er w) : Calls Tryd.prog 3 #[.string ⟨s.toArray⟩] w fun e w' => e = .returned (.bool true) ∧ Below w.heap.size w w' := by
  by_cases hl : s.length ≤ 1048576
  · have hlI : ¬ (1048576 : Int) < (s.length : Int) := by omega
    obtain ⟨R, hR⟩ : ∃ R, monR s = R := ⟨_, rfl⟩
    obtain ⟨⟨x, y, d, e⟩, b⟩ := R
    have HE := Hid.mk' hE
    have HS := Hid.mk' (fun u => monReadS s u hl)
    have HI := Hid.mk' (fun u h => monReadI s u hl h)
    rw [hR] at HS HI
    clear hR hE
    have hbb : (b != b) = false := by simp
    go_enter Tryd.func3, Tryd.ntmps3
    go_wp2_with fail
    refine (HS.out _).mono ?_
    rintro r w1 ⟨rfl, hb1⟩
    have bx := bel_next hb1 (bel_one w1 (.cells #[.int .i64 x, .int .i64 y, .int .i64 d, .int .i64 e] 23))
    have HB1 := Hid.mk' bx
    have HX1 := Hid.mk' (W4.box w1 23 x y d e)
    have HE1 := Hid.mk' (HE.out.below bx)
    clear hb1 bx HE HS
    go_wp2_with fail
    refine (HI.out _ HE1.out).mono ?_
    rintro r w2 ⟨rfl, hb2⟩
    have HB2 := Hid.mk' (bel_next (bel_next HB1.out hb2) (bel_one w2 (.cells #[.int .i64 x, .int .i64 y, .int .i64 d, .int .i64 e] 23)))
    have hlt : w1.heap.size < w2.heap.size := Nat.lt_of_lt_of_le (by simp) hb2.size
    have hne : w1.heap.size ≠ w2.heap.size := by omega
    have hne2 : w2.heap.size ≠ w1.heap.size := by omega
    obtain ⟨⟨x0, x1, x2, x3⟩, xz⟩ := HX1.out.below hb2
    clear hb2 HX1 HB1
    go_wp2_with fail
    refine (eqMon _ _ _ _ _ _ _ _ _).mono ?_
    rw [show M.eqB ⟨x, y, d, e⟩ ⟨x, y, d, e⟩ = true by simp [M.eqB]]
    rintro r w3 ⟨rfl, hb3⟩
    have HB3 := Hid.mk' (bel_next HB2.out hb3)
    clear hb3
    go_wp2
    go_ret
    exact ⟨rfl, HB3.out⟩
  · have hlI : (1048576 : Int) < (s.length : Int) := by omega
    go_enter Tryd.func3, Tryd.ntmps3
    go_wp2
    go_ret
    exact ⟨rfl, Below.refl _ _⟩
theorem own : ownKnob Tryd.prog.godebug = none := by kernel_rfl
theorem laidOut : laidOutB Tryd.prog = true := by kernel_rfl
set_option maxRecDepth 100000 in
theorem lifted (os : Os) (started : os.Started) (H : Type) (enc : TypeId × Value → H) :
    ReturnsInHanded {} Tryd.checked os 3 .any (fun w args => (Rows.fnExactMonReadSpec.pre enc Tryd.prog Tryd.f3 Rows.fnExactMonReadRow.domain false w args ∧ laidMetH Tryd.prog Rows.fnExactMonReadRow.laid w) ∧ sizedMet enc Tryd.prog Tryd.f3 (OpenSpec.ofChange Rows.fnExactMonReadSpec) false w args)
      (Rows.fnExactMonReadSpec.post enc Tryd.prog Tryd.f3 false true false false) := by
  refine returnsInHanded_of_change_and (C := Tryd.checked) (X := fun w _ => laidMetH Tryd.prog Rows.fnExactMonReadRow.laid w) (fun _ _ _ hh h => h.of_heap hh) own started (by kernel_rfl) Tryd.func3
    (ChangeSpec.witness_shaped (enc := enc) (C := Tryd.checked) (os := os) (X := fun w _ => laidMetH Tryd.prog Rows.fnExactMonReadRow.laid w) false (World.laidAll Tryd.prog os Rows.fnExactMonReadRow.laid) #[.string ⟨#[]⟩] 8 (World.laidAll_os _ _ _)
      (World.shaped_of_ZipB (by kernel_rfl) (by kernel_rfl)) (by kernel_rfl) (by kernel_rfl) (by kernel_rfl)
      (by rw [MakeChecks.laidMetH_plain _ _ _ (by kernel_rfl)]; exact laidMet_laidAll _ (by kernel_rfl) (by kernel_rfl))) ?_
  intro W base args ds gs before hval0 hW hcnd _ hL _
  have hval : ∀ (j : Nat) t v, Tryd.f3.params[j]? = some t → args[j]? = some v → Value.okWide Tryd.prog W .any base t v := hval0
  have hW' := hW
  obtain ⟨p, q, hA0, hV, rfl, hfz, hnd⟩ := hW
  have hA : DataW.TrodAll enc Tryd.prog W 0 (fun _ => true) true Tryd.f3.params.toList args.toList ds p := hA0
  rw [Tryd.params3] at hA hval
  obtain ⟨v0, vs0, d0, ds0, p0, q0, hargs, rfl, rfl, h0, r0⟩ := trodAll_cons hA
  obtain ⟨rfl, rfl, rfl⟩ := trodAll_nil r0
  obtain rfl : args = #[v0] := by cases args; simp_all
  obtain ⟨rfl, rfl⟩ := trodVars_none hV
  have k0 := h0
  have lt0 : ∀ x ∈ p0, x.block < W.heap.size := by obtain ⟨m, hm⟩ := k0; exact DataW.trod_lt m _ _ _ hm
  obtain ⟨sb, rfl, hd0, hp0, hsz⟩ := open_string Tryd.underlying9 (hval 0 9 v0 rfl rfl) h0
  have hEr : Er W := by
    rw [MakeChecks.laidMetH_plain _ _ _ (by kernel_rfl)] at hL
    exact er_of hL
  clear hA0 hval0
  refine ((walk sb.data.toList W hEr)).mono fun e W' ⟨he, bel⟩ => ?_
  subst he
  exact ⟨_, rfl, _, _, _, [], _, [], hW', trodAll_mk1 (shut_bool Tryd.underlying4 _), (trodAll_cons_mk (Below.trod laidOut (by kernel_rfl) (of_decide_eq_true (by kernel_rfl)) k0 bel lt0) trodAll_mk0), rfl, bel.frame _, fun h => by cases h⟩
theorem over : Rows.fnExactMonReadRow.holds Tryd.pinned (OpenSpec.ofChange Rows.fnExactMonReadSpec) :=
  OpenClaim.holds_of_wide 3 Tryd.f3 rfl rfl rfl rfl rfl rfl rfl ⟨rfl, rfl, rfl, rfl, rfl⟩ rfl rfl rfl rfl rfl (by kernel_rfl) Tryd.func3 (by kernel_rfl)
    (of_decide_eq_true (by kernel_rfl)) (by unfold Func.isWrapper; first | (rw [if_pos (by decide +kernel)]; kernel_rfl) | (rw [if_neg (by decide +kernel)]; exact ⟨rfl, rfl⟩))
    (fun os started H enc _ => lifted os started H enc)
theorem cardIs : Claim7.holds Tryd.pinned (.plain (OpenSpec.ofChange Rows.fnExactMonReadSpec)) Rows.fnExactMonReadCard :=
  Claim7.holds_tied_plain_at .later [] [.data, .data, .data, .sentinel, .sentinel] true _ true
    over (fun _ h => by cases h) (by kernel_rfl) (fun _ h => by cases h) fnExactMonRead_row_tie rfl ⟨rfl, rfl⟩ (by kernel_rfl) rfl
    (fun f fn hf hfn => by
      obtain rfl : f = 3 := Option.some.inj ((show Tryd.prog.funcNamed Rows.fnExactMonReadRow.func = some 3 by kernel_rfl).symm.trans hf) |>.symm
      obtain rfl : fn = Tryd.f3 := (Option.some.inj (Tryd.func3.symm.trans hfn)).symm
      exact ⟨by kernel_rfl, fun j t ht => by
        rw [Tryd.params3] at ht
        have hall : (Tryd.f3.params.toList.all fun u => !Tryd.prog.wantsStandIn u) = true := by kernel_rfl
        have hm : t ∈ Tryd.f3.params.toList := by rw [Tryd.params3]; simpa using Array.mem_of_getElem? ht
        exact (show Tryd.prog.wantsStandIn t = false by simpa using List.all_eq_true.1 hall t hm)⟩)
    (by kernel_rfl)
end Go.Proofs.YtnfgiplgkobnlabDoor.fnExactMonRead
namespace Go.Proofs.YtnfgiplgkobnlabDoor
theorem fnExactMonRead_holds : Rows.FnExactMonReadCardSaid := fnExactMonRead.cardIs
#print axioms fnExactMonRead_holds
end Go.Proofs.YtnfgiplgkobnlabDoor
