/-
  FnExactPolOf: at every argument the program answers as its model; it writes into no argument, and its answer owns its memory.
-/
import Derived.Test.YtjedkkgmehflnasPolI2
import Derived.ProofKit
import Derived.OpenShut
import Derived.Deep.RegionHeld3
import Derived.Deep.Light
namespace Go.Proofs.Ytjedkkgmehflnas.fnExactPolOf
open Go.ChangeShapes Go.WideShapes Go.ChangeAt Go.RowKit Go.Deep Go.Joins
set_option linter.unusedVariables false

set_option maxRecDepth 100000 in
set_option maxHeartbeats 8000000 in
theorem walk (x0 : Int) (x1 y1 z1 u1 : Int) (w : World)  : Calls Try.prog 6 #[.int .i64 x0, .agg #[.int .i64 x1, .int .i64 y1, .int .i64 z1, .int .i64 u1]] w fun e w' => e = .returned (.bool true) ∧ Below w.heap.size w w' := by
  have B0 := Hid.mk' (bel_one w (.cells #[.int .i64 x1, .int .i64 y1, .int .i64 z1, .int .i64 u1] 23))
  have A0 := Hid.mk' (M4.box w 23 x1 y1 z1 u1)
  have lenL : (polOf x0 ⟨x1, y1, z1, u1⟩).length ≤ 400 := polOf_len _ _
  go_enter Try.func6, Try.ntmps6
  obtain ⟨m0, m1, m2, m3⟩ := A0.out
  go_wp2_with fail
  refine (toMon _ _ _ _ _).mono ?_
  rintro e wa ⟨rfl, hb⟩
  clear m0 m1 m2 m3
  have Ba := Hid.mk' (bel_next B0.out hb)
  have Aa := Hid.mk' (A0.out.below hb)
  clear A0
  clear hb
  go_wp2_with fail
  refine (polOfS _ _ _ _ _ _).mono ?_
  rintro e wb ⟨vs, rfl, hb, hown⟩
  have Bb := Hid.mk' (bel_next Ba.out hb)
  have Ab := Hid.mk' (Aa.out.below hb)
  clear Aa
  clear hb
  obtain ⟨asp, csp, rfl, hout⟩ := out_of_owns hown (by omega)
  have Sb := Hid.mk' hout.1
  have US := Hid.mk' hout.1.under
  clear hown hout
  obtain ⟨m0, m1, m2, m3⟩ := Ab.out
  go_wp2_with fail
  refine (toMon _ _ _ _ _).mono ?_
  rintro e wc ⟨rfl, hb⟩
  clear m0 m1 m2 m3
  have Bc := Hid.mk' (bel_next Bb.out hb)
  have Ac := Hid.mk' (Ab.out.below hb)
  clear Ab
  have Sc := Hid.mk' (Sb.out.below hb)
  clear Sb
  have BLE : Hid (wb.heap.size ≤ wc.heap.size) := hb.size
  clear hb
  have BL : Hid (w.heap.size < wc.heap.size) := Ac.out.lt
  go_wp2_with fail
  refine (polOfI _ _ _ _ _ _).mono ?_
  rintro e wd ⟨vg, rfl, hb, hown⟩
  have Bd := Hid.mk' (bel_next Bc.out hb)
  have Ad := Hid.mk' (Ac.out.below hb)
  clear Ac
  have Sd := Hid.mk' (Sc.out.below hb)
  clear Sc
  clear hb
  obtain ⟨ag, cg, rfl, hout⟩ := out_of_owns hown (by omega)
  have Gd := Hid.mk' hout
  have FG := Hid.mk' hout.from
  clear hown hout
  go_wp2_with fail
  refine (eqTerms _ _ _ _ _ _ _ _ _ Gd.out.1 Sd.out).mono ?_
  rw [termsEq_same]
  rintro e we ⟨rfl, hb⟩
  have Be := Hid.mk' (bel_next Bd.out hb)
  have Ae := Hid.mk' (Ad.out.below hb)
  clear Ad
  have Se := Hid.mk' (Sd.out.below hb)
  clear Sd
  have Ge := Hid.mk' (Gd.out.below hb)
  clear Gd
  clear hb
  go_wp2_with fail
  refine (markTerms _ _ _ _ _ 1 Ge.out.2.1 (by omega) (by omega) (by omega)).mono ?_
  rintro e wf ⟨rfl, hg, hz, hw, hsame⟩
  have Bf : Hid (Below w.heap.size w wf) := by
    by_cases hl : (polOf x0 ⟨x1, y1, z1, u1⟩).length = 0
    · rw [hsame hl]; exact Be.out
    · refine bel_grown Be.out hg (fun k e => ?_)
      rcases FG.out with h | h
      · exact absurd h hl
      · rcases Ge.out.2.1 with h' | ⟨g, off, _, _, rfl, _⟩
        · exact absurd h' hl
        · cases e
          exact Nat.le_trans Bc.out.size (h g off rfl)
  have Sf : Hid (Rd wf asp (polOf x0 ⟨x1, y1, z1, u1⟩).length csp (lf (polOf x0 ⟨x1, y1, z1, u1⟩))) := by
    by_cases hl : (polOf x0 ⟨x1, y1, z1, u1⟩).length = 0
    · rw [hsame hl]; exact Se.out
    · exact Se.out.grown hg (apart (US.out.mono BLE.out) FG.out hl Ge.out.2.1)
  have Af : Hid (M4 wf w.heap.size x1 y1 z1 u1) := by
    by_cases hl : (polOf x0 ⟨x1, y1, z1, u1⟩).length = 0
    · rw [hsame hl]; exact Ae.out
    · refine M4.grown Ae.out hg ?_
      rcases FG.out with h | h
      · exact absurd h hl
      · rcases Ge.out.2.1 with h' | ⟨g, off, _, _, rfl, _⟩
        · exact absurd h' hl
        · have := h g off rfl
          have := BL.out
          simp; omega
  have Gf := Hid.mk' (hw.rd Ge.out.1.1 (by omega))
  have kq : decide ((1 : Int) + 5 * ((polOf x0 ⟨x1, y1, z1, u1⟩).length : Int) < 0) = false := decide_eq_false (by omega)
  clear hg hz hw hsame Se Ge Ae
  go_wp2_with fail
  refine (heldTerms _ _ _ _ 1 Gf.out (by omega) (by omega)).mono ?_
  rintro e w' ⟨rfl, hw'⟩
  obtain rfl := hw'.symm
  clear hw'
  obtain ⟨m0, m1, m2, m3⟩ := Af.out
  go_wp2_with fail
  refine (toMon _ _ _ _ _).mono ?_
  rintro e wg ⟨rfl, hb⟩
  clear m0 m1 m2 m3
  have Bg := Hid.mk' (bel_next Bf.out hb)
  have Ag := Hid.mk' (Af.out.below hb)
  clear Af
  have Sg := Hid.mk' (Sf.out.below hb)
  clear Sf
  have Gg := Hid.mk' (Gf.out.below hb)
  clear Gf
  clear hb
  go_wp2_with fail
  refine (polOfI _ _ _ _ _ _).mono ?_
  rintro e wh ⟨vh, rfl, hb, hown⟩
  have Bh := Hid.mk' (bel_next Bg.out hb)
  clear Ag
  have Sh := Hid.mk' (Sg.out.below hb)
  clear Sg
  have Gh := Hid.mk' (Gg.out.below hb)
  clear Gg
  clear hb
  obtain ⟨ah, ch, rfl, hout⟩ := out_of_owns hown (by omega)
  have Hh := Hid.mk' hout.1
  clear hown hout
  go_wp2_with fail
  refine (eqTerms _ _ _ _ _ _ _ _ _ Hh.out Sh.out).mono ?_
  rw [termsEq_same]
  rintro e wi ⟨rfl, hb⟩
  have Bi := Hid.mk' (bel_next Bh.out hb)
  clear Sh
  have Gi := Hid.mk' (Gh.out.below hb)
  clear Gh
  clear Hh
  clear hb
  go_wp2_with fail
  refine (heldTerms _ _ _ _ 1 Gi.out (by omega) (by omega)).mono ?_
  rintro e w' ⟨rfl, hw'⟩
  obtain rfl := hw'.symm
  clear hw'
  go_wp2
  go_ret
  exact ⟨rfl, Bi.out⟩
theorem own : ownKnob Try.prog.godebug = none := by kernel_rfl
theorem laidOut : laidOutB Try.prog = true := by kernel_rfl
set_option maxRecDepth 100000 in
theorem lifted (os : Os) (started : os.Started) (H : Type) (enc : TypeId × Value → H) :
    ReturnsInHanded {} Try.checked os 6 .any (Rows.fnExactPolOfSpec.pre6 enc Try.prog Try.f6 Rows.fnExactPolOfRow.domain false) (Rows.fnExactPolOfSpec.post enc Try.prog Try.f6 false true false false) := by
  refine returnsInHanded_of_change (C := Try.checked) own started (by kernel_rfl) Try.func6
    (ChangeSpec.witness6 (enc := enc) (C := Try.checked) false ⟨#[], #[.int .i64 0, .agg #[.int .i64 0, .int .i64 0, .int .i64 0, .int .i64 0]], []⟩ 8 (by kernel_rfl) (by kernel_rfl) (by kernel_rfl) (by kernel_rfl)) ?_
  intro W base args ds gs before hval0 hW hcnd _
  have hval : ∀ (j : Nat) t v, Try.f6.params[j]? = some t → args[j]? = some v → Value.okWide Try.prog W .any base t v := hval0
  have hW' := hW
  obtain ⟨p, q, hA0, hV, rfl, hfz, hnd⟩ := hW
  have hA : DataW.TrodAll enc Try.prog W 0 (fun _ => true) true Try.f6.params.toList args.toList ds p := hA0
  rw [Try.params6] at hA hval
  obtain ⟨v0, vs0, d0, ds0, p0, q0, hargs, rfl, rfl, h0, r0⟩ := trodAll_cons hA
  obtain ⟨v1, vs1, d1, ds1, p1, q1, rfl, rfl, rfl, h1, r1⟩ := trodAll_cons r0
  obtain ⟨rfl, rfl, rfl⟩ := trodAll_nil r1
  obtain rfl : args = #[v0, v1] := by cases args; simp_all
  obtain ⟨rfl, rfl⟩ := trodVars_none hV
  obtain ⟨x0, rfl, rfl, rfl, w0⟩ := open_int Try.underlying3 (hval 0 3 v0 rfl rfl) h0
  have k1 := h1
  have lt1 : ∀ x ∈ p1, x.block < W.heap.size := by obtain ⟨m, hm⟩ := k1; exact DataW.trod_lt m _ _ _ hm
  obtain ⟨x1, y1, z1, u1, rfl⟩ := mon_open (hval 1 23 v1 rfl rfl) h1
  clear hA0 hval0
  refine (walk x0 x1 y1 z1 u1 W ).mono fun e W' ⟨he, bel⟩ => ?_
  subst he
  exact ⟨_, rfl, _, _, _, [], _, [], hW', trodAll_mk1 (shut_bool Try.underlying4 _), (trodAll_cons_mk (shut_int Try.underlying3 w0) (trodAll_cons_mk (Below.trod laidOut (by kernel_rfl) (of_decide_eq_true (by kernel_rfl)) k1 bel lt1) trodAll_mk0)), rfl, bel.frame _, fun h => by cases h⟩
theorem over : Rows.fnExactPolOfRow.holds Try.pinned (OpenSpec.ofChange Rows.fnExactPolOfSpec) :=
  OpenClaim.holds_of_wide 6 Try.f6 rfl rfl rfl rfl rfl rfl rfl ⟨rfl, rfl, rfl, rfl, rfl⟩ rfl rfl rfl rfl rfl (by kernel_rfl) Try.func6 (by kernel_rfl)
    (of_decide_eq_true (by kernel_rfl)) (by unfold Func.isWrapper; first | (rw [if_pos (by decide +kernel)]; kernel_rfl) | (rw [if_neg (by decide +kernel)]; exact ⟨rfl, rfl⟩))
    (fun os started H enc _ => lifted os started H enc)
end Go.Proofs.Ytjedkkgmehflnas.fnExactPolOf
namespace Go.Proofs.Ytjedkkgmehflnas
theorem fnExactPolOf_holds : Rows.FnExactPolOfSaid := fnExactPolOf.over
#print axioms fnExactPolOf_holds
end Go.Proofs.Ytjedkkgmehflnas
