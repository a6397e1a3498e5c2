/-
  FnExactActSlope: at every argument the program answers as its model; it writes into no argument, and its answer owns its memory.
-/
import Derived.Test.YtfnlogmfkpaaiavSlopeI
import Derived.ProofKit
import Derived.OpenShut
import Derived.Deep.RegionHeld3
import Derived.Deep.Light
namespace Go.Proofs.Ytfnlogmfkpaaiav.fnExactActSlope
open Go.ChangeShapes Go.WideShapes Go.ChangeAt Go.RowKit Go.Deep Go.Joins
set_option linter.unusedVariables false

set_option maxRecDepth 100000 in
set_option maxHeartbeats 8000000 in
theorem walk (a0 : Option Addr) (n0 c0 : Nat) (f0 : Nat → T) (x1 : Int) (w : World) (h0 : IsTerms w a0 n0 c0 f0) : Calls Try.prog 4 #[.slice a0 n0 c0, .int .i64 x1] w fun e w' => e = .returned (.bool true) ∧ Below w.heap.size w w' := by
  have q0 : (n0 : Int) ≤ 9223372036854775807 := by have := h0.1; have := h0.2.1; unfold maxLen at this; omega
  by_cases b0 : (n0 : Int) ≤ 1048576
  · skip
    have B0 := Hid.mk' (Below.refl w.heap.size w)
    have R0 := Hid.mk' (h0.rd (by omega))
    have k0 : n0 * 40 ≤ 140737488351232 := by omega
    have s0 : (0 : Int) ≤ (1048576 : Int) - n0 := by omega
    clear h0
    have lenL : (actSlope x1 n0 f0).length ≤ 400 := actSlope_len _ _ _
    go_enter Try.func4, Try.ntmps4
    go_wp2_with fail
    refine (szTerms _ _ _ _ _ q0 (by omega) (by omega)).mono ?_
    rw [if_neg (Int.not_lt.2 s0)]
    rintro e w' ⟨rfl, hw'⟩
    obtain rfl := hw'.symm
    clear hw'
    go_wp2_with fail
    refine (toTerms _ _ _ _ f0 (R0.out.below B0.out)).mono ?_
    rintro e wa ⟨rfl, hb, ho⟩
    have Ba := Hid.mk' (bel_next B0.out hb)
    have Oa := Hid.mk' (ho)
    clear hb
    clear ho
    go_wp2_with fail
    refine (actSlopeS _ _ _ _ f0 x1 (Oa.out.rd k0)).mono ?_
    rintro e wb ⟨vs, rfl, hb, hown⟩
    have Bb := Hid.mk' (bel_next Ba.out hb)
    clear Oa
    clear hb
    obtain ⟨asp, csp, rfl, hout⟩ := out_of_owns hown (by omega)
    have Sb := Hid.mk' hout.1
    have US := Hid.mk' hout.1.under
    clear hown hout
    go_wp2_with fail
    refine (toTerms _ _ _ _ f0 (R0.out.below Bb.out)).mono ?_
    rintro e wc ⟨rfl, hb, ho⟩
    have Bc := Hid.mk' (bel_next Bb.out hb)
    have Sc := Hid.mk' (Sb.out.below hb)
    clear Sb
    have Xc := Hid.mk' (ho)
    clear hb
    clear ho
    have zx : Hid (wb.heap.size < wc.heap.size) := Xc.out.lt
    go_wp2_with fail
    refine (actSlopeI _ _ _ _ f0 x1 (Xc.out.rd k0)).mono ?_
    rintro e wd ⟨vg, rfl, hb, hown⟩
    have Bd := Hid.mk' (bel_next Bc.out hb)
    have Sd := Hid.mk' (Sc.out.below hb)
    clear Sc
    have Xd := Hid.mk' (Xc.out.below hb Xc.out.lt)
    clear Xc
    clear hb
    obtain ⟨ag, cg, rfl, hout⟩ := out_of_owns hown (by omega)
    have Gd := Hid.mk' hout
    have FG := Hid.mk' hout.from
    clear hown hout
    go_wp2_with fail
    refine (eqTerms _ _ _ _ _ _ _ _ _ Gd.out.1 Sd.out).mono ?_
    rw [termsEq_same]
    rintro e we ⟨rfl, hb⟩
    have Be := Hid.mk' (bel_next Bd.out hb)
    have Se := Hid.mk' (Sd.out.below hb)
    clear Sd
    have Xe := Hid.mk' (Xd.out.below hb Xd.out.lt)
    clear Xd
    have Ge := Hid.mk' (Gd.out.below hb)
    clear Gd
    clear hb
    go_wp2_with fail
    refine (toTerms _ _ _ _ f0 (R0.out.below Be.out)).mono ?_
    rintro e wf ⟨rfl, hb, ho⟩
    have Bf := Hid.mk' (bel_next Be.out hb)
    have Sf := Hid.mk' (Se.out.below hb)
    clear Se
    have Xf := Hid.mk' (Xe.out.below hb Xe.out.lt)
    clear Xe
    have Gf := Hid.mk' (Ge.out.below hb)
    clear Ge
    have Zf := Hid.mk' (ho)
    clear hb
    clear ho
    go_wp2_with fail
    refine (eqTerms _ _ _ _ _ _ _ _ _ (Xf.out.rd k0) (Zf.out.rd k0)).mono ?_
    rw [termsEq_same]
    rintro e wg ⟨rfl, hb⟩
    have Bg := Hid.mk' (bel_next Bf.out hb)
    have Sg := Hid.mk' (Sf.out.below hb)
    clear Sf
    have Xg := Hid.mk' (Xf.out.below hb Xf.out.lt)
    clear Xf
    have Gg := Hid.mk' (Gf.out.below hb)
    clear Gf
    clear Zf
    clear hb
    go_wp2_with fail
    refine (markTerms _ _ _ _ f0 1 Xg.out.wr (by omega) (by omega) (by omega)).mono ?_
    rintro e wh ⟨rfl, hg, hz, _, _⟩
    have Bh := Hid.mk' (bel_grown Bg.out hg (fun k e => by cases e; exact Bb.out.size))
    have Sh := Hid.mk' (Sg.out.grown hg (US.out.off (Nat.le_refl _)))
    have Gh := Hid.mk' (And.intro (Gg.out.1.grown hg (FG.out.off zx.out)) (Gg.out.2.1.grown hg (FG.out.off zx.out)))
    clear hg hz Sg Gg Xg
    have dk : decide ((1 : Int) + 5 * n0 < 0) = false := decide_eq_false (by omega)
    go_wp2_with fail
    refine (eqTerms _ _ _ _ _ _ _ _ _ Gh.out.1 Sh.out).mono ?_
    rw [termsEq_same]
    rintro e wi ⟨rfl, hb⟩
    have Bi := Hid.mk' (bel_next Bh.out hb)
    have Si := Hid.mk' (Sh.out.below hb)
    clear Sh
    have Gi := Hid.mk' (And.intro (Gh.out.1.below hb) (Gh.out.2.below hb))
    clear Gh
    clear hb
    go_wp2_with fail
    refine (markTerms _ _ _ _ _ 1 Gi.out.2 (by omega) (by omega) (by omega)).mono ?_
    rintro e wj ⟨rfl, hg, hz, hw, hsame⟩
    have Bj : Hid (Below w.heap.size w wj) := by
      by_cases hl : (actSlope x1 n0 f0).length = 0
      · rw [hsame hl]; exact Bi.out
      · refine bel_grown Bi.out hg (fun k e => ?_)
        rcases FG.out with h | h
        · exact absurd h hl
        · rcases Gi.out.2 with h' | ⟨g, off, _, _, rfl, _⟩
          · exact absurd h' hl
          · cases e
            exact Nat.le_trans Bc.out.size (h g off rfl)
    have Sj : Hid (Rd wj asp (actSlope x1 n0 f0).length csp (lf (actSlope x1 n0 f0))) := by
      by_cases hl : (actSlope x1 n0 f0).length = 0
      · rw [hsame hl]; exact Si.out
      · exact Si.out.grown hg (apart (US.out.mono (Nat.le_of_lt zx.out)) FG.out hl Gi.out.2)
    have Gj := Hid.mk' (hw.rd Gi.out.1.1 (by omega))
    have kq : decide ((1 : Int) + 5 * ((actSlope x1 n0 f0).length : Int) < 0) = false := decide_eq_false (by omega)
    clear hg hz hw hsame Si Gi
    go_wp2_with fail
    refine (heldTerms _ _ _ _ 1 Gj.out (by omega) (by omega)).mono ?_
    rintro e w' ⟨rfl, hw'⟩
    obtain rfl := hw'.symm
    clear hw'
    go_wp2_with fail
    refine (toTerms _ _ _ _ f0 (R0.out.below Bj.out)).mono ?_
    rintro e wk ⟨rfl, hb, ho⟩
    have Bk := Hid.mk' (bel_next Bj.out hb)
    have Sk := Hid.mk' (Sj.out.below hb)
    clear Sj
    have Gk := Hid.mk' (Gj.out.below hb)
    clear Gj
    have Ok := Hid.mk' (ho)
    clear hb
    clear ho
    go_wp2_with fail
    refine (actSlopeI _ _ _ _ f0 x1 (Ok.out.rd k0)).mono ?_
    rintro e wl ⟨vh, rfl, hb, hown⟩
    have Bl := Hid.mk' (bel_next Bk.out hb)
    have Sl := Hid.mk' (Sk.out.below hb)
    clear Sk
    have Gl := Hid.mk' (Gk.out.below hb)
    clear Gk
    clear Ok
    clear hb
    obtain ⟨ah, ch, rfl, hout⟩ := out_of_owns hown (by omega)
    have Hl := Hid.mk' hout.1
    clear hown hout
    go_wp2_with fail
    refine (eqTerms _ _ _ _ _ _ _ _ _ Hl.out Sl.out).mono ?_
    rw [termsEq_same]
    rintro e wm ⟨rfl, hb⟩
    have Bm := Hid.mk' (bel_next Bl.out hb)
    clear Sl
    have Gm := Hid.mk' (Gl.out.below hb)
    clear Gl
    clear Hl
    clear hb
    go_wp2_with fail
    refine (heldTerms _ _ _ _ 1 Gm.out (by omega) (by omega)).mono ?_
    rintro e w' ⟨rfl, hw'⟩
    obtain rfl := hw'.symm
    clear hw'
    go_wp2
    go_ret
    exact ⟨rfl, Bm.out⟩
  · skip
    have s0 : (1048576 : Int) - n0 < 0 := by omega
    clear h0
    go_enter Try.func4, Try.ntmps4
    go_wp2_with fail
    refine (szTerms _ _ _ _ _ q0 (by omega) (by omega)).mono ?_
    rw [if_pos s0]
    rintro e w' ⟨rfl, hw'⟩
    obtain rfl := hw'.symm
    clear hw'
    go_wp2
    go_ret
    exact ⟨rfl, (Below.refl w.heap.size w)⟩
theorem own : ownKnob Try.prog.godebug = none := by kernel_rfl
theorem laidOut : laidOutB Try.prog = true := by kernel_rfl
set_option maxRecDepth 100000 in
theorem lifted (os : Os) (started : os.Started) (H : Type) (enc : TypeId × Value → H) :
    ReturnsInHanded {} Try.checked os 4 .any (Rows.fnExactActSlopeSpec.pre6 enc Try.prog Try.f4 Rows.fnExactActSlopeRow.domain false) (Rows.fnExactActSlopeSpec.post enc Try.prog Try.f4 false true false false) := by
  refine returnsInHanded_of_change (C := Try.checked) own started (by kernel_rfl) Try.func4
    (ChangeSpec.witness6 (enc := enc) (C := Try.checked) false ⟨#[], #[.slice none 0 0, .int .i64 0], []⟩ 8 (by kernel_rfl) (by kernel_rfl) (by kernel_rfl) (by kernel_rfl)) ?_
  intro W base args ds gs before hval0 hW hcnd _
  have hval : ∀ (j : Nat) t v, Try.f4.params[j]? = some t → args[j]? = some v → Value.okWide Try.prog W .any base t v := hval0
  have hW' := hW
  obtain ⟨p, q, hA0, hV, rfl, hfz, hnd⟩ := hW
  have hA : DataW.TrodAll enc Try.prog W 0 (fun _ => true) true Try.f4.params.toList args.toList ds p := hA0
  rw [Try.params4] at hA hval
  obtain ⟨v0, vs0, d0, ds0, p0, q0, hargs, rfl, rfl, h0, r0⟩ := trodAll_cons hA
  obtain ⟨v1, vs1, d1, ds1, p1, q1, rfl, rfl, rfl, h1, r1⟩ := trodAll_cons r0
  obtain ⟨rfl, rfl, rfl⟩ := trodAll_nil r1
  obtain rfl : args = #[v0, v1] := by cases args; simp_all
  obtain ⟨rfl, rfl⟩ := trodVars_none hV
  obtain ⟨a0, n0, c0, rfl⟩ := okWide_slice Try.underlying22 (hval 0 22 v0 rfl rfl)
  have k0 := h0
  have lt0 : ∀ x ∈ p0, x.block < W.heap.size := by obtain ⟨m, hm⟩ := k0; exact DataW.trod_lt m _ _ _ hm
  obtain ⟨f0, w0⟩ : ∃ f, IsTerms W a0 n0 c0 f := by
    obtain ⟨fuel, hf⟩ := h0
    exact terms_open hf
  obtain ⟨x1, rfl, rfl, rfl, w1⟩ := open_int Try.underlying3 (hval 1 3 v1 rfl rfl) h1
  clear hA0 hval0
  refine (walk a0 n0 c0 f0 x1 W w0).mono fun e W' ⟨he, bel⟩ => ?_
  subst he
  exact ⟨_, rfl, _, _, _, [], _, [], hW', trodAll_mk1 (shut_bool Try.underlying4 _), (trodAll_cons_mk (Below.trod laidOut (by kernel_rfl) (of_decide_eq_true (by kernel_rfl)) k0 bel lt0) (trodAll_cons_mk (shut_int Try.underlying3 w1) trodAll_mk0)), rfl, bel.frame _, fun h => by cases h⟩
theorem over : Rows.fnExactActSlopeRow.holds Try.pinned (OpenSpec.ofChange Rows.fnExactActSlopeSpec) :=
  OpenClaim.holds_of_wide 4 Try.f4 rfl rfl rfl rfl rfl rfl rfl ⟨rfl, rfl, rfl, rfl, rfl⟩ rfl rfl rfl rfl rfl (by kernel_rfl) Try.func4 (by kernel_rfl)
    (of_decide_eq_true (by kernel_rfl)) (by unfold Func.isWrapper; first | (rw [if_pos (by decide +kernel)]; kernel_rfl) | (rw [if_neg (by decide +kernel)]; exact ⟨rfl, rfl⟩))
    (fun os started H enc _ => lifted os started H enc)
end Go.Proofs.Ytfnlogmfkpaaiav.fnExactActSlope
namespace Go.Proofs.Ytfnlogmfkpaaiav
theorem fnExactActSlope_holds : Rows.FnExactActSlopeSaid := fnExactActSlope.over
#print axioms fnExactActSlope_holds
end Go.Proofs.Ytfnlogmfkpaaiav
