/-
  FnExactPolLead: at every argument the program answers as its model; it writes into no argument, and its answer owns its memory.
-/
import Derived.Test.YtjedkkgmehflnatLeadI
import Derived.ProofKit
import Derived.OpenShut
import Derived.Deep.RegionHeld3
import Derived.Deep.Light
namespace Go.Proofs.Ytjedkkgmehflnat.fnExactPolLead
open Go.ChangeShapes Go.WideShapes Go.ChangeAt Go.RowKit Go.Deep Go.Joins
set_option linter.unusedVariables false

set_option maxRecDepth 100000 in
set_option maxHeartbeats 2000000 in
theorem walk (x0 : Int) (a1 : Option Addr) (n1 c1 : Nat) (f1 : Nat → T) (w : World) (h1 : IsTerms w a1 n1 c1 f1) : Calls Try.prog 4 #[.int .i64 x0, .slice a1 n1 c1] w fun e w' => e = .returned (.bool true) ∧ Below w.heap.size w w' := by
  have q1 : (n1 : Int) ≤ 9223372036854775807 := by have := h1.1; have := h1.2.1; unfold maxLen at this; omega
  by_cases b1 : (n1 : Int) ≤ 1048576
  · skip
    have B0 := Hid.mk' (Below.refl w.heap.size w)
    have R1 := Hid.mk' (h1.rd (by omega))
    have k1 : n1 * 40 ≤ 140737488351232 := by omega
    have s1 : (0 : Int) ≤ (1048576 : Int) - n1 := by omega
    clear h1
    go_enter Try.func4, Try.ntmps4
    go_wp2_with fail
    refine (szTerms _ _ _ _ _ q1 (by omega) (by omega)).mono ?_
    rw [if_neg (Int.not_lt.2 s1)]
    rintro e w' ⟨rfl, hw'⟩
    obtain rfl := hw'.symm
    clear hw'
    have hne : (leadOk x0 n1 f1 != leadOk x0 n1 f1) = false := by simp
    have heq : T.eqB (leadT x0 n1 f1) (leadT x0 n1 f1) = true := T.eqB_iff.2 rfl
    have HEQ := Hid.mk' heq
    clear heq
    go_wp2_with fail
    refine (toTerms _ _ _ _ f1 (R1.out.below B0.out)).mono ?_
    rintro e wa ⟨rfl, hb, ho⟩
    have Ba := Hid.mk' (bel_next B0.out hb)
    have Oa := Hid.mk' (ho)
    clear hb
    clear ho
    go_wp2_with fail
    refine (polLeadS _ _ _ _ _ f1 (Oa.out.rd k1)).mono ?_
    rintro e wb ⟨rfl, hb⟩
    have Bb := Hid.mk' (bel_next Ba.out hb)
    clear Oa
    clear hb
    have VQ := Hid.mk' (C5.box wb 33 (leadT x0 n1 f1))
    have BQ := Hid.mk' (Bb.out.alloc Bb.out.size (.cells #[.int .i64 (leadT x0 n1 f1).c, .int .i64 (leadT x0 n1 f1).m.x, .int .i64 (leadT x0 n1 f1).m.y, .int .i64 (leadT x0 n1 f1).m.d, .int .i64 (leadT x0 n1 f1).m.e] 33))
    go_wp2_with fail
    generalize (wb.alloc (.cells #[.int .i64 (leadT x0 n1 f1).c, .int .i64 (leadT x0 n1 f1).m.x, .int .i64 (leadT x0 n1 f1).m.y, .int .i64 (leadT x0 n1 f1).m.d, .int .i64 (leadT x0 n1 f1).m.e] 33)) = wq at VQ BQ ⊢
    refine (toTerms _ _ _ _ f1 (R1.out.below BQ.out)).mono ?_
    rintro e wc ⟨rfl, hb, ho⟩
    have Bc := Hid.mk' (bel_next BQ.out hb)
    have Vc := Hid.mk' (VQ.out.below hb)
    clear VQ
    have Xc := Hid.mk' (ho)
    clear hb
    clear ho
    go_wp2_with fail
    refine (polLeadI _ _ _ _ _ f1 (Xc.out.rd k1)).mono ?_
    rintro e wd ⟨rfl, hb⟩
    have Bd := Hid.mk' (bel_next Bc.out hb)
    have Vd := Hid.mk' (Vc.out.below hb)
    clear Vc
    have Xd := Hid.mk' (Xc.out.below hb Xc.out.lt)
    clear Xc
    clear hb
    have VR := Hid.mk' (Vd.out.below (bel_one wd (.cells #[.int .i64 (leadT x0 n1 f1).c, .int .i64 (leadT x0 n1 f1).m.x, .int .i64 (leadT x0 n1 f1).m.y, .int .i64 (leadT x0 n1 f1).m.d, .int .i64 (leadT x0 n1 f1).m.e] 33)))
    have XR := Hid.mk' (Xd.out.below (bel_one wd (.cells #[.int .i64 (leadT x0 n1 f1).c, .int .i64 (leadT x0 n1 f1).m.x, .int .i64 (leadT x0 n1 f1).m.y, .int .i64 (leadT x0 n1 f1).m.d, .int .i64 (leadT x0 n1 f1).m.e] 33)) Xd.out.lt)
    have UR := Hid.mk' (C5.box wd 33 (leadT x0 n1 f1))
    have BR := Hid.mk' (Bd.out.alloc Bd.out.size (.cells #[.int .i64 (leadT x0 n1 f1).c, .int .i64 (leadT x0 n1 f1).m.x, .int .i64 (leadT x0 n1 f1).m.y, .int .i64 (leadT x0 n1 f1).m.d, .int .i64 (leadT x0 n1 f1).m.e] 33))
    clear Vd Xd
    obtain ⟨r0, r1, r2, r3, r4⟩ := VR.out
    obtain ⟨p0, p1, p2, p3, p4⟩ := UR.out
    clear VR UR
    go_wp2_with fail
    clear r0 r1 r2 r3 r4 p0 p1 p2 p3 p4
    generalize (wd.alloc (.cells #[.int .i64 (leadT x0 n1 f1).c, .int .i64 (leadT x0 n1 f1).m.x, .int .i64 (leadT x0 n1 f1).m.y, .int .i64 (leadT x0 n1 f1).m.d, .int .i64 (leadT x0 n1 f1).m.e] 33)) = ws at XR BR ⊢
    refine (eqTerm_of HEQ.out _).mono ?_
    rintro e we ⟨rfl, hb⟩
    have Be := Hid.mk' (bel_next BR.out hb)
    have Xe := Hid.mk' (XR.out.below hb XR.out.lt)
    clear XR
    clear hb
    go_wp2_with fail
    refine (toTerms _ _ _ _ f1 (R1.out.below Be.out)).mono ?_
    rintro e wf ⟨rfl, hb, ho⟩
    have Bf := Hid.mk' (bel_next Be.out hb)
    have Xf := Hid.mk' (Xe.out.below hb Xe.out.lt)
    clear Xe
    have Zf := Hid.mk' (ho)
    clear hb
    clear ho
    go_wp2_with fail
    refine (eqTerms _ _ _ _ _ _ _ _ _ (Xf.out.rd k1) (Zf.out.rd k1)).mono ?_
    rw [termsEq_same]
    rintro e wg ⟨rfl, hb⟩
    have Bg := Hid.mk' (bel_next Bf.out hb)
    clear Xf
    clear Zf
    clear hb
    go_wp2
    go_ret
    exact ⟨rfl, Bg.out⟩
  · skip
    have s1 : (1048576 : Int) - n1 < 0 := by omega
    clear h1
    go_enter Try.func4, Try.ntmps4
    go_wp2_with fail
    refine (szTerms _ _ _ _ _ q1 (by omega) (by omega)).mono ?_
    rw [if_pos s1]
    rintro e w' ⟨rfl, hw'⟩
    obtain rfl := hw'.symm
    clear hw'
    go_wp2
    go_ret
    exact ⟨rfl, (Below.refl w.heap.size w)⟩
theorem own : ownKnob Try.prog.godebug = none := by kernel_rfl
theorem laidOut : laidOutB Try.prog = true := by kernel_rfl
set_option maxRecDepth 100000 in
theorem lifted (os : Os) (started : os.Started) (H : Type) (enc : TypeId × Value → H) :
    ReturnsInHanded {} Try.checked os 4 .any (Rows.fnExactPolLeadSpec.pre6 enc Try.prog Try.f4 Rows.fnExactPolLeadRow.domain false) (Rows.fnExactPolLeadSpec.post enc Try.prog Try.f4 false true false false) := by
  refine returnsInHanded_of_change (C := Try.checked) own started (by kernel_rfl) Try.func4
    (ChangeSpec.witness6 (enc := enc) (C := Try.checked) false ⟨#[], #[.int .i64 0, .slice none 0 0], []⟩ 8 (by kernel_rfl) (by kernel_rfl) (by kernel_rfl) (by kernel_rfl)) ?_
  intro W base args ds gs before hval0 hW hcnd _
  have hval : ∀ (j : Nat) t v, Try.f4.params[j]? = some t → args[j]? = some v → Value.okWide Try.prog W .any base t v := hval0
  have hW' := hW
  obtain ⟨p, q, hA0, hV, rfl, hfz, hnd⟩ := hW
  have hA : DataW.TrodAll enc Try.prog W 0 (fun _ => true) true Try.f4.params.toList args.toList ds p := hA0
  rw [Try.params4] at hA hval
  obtain ⟨v0, vs0, d0, ds0, p0, q0, hargs, rfl, rfl, h0, r0⟩ := trodAll_cons hA
  obtain ⟨v1, vs1, d1, ds1, p1, q1, rfl, rfl, rfl, h1, r1⟩ := trodAll_cons r0
  obtain ⟨rfl, rfl, rfl⟩ := trodAll_nil r1
  obtain rfl : args = #[v0, v1] := by cases args; simp_all
  obtain ⟨rfl, rfl⟩ := trodVars_none hV
  obtain ⟨x0, rfl, rfl, rfl, w0⟩ := open_int Try.underlying3 (hval 0 3 v0 rfl rfl) h0
  obtain ⟨a1, n1, c1, rfl⟩ := okWide_slice Try.underlying22 (hval 1 22 v1 rfl rfl)
  have k1 := h1
  have lt1 : ∀ x ∈ p1, x.block < W.heap.size := by obtain ⟨m, hm⟩ := k1; exact DataW.trod_lt m _ _ _ hm
  obtain ⟨f1, w1⟩ : ∃ f, IsTerms W a1 n1 c1 f := by
    obtain ⟨fuel, hf⟩ := h1
    exact terms_open hf
  clear hA0 hval0
  refine (walk x0 a1 n1 c1 f1 W w1).mono fun e W' ⟨he, bel⟩ => ?_
  subst he
  exact ⟨_, rfl, _, _, _, [], _, [], hW', trodAll_mk1 (shut_bool Try.underlying4 _), (trodAll_cons_mk (shut_int Try.underlying3 w0) (trodAll_cons_mk (Below.trod laidOut (by kernel_rfl) (of_decide_eq_true (by kernel_rfl)) k1 bel lt1) trodAll_mk0)), rfl, bel.frame _, fun h => by cases h⟩
theorem over : Rows.fnExactPolLeadRow.holds Try.pinned (OpenSpec.ofChange Rows.fnExactPolLeadSpec) :=
  OpenClaim.holds_of_wide 4 Try.f4 rfl rfl rfl rfl rfl rfl rfl ⟨rfl, rfl, rfl, rfl, rfl⟩ rfl rfl rfl rfl rfl (by kernel_rfl) Try.func4 (by kernel_rfl)
    (of_decide_eq_true (by kernel_rfl)) (by unfold Func.isWrapper; first | (rw [if_pos (by decide +kernel)]; kernel_rfl) | (rw [if_neg (by decide +kernel)]; exact ⟨rfl, rfl⟩))
    (fun os started H enc _ => lifted os started H enc)
end Go.Proofs.Ytjedkkgmehflnat.fnExactPolLead
namespace Go.Proofs.Ytjedkkgmehflnat
theorem fnExactPolLead_holds : Rows.FnExactPolLeadSaid := fnExactPolLead.over
#print axioms fnExactPolLead_holds
end Go.Proofs.Ytjedkkgmehflnat
