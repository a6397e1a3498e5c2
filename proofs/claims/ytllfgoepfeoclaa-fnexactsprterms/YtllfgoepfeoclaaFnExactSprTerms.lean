/-
  FnExactSprTerms: at every argument the program answers as its model; it writes into no argument, and its answer owns its memory.
-/
import Derived.Test.YtllfgoepfeoclaaSprS
import Derived.ProofKit
import Derived.OpenShut
import Derived.Deep.RegionHeld3
import Derived.Deep.Light
namespace Go.Proofs.Ytllfgoepfeoclaa.fnExactSprTerms
open Go.ChangeShapes Go.WideShapes Go.ChangeAt Go.RowKit Go.Deep Go.Joins
set_option linter.unusedVariables false

set_option maxRecDepth 100000 in
set_option maxHeartbeats 8000000 in
theorem walk (x0 : Int) (a1 : Option Addr) (n1 c1 : Nat) (f1 : Nat → T) (a2 : Option Addr) (n2 c2 : Nat) (f2 : Nat → T) (w : World) (h1 : IsTerms w a1 n1 c1 f1) (h2 : IsTerms w a2 n2 c2 f2) : Calls Try.prog 3 #[.int .i64 x0, .slice a1 n1 c1, .slice a2 n2 c2] w fun e w' => e = .returned (.bool true) ∧ Below w.heap.size w w' := by
  have q1 : (n1 : Int) ≤ 9223372036854775807 := by have := h1.1; have := h1.2.1; unfold maxLen at this; omega
  have q2 : (n2 : Int) ≤ 9223372036854775807 := by have := h2.1; have := h2.2.1; unfold maxLen at this; omega
  by_cases b1 : (n1 : Int) ≤ 1048576
  · skip
    by_cases b2 : (n1 : Int) + (n2 : Int) ≤ 1048576
    · skip
      have B0 := Hid.mk' (Below.refl w.heap.size w)
      have R1 := Hid.mk' (h1.rd (by omega))
      have k1 : n1 * 40 ≤ 140737488351232 := by omega
      have R2 := Hid.mk' (h2.rd (by omega))
      have k2 : n2 * 40 ≤ 140737488351232 := by omega
      have s1 : (0 : Int) ≤ (1048576 : Int) - n1 := by omega
      have s2 : (0 : Int) ≤ (1048576 : Int) - n1 - n2 := by omega
      clear h1 h2
      go_enter Try.func3, Try.ntmps3
      go_wp2_with fail
      refine (szTerms _ _ _ _ _ q1 (by omega) (by omega)).mono ?_
      rw [if_neg (Int.not_lt.2 s1)]
      rintro e w' ⟨rfl, hw'⟩
      obtain rfl := hw'.symm
      clear hw'
      go_wp2_with fail
      refine (szTerms _ _ _ _ _ q2 (by omega) (by omega)).mono ?_
      rw [if_neg (Int.not_lt.2 s2)]
      rintro e w' ⟨rfl, hw'⟩
      obtain rfl := hw'.symm
      clear hw'
      obtain ⟨U, V, ok, hU, hV, hok⟩ : ∃ U V ok, sprU x0 n1 f1 n2 f2 = U ∧ sprV x0 n1 f1 n2 f2 = V ∧ sprOk x0 n1 f1 n2 f2 = ok := ⟨_, _, _, rfl, rfl, rfl⟩
      have HU := Hid.mk' hU
      have HV := Hid.mk' hV
      have HK := Hid.mk' hok
      clear hU hV hok
      have hne : (ok != ok) = false := by simp
      have HEU := Hid.mk' (T.eqB_iff.2 (rfl : U = U))
      have HEV := Hid.mk' (T.eqB_iff.2 (rfl : V = V))
      go_wp2_with fail
      refine (toTerms _ _ _ _ f1 (R1.out.below B0.out)).mono ?_
      rintro e wa ⟨rfl, hb, ho⟩
      have Ba := Hid.mk' (bel_next B0.out hb)
      have Oa := Hid.mk' (ho)
      clear hb
      clear ho
      go_wp2_with fail
      refine (toTerms _ _ _ _ f2 (R2.out.below Ba.out)).mono ?_
      rintro e wb ⟨rfl, hb, ho⟩
      have Bb := Hid.mk' (bel_next Ba.out hb)
      have Ob := Hid.mk' (Oa.out.below hb Oa.out.lt)
      clear Oa
      have Qb := Hid.mk' (ho)
      clear hb
      clear ho
      go_wp2_with fail
      refine (sprTermsS _ _ _ _ _ f1 _ _ _ f2 (Ob.out.rd k1) (Qb.out.rd k2)).mono ?_
      rw [HU.out, HV.out, HK.out]
      rintro e wc ⟨rfl, hb⟩
      have Bc := Hid.mk' (bel_next Bb.out hb)
      clear Ob
      clear Qb
      clear hb
      have Z1 := Hid.mk' (C5.box wc 27 U)
      have VU := Hid.mk' (Z1.out.below (bel_one (wc.alloc (.cells #[.int .i64 U.c, .int .i64 U.m.x, .int .i64 U.m.y, .int .i64 U.m.d, .int .i64 U.m.e] 27)) (.cells #[.int .i64 V.c, .int .i64 V.m.x, .int .i64 V.m.y, .int .i64 V.m.d, .int .i64 V.m.e] 27)))
      have VV := Hid.mk' (C5.box (wc.alloc (.cells #[.int .i64 U.c, .int .i64 U.m.x, .int .i64 U.m.y, .int .i64 U.m.d, .int .i64 U.m.e] 27)) 27 V)
      have BQ0 := Hid.mk' (Bc.out.alloc Bc.out.size (.cells #[.int .i64 U.c, .int .i64 U.m.x, .int .i64 U.m.y, .int .i64 U.m.d, .int .i64 U.m.e] 27))
      have BQ := Hid.mk' (BQ0.out.alloc BQ0.out.size (.cells #[.int .i64 V.c, .int .i64 V.m.x, .int .i64 V.m.y, .int .i64 V.m.d, .int .i64 V.m.e] 27))
      clear Z1 BQ0
      go_wp2_with fail
      rw [World.size_alloc] at VV
      generalize ((wc.alloc (.cells #[.int .i64 U.c, .int .i64 U.m.x, .int .i64 U.m.y, .int .i64 U.m.d, .int .i64 U.m.e] 27)).alloc (.cells #[.int .i64 V.c, .int .i64 V.m.x, .int .i64 V.m.y, .int .i64 V.m.d, .int .i64 V.m.e] 27)) = wq at VU VV BQ ⊢
      refine (toTerms _ _ _ _ f1 (R1.out.below BQ.out)).mono ?_
      rintro e wd ⟨rfl, hb, ho⟩
      have Bd := Hid.mk' (bel_next BQ.out hb)
      have Ed := Hid.mk' (VU.out.below hb)
      clear VU
      have Fd := Hid.mk' (VV.out.below hb)
      clear VV
      have Xd := Hid.mk' (ho)
      clear hb
      clear ho
      go_wp2_with fail
      refine (toTerms _ _ _ _ f2 (R2.out.below Bd.out)).mono ?_
      rintro e we ⟨rfl, hb, ho⟩
      have Be := Hid.mk' (bel_next Bd.out hb)
      have Ee := Hid.mk' (Ed.out.below hb)
      clear Ed
      have Fe := Hid.mk' (Fd.out.below hb)
      clear Fd
      have Xe := Hid.mk' (Xd.out.below hb Xd.out.lt)
      clear Xd
      have Ye := Hid.mk' (ho)
      clear hb
      clear ho
      go_wp2_with fail
      refine (sprTermsI _ _ _ _ _ f1 _ _ _ f2 (Xe.out.rd k1) (Ye.out.rd k2)).mono ?_
      rw [HU.out, HV.out, HK.out]
      rintro e wf ⟨rfl, hb⟩
      have Bf := Hid.mk' (bel_next Be.out hb)
      have Ef := Hid.mk' (Ee.out.below hb)
      clear Ee
      have Ff := Hid.mk' (Fe.out.below hb)
      clear Fe
      have Xf := Hid.mk' (Xe.out.below hb Xe.out.lt)
      clear Xe
      have Yf := Hid.mk' (Ye.out.below hb Ye.out.lt)
      clear Ye
      clear hb
      have ER := Hid.mk' ((Ef.out.below (bel_one wf (.cells #[.int .i64 U.c, .int .i64 U.m.x, .int .i64 U.m.y, .int .i64 U.m.d, .int .i64 U.m.e] 27))).below (bel_one (wf.alloc (.cells #[.int .i64 U.c, .int .i64 U.m.x, .int .i64 U.m.y, .int .i64 U.m.d, .int .i64 U.m.e] 27)) (.cells #[.int .i64 V.c, .int .i64 V.m.x, .int .i64 V.m.y, .int .i64 V.m.d, .int .i64 V.m.e] 27)))
      have FR := Hid.mk' ((Ff.out.below (bel_one wf (.cells #[.int .i64 U.c, .int .i64 U.m.x, .int .i64 U.m.y, .int .i64 U.m.d, .int .i64 U.m.e] 27))).below (bel_one (wf.alloc (.cells #[.int .i64 U.c, .int .i64 U.m.x, .int .i64 U.m.y, .int .i64 U.m.d, .int .i64 U.m.e] 27)) (.cells #[.int .i64 V.c, .int .i64 V.m.x, .int .i64 V.m.y, .int .i64 V.m.d, .int .i64 V.m.e] 27)))
      have XQ := Hid.mk' (Xf.out.below (bel_one wf (.cells #[.int .i64 U.c, .int .i64 U.m.x, .int .i64 U.m.y, .int .i64 U.m.d, .int .i64 U.m.e] 27)) Xf.out.lt)
      have XR := Hid.mk' (XQ.out.below (bel_one (wf.alloc (.cells #[.int .i64 U.c, .int .i64 U.m.x, .int .i64 U.m.y, .int .i64 U.m.d, .int .i64 U.m.e] 27)) (.cells #[.int .i64 V.c, .int .i64 V.m.x, .int .i64 V.m.y, .int .i64 V.m.d, .int .i64 V.m.e] 27)) XQ.out.lt)
      have YQ := Hid.mk' (Yf.out.below (bel_one wf (.cells #[.int .i64 U.c, .int .i64 U.m.x, .int .i64 U.m.y, .int .i64 U.m.d, .int .i64 U.m.e] 27)) Yf.out.lt)
      have YR := Hid.mk' (YQ.out.below (bel_one (wf.alloc (.cells #[.int .i64 U.c, .int .i64 U.m.x, .int .i64 U.m.y, .int .i64 U.m.d, .int .i64 U.m.e] 27)) (.cells #[.int .i64 V.c, .int .i64 V.m.x, .int .i64 V.m.y, .int .i64 V.m.d, .int .i64 V.m.e] 27)) YQ.out.lt)
      have GU := Hid.mk' ((C5.box wf 27 U).below (bel_one (wf.alloc (.cells #[.int .i64 U.c, .int .i64 U.m.x, .int .i64 U.m.y, .int .i64 U.m.d, .int .i64 U.m.e] 27)) (.cells #[.int .i64 V.c, .int .i64 V.m.x, .int .i64 V.m.y, .int .i64 V.m.d, .int .i64 V.m.e] 27)))
      have GV := Hid.mk' (C5.box (wf.alloc (.cells #[.int .i64 U.c, .int .i64 U.m.x, .int .i64 U.m.y, .int .i64 U.m.d, .int .i64 U.m.e] 27)) 27 V)
      have BR0 := Hid.mk' (Bf.out.alloc Bf.out.size (.cells #[.int .i64 U.c, .int .i64 U.m.x, .int .i64 U.m.y, .int .i64 U.m.d, .int .i64 U.m.e] 27))
      have BR := Hid.mk' (BR0.out.alloc BR0.out.size (.cells #[.int .i64 V.c, .int .i64 V.m.x, .int .i64 V.m.y, .int .i64 V.m.d, .int .i64 V.m.e] 27))
      clear Ef Ff Xf Yf XQ YQ BR0
      rw [World.size_alloc] at GV
      obtain ⟨r0, r1, r2, r3, r4⟩ := ER.out
      obtain ⟨p0, p1, p2, p3, p4⟩ := GU.out
      go_wp2_with fail
      clear r0 r1 r2 r3 r4 p0 p1 p2 p3 p4
      generalize ((wf.alloc (.cells #[.int .i64 U.c, .int .i64 U.m.x, .int .i64 U.m.y, .int .i64 U.m.d, .int .i64 U.m.e] 27)).alloc (.cells #[.int .i64 V.c, .int .i64 V.m.x, .int .i64 V.m.y, .int .i64 V.m.d, .int .i64 V.m.e] 27)) = ws at XR YR BR ER FR GU GV ⊢
      clear ER GU
      refine (eqTerm_of HEU.out _).mono ?_
      rintro e wg ⟨rfl, hb⟩
      have Bg := Hid.mk' (bel_next BR.out hb)
      have Xg := Hid.mk' (XR.out.below hb XR.out.lt)
      clear XR
      have Yg := Hid.mk' (YR.out.below hb YR.out.lt)
      clear YR
      have Eg := Hid.mk' (FR.out.below hb)
      clear FR
      have Gg := Hid.mk' (GV.out.below hb)
      clear GV
      clear hb
      obtain ⟨r0, r1, r2, r3, r4⟩ := Eg.out
      obtain ⟨p0, p1, p2, p3, p4⟩ := Gg.out
      go_wp2_with fail
      clear r0 r1 r2 r3 r4 p0 p1 p2 p3 p4
      refine (eqTerm_of HEV.out _).mono ?_
      rintro e wh ⟨rfl, hb⟩
      have Bh := Hid.mk' (bel_next Bg.out hb)
      have Xh := Hid.mk' (Xg.out.below hb Xg.out.lt)
      clear Xg
      have Yh := Hid.mk' (Yg.out.below hb Yg.out.lt)
      clear Yg
      clear Eg
      clear Gg
      clear hb
      go_wp2_with fail
      refine (toTerms _ _ _ _ f1 (R1.out.below Bh.out)).mono ?_
      rintro e wi ⟨rfl, hb, ho⟩
      have Bi := Hid.mk' (bel_next Bh.out hb)
      have Xi := Hid.mk' (Xh.out.below hb Xh.out.lt)
      clear Xh
      have Yi := Hid.mk' (Yh.out.below hb Yh.out.lt)
      clear Yh
      have Zi := Hid.mk' (ho)
      clear hb
      clear ho
      go_wp2_with fail
      refine (eqTerms _ _ _ _ _ _ _ _ _ (Xi.out.rd k1) (Zi.out.rd k1)).mono ?_
      rw [termsEq_same]
      rintro e wj ⟨rfl, hb⟩
      have Bj := Hid.mk' (bel_next Bi.out hb)
      clear Xi
      have Yj := Hid.mk' (Yi.out.below hb Yi.out.lt)
      clear Yi
      clear Zi
      clear hb
      go_wp2_with fail
      refine (toTerms _ _ _ _ f2 (R2.out.below Bj.out)).mono ?_
      rintro e wk ⟨rfl, hb, ho⟩
      have Bk := Hid.mk' (bel_next Bj.out hb)
      have Yk := Hid.mk' (Yj.out.below hb Yj.out.lt)
      clear Yj
      have Zk := Hid.mk' (ho)
      clear hb
      clear ho
      go_wp2_with fail
      refine (eqTerms _ _ _ _ _ _ _ _ _ (Yk.out.rd k2) (Zk.out.rd k2)).mono ?_
      rw [termsEq_same]
      rintro e wl ⟨rfl, hb⟩
      have Bl := Hid.mk' (bel_next Bk.out hb)
      clear Yk
      clear Zk
      clear hb
      go_wp2
      go_ret
      exact ⟨rfl, Bl.out⟩
    · skip
      have s1 : (0 : Int) ≤ (1048576 : Int) - n1 := by omega
      have s2 : (1048576 : Int) - n1 - n2 < 0 := by omega
      clear h1 h2
      go_enter Try.func3, Try.ntmps3
      go_wp2_with fail
      refine (szTerms _ _ _ _ _ q1 (by omega) (by omega)).mono ?_
      rw [if_neg (Int.not_lt.2 s1)]
      rintro e w' ⟨rfl, hw'⟩
      obtain rfl := hw'.symm
      clear hw'
      go_wp2_with fail
      refine (szTerms _ _ _ _ _ q2 (by omega) (by omega)).mono ?_
      rw [if_pos s2]
      rintro e w' ⟨rfl, hw'⟩
      obtain rfl := hw'.symm
      clear hw'
      go_wp2
      go_ret
      exact ⟨rfl, (Below.refl w.heap.size w)⟩
  · skip
    have s1 : (1048576 : Int) - n1 < 0 := by omega
    clear h1 h2
    go_enter Try.func3, Try.ntmps3
    go_wp2_with fail
    refine (szTerms _ _ _ _ _ q1 (by omega) (by omega)).mono ?_
    rw [if_pos s1]
    rintro e w' ⟨rfl, hw'⟩
    obtain rfl := hw'.symm
    clear hw'
    go_wp2
    go_ret
    exact ⟨rfl, (Below.refl w.heap.size w)⟩
theorem own : ownKnob Try.prog.godebug = none := by kernel_rfl
theorem laidOut : laidOutB Try.prog = true := by kernel_rfl
set_option maxRecDepth 100000 in
theorem lifted (os : Os) (started : os.Started) (H : Type) (enc : TypeId × Value → H) :
    ReturnsInHanded {} Try.checked os 3 .any (Rows.fnExactSprTermsSpec.pre6 enc Try.prog Try.f3 Rows.fnExactSprTermsRow.domain false) (Rows.fnExactSprTermsSpec.post enc Try.prog Try.f3 false true false false) := by
  refine returnsInHanded_of_change (C := Try.checked) own started (by kernel_rfl) Try.func3
    (ChangeSpec.witness6 (enc := enc) (C := Try.checked) false ⟨#[], #[.int .i64 0, .slice none 0 0, .slice none 0 0], []⟩ 8 (by kernel_rfl) (by kernel_rfl) (by kernel_rfl) (by kernel_rfl)) ?_
  intro W base args ds gs before hval0 hW hcnd _
  have hval : ∀ (j : Nat) t v, Try.f3.params[j]? = some t → args[j]? = some v → Value.okWide Try.prog W .any base t v := hval0
  have hW' := hW
  obtain ⟨p, q, hA0, hV, rfl, hfz, hnd⟩ := hW
  have hA : DataW.TrodAll enc Try.prog W 0 (fun _ => true) true Try.f3.params.toList args.toList ds p := hA0
  rw [Try.params3] at hA hval
  obtain ⟨v0, vs0, d0, ds0, p0, q0, hargs, rfl, rfl, h0, r0⟩ := trodAll_cons hA
  obtain ⟨v1, vs1, d1, ds1, p1, q1, rfl, rfl, rfl, h1, r1⟩ := trodAll_cons r0
  obtain ⟨v2, vs2, d2, ds2, p2, q2, rfl, rfl, rfl, h2, r2⟩ := trodAll_cons r1
  obtain ⟨rfl, rfl, rfl⟩ := trodAll_nil r2
  obtain rfl : args = #[v0, v1, v2] := by cases args; simp_all
  obtain ⟨rfl, rfl⟩ := trodVars_none hV
  obtain ⟨x0, rfl, rfl, rfl, w0⟩ := open_int Try.underlying3 (hval 0 3 v0 rfl rfl) h0
  obtain ⟨a1, n1, c1, rfl⟩ := okWide_slice Try.underlying22 (hval 1 22 v1 rfl rfl)
  have k1 := h1
  have lt1 : ∀ x ∈ p1, x.block < W.heap.size := by obtain ⟨m, hm⟩ := k1; exact DataW.trod_lt m _ _ _ hm
  obtain ⟨f1, w1⟩ : ∃ f, IsTerms W a1 n1 c1 f := by
    obtain ⟨fuel, hf⟩ := h1
    exact terms_open hf
  obtain ⟨a2, n2, c2, rfl⟩ := okWide_slice Try.underlying22 (hval 2 22 v2 rfl rfl)
  have k2 := h2
  have lt2 : ∀ x ∈ p2, x.block < W.heap.size := by obtain ⟨m, hm⟩ := k2; exact DataW.trod_lt m _ _ _ hm
  obtain ⟨f2, w2⟩ : ∃ f, IsTerms W a2 n2 c2 f := by
    obtain ⟨fuel, hf⟩ := h2
    exact terms_open hf
  clear hA0 hval0
  refine (walk x0 a1 n1 c1 f1 a2 n2 c2 f2 W w1 w2).mono fun e W' ⟨he, bel⟩ => ?_
  subst he
  exact ⟨_, rfl, _, _, _, [], _, [], hW', trodAll_mk1 (shut_bool Try.underlying4 _), (trodAll_cons_mk (shut_int Try.underlying3 w0) (trodAll_cons_mk (Below.trod laidOut (by kernel_rfl) (of_decide_eq_true (by kernel_rfl)) k1 bel lt1) (trodAll_cons_mk (Below.trod laidOut (by kernel_rfl) (of_decide_eq_true (by kernel_rfl)) k2 bel lt2) trodAll_mk0))), rfl, bel.frame _, fun h => by cases h⟩
theorem over : Rows.fnExactSprTermsRow.holds Try.pinned (OpenSpec.ofChange Rows.fnExactSprTermsSpec) :=
  OpenClaim.holds_of_wide 3 Try.f3 rfl rfl rfl rfl rfl rfl rfl ⟨rfl, rfl, rfl, rfl, rfl⟩ rfl rfl rfl rfl rfl (by kernel_rfl) Try.func3 (by kernel_rfl)
    (of_decide_eq_true (by kernel_rfl)) (by unfold Func.isWrapper; first | (rw [if_pos (by decide +kernel)]; kernel_rfl) | (rw [if_neg (by decide +kernel)]; exact ⟨rfl, rfl⟩))
    (fun os started H enc _ => lifted os started H enc)
end Go.Proofs.Ytllfgoepfeoclaa.fnExactSprTerms
namespace Go.Proofs.Ytllfgoepfeoclaa
theorem fnExactSprTerms_holds : Rows.FnExactSprTermsSaid := fnExactSprTerms.over
#print axioms fnExactSprTerms_holds
end Go.Proofs.Ytllfgoepfeoclaa
