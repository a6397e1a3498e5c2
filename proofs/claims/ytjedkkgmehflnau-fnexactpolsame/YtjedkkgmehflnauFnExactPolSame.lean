/-
  FnExactPolSame: at every argument the program answers as its model; it writes into no argument, and its answer owns its memory.
-/
import Derived.Test.YtjedkkgmehflnauPolI2
import Derived.ProofKit
import Derived.OpenShut
import Derived.Deep.RegionHeld3
import Derived.Deep.Light
namespace Go.Proofs.Ytjedkkgmehflnau.fnExactPolSame
open Go.ChangeShapes Go.WideShapes Go.ChangeAt Go.RowKit Go.Deep Go.Joins
set_option linter.unusedVariables false

set_option maxRecDepth 100000 in
set_option maxHeartbeats 8000000 in
theorem walk (a0 : Option Addr) (n0 c0 : Nat) (f0 : Nat → T) (a1 : Option Addr) (n1 c1 : Nat) (f1 : Nat → T) (w : World) (h0 : IsTerms w a0 n0 c0 f0) (h1 : IsTerms w a1 n1 c1 f1) : Calls Try.prog 5 #[.slice a0 n0 c0, .slice a1 n1 c1] w fun e w' => e = .returned (.bool true) ∧ Below w.heap.size w w' := by
  have q0 : (n0 : Int) ≤ 9223372036854775807 := by have := h0.1; have := h0.2.1; unfold maxLen at this; omega
  have q1 : (n1 : Int) ≤ 9223372036854775807 := by have := h1.1; have := h1.2.1; unfold maxLen at this; omega
  by_cases b0 : (n0 : Int) ≤ 1048576
  · skip
    by_cases b1 : (n0 : Int) + (n1 : Int) ≤ 1048576
    · skip
      have B0 := Hid.mk' (Below.refl w.heap.size w)
      have R0 := Hid.mk' (h0.rd (by omega))
      have k0 : n0 * 40 ≤ 140737488351232 := by omega
      have R1 := Hid.mk' (h1.rd (by omega))
      have k1 : n1 * 40 ≤ 140737488351232 := by omega
      have s0 : (0 : Int) ≤ (1048576 : Int) - n0 := by omega
      have s1 : (0 : Int) ≤ (1048576 : Int) - n0 - n1 := by omega
      clear h0 h1
      have hne : (termsEq n0 f0 n1 f1 != termsEq n0 f0 n1 f1) = false := by simp
      go_enter Try.func5, Try.ntmps5
      go_wp2_with fail
      refine (szTerms _ _ _ _ _ q0 (by omega) (by omega)).mono ?_
      rw [if_neg (Int.not_lt.2 s0)]
      rintro e w' ⟨rfl, hw'⟩
      obtain rfl := hw'.symm
      clear hw'
      go_wp2_with fail
      refine (szTerms _ _ _ _ _ q1 (by omega) (by omega)).mono ?_
      rw [if_neg (Int.not_lt.2 s1)]
      rintro e w' ⟨rfl, hw'⟩
      obtain rfl := hw'.symm
      clear hw'
      go_wp2_with fail
      refine (toTerms _ _ _ _ f0 (R0.out.below B0.out)).mono ?_
      rintro e wa ⟨rfl, hb, ho⟩
      have Ba := Hid.mk' (bel_next B0.out hb)
      have Oa := Hid.mk' (ho)
      clear hb
      clear ho
      go_wp2_with fail
      refine (toTerms _ _ _ _ f1 (R1.out.below Ba.out)).mono ?_
      rintro e wb ⟨rfl, hb, ho⟩
      have Bb := Hid.mk' (bel_next Ba.out hb)
      have Ob := Hid.mk' (Oa.out.below hb Oa.out.lt)
      clear Oa
      have Qb := Hid.mk' (ho)
      clear hb
      clear ho
      go_wp2_with fail
      refine (polSameS _ _ _ _ _ _ _ f0 f1 (Ob.out.rd k0) (Qb.out.rd k1)).mono ?_
      rintro e wc ⟨rfl, hb⟩
      have Bc := Hid.mk' (bel_next Bb.out hb)
      clear Ob
      clear Qb
      clear hb
      go_wp2_with fail
      refine (toTerms _ _ _ _ f0 (R0.out.below Bc.out)).mono ?_
      rintro e wd ⟨rfl, hb, ho⟩
      have Bd := Hid.mk' (bel_next Bc.out hb)
      have Xd := Hid.mk' (ho)
      clear hb
      clear ho
      go_wp2_with fail
      refine (toTerms _ _ _ _ f1 (R1.out.below Bd.out)).mono ?_
      rintro e we ⟨rfl, hb, ho⟩
      have Be := Hid.mk' (bel_next Bd.out hb)
      have Xe := Hid.mk' (Xd.out.below hb Xd.out.lt)
      clear Xd
      have Ye := Hid.mk' (ho)
      clear hb
      clear ho
      go_wp2_with fail
      refine (polSameI _ _ _ _ _ _ _ f0 f1 (Xe.out.rd k0) (Ye.out.rd k1)).mono ?_
      rintro e wf ⟨rfl, hb⟩
      have Bf := Hid.mk' (bel_next Be.out hb)
      have Xf := Hid.mk' (Xe.out.below hb Xe.out.lt)
      clear Xe
      have Yf := Hid.mk' (Ye.out.below hb Ye.out.lt)
      clear Ye
      clear hb
      go_wp2_with fail
      refine (toTerms _ _ _ _ f0 (R0.out.below Bf.out)).mono ?_
      rintro e wg ⟨rfl, hb, ho⟩
      have Bg := Hid.mk' (bel_next Bf.out hb)
      have Xg := Hid.mk' (Xf.out.below hb Xf.out.lt)
      clear Xf
      have Yg := Hid.mk' (Yf.out.below hb Yf.out.lt)
      clear Yf
      have Zg := Hid.mk' (ho)
      clear hb
      clear ho
      go_wp2_with fail
      refine (eqTerms _ _ _ _ _ _ _ _ _ (Xg.out.rd k0) (Zg.out.rd k0)).mono ?_
      rw [termsEq_same]
      rintro e wh ⟨rfl, hb⟩
      have Bh := Hid.mk' (bel_next Bg.out hb)
      clear Xg
      have Yh := Hid.mk' (Yg.out.below hb Yg.out.lt)
      clear Yg
      clear Zg
      clear hb
      go_wp2_with fail
      refine (toTerms _ _ _ _ f1 (R1.out.below Bh.out)).mono ?_
      rintro e wi ⟨rfl, hb, ho⟩
      have Bi := Hid.mk' (bel_next Bh.out hb)
      have Yi := Hid.mk' (Yh.out.below hb Yh.out.lt)
      clear Yh
      have Zi := Hid.mk' (ho)
      clear hb
      clear ho
      go_wp2_with fail
      refine (eqTerms _ _ _ _ _ _ _ _ _ (Yi.out.rd k1) (Zi.out.rd k1)).mono ?_
      rw [termsEq_same]
      rintro e wj ⟨rfl, hb⟩
      have Bj := Hid.mk' (bel_next Bi.out hb)
      clear Yi
      clear Zi
      clear hb
      go_wp2
      go_ret
      exact ⟨rfl, Bj.out⟩
    · skip
      have s0 : (0 : Int) ≤ (1048576 : Int) - n0 := by omega
      have s1 : (1048576 : Int) - n0 - n1 < 0 := by omega
      clear h0 h1
      go_enter Try.func5, Try.ntmps5
      go_wp2_with fail
      refine (szTerms _ _ _ _ _ q0 (by omega) (by omega)).mono ?_
      rw [if_neg (Int.not_lt.2 s0)]
      rintro e w' ⟨rfl, hw'⟩
      obtain rfl := hw'.symm
      clear hw'
      go_wp2_with fail
      refine (szTerms _ _ _ _ _ q1 (by omega) (by omega)).mono ?_
      rw [if_pos s1]
      rintro e w' ⟨rfl, hw'⟩
      obtain rfl := hw'.symm
      clear hw'
      go_wp2
      go_ret
      exact ⟨rfl, (Below.refl w.heap.size w)⟩
  · skip
    have s0 : (1048576 : Int) - n0 < 0 := by omega
    clear h0 h1
    go_enter Try.func5, Try.ntmps5
    go_wp2_with fail
    refine (szTerms _ _ _ _ _ q0 (by omega) (by omega)).mono ?_
    rw [if_pos s0]
    rintro e w' ⟨rfl, hw'⟩
    obtain rfl := hw'.symm
    clear hw'
    go_wp2
    go_ret
    exact ⟨rfl, (Below.refl w.heap.size w)⟩
theorem own : ownKnob Try.prog.godebug = none := by kernel_rfl
theorem laidOut : laidOutB Try.prog = true := by kernel_rfl
set_option maxRecDepth 100000 in
theorem lifted (os : Os) (started : os.Started) (H : Type) (enc : TypeId × Value → H) :
    ReturnsInHanded {} Try.checked os 5 .any (Rows.fnExactPolSameSpec.pre6 enc Try.prog Try.f5 Rows.fnExactPolSameRow.domain false) (Rows.fnExactPolSameSpec.post enc Try.prog Try.f5 false true false false) := by
  refine returnsInHanded_of_change (C := Try.checked) own started (by kernel_rfl) Try.func5
    (ChangeSpec.witness6 (enc := enc) (C := Try.checked) false ⟨#[], #[.slice none 0 0, .slice none 0 0], []⟩ 8 (by kernel_rfl) (by kernel_rfl) (by kernel_rfl) (by kernel_rfl)) ?_
  intro W base args ds gs before hval0 hW hcnd _
  have hval : ∀ (j : Nat) t v, Try.f5.params[j]? = some t → args[j]? = some v → Value.okWide Try.prog W .any base t v := hval0
  have hW' := hW
  obtain ⟨p, q, hA0, hV, rfl, hfz, hnd⟩ := hW
  have hA : DataW.TrodAll enc Try.prog W 0 (fun _ => true) true Try.f5.params.toList args.toList ds p := hA0
  rw [Try.params5] at hA hval
  obtain ⟨v0, vs0, d0, ds0, p0, q0, hargs, rfl, rfl, h0, r0⟩ := trodAll_cons hA
  obtain ⟨v1, vs1, d1, ds1, p1, q1, rfl, rfl, rfl, h1, r1⟩ := trodAll_cons r0
  obtain ⟨rfl, rfl, rfl⟩ := trodAll_nil r1
  obtain rfl : args = #[v0, v1] := by cases args; simp_all
  obtain ⟨rfl, rfl⟩ := trodVars_none hV
  obtain ⟨a0, n0, c0, rfl⟩ := okWide_slice Try.underlying22 (hval 0 22 v0 rfl rfl)
  have k0 := h0
  have lt0 : ∀ x ∈ p0, x.block < W.heap.size := by obtain ⟨m, hm⟩ := k0; exact DataW.trod_lt m _ _ _ hm
  obtain ⟨f0, w0⟩ : ∃ f, IsTerms W a0 n0 c0 f := by
    obtain ⟨fuel, hf⟩ := h0
    exact terms_open hf
  obtain ⟨a1, n1, c1, rfl⟩ := okWide_slice Try.underlying22 (hval 1 22 v1 rfl rfl)
  have k1 := h1
  have lt1 : ∀ x ∈ p1, x.block < W.heap.size := by obtain ⟨m, hm⟩ := k1; exact DataW.trod_lt m _ _ _ hm
  obtain ⟨f1, w1⟩ : ∃ f, IsTerms W a1 n1 c1 f := by
    obtain ⟨fuel, hf⟩ := h1
    exact terms_open hf
  clear hA0 hval0
  refine (walk a0 n0 c0 f0 a1 n1 c1 f1 W w0 w1).mono fun e W' ⟨he, bel⟩ => ?_
  subst he
  exact ⟨_, rfl, _, _, _, [], _, [], hW', trodAll_mk1 (shut_bool Try.underlying4 _), (trodAll_cons_mk (Below.trod laidOut (by kernel_rfl) (of_decide_eq_true (by kernel_rfl)) k0 bel lt0) (trodAll_cons_mk (Below.trod laidOut (by kernel_rfl) (of_decide_eq_true (by kernel_rfl)) k1 bel lt1) trodAll_mk0)), rfl, bel.frame _, fun h => by cases h⟩
theorem over : Rows.fnExactPolSameRow.holds Try.pinned (OpenSpec.ofChange Rows.fnExactPolSameSpec) :=
  OpenClaim.holds_of_wide 5 Try.f5 rfl rfl rfl rfl rfl rfl rfl ⟨rfl, rfl, rfl, rfl, rfl⟩ rfl rfl rfl rfl rfl (by kernel_rfl) Try.func5 (by kernel_rfl)
    (of_decide_eq_true (by kernel_rfl)) (by unfold Func.isWrapper; first | (rw [if_pos (by decide +kernel)]; kernel_rfl) | (rw [if_neg (by decide +kernel)]; exact ⟨rfl, rfl⟩))
    (fun os started H enc _ => lifted os started H enc)
end Go.Proofs.Ytjedkkgmehflnau.fnExactPolSame
namespace Go.Proofs.Ytjedkkgmehflnau
theorem fnExactPolSame_holds : Rows.FnExactPolSameSaid := fnExactPolSame.over
#print axioms fnExactPolSame_holds
end Go.Proofs.Ytjedkkgmehflnau
