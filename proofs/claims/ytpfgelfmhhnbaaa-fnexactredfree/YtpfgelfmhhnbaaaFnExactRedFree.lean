/-
  FnExactRedFree: at every argument the program answers as its model; it writes into no argument.
-/
import Derived.Test.YtpfgelfmhhnbaaaFreeI
import Derived.Test.YtpfgelfmhhnbaaaLOpen
import Derived.ProofKit
import Derived.OpenShut
import Derived.Deep.RegionHeld3
import Derived.Deep.Light
namespace Go.Proofs.Ytpfgelfmhhnbaaa.fnExactRedFree
open Go.ChangeShapes Go.WideShapes Go.ChangeAt Go.RowKit Go.Deep Go.Joins
set_option linter.unusedVariables false

set_option maxRecDepth 100000 in
set_option maxHeartbeats 8000000 in
theorem walk (x0 : Int) (a1 : Option Addr) (n1 c1 : Nat) (f1 : Nat → T) (a2 : Option Addr) (n2 c2 : Nat) (ad2 : Nat → Option Addr) (ln2 cp2 : Nat → Nat) (f2 : Nat → Nat → T) (w : World) (h1 : IsTerms w a1 n1 c1 f1) (h2 : IsLists w a2 n2 c2 ad2 ln2 cp2 f2) : Calls Try.prog 4 #[.int .i64 x0, .slice a1 n1 c1, .slice a2 n2 c2] w fun e w' => e = .returned (.bool true) ∧ Below w.heap.size w w' := by
  have q1 : (n1 : Int) ≤ 9223372036854775807 := by have := h1.1; have := h1.2.1; unfold maxLen at this; omega
  have q0 : (n2 : Int) ≤ 9223372036854775807 := by have := h2.1; have := h2.2.1; unfold maxLen at this; omega
  have q2 : ∀ i, i < n2 → (ln2 i : Int) ≤ 9223372036854775807 := fun i hi => by have h := h2.2.2.2 i hi; have := h.1; have := h.2.1; unfold maxLen at this; omega
  have H2 := Hid.mk' h2
  have H1 := Hid.mk' h1
  have Q2 := Hid.mk' q2
  clear h1 h2 q2
  by_cases b1 : (n1 : Int) ≤ 1048576
  · have s1 : (0 : Int) ≤ (1048576 : Int) - n1 := by omega
    have k1 : n1 * 40 ≤ 140737488351232 := by omega
    have R1 := Hid.mk' (H1.out.rd k1)
    obtain ⟨l1, hl1⟩ : ∃ l1 : Int, (1048576 : Int) - n1 = l1 := ⟨_, rfl⟩
    have s2 : 0 ≤ l1 := by omega
    have s3 : l1 ≤ 1048576 := by omega
    go_enter Try.func4, Try.ntmps4
    go_wp2_with fail
    refine (szTerms _ _ _ _ _ q1 (by omega) (by omega)).mono ?_
    rw [if_neg (Int.not_lt.2 s1), hl1]
    rintro e w' ⟨rfl, hw'⟩
    obtain rfl := hw'.symm
    clear hw' H1 hl1 s1
    go_wp2_with fail
    refine (szLists a2 n2 c2 ad2 ln2 cp2 l1 w q0 s2 s3 H2.out.2.2.1 Q2.out).mono ?_
    rintro e w' ⟨z, rfl, hw', hz1, hz⟩
    obtain rfl := hw'.symm
    clear hw' Q2
    by_cases hneg : z < 0
    · go_wp2
      go_ret
      exact ⟨rfl, Below.refl _ _⟩
    · have hb := hz (by omega)
      have hn40 : n2 * 40 ≤ 140737488351232 := by omega
      have hl40 : ∀ i, i < n2 → ln2 i * 40 ≤ 140737488351232 := fun i hi => by have := hb.2 i hi; omega
      have R2 := Hid.mk' (H2.out.rd hn40 hl40)
      have HL := Hid.mk' hl40
      clear hz hb hl40 H2
      have hne : (redFree x0 n1 f1 n2 ln2 f2 != redFree x0 n1 f1 n2 ln2 f2) = false := by simp
      go_wp2_with fail
      refine (toTerms _ _ _ _ f1 R1.out).mono ?_
      rintro e wa ⟨rfl, hb, ho⟩
      have Ba := Hid.mk' hb
      have Oa := Hid.mk' ho
      clear hb ho
      go_wp2_with fail
      refine (toLists _ _ _ _ _ _ _ _ (R2.out.below Ba.out)).mono ?_
      rintro e wb ⟨B, rfl, hb, hr, ho⟩
      have Lb := Hid.mk' (lists_rd hr (fun i hi => (ho i hi).2) hn40 HL.out)
      have Ob := Hid.mk' (Oa.out.below hb Oa.out.lt)
      have Bb := Hid.mk' (bel_next Ba.out hb)
      clear hb hr ho Oa Ba
      go_wp2_with fail
      refine (redFreeS _ _ _ _ _ f1 (Ob.out.rd k1) _ _ _ _ _ _ _ Lb.out).mono ?_
      rintro e wc ⟨rfl, hb⟩
      have Bc := Hid.mk' (bel_next Bb.out hb)
      clear hb Lb Ob Bb
      go_wp2_with fail
      refine (toTerms _ _ _ _ f1 (R1.out.below Bc.out)).mono ?_
      rintro e wd ⟨rfl, hb, ho⟩
      have Bd := Hid.mk' (bel_next Bc.out hb)
      have Od := Hid.mk' ho
      clear hb ho Bc
      go_wp2_with fail
      refine (toLists _ _ _ _ _ _ _ _ (R2.out.below Bd.out)).mono ?_
      rintro e we ⟨C, rfl, hb, hr, ho⟩
      have Le := Hid.mk' (lists_rd hr (fun i hi => (ho i hi).2) hn40 HL.out)
      have Oe := Hid.mk' (Od.out.below hb Od.out.lt)
      have Be := Hid.mk' (bel_next Bd.out hb)
      clear hb hr ho Od Bd
      go_wp2_with fail
      refine (redFreeI _ _ _ _ _ f1 (Oe.out.rd k1) _ _ _ _ _ _ _ Le.out).mono ?_
      rintro e wf ⟨rfl, hb⟩
      have Lf := Hid.mk' (Le.out.below hb)
      have Of := Hid.mk' (Oe.out.below hb Oe.out.lt)
      have Bf := Hid.mk' (bel_next Be.out hb)
      clear hb Le Oe Be
      go_wp2_with fail
      refine (toTerms _ _ _ _ f1 (R1.out.below Bf.out)).mono ?_
      rintro e wg ⟨rfl, hb, ho⟩
      have Lg := Hid.mk' (Lf.out.below hb)
      have Og := Hid.mk' (Of.out.below hb Of.out.lt)
      have Pg := Hid.mk' ho
      have Bg := Hid.mk' (bel_next Bf.out hb)
      clear hb ho Lf Of Bf
      go_wp2_with fail
      refine (eqTerms _ _ _ _ _ _ _ _ _ (Og.out.rd k1) (Pg.out.rd k1)).mono ?_
      rw [termsEq_same]
      rintro e wh ⟨rfl, hb⟩
      have Lh := Hid.mk' (Lg.out.below hb)
      have Bh := Hid.mk' (bel_next Bg.out hb)
      clear hb Lg Og Pg Bg
      go_wp2_with fail
      refine (toLists _ _ _ _ _ _ _ _ (R2.out.below Bh.out)).mono ?_
      rintro e wi ⟨D, rfl, hb, hr, ho⟩
      have Li := Hid.mk' (lists_rd hr (fun i hi => (ho i hi).2) hn40 HL.out)
      have Lj := Hid.mk' (Lh.out.below hb)
      have Bi := Hid.mk' (bel_next Bh.out hb)
      clear hb hr ho Lh Bh
      go_wp2_with fail
      refine (eqLists _ _ _ _ _ _ _ _ _ _ _ _ Lj.out Li.out).mono ?_
      rintro e wk ⟨rfl, hb⟩
      have Bk := Hid.mk' (bel_next Bi.out hb)
      clear hb
      go_wp2
      go_ret
      exact ⟨rfl, Bk.out⟩
  · have s1 : (1048576 : Int) - n1 < 0 := by omega
    go_enter Try.func4, Try.ntmps4
    go_wp2_with fail
    refine (szTerms _ _ _ _ _ q1 (by omega) (by omega)).mono ?_
    rw [if_pos s1]
    rintro e w' ⟨rfl, hw'⟩
    obtain rfl := hw'.symm
    clear hw'
    go_wp2
    go_ret
    exact ⟨rfl, Below.refl _ _⟩
theorem own : ownKnob Try.prog.godebug = none := by kernel_rfl
theorem laidOut : laidOutB Try.prog = true := by kernel_rfl
set_option maxRecDepth 100000 in
theorem lifted (os : Os) (started : os.Started) (H : Type) (enc : TypeId × Value → H) :
    ReturnsInHanded {} Try.checked os 4 .any (Rows.fnExactRedFreeSpec.pre6 enc Try.prog Try.f4 Rows.fnExactRedFreeRow.domain false) (Rows.fnExactRedFreeSpec.post enc Try.prog Try.f4 false true false false) := by
  refine returnsInHanded_of_change (C := Try.checked) own started (by kernel_rfl) Try.func4
    (ChangeSpec.witness6 (enc := enc) (C := Try.checked) false ⟨#[], #[.int .i64 0, .slice none 0 0, .slice none 0 0], []⟩ 8 (by kernel_rfl) (by kernel_rfl) (by kernel_rfl) (by kernel_rfl)) ?_
  intro W base args ds gs before hval0 hW hcnd _
  have hval : ∀ (j : Nat) t v, Try.f4.params[j]? = some t → args[j]? = some v → Value.okWide Try.prog W .any base t v := hval0
  have hW' := hW
  obtain ⟨p, q, hA0, hV, rfl, hfz, hnd⟩ := hW
  have hA : DataW.TrodAll enc Try.prog W 0 (fun _ => true) true Try.f4.params.toList args.toList ds p := hA0
  rw [Try.params4] at hA hval
  obtain ⟨v0, vs0, d0, ds0, p0, q0, hargs, rfl, rfl, h0, r0⟩ := trodAll_cons hA
  obtain ⟨v1, vs1, d1, ds1, p1, q1, rfl, rfl, rfl, h1, r1⟩ := trodAll_cons r0
  obtain ⟨v2, vs2, d2, ds2, p2, q2, rfl, rfl, rfl, h2, r2⟩ := trodAll_cons r1
  obtain ⟨rfl, rfl, rfl⟩ := trodAll_nil r2
  obtain rfl : args = #[v0, v1, v2] := by cases args; simp_all
  obtain ⟨rfl, rfl⟩ := trodVars_none hV
  obtain ⟨x0, rfl, rfl, rfl, w0⟩ := open_int Try.underlying3 (hval 0 3 v0 rfl rfl) h0
  obtain ⟨a1, n1, c1, rfl⟩ := okWide_slice Try.underlying29 (hval 1 29 v1 rfl rfl)
  have k1 := h1
  have lt1 : ∀ x ∈ p1, x.block < W.heap.size := by obtain ⟨m, hm⟩ := k1; exact DataW.trod_lt m _ _ _ hm
  obtain ⟨f1, w1⟩ : ∃ f, IsTerms W a1 n1 c1 f := by
    obtain ⟨fuel, hf⟩ := h1
    exact terms_open hf
  obtain ⟨a2, n2, c2, rfl⟩ := okWide_slice Try.underlying22 (hval 2 22 v2 rfl rfl)
  have k2 := h2
  have lt2 : ∀ x ∈ p2, x.block < W.heap.size := by obtain ⟨m, hm⟩ := k2; exact DataW.trod_lt m _ _ _ hm
  obtain ⟨ad2, ln2, cp2, f2, w2⟩ : ∃ ad ln cp f, IsLists W a2 n2 c2 ad ln cp f := by
    obtain ⟨fuel, hf⟩ := h2
    exact lists_open hf
  clear hA0 hval0
  refine (walk x0 a1 n1 c1 f1 a2 n2 c2 ad2 ln2 cp2 f2 W w1 w2).mono fun e W' ⟨he, bel⟩ => ?_
  subst he
  exact ⟨_, rfl, _, _, _, [], _, [], hW', trodAll_mk1 (shut_bool Try.underlying4 _), (trodAll_cons_mk (shut_int Try.underlying3 w0) (trodAll_cons_mk (Below.trod laidOut (by kernel_rfl) (of_decide_eq_true (by kernel_rfl)) k1 bel lt1) (trodAll_cons_mk (Below.trod laidOut (by kernel_rfl) (of_decide_eq_true (by kernel_rfl)) k2 bel lt2) trodAll_mk0))), rfl, bel.frame _, fun h => by cases h⟩
theorem over : Rows.fnExactRedFreeRow.holds Try.pinned (OpenSpec.ofChange Rows.fnExactRedFreeSpec) :=
  OpenClaim.holds_of_wide 4 Try.f4 rfl rfl rfl rfl rfl rfl rfl ⟨rfl, rfl, rfl, rfl, rfl⟩ rfl rfl rfl rfl rfl (by kernel_rfl) Try.func4 (by kernel_rfl)
    (of_decide_eq_true (by kernel_rfl)) (by unfold Func.isWrapper; first | (rw [if_pos (by decide +kernel)]; kernel_rfl) | (rw [if_neg (by decide +kernel)]; exact ⟨rfl, rfl⟩))
    (fun os started H enc _ => lifted os started H enc)
end Go.Proofs.Ytpfgelfmhhnbaaa.fnExactRedFree
namespace Go.Proofs.Ytpfgelfmhhnbaaa
theorem fnExactRedFree_holds : Rows.FnExactRedFreeSaid := fnExactRedFree.over
#print axioms fnExactRedFree_holds
end Go.Proofs.Ytpfgelfmhhnbaaa
