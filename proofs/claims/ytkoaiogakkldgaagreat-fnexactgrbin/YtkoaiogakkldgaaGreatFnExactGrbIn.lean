/-
  FnExactGrbIn: at every argument the program answers as its model; it writes into no argument.
-/
import Derived.Test.YtkoaiogakkldgaaGreatGiO
import Derived.Test.YtkoaiogakkldgaaGreatGbe
import Derived.Test.YtkoaiogakkldgaaGreatLOpen
import Derived.ProofKit
import Derived.OpenShut
import Derived.Deep.RegionHeld3
import Derived.Deep.Light
namespace Go.Proofs.YtkoaiogakkldgaaGreat.fnExactGrbIn
open Go.ChangeShapes Go.WideShapes Go.ChangeAt Go.RowKit Go.Deep Go.Joins
set_option linter.unusedVariables false

set_option maxRecDepth 100000 in
set_option maxHeartbeats 16000000 in
theorem walk (x0 : Int) (a1 : Option Addr) (n1 c1 : Nat) (ad1 : Nat → Option Addr) (ln1 cp1 : Nat → Nat) (f1 : Nat → Nat → T) (a2 : Option Addr) (n2 c2 : Nat) (f2 : Nat → T) (w : World) (h1 : IsLists w a1 n1 c1 ad1 ln1 cp1 f1) (h2 : IsTerms w a2 n2 c2 f2) : Calls Tryz.prog 4 #[.int .i64 x0, .slice a1 n1 c1, .slice a2 n2 c2] w fun e w' => e = .returned (.bool true) ∧ Below w.heap.size w w' := by
  have q1 : (n2 : Int) ≤ 9223372036854775807 := by have := h2.1; have := h2.2.1; unfold maxLen at this; omega
  have q0 : (n1 : Int) ≤ 9223372036854775807 := by have := h1.1; have := h1.2.1; unfold maxLen at this; omega
  have q2 : ∀ i, i < n1 → (ln1 i : Int) ≤ 9223372036854775807 := fun i hi => by have h := h1.2.2.2 i hi; have := h.1; have := h.2.1; unfold maxLen at this; omega
  have H1 := Hid.mk' h1
  have H2 := Hid.mk' h2
  have Q2 := Hid.mk' q2
  clear h1 h2 q2
  go_enter Tryz.func4, Tryz.ntmps4
  go_wp2_with fail
  refine (szLists a1 n1 c1 ad1 ln1 cp1 1048576 w q0 (by omega) (by omega) H1.out.2.2.1 Q2.out).mono ?_
  rintro e w' ⟨z, rfl, hw', hz1, hz⟩
  obtain rfl := hw'.symm
  clear hw' Q2
  by_cases hneg : z < 0
  · go_wp2
    go_ret
    exact ⟨rfl, Below.refl _ _⟩
  have hb0 := hz (by omega)
  have hz0 : 0 ≤ z := by omega
  have HBD := Hid.mk' hb0
  clear hz hb0
  by_cases s1 : z - (n2 : Int) < 0
  · go_wp2_with fail
    refine (szTerms _ _ _ _ _ q1 hz0 hz1).mono ?_
    rw [if_pos s1]
    rintro e w' ⟨rfl, hw'⟩
    obtain rfl := hw'.symm
    clear hw'
    go_wp2
    go_ret
    exact ⟨rfl, Below.refl _ _⟩
  have k2 : n2 * 40 ≤ 140737488351232 := by omega
  have hn40 : n1 * 40 ≤ 140737488351232 := by have := HBD.out.1; omega
  have HL : Hid (∀ i, i < n1 → ln1 i * 40 ≤ 140737488351232) := fun i hi => by have := HBD.out.2 i hi; omega
  obtain ⟨p, rfl, hpp⟩ := list_of (H2.out.rd k2)
  have R2 : Hid (Rd w a2 p.length c2 (lf p)) := hpp
  have R1 := Hid.mk' (H1.out.rd hn40 HL.out)
  obtain ⟨y, hy⟩ : ∃ y : Int, z - (p.length : Int) = y := ⟨_, rfl⟩
  have hy0 : ¬ y < 0 := by omega
  obtain ⟨R, hR⟩ : ∃ R, redAll x0 p n1 ln1 f1 = R := ⟨_, rfl⟩
  have HR := Hid.mk' hR
  obtain ⟨b0, hb0⟩ : ∃ b0, gin R = b0 := ⟨_, rfl⟩
  obtain ⟨b1, hb1⟩ : ∃ b1, R.isSome = b1 := ⟨_, rfl⟩
  have hn0 : (b0 != b0) = false := by simp
  have hn1 : (b1 != b1) = false := by simp
  have HB0 := Hid.mk' hb0
  have HB1 := Hid.mk' hb1
  clear hpp hR hb0 hb1 H1 H2
  go_wp2_with fail
  refine (szTerms _ _ _ _ _ q1 hz0 hz1).mono ?_
  rw [if_neg (show ¬ z - (p.length : Int) < 0 by omega), hy]
  rintro e w' ⟨rfl, hw'⟩
  obtain rfl := hw'.symm
  clear hw' hy s1
  go_wp2_with fail
  refine (toLists _ _ _ _ _ _ _ _ R1.out).mono ?_
  rintro e wa ⟨Ba', rfl, hb, hr, ho⟩
  have La := Hid.mk' (lists_rd hr (fun i hi => (ho i hi).2) hn40 HL.out)
  have Ba := Hid.mk' hb
  clear hb hr ho
  go_wp2_with fail
  refine (toTerms _ _ _ _ (lf p) (R2.out.below Ba.out)).mono ?_
  rintro e wb ⟨rfl, hb, ho⟩
  have Bb := Hid.mk' (bel_next Ba.out hb)
  have Lb := Hid.mk' (La.out.below hb)
  have Ob := Hid.mk' ho
  clear hb ho La Ba
  go_wp2_with fail
  refine (grbInS _ x0 _ _ p _ _ _ _ _ _ _ (Ob.out.rd (by omega)) Lb.out HR.out).mono ?_
  rw [HB0.out, HB1.out]
  rintro e wc ⟨rfl, hb⟩
  have Bc := Hid.mk' (bel_next Bb.out hb)
  clear hb Lb Ob Bb
  go_wp2_with fail
  refine (toLists _ _ _ _ _ _ _ _ (R1.out.below Bc.out)).mono ?_
  rintro e wd ⟨Bd', rfl, hb, hr, ho⟩
  have Ld := Hid.mk' (lists_rd hr (fun i hi => (ho i hi).2) hn40 HL.out)
  have Bd := Hid.mk' (bel_next Bc.out hb)
  clear hb hr ho Bc
  go_wp2_with fail
  refine (toTerms _ _ _ _ (lf p) (R2.out.below Bd.out)).mono ?_
  rintro e we ⟨rfl, hb, ho⟩
  have Be := Hid.mk' (bel_next Bd.out hb)
  have Le := Hid.mk' (Ld.out.below hb)
  have Oe := Hid.mk' ho
  clear hb ho Ld Bd
  go_wp2_with fail
  refine (grbInI _ x0 _ _ p _ _ _ _ _ _ _ (Oe.out.rd (by omega)) Le.out HR.out).mono ?_
  rw [HB0.out, HB1.out]
  rintro e wf ⟨rfl, hb⟩
  have Bf := Hid.mk' (bel_next Be.out hb)
  have Lf := Hid.mk' (Le.out.below hb)
  have Of := Hid.mk' (Oe.out.below hb Oe.out.lt)
  clear hb Le Oe Be
  go_wp2_with fail
  refine (toLists _ _ _ _ _ _ _ _ (R1.out.below Bf.out)).mono ?_
  rintro e wg ⟨Bg', rfl, hb, hr, ho⟩
  have Lg := Hid.mk' (lists_rd hr (fun i hi => (ho i hi).2) hn40 HL.out)
  have Bg := Hid.mk' (bel_next Bf.out hb)
  have Lg2 := Hid.mk' (Lf.out.below hb)
  have Og := Hid.mk' (Of.out.below hb Of.out.lt)
  clear hb hr ho Bf Lf Of
  go_wp2_with fail
  refine (eqLists _ _ _ _ _ _ _ _ _ _ _ _ Lg2.out Lg.out).mono ?_
  rintro e wh ⟨rfl, hb⟩
  have Bh := Hid.mk' (bel_next Bg.out hb)
  have Oh := Hid.mk' (Og.out.below hb Og.out.lt)
  clear hb Bg Lg Lg2 Og
  go_wp2_with fail
  refine (toTerms _ _ _ _ (lf p) (R2.out.below Bh.out)).mono ?_
  rintro e wi ⟨rfl, hb, ho⟩
  have Bi := Hid.mk' (bel_next Bh.out hb)
  have Oi := Hid.mk' (Oh.out.below hb Oh.out.lt)
  have Oj := Hid.mk' ho
  clear hb ho Bh Oh
  go_wp2_with fail
  refine (eqTerms _ _ _ _ _ _ _ _ _ (Oi.out.rd (by omega)) (Oj.out.rd (by omega))).mono ?_
  rw [termsEq_same]
  rintro e wj ⟨rfl, hb⟩
  have Bj := Hid.mk' (bel_next Bi.out hb)
  clear hb Bi Oi Oj
  go_wp2
  go_ret
  exact ⟨rfl, Bj.out⟩
theorem own : ownKnob Tryz.prog.godebug = none := by kernel_rfl
theorem laidOut : laidOutB Tryz.prog = true := by kernel_rfl
set_option maxRecDepth 100000 in
theorem lifted (os : Os) (started : os.Started) (H : Type) (enc : TypeId × Value → H) :
    ReturnsInHanded {} Tryz.checked os 4 .any (Rows.fnExactGrbInSpec.pre6 enc Tryz.prog Tryz.f4 Rows.fnExactGrbInRow.domain false) (Rows.fnExactGrbInSpec.post enc Tryz.prog Tryz.f4 false true false false) := by
  refine returnsInHanded_of_change (C := Tryz.checked) own started (by kernel_rfl) Tryz.func4
    (ChangeSpec.witness6 (enc := enc) (C := Tryz.checked) false ⟨#[], #[.int .i64 0, .slice none 0 0, .slice none 0 0], []⟩ 8 (by kernel_rfl) (by kernel_rfl) (by kernel_rfl) (by kernel_rfl)) ?_
  intro W base args ds gs before hval0 hW hcnd _
  have hval : ∀ (j : Nat) t v, Tryz.f4.params[j]? = some t → args[j]? = some v → Value.okWide Tryz.prog W .any base t v := hval0
  have hW' := hW
  obtain ⟨p, q, hA0, hV, rfl, hfz, hnd⟩ := hW
  have hA : DataW.TrodAll enc Tryz.prog W 0 (fun _ => true) true Tryz.f4.params.toList args.toList ds p := hA0
  rw [Tryz.params4] at hA hval
  obtain ⟨v0, vs0, d0, ds0, p0, q0, hargs, rfl, rfl, h0, r0⟩ := trodAll_cons hA
  obtain ⟨v1, vs1, d1, ds1, p1, q1, rfl, rfl, rfl, h1, r1⟩ := trodAll_cons r0
  obtain ⟨v2, vs2, d2, ds2, p2, q2, rfl, rfl, rfl, h2, r2⟩ := trodAll_cons r1
  obtain ⟨rfl, rfl, rfl⟩ := trodAll_nil r2
  obtain rfl : args = #[v0, v1, v2] := by cases args; simp_all
  obtain ⟨rfl, rfl⟩ := trodVars_none hV
  obtain ⟨x0, rfl, rfl, rfl, w0⟩ := open_int Tryz.underlying3 (hval 0 3 v0 rfl rfl) h0
  obtain ⟨a1, n1, c1, rfl⟩ := okWide_slice Tryz.underlying23 (hval 1 23 v1 rfl rfl)
  have k1 := h1
  have lt1 : ∀ x ∈ p1, x.block < W.heap.size := by obtain ⟨m, hm⟩ := k1; exact DataW.trod_lt m _ _ _ hm
  obtain ⟨ad1, ln1, cp1, f1, w1⟩ : ∃ ad ln cp f, IsLists W a1 n1 c1 ad ln cp f := by
    obtain ⟨fuel, hf⟩ := h1
    exact lists_open hf
  obtain ⟨a2, n2, c2, rfl⟩ := okWide_slice Tryz.underlying22 (hval 2 22 v2 rfl rfl)
  have k2 := h2
  have lt2 : ∀ x ∈ p2, x.block < W.heap.size := by obtain ⟨m, hm⟩ := k2; exact DataW.trod_lt m _ _ _ hm
  obtain ⟨f2, w2⟩ : ∃ f, IsTerms W a2 n2 c2 f := by
    obtain ⟨fuel, hf⟩ := h2
    exact terms_open hf
  clear hA0 hval0
  refine (walk x0 a1 n1 c1 ad1 ln1 cp1 f1 a2 n2 c2 f2 W w1 w2).mono fun e W' ⟨he, bel⟩ => ?_
  subst he
  exact ⟨_, rfl, _, _, _, [], _, [], hW', trodAll_mk1 (shut_bool Tryz.underlying4 _), (trodAll_cons_mk (shut_int Tryz.underlying3 w0) (trodAll_cons_mk (Below.trod laidOut (by kernel_rfl) (of_decide_eq_true (by kernel_rfl)) k1 bel lt1) (trodAll_cons_mk (Below.trod laidOut (by kernel_rfl) (of_decide_eq_true (by kernel_rfl)) k2 bel lt2) trodAll_mk0))), rfl, bel.frame _, fun h => by cases h⟩
theorem over : Rows.fnExactGrbInRow.holds Tryz.pinned (OpenSpec.ofChange Rows.fnExactGrbInSpec) :=
  OpenClaim.holds_of_wide 4 Tryz.f4 rfl rfl rfl rfl rfl rfl rfl ⟨rfl, rfl, rfl, rfl, rfl⟩ rfl rfl rfl rfl rfl (by kernel_rfl) Tryz.func4 (by kernel_rfl)
    (of_decide_eq_true (by kernel_rfl)) (by unfold Func.isWrapper; first | (rw [if_pos (by decide +kernel)]; kernel_rfl) | (rw [if_neg (by decide +kernel)]; exact ⟨rfl, rfl⟩))
    (fun os started H enc _ => lifted os started H enc)
end Go.Proofs.YtkoaiogakkldgaaGreat.fnExactGrbIn
namespace Go.Proofs.YtkoaiogakkldgaaGreat
theorem fnExactGrbIn_holds : Rows.FnExactGrbInSaid := fnExactGrbIn.over
#print axioms fnExactGrbIn_holds
end Go.Proofs.YtkoaiogakkldgaaGreat
