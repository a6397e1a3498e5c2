/-
  FnExactIdlFlat: at every argument the program answers as its model; it writes into no argument.
-/
import Derived.Test.YtmlaedpamobmhabFlU
import Derived.Test.YtmlaedpamobmhabGam
import Derived.Test.YtmlaedpamobmhabGan
import Derived.ProofKit
import Derived.OpenShut
import Derived.Deep.RegionHeld3
import Derived.Deep.Light
namespace Go.Proofs.Ytmlaedpamobmhab.fnExactIdlFlat
open Go.ChangeShapes Go.WideShapes Go.ChangeAt Go.RowKit Go.Deep Go.Joins
set_option linter.unusedVariables false

set_option maxRecDepth 100000 in
set_option maxHeartbeats 16000000 in
theorem walk (x0 : Int) (a1 : Option Addr) (n1 c1 : Nat) (ad1 : Nat → Option Addr) (ln1 cp1 : Nat → Nat) (f1 : Nat → Nat → T) (x2 : Int) (w : World) (h1 : IsLists w a1 n1 c1 ad1 ln1 cp1 f1) : Calls Try.prog 5 #[.int .i64 x0, .slice a1 n1 c1, .int .i64 x2] w fun e w' => e = .returned (.bool true) ∧ Below w.heap.size w w' := by
  have q0 : (n1 : Int) ≤ 9223372036854775807 := by have := h1.1; have := h1.2.1; unfold maxLen at this; omega
  have q2 : ∀ i, i < n1 → (ln1 i : Int) ≤ 9223372036854775807 := fun i hi => by have h := h1.2.2.2 i hi; have := h.1; have := h.2.1; unfold maxLen at this; omega
  have H1 := Hid.mk' h1
  have Q2 := Hid.mk' q2
  clear h1 q2
  go_enter Try.func5, Try.ntmps5
  go_wp2_with fail
  refine (szLists a1 n1 c1 ad1 ln1 cp1 1048576 w q0 (by omega) (by omega) H1.out.2.2.1 Q2.out).mono ?_
  rintro e w' ⟨z, rfl, hw', hz1, hz⟩
  obtain rfl := hw'.symm
  clear hw' Q2
  by_cases hneg : z < 0
  · go_wp2
    go_ret
    exact ⟨rfl, Below.refl _ _⟩
  have hb0 := hz (by omega)
  have hz0 : 0 ≤ z := by omega
  have HBD := Hid.mk' hb0
  clear hz hb0
  have hn40 : n1 * 40 ≤ 140737488351232 := by have := HBD.out.1; omega
  have HL : Hid (∀ i, i < n1 → ln1 i * 40 ≤ 140737488351232) := fun i hi => by have := HBD.out.2 i hi; omega
  have R1c := H1.out.rd hn40 HL.out
  have R1 := Hid.mk' R1c
  obtain ⟨b0, hb0⟩ : ∃ b0, idlFlat x0 n1 ln1 f1 x2 = b0 := ⟨_, rfl⟩
  obtain ⟨bi, bb⟩ := b0
  have hn0 : (bb != bb) = false := by simp
  have HB0 := Hid.mk' hb0
  clear R1c hb0 H1
  go_wp2_with fail
  refine (toLists _ _ _ _ _ _ _ _ R1.out).mono ?_
  rintro e wa ⟨Ba', rfl, hb, hr, ho⟩
  have La := Hid.mk' (lists_rd hr (fun i hi => (ho i hi).2) hn40 HL.out)
  have Ba := Hid.mk' hb
  clear hb hr ho
  go_wp2_with fail
  refine (idlFlatS _ x0 _ _ _ _ ln1 _ f1 x2 La.out).mono ?_
  rw [HB0.out]
  rintro e wc ⟨rfl, hb⟩
  have Bc := Hid.mk' (bel_next Ba.out hb)
  clear hb La Ba
  go_wp2_with fail
  refine (toLists _ _ _ _ _ _ _ _ (R1.out.below Bc.out)).mono ?_
  rintro e wd ⟨Bd', rfl, hb, hr, ho⟩
  have Ld := Hid.mk' (lists_rd hr (fun i hi => (ho i hi).2) hn40 HL.out)
  have Bd := Hid.mk' (bel_next Bc.out hb)
  clear hb hr ho Bc
  go_wp2_with fail
  refine (idlFlatI _ x0 _ _ _ _ ln1 _ f1 x2 Ld.out).mono ?_
  rw [HB0.out]
  rintro e wf ⟨rfl, hb⟩
  have Bf := Hid.mk' (bel_next Bd.out hb)
  have Lf := Hid.mk' (Ld.out.below hb)
  clear hb Ld Bd
  go_wp2_with fail
  refine (toLists _ _ _ _ _ _ _ _ (R1.out.below Bf.out)).mono ?_
  rintro e wg ⟨Bg', rfl, hb, hr, ho⟩
  have Lg := Hid.mk' (lists_rd hr (fun i hi => (ho i hi).2) hn40 HL.out)
  have Bg := Hid.mk' (bel_next Bf.out hb)
  have Lg2 := Hid.mk' (Lf.out.below hb)
  clear hb hr ho Bf Lf
  go_wp2_with fail
  refine (eqLists _ _ _ _ _ _ _ _ _ _ _ _ Lg2.out Lg.out).mono ?_
  rintro e wh ⟨rfl, hb⟩
  have Bh := Hid.mk' (bel_next Bg.out hb)
  clear hb Bg Lg Lg2
  go_wp2
  go_ret
  exact ⟨rfl, Bh.out⟩
theorem own : ownKnob Try.prog.godebug = none := by kernel_rfl
theorem laidOut : laidOutB Try.prog = true := by kernel_rfl
set_option maxRecDepth 100000 in
theorem lifted (os : Os) (started : os.Started) (H : Type) (enc : TypeId × Value → H) :
    ReturnsInHanded {} Try.checked os 5 .any (Rows.fnExactIdlFlatSpec.pre6 enc Try.prog Try.f5 Rows.fnExactIdlFlatRow.domain false) (Rows.fnExactIdlFlatSpec.post enc Try.prog Try.f5 false true false false) := by
  refine returnsInHanded_of_change (C := Try.checked) own started (by kernel_rfl) Try.func5
    (ChangeSpec.witness6 (enc := enc) (C := Try.checked) false ⟨#[], #[.int .i64 0, .slice none 0 0, .int .i64 0], []⟩ 8 (by kernel_rfl) (by kernel_rfl) (by kernel_rfl) (by kernel_rfl)) ?_
  intro W base args ds gs before hval0 hW hcnd _
  have hval : ∀ (j : Nat) t v, Try.f5.params[j]? = some t → args[j]? = some v → Value.okWide Try.prog W .any base t v := hval0
  have hW' := hW
  obtain ⟨p, q, hA0, hV, rfl, hfz, hnd⟩ := hW
  have hA : DataW.TrodAll enc Try.prog W 0 (fun _ => true) true Try.f5.params.toList args.toList ds p := hA0
  rw [Try.params5] at hA hval
  obtain ⟨v0, vs0, d0, ds0, p0, q0, hargs, rfl, rfl, h0, r0⟩ := trodAll_cons hA
  obtain ⟨v1, vs1, d1, ds1, p1, q1, rfl, rfl, rfl, h1, r1⟩ := trodAll_cons r0
  obtain ⟨v2, vs2, d2, ds2, p2, q2, rfl, rfl, rfl, h2, r2⟩ := trodAll_cons r1
  obtain ⟨rfl, rfl, rfl⟩ := trodAll_nil r2
  obtain rfl : args = #[v0, v1, v2] := by cases args; simp_all
  obtain ⟨rfl, rfl⟩ := trodVars_none hV
  obtain ⟨x0, rfl, rfl, rfl, w0⟩ := open_int Try.underlying3 (hval 0 3 v0 rfl rfl) h0
  obtain ⟨a1, n1, c1, rfl⟩ := okWide_slice Try.underlying41 (hval 1 41 v1 rfl rfl)
  have k1 := h1
  have lt1 : ∀ x ∈ p1, x.block < W.heap.size := by obtain ⟨m, hm⟩ := k1; exact DataW.trod_lt m _ _ _ hm
  obtain ⟨ad1, ln1, cp1, f1, w1⟩ : ∃ ad ln cp f, IsLists W a1 n1 c1 ad ln cp f := by
    obtain ⟨fuel, hf⟩ := h1
    exact lists_open hf
  obtain ⟨x2, rfl, rfl, rfl, w2⟩ := open_int Try.underlying3 (hval 2 3 v2 rfl rfl) h2
  clear hA0 hval0
  refine (walk x0 a1 n1 c1 ad1 ln1 cp1 f1 x2 W w1).mono fun e W' ⟨he, bel⟩ => ?_
  subst he
  exact ⟨_, rfl, _, _, _, [], _, [], hW', trodAll_mk1 (shut_bool Try.underlying4 _), (trodAll_cons_mk (shut_int Try.underlying3 w0) (trodAll_cons_mk (Below.trod laidOut (by kernel_rfl) (of_decide_eq_true (by kernel_rfl)) k1 bel lt1) (trodAll_cons_mk (shut_int Try.underlying3 w2) trodAll_mk0))), rfl, bel.frame _, fun h => by cases h⟩
theorem over : Rows.fnExactIdlFlatRow.holds Try.pinned (OpenSpec.ofChange Rows.fnExactIdlFlatSpec) :=
  OpenClaim.holds_of_wide 5 Try.f5 rfl rfl rfl rfl rfl rfl rfl ⟨rfl, rfl, rfl, rfl, rfl⟩ rfl rfl rfl rfl rfl (by kernel_rfl) Try.func5 (by kernel_rfl)
    (of_decide_eq_true (by kernel_rfl)) (by unfold Func.isWrapper; first | (rw [if_pos (by decide +kernel)]; kernel_rfl) | (rw [if_neg (by decide +kernel)]; exact ⟨rfl, rfl⟩))
    (fun os started H enc _ => lifted os started H enc)
end Go.Proofs.Ytmlaedpamobmhab.fnExactIdlFlat
namespace Go.Proofs.Ytmlaedpamobmhab
theorem fnExactIdlFlat_holds : Rows.FnExactIdlFlatSaid := fnExactIdlFlat.over
#print axioms fnExactIdlFlat_holds
end Go.Proofs.Ytmlaedpamobmhab
