/-
  FnExactSprPoly: at every argument the program answers as its model; it writes into no argument, and its answer owns its memory.
-/
import Derived.Test.YtllfgoepfeoclaaGreatGah
import Derived.Test.YtllfgoepfeoclaaGreatGag
import Derived.Test.YtllfgoepfeoclaaGreatSprQ
import Derived.ProofKit
import Derived.OpenShut
import Derived.Deep.RegionHeld3
import Derived.Deep.Light
namespace Go.Proofs.YtllfgoepfeoclaaGreat.fnExactSprPoly
open Go.ChangeShapes Go.WideShapes Go.ChangeAt Go.RowKit Go.Deep Go.Joins
set_option linter.unusedVariables false

set_option maxRecDepth 100000 in
set_option maxHeartbeats 8000000 in
theorem walk (x0 : Int) (a0 : Option Addr) (n0 c0 : Nat) (f0 : Nat → T) (a1 : Option Addr) (n1 c1 : Nat) (f1 : Nat → T) (w : World) (h0 : IsTerms w a0 n0 c0 f0) (h1 : IsTerms w a1 n1 c1 f1) :
    Calls Tryz.prog 3 #[.int .i64 x0, .slice a0 n0 c0, .slice a1 n1 c1] w fun e w' => e = .returned (.bool true) ∧ Below w.heap.size w w' := by
  have m0 : (n0 : Int) ≤ 9223372036854775807 := by have := h0.1; have := h0.2.1; unfold maxLen at this; omega
  have m1 : (n1 : Int) ≤ 9223372036854775807 := by have := h1.1; have := h1.2.1; unfold maxLen at this; omega
  by_cases b0 : (n0 : Int) ≤ 1048576
  · by_cases b1 : (n0 : Int) + (n1 : Int) ≤ 1048576
    · have R0 := Hid.mk' (h0.rd (by omega))
      have R1 := Hid.mk' (h1.rd (by omega))
      have k0 : n0 * 40 ≤ 140737488351232 := by omega
      have k1 : n1 * 40 ≤ 140737488351232 := by omega
      have s0 : (0 : Int) ≤ 1048576 - n0 := by omega
      have s1 : (0 : Int) ≤ 1048576 - n0 - n1 := by omega
      have lenL : (sprPoly x0 f0 n0 f1 n1).1.length ≤ 400 := sprPoly_len _ _ _ _ _
      clear h0 h1
      go_enter Tryz.func3, Tryz.ntmps3
      go_wp2_with fail
      refine (szTerms _ _ _ _ _ m0 (by omega) (by omega)).mono ?_
      rw [if_neg (Int.not_lt.2 s0)]
      rintro e w' ⟨rfl, hw'⟩
      obtain rfl := hw'.symm
      clear hw'
      go_wp2_with fail
      refine (szTerms _ _ _ _ _ m1 (by omega) (by omega)).mono ?_
      rw [if_neg (Int.not_lt.2 s1)]
      rintro e w' ⟨rfl, hw'⟩
      obtain rfl := hw'.symm
      clear hw'
      go_wp2_with fail
      refine (toTerms _ _ _ _ f0 R0.out).mono ?_
      rintro e w1 ⟨rfl, hb, ho⟩
      have B1 := Hid.mk' hb
      have O1 := Hid.mk' ho
      clear hb ho
      go_wp2_with fail
      refine (toTerms _ _ _ _ f1 (R1.out.below B1.out)).mono ?_
      rintro e w2 ⟨rfl, hb, ho⟩
      have B2 := Hid.mk' (bel_next B1.out hb)
      have Q1 := Hid.mk' (O1.out.below hb O1.out.lt)
      have O2 := Hid.mk' ho
      clear hb ho
      go_wp2_with fail
      refine (sprPolyS _ _ _ _ _ _ _ _ f0 f1 (Q1.out.rd k0) (O2.out.rd k1)).mono ?_
      rintro e w3 ⟨vs, rfl, hb, hown⟩
      obtain ⟨asp, csp, rfl, hout⟩ := out_of_owns hown (by omega)
      have B3 := Hid.mk' (bel_next B2.out hb)
      have S3 := Hid.mk' hout.1
      have US := Hid.mk' hout.1.under
      clear hb hown hout O1 O2 Q1
      go_wp2_with fail
      refine (toTerms _ _ _ _ f0 (R0.out.below B3.out)).mono ?_
      rintro e w4 ⟨rfl, hb, ho⟩
      have B4 := Hid.mk' (bel_next B3.out hb)
      have S4 := Hid.mk' (S3.out.below hb)
      have X4 := Hid.mk' ho
      clear hb ho S3
      go_wp2_with fail
      refine (toTerms _ _ _ _ f1 (R1.out.below B4.out)).mono ?_
      rintro e w5 ⟨rfl, hb, ho⟩
      have B5 := Hid.mk' (bel_next B4.out hb)
      have S5 := Hid.mk' (S4.out.below hb)
      have X5 := Hid.mk' (X4.out.below hb X4.out.lt)
      have Y5 := Hid.mk' ho
      have z45 : Hid (w3.heap.size < w4.heap.size) := X4.out.lt
      have z5 : Hid (w4.heap.size < w5.heap.size) := ho.lt
      clear hb ho S4 X4
      go_wp2_with fail
      refine (sprPolyI _ _ _ _ _ _ _ _ f0 f1 (X5.out.rd k0) (Y5.out.rd k1)).mono ?_
      rintro e w6 ⟨ag, cg, rfl, hb, hg⟩
      have B6 := Hid.mk' (bel_next B5.out hb)
      have S6 := Hid.mk' (S5.out.below hb)
      have X6 := Hid.mk' (X5.out.below hb X5.out.lt)
      have Y6 := Hid.mk' (Y5.out.below hb Y5.out.lt)
      have G6 := Hid.mk' hg
      have FG := Hid.mk' hg.from
      clear hb hg S5 X5 Y5
      go_wp2_with fail
      refine (eqTerms _ _ _ _ _ _ _ _ _ G6.out.1 S6.out).mono ?_
      rw [termsEq_same]
      rintro e w7 ⟨rfl, hb⟩
      have B7 := Hid.mk' (bel_next B6.out hb)
      have S7 := Hid.mk' (S6.out.below hb)
      have X7 := Hid.mk' (X6.out.below hb X6.out.lt)
      have Y7 := Hid.mk' (Y6.out.below hb Y6.out.lt)
      have G7 := Hid.mk' (G6.out.below hb)
      clear hb S6 X6 Y6 G6
      go_wp2_with fail
      refine (toTerms _ _ _ _ f0 (R0.out.below B7.out)).mono ?_
      rintro e w8 ⟨rfl, hb, ho⟩
      have B8 := Hid.mk' (bel_next B7.out hb)
      have S8 := Hid.mk' (S7.out.below hb)
      have X8 := Hid.mk' (X7.out.below hb X7.out.lt)
      have Y8 := Hid.mk' (Y7.out.below hb Y7.out.lt)
      have G8 := Hid.mk' (G7.out.below hb)
      have O8 := Hid.mk' ho
      clear hb ho S7 X7 Y7 G7
      go_wp2_with fail
      refine (eqTerms _ _ _ _ _ _ _ _ _ (X8.out.rd k0) (O8.out.rd k0)).mono ?_
      rw [termsEq_same]
      rintro e w9 ⟨rfl, hb⟩
      have B9 := Hid.mk' (bel_next B8.out hb)
      have S9 := Hid.mk' (S8.out.below hb)
      have X9 := Hid.mk' (X8.out.below hb X8.out.lt)
      have Y9 := Hid.mk' (Y8.out.below hb Y8.out.lt)
      have G9 := Hid.mk' (G8.out.below hb)
      clear hb S8 X8 Y8 G8 O8
      go_wp2_with fail
      refine (toTerms _ _ _ _ f1 (R1.out.below B9.out)).mono ?_
      rintro e wA ⟨rfl, hb, ho⟩
      have BA := Hid.mk' (bel_next B9.out hb)
      have SA := Hid.mk' (S9.out.below hb)
      have XA := Hid.mk' (X9.out.below hb X9.out.lt)
      have YA := Hid.mk' (Y9.out.below hb Y9.out.lt)
      have GA := Hid.mk' (G9.out.below hb)
      have OA := Hid.mk' ho
      clear hb ho S9 X9 Y9 G9
      go_wp2_with fail
      refine (eqTerms _ _ _ _ _ _ _ _ _ (YA.out.rd k1) (OA.out.rd k1)).mono ?_
      rw [termsEq_same]
      rintro e wB ⟨rfl, hb⟩
      have BB := Hid.mk' (bel_next BA.out hb)
      have SB := Hid.mk' (SA.out.below hb)
      have XB := Hid.mk' (XA.out.below hb XA.out.lt)
      have YB := Hid.mk' (YA.out.below hb YA.out.lt)
      have GB := Hid.mk' (GA.out.below hb)
      clear hb SA XA YA GA OA
      go_wp2_with fail
      refine (markTerms _ _ _ _ f0 1 XB.out.wr (by omega) (by omega) (by omega)).mono ?_
      rintro e wC ⟨rfl, hg, hz, _, _⟩
      have BC := Hid.mk' (bel_grown BB.out hg (fun k e => by cases e; exact B3.out.size))
      have SC := Hid.mk' (SB.out.grown hg (US.out.off (Nat.le_refl _)))
      have YC := Hid.mk' ((YB.out.wr).grown hg (.inr fun b off e => by cases e; have := z45.out; simp; omega))
      have GC := Hid.mk' (And.intro (GB.out.1.grown hg (FG.out.off (Nat.lt_trans z45.out z5.out))) (GB.out.2.1.grown hg (FG.out.off (Nat.lt_trans z45.out z5.out))))
      clear hg hz SB XB YB GB
      go_wp2_with fail
      refine (markTerms _ _ _ _ f1 (1 + 5 * n0) YC.out (by omega) (by omega) (by omega)).mono ?_
      rintro e wD ⟨rfl, hg, hz, _, _⟩
      have BD := Hid.mk' (bel_grown BC.out hg (fun k e => by cases e; exact B4.out.size))
      have SD := Hid.mk' (SC.out.grown hg (US.out.off (Nat.le_of_lt z45.out)))
      have GD := Hid.mk' (And.intro (GC.out.1.grown hg (FG.out.off z5.out)) (GC.out.2.grown hg (FG.out.off z5.out)))
      have kp : Hid ((0 : Int) ≤ 1 + 5 * n0 + 5 * n1) := by show _ ≤ _; omega
      have dk : decide ((1 : Int) + 5 * n0 + 5 * n1 < 0) = false := decide_eq_false (by omega)
      clear hg hz SC YC GC
      go_wp2_with fail
      refine (eqTerms _ _ _ _ _ _ _ _ _ GD.out.1 SD.out).mono ?_
      rw [termsEq_same]
      rintro e wE ⟨rfl, hb⟩
      have BE := Hid.mk' (bel_next BD.out hb)
      have SE := Hid.mk' (SD.out.below hb)
      have GE := Hid.mk' (And.intro (GD.out.1.below hb) (GD.out.2.below hb))
      clear hb SD GD
      go_wp2_with fail
      refine (markTerms _ _ _ _ _ 1 GE.out.2 (by omega) (by omega) (by omega)).mono ?_
      rintro e wF ⟨rfl, hg, hz, hw, hsame⟩
      have BF : Hid (Below w.heap.size w wF) := by
        by_cases hl : (sprPoly x0 f0 n0 f1 n1).1.length = 0
        · rw [hsame hl]; exact BE.out
        · refine bel_grown BE.out hg (fun k e => ?_)
          rcases FG.out with h | h
          · exact absurd h hl
          · rcases GE.out.2 with h' | ⟨g, off, _, _, rfl, _⟩
            · exact absurd h' hl
            · cases e
              exact Nat.le_trans B5.out.size (h g off rfl)
      have SF : Hid (Rd wF asp (sprPoly x0 f0 n0 f1 n1).1.length csp (lf (sprPoly x0 f0 n0 f1 n1).1)) := by
        by_cases hl : (sprPoly x0 f0 n0 f1 n1).1.length = 0
        · rw [hsame hl]; exact SE.out
        · exact SE.out.grown hg (apart (US.out.mono (Nat.le_of_lt (Nat.lt_trans z45.out z5.out))) FG.out hl GE.out.2)
      have GF := Hid.mk' (hw.rd GE.out.1.1 (by omega))
      have kq : decide ((1 : Int) + 5 * ((sprPoly x0 f0 n0 f1 n1).1.length : Int) < 0) = false := decide_eq_false (by omega)
      clear hg hz hw hsame SE GE
      go_wp2_with fail
      refine (heldTerms _ _ _ _ 1 GF.out (by omega) (by omega)).mono ?_
      rintro e w' ⟨rfl, hw'⟩
      obtain rfl := hw'.symm
      clear hw'
      go_wp2_with fail
      refine (toTerms _ _ _ _ f0 (R0.out.below BF.out)).mono ?_
      rintro e wG ⟨rfl, hb, ho⟩
      have BG := Hid.mk' (bel_next BF.out hb)
      have SG := Hid.mk' (SF.out.below hb)
      have GG := Hid.mk' (GF.out.below hb)
      have OG := Hid.mk' ho
      clear hb ho SF GF
      go_wp2_with fail
      refine (toTerms _ _ _ _ f1 (R1.out.below BG.out)).mono ?_
      rintro e wH ⟨rfl, hb, ho⟩
      have BH := Hid.mk' (bel_next BG.out hb)
      have SH := Hid.mk' (SG.out.below hb)
      have GH := Hid.mk' (GG.out.below hb)
      have OH := Hid.mk' (OG.out.below hb OG.out.lt)
      have PH := Hid.mk' ho
      clear hb ho SG GG OG
      go_wp2_with fail
      refine (sprPolyI _ _ _ _ _ _ _ _ f0 f1 (OH.out.rd k0) (PH.out.rd k1)).mono ?_
      rintro e wI ⟨ah, ch, rfl, hb, hg⟩
      have BI := Hid.mk' (bel_next BH.out hb)
      have SI := Hid.mk' (SH.out.below hb)
      have GI := Hid.mk' (GH.out.below hb)
      have HI := Hid.mk' hg.1
      clear hb hg SH GH OH PH
      go_wp2_with fail
      refine (eqTerms _ _ _ _ _ _ _ _ _ HI.out SI.out).mono ?_
      rw [termsEq_same]
      rintro e wJ ⟨rfl, hb⟩
      have BJ := Hid.mk' (bel_next BI.out hb)
      have GJ := Hid.mk' (GI.out.below hb)
      clear hb SI GI HI
      go_wp2_with fail
      refine (heldTerms _ _ _ _ 1 GJ.out (by omega) (by omega)).mono ?_
      rintro e w' ⟨rfl, hw'⟩
      obtain rfl := hw'.symm
      clear hw'
      go_wp2
      go_ret
      exact ⟨rfl, BJ.out⟩
    · have s0 : (0 : Int) ≤ 1048576 - n0 := by omega
      have s1 : (1048576 : Int) - n0 - n1 < 0 := by omega
      clear h0 h1
      go_enter Tryz.func3, Tryz.ntmps3
      go_wp2_with fail
      refine (szTerms _ _ _ _ _ m0 (by omega) (by omega)).mono ?_
      rw [if_neg (Int.not_lt.2 s0)]
      rintro e w' ⟨rfl, hw'⟩
      obtain rfl := hw'.symm
      clear hw'
      go_wp2_with fail
      refine (szTerms _ _ _ _ _ m1 (by omega) (by omega)).mono ?_
      rw [if_pos s1]
      rintro e w' ⟨rfl, hw'⟩
      obtain rfl := hw'.symm
      clear hw'
      go_wp2
      go_ret
      exact ⟨rfl, Below.refl _ _⟩
  · have s0 : (1048576 : Int) - n0 < 0 := by omega
    clear h0 h1
    go_enter Tryz.func3, Tryz.ntmps3
    go_wp2_with fail
    refine (szTerms _ _ _ _ _ m0 (by omega) (by omega)).mono ?_
    rw [if_pos s0]
    rintro e w' ⟨rfl, rfl⟩
    go_wp2
    go_ret
    exact ⟨rfl, Below.refl _ _⟩
theorem own : ownKnob Tryz.prog.godebug = none := by kernel_rfl
theorem laidOut : laidOutB Tryz.prog = true := by kernel_rfl
set_option maxRecDepth 100000 in
theorem lifted (os : Os) (started : os.Started) (H : Type) (enc : TypeId × Value → H) :
    ReturnsInHanded {} Tryz.checked os 3 .any (Rows.fnExactSprPolySpec.pre6 enc Tryz.prog Tryz.f3 Rows.fnExactSprPolyRow.domain false) (Rows.fnExactSprPolySpec.post enc Tryz.prog Tryz.f3 false true false false) := by
  refine returnsInHanded_of_change (C := Tryz.checked) own started (by kernel_rfl) Tryz.func3
    (ChangeSpec.witness6 (enc := enc) (C := Tryz.checked) false ⟨#[], #[.int .i64 0, .slice none 0 0, .slice none 0 0], []⟩ 8 (by kernel_rfl) (by kernel_rfl) (by kernel_rfl) (by kernel_rfl)) ?_
  intro W base args ds gs before hval0 hW hcnd _
  have hval : ∀ (j : Nat) t v, Tryz.f3.params[j]? = some t → args[j]? = some v → Value.okWide Tryz.prog W .any base t v := hval0
  have hW' := hW
  obtain ⟨p, q, hA0, hV, rfl, hfz, hnd⟩ := hW
  have hA : DataW.TrodAll enc Tryz.prog W 0 (fun _ => true) true Tryz.f3.params.toList args.toList ds p := hA0
  rw [Tryz.params3] at hA hval
  obtain ⟨v0, vs0, d0, ds0, p0, q0, hargs, rfl, rfl, h0, r0⟩ := trodAll_cons hA
  obtain ⟨v1, vs1, d1, ds1, p1, q1, rfl, rfl, rfl, h1, r1⟩ := trodAll_cons r0
  obtain ⟨v2, vs2, d2, ds2, p2, q2, rfl, rfl, rfl, h2, r2⟩ := trodAll_cons r1
  obtain ⟨rfl, rfl, rfl⟩ := trodAll_nil r2
  obtain rfl : args = #[v0, v1, v2] := by cases args; simp_all
  obtain ⟨rfl, rfl⟩ := trodVars_none hV
  obtain ⟨x0, rfl, rfl, rfl, w0⟩ := open_int Tryz.underlying3 (hval 0 3 v0 rfl rfl) h0
  obtain ⟨a1, n1, c1, rfl⟩ := okWide_slice Tryz.underlying22 (hval 1 22 v1 rfl rfl)
  have k1 := h1
  have lt1 : ∀ x ∈ p1, x.block < W.heap.size := by obtain ⟨m, hm⟩ := k1; exact DataW.trod_lt m _ _ _ hm
  obtain ⟨f1, w1⟩ : ∃ f, IsTerms W a1 n1 c1 f := by
    obtain ⟨fuel, hf⟩ := h1
    exact terms_open hf
  obtain ⟨a2, n2, c2, rfl⟩ := okWide_slice Tryz.underlying22 (hval 2 22 v2 rfl rfl)
  have k2 := h2
  have lt2 : ∀ x ∈ p2, x.block < W.heap.size := by obtain ⟨m, hm⟩ := k2; exact DataW.trod_lt m _ _ _ hm
  obtain ⟨f2, w2⟩ : ∃ f, IsTerms W a2 n2 c2 f := by
    obtain ⟨fuel, hf⟩ := h2
    exact terms_open hf
  clear hA0 hval0
  refine (walk x0 a1 n1 c1 f1 a2 n2 c2 f2 W w1 w2).mono fun e W' ⟨he, bel⟩ => ?_
  subst he
  exact ⟨_, rfl, _, _, _, [], _, [], hW', trodAll_mk1 (shut_bool Tryz.underlying4 _), (trodAll_cons_mk (shut_int Tryz.underlying3 w0) (trodAll_cons_mk (Below.trod laidOut (by kernel_rfl) (of_decide_eq_true (by kernel_rfl)) k1 bel lt1) (trodAll_cons_mk (Below.trod laidOut (by kernel_rfl) (of_decide_eq_true (by kernel_rfl)) k2 bel lt2) trodAll_mk0))), rfl, bel.frame _, fun h => by cases h⟩
theorem over : Rows.fnExactSprPolyRow.holds Tryz.pinned (OpenSpec.ofChange Rows.fnExactSprPolySpec) :=
  OpenClaim.holds_of_wide 3 Tryz.f3 rfl rfl rfl rfl rfl rfl rfl ⟨rfl, rfl, rfl, rfl, rfl⟩ rfl rfl rfl rfl rfl (by kernel_rfl) Tryz.func3 (by kernel_rfl)
    (of_decide_eq_true (by kernel_rfl)) (by unfold Func.isWrapper; first | (rw [if_pos (by decide +kernel)]; kernel_rfl) | (rw [if_neg (by decide +kernel)]; exact ⟨rfl, rfl⟩))
    (fun os started H enc _ => lifted os started H enc)
end Go.Proofs.YtllfgoepfeoclaaGreat.fnExactSprPoly
namespace Go.Proofs.YtllfgoepfeoclaaGreat
theorem fnExactSprPoly_holds : Rows.FnExactSprPolySaid := fnExactSprPoly.over
#print axioms fnExactSprPoly_holds
end Go.Proofs.YtllfgoepfeoclaaGreat
