/-
  FnExactFilSymbol: at every argument the program answers as its model; it writes into no argument, and its answer owns its memory.
-/
import Derived.Test.YtioecpiogpjlaaaExact
import Derived.Test.YtioecpiogpjlaaaFilS
import Derived.ProofKit
import Derived.OpenShut
import Derived.Deep.RegionHeld3
import Derived.Deep.Light
namespace Go.Proofs.Ytioecpiogpjlaaa.fnExactFilSymbol
open Go.ChangeShapes Go.WideShapes Go.ChangeAt Go.RowKit Go.Deep Go.Joins
set_option linter.unusedVariables false

set_option maxRecDepth 100000 in
set_option maxHeartbeats 8000000 in
theorem walk (a0 : Option Addr) (n0 c0 : Nat) (f0 : Nat → T) (w : World) (h0 : IsTerms w a0 n0 c0 f0) :
    Calls Try.prog 6 #[.slice a0 n0 c0] w fun e w' => e = .returned (.bool true) ∧ Below w.heap.size w w' := by
  have m0 : (n0 : Int) ≤ 9223372036854775807 := by have := h0.1; have := h0.2.1; unfold maxLen at this; omega
  by_cases b0 : (n0 : Int) ≤ 1048576
  · have R0 := Hid.mk' (h0.rd (by omega))
    have k0 : n0 * 40 ≤ 140737488351232 := by omega
    have s0 : (0 : Int) ≤ 1048576 - n0 := by omega
    have lenL : (filSymbol f0 n0).length ≤ 400 := filSymbol_len _ _
    clear h0
    go_enter Try.func6, Try.ntmps6
    go_wp2_with fail
    refine (szTerms _ _ _ _ _ m0 (by omega) (by omega)).mono ?_
    rw [if_neg (Int.not_lt.2 s0)]
    rintro e w' ⟨rfl, hw'⟩
    obtain rfl := hw'.symm
    clear hw'
    go_wp2_with fail
    refine (toTerms _ _ _ _ f0 R0.out).mono ?_
    rintro e w2 ⟨rfl, hb, ho⟩
    have B2 := Hid.mk' hb
    have Q1 := Hid.mk' ho
    clear hb ho
    go_wp2_with fail
    refine (filSymbolS _ _ _ _ f0 (Q1.out.rd k0)).mono ?_
    rintro e w3 ⟨vs, rfl, hb, hown⟩
    obtain ⟨asp, csp, rfl, hout⟩ := out_of_owns hown (by omega)
    have B3 := Hid.mk' (bel_next B2.out hb)
    have S3 := Hid.mk' hout.1
    have US := Hid.mk' hout.1.under
    clear hb hown hout Q1
    go_wp2_with fail
    refine (toTerms _ _ _ _ f0 (R0.out.below B3.out)).mono ?_
    rintro e w5 ⟨rfl, hb, ho⟩
    have B5 := Hid.mk' (bel_next B3.out hb)
    have S5 := Hid.mk' (S3.out.below hb)
    have X5 := Hid.mk' ho
    have z5 : Hid (w3.heap.size < w5.heap.size) := ho.lt
    clear hb ho S3
    go_wp2_with fail
    refine (filSymbolI _ _ _ _ f0 (X5.out.rd k0)).mono ?_
    rintro e w6 ⟨ag, cg, rfl, hb, hg⟩
    have B6 := Hid.mk' (bel_next B5.out hb)
    have S6 := Hid.mk' (S5.out.below hb)
    have X6 := Hid.mk' (X5.out.below hb X5.out.lt)
    have G6 := Hid.mk' hg
    have FG := Hid.mk' hg.from
    clear hb hg S5 X5
    go_wp2_with fail
    refine (eqTerms _ _ _ _ _ _ _ _ _ G6.out.1 S6.out).mono ?_
    rw [termsEq_same]
    rintro e w7 ⟨rfl, hb⟩
    have B7 := Hid.mk' (bel_next B6.out hb)
    have S7 := Hid.mk' (S6.out.below hb)
    have X7 := Hid.mk' (X6.out.below hb X6.out.lt)
    have G7 := Hid.mk' (G6.out.below hb)
    clear hb S6 X6 G6
    go_wp2_with fail
    refine (toTerms _ _ _ _ f0 (R0.out.below B7.out)).mono ?_
    rintro e w8 ⟨rfl, hb, ho⟩
    have B8 := Hid.mk' (bel_next B7.out hb)
    have S8 := Hid.mk' (S7.out.below hb)
    have X8 := Hid.mk' (X7.out.below hb X7.out.lt)
    have G8 := Hid.mk' (G7.out.below hb)
    have O8 := Hid.mk' ho
    clear hb ho S7 X7 G7
    go_wp2_with fail
    refine (eqTerms _ _ _ _ _ _ _ _ _ (X8.out.rd k0) (O8.out.rd k0)).mono ?_
    rw [termsEq_same]
    rintro e wB ⟨rfl, hb⟩
    have BB := Hid.mk' (bel_next B8.out hb)
    have SB := Hid.mk' (S8.out.below hb)
    have XB := Hid.mk' (X8.out.below hb X8.out.lt)
    have GB := Hid.mk' (G8.out.below hb)
    clear hb S8 X8 G8 O8
    go_wp2_with fail
    refine (markTerms _ _ _ _ f0 1 XB.out.wr (by omega) (by omega) (by omega)).mono ?_
    rintro e wD ⟨rfl, hg, hz, _, _⟩
    have BD := Hid.mk' (bel_grown BB.out hg (fun k e => by cases e; exact B3.out.size))
    have SD := Hid.mk' (SB.out.grown hg (US.out.off (Nat.le_refl _)))
    have GD := Hid.mk' (And.intro (GB.out.1.grown hg (FG.out.off z5.out)) (GB.out.2.1.grown hg (FG.out.off z5.out)))
    have kp : Hid ((0 : Int) ≤ 1 + 5 * n0) := by show _ ≤ _; omega
    have dk : decide ((1 : Int) + 5 * n0 < 0) = false := decide_eq_false (by omega)
    clear hg hz SB XB GB
    go_wp2_with fail
    refine (eqTerms _ _ _ _ _ _ _ _ _ GD.out.1 SD.out).mono ?_
    rw [termsEq_same]
    rintro e wE ⟨rfl, hb⟩
    have BE := Hid.mk' (bel_next BD.out hb)
    have SE := Hid.mk' (SD.out.below hb)
    have GE := Hid.mk' (And.intro (GD.out.1.below hb) (GD.out.2.below hb))
    clear hb SD GD
    go_wp2_with fail
    refine (markTerms _ _ _ _ _ 1 GE.out.2 (by omega) (by omega) (by omega)).mono ?_
    rintro e wF ⟨rfl, hg, hz, hw, hsame⟩
    have BF : Hid (Below w.heap.size w wF) := by
      by_cases hl : (filSymbol f0 n0).length = 0
      · rw [hsame hl]; exact BE.out
      · refine bel_grown BE.out hg (fun k e => ?_)
        rcases FG.out with h | h
        · exact absurd h hl
        · rcases GE.out.2 with h' | ⟨g, off, _, _, rfl, _⟩
          · exact absurd h' hl
          · cases e
            exact Nat.le_trans B5.out.size (h g off rfl)
    have SF : Hid (Rd wF asp (filSymbol f0 n0).length csp (lf (filSymbol f0 n0))) := by
      by_cases hl : (filSymbol f0 n0).length = 0
      · rw [hsame hl]; exact SE.out
      · exact SE.out.grown hg (apart (US.out.mono (Nat.le_of_lt z5.out)) FG.out hl GE.out.2)
    have GF := Hid.mk' (hw.rd GE.out.1.1 (by omega))
    have kq : decide ((1 : Int) + 5 * ((filSymbol f0 n0).length : Int) < 0) = false := decide_eq_false (by omega)
    clear hg hz hw hsame SE GE
    go_wp2_with fail
    refine (heldTerms _ _ _ _ 1 GF.out (by omega) (by omega)).mono ?_
    rintro e w' ⟨rfl, hw'⟩
    obtain rfl := hw'.symm
    clear hw'
    go_wp2_with fail
    refine (toTerms _ _ _ _ f0 (R0.out.below BF.out)).mono ?_
    rintro e wH ⟨rfl, hb, ho⟩
    have BH := Hid.mk' (bel_next BF.out hb)
    have SH := Hid.mk' (SF.out.below hb)
    have GH := Hid.mk' (GF.out.below hb)
    have OH := Hid.mk' ho
    clear hb ho SF GF
    go_wp2_with fail
    refine (filSymbolI _ _ _ _ f0 (OH.out.rd k0)).mono ?_
    rintro e wI ⟨ah, ch, rfl, hb, hg⟩
    have BI := Hid.mk' (bel_next BH.out hb)
    have SI := Hid.mk' (SH.out.below hb)
    have GI := Hid.mk' (GH.out.below hb)
    have HI := Hid.mk' hg.1
    clear hb hg SH GH OH
    go_wp2_with fail
    refine (eqTerms _ _ _ _ _ _ _ _ _ HI.out SI.out).mono ?_
    rw [termsEq_same]
    rintro e wJ ⟨rfl, hb⟩
    have BJ := Hid.mk' (bel_next BI.out hb)
    have GJ := Hid.mk' (GI.out.below hb)
    clear hb SI GI HI
    go_wp2_with fail
    refine (heldTerms _ _ _ _ 1 GJ.out (by omega) (by omega)).mono ?_
    rintro e w' ⟨rfl, hw'⟩
    obtain rfl := hw'.symm
    clear hw'
    go_wp2
    go_ret
    exact ⟨rfl, BJ.out⟩
  · have s0 : (1048576 : Int) - n0 < 0 := by omega
    clear h0
    go_enter Try.func6, Try.ntmps6
    go_wp2_with fail
    refine (szTerms _ _ _ _ _ m0 (by omega) (by omega)).mono ?_
    rw [if_pos s0]
    rintro e w' ⟨rfl, rfl⟩
    go_wp2
    go_ret
    exact ⟨rfl, Below.refl _ _⟩
theorem own : ownKnob Try.prog.godebug = none := by kernel_rfl
theorem laidOut : laidOutB Try.prog = true := by kernel_rfl
set_option maxRecDepth 100000 in
theorem lifted (os : Os) (started : os.Started) (H : Type) (enc : TypeId × Value → H) :
    ReturnsInHanded {} Try.checked os 6 .any (Rows.fnExactFilSymbolSpec.pre6 enc Try.prog Try.f6 Rows.fnExactFilSymbolRow.domain false) (Rows.fnExactFilSymbolSpec.post enc Try.prog Try.f6 false true false false) := by
  refine returnsInHanded_of_change (C := Try.checked) own started (by kernel_rfl) Try.func6
    (ChangeSpec.witness6 (enc := enc) (C := Try.checked) false ⟨#[], #[.slice none 0 0], []⟩ 8 (by kernel_rfl) (by kernel_rfl) (by kernel_rfl) (by kernel_rfl)) ?_
  intro W base args ds gs before hval0 hW hcnd _
  have hval : ∀ (j : Nat) t v, Try.f6.params[j]? = some t → args[j]? = some v → Value.okWide Try.prog W .any base t v := hval0
  have hW' := hW
  obtain ⟨p, q, hA0, hV, rfl, hfz, hnd⟩ := hW
  have hA : DataW.TrodAll enc Try.prog W 0 (fun _ => true) true Try.f6.params.toList args.toList ds p := hA0
  rw [Try.params6] at hA hval
  obtain ⟨v0, vs0, d0, ds0, p0, q0, hargs, rfl, rfl, h0, r0⟩ := trodAll_cons hA
  obtain ⟨rfl, rfl, rfl⟩ := trodAll_nil r0
  obtain rfl : args = #[v0] := by cases args; simp_all
  obtain ⟨rfl, rfl⟩ := trodVars_none hV
  obtain ⟨a0, n0, c0, rfl⟩ := okWide_slice Try.underlying22 (hval 0 22 v0 rfl rfl)
  have k0 := h0
  have lt0 : ∀ x ∈ p0, x.block < W.heap.size := by obtain ⟨m, hm⟩ := k0; exact DataW.trod_lt m _ _ _ hm
  obtain ⟨f0, w0⟩ : ∃ f, IsTerms W a0 n0 c0 f := by
    obtain ⟨fuel, hf⟩ := h0
    exact terms_open hf
  clear hA0 hval0
  refine (walk a0 n0 c0 f0 W w0).mono fun e W' ⟨he, bel⟩ => ?_
  subst he
  exact ⟨_, rfl, _, _, _, [], _, [], hW', trodAll_mk1 (shut_bool Try.underlying4 _), (trodAll_cons_mk (Below.trod laidOut (by kernel_rfl) (of_decide_eq_true (by kernel_rfl)) k0 bel lt0) trodAll_mk0), rfl, bel.frame _, fun h => by cases h⟩
theorem over : Rows.fnExactFilSymbolRow.holds Try.pinned (OpenSpec.ofChange Rows.fnExactFilSymbolSpec) :=
  OpenClaim.holds_of_wide 6 Try.f6 rfl rfl rfl rfl rfl rfl rfl ⟨rfl, rfl, rfl, rfl, rfl⟩ rfl rfl rfl rfl rfl (by kernel_rfl) Try.func6 (by kernel_rfl)
    (of_decide_eq_true (by kernel_rfl)) (by unfold Func.isWrapper; first | (rw [if_pos (by decide +kernel)]; kernel_rfl) | (rw [if_neg (by decide +kernel)]; exact ⟨rfl, rfl⟩))
    (fun os started H enc _ => lifted os started H enc)
end Go.Proofs.Ytioecpiogpjlaaa.fnExactFilSymbol
namespace Go.Proofs.Ytioecpiogpjlaaa
theorem fnExactFilSymbol_holds : Rows.FnExactFilSymbolSaid := fnExactFilSymbol.over
#print axioms fnExactFilSymbol_holds
end Go.Proofs.Ytioecpiogpjlaaa
