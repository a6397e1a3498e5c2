/-
  FnExactPolAt: at every argument the program answers as its model; it writes into no argument, and its answer owns its memory.
-/
import Derived.Test.YtjedkkgmehflnauPolI2
import Derived.ProofKit
import Derived.OpenShut
import Derived.Deep.RegionHeld3
import Derived.Deep.Light
namespace Go.Proofs.Ytjedkkgmehflnau.fnExactPolAt
open Go.ChangeShapes Go.WideShapes Go.ChangeAt Go.RowKit Go.Deep Go.Joins
set_option linter.unusedVariables false

set_option maxRecDepth 100000 in
set_option maxHeartbeats 8000000 in
theorem walk (a0 : Option Addr) (n0 c0 : Nat) (f0 : Nat → T) (x1 y1 z1 u1 : Int) (w : World) (h0 : IsTerms w a0 n0 c0 f0) : Calls Try.prog 4 #[.slice a0 n0 c0, .agg #[.int .i64 x1, .int .i64 y1, .int .i64 z1, .int .i64 u1]] w fun e w' => e = .returned (.bool true) ∧ Below w.heap.size w w' := by
  have q0 : (n0 : Int) ≤ 9223372036854775807 := by have := h0.1; have := h0.2.1; unfold maxLen at this; omega
  by_cases b0 : (n0 : Int) ≤ 1048576
  · skip
    have B0 := Hid.mk' (bel_one w (.cells #[.int .i64 x1, .int .i64 y1, .int .i64 z1, .int .i64 u1] 32))
    have A0 := Hid.mk' (M4.box w 32 x1 y1 z1 u1)
    have R0 := Hid.mk' (h0.rd (by omega))
    have k0 : n0 * 40 ≤ 140737488351232 := by omega
    have s0 : (0 : Int) ≤ (1048576 : Int) - n0 := by omega
    clear h0
    have hne : (polAt f0 n0 ⟨x1, y1, z1, u1⟩ != polAt f0 n0 ⟨x1, y1, z1, u1⟩) = false := by simp
    go_enter Try.func4, Try.ntmps4
    go_wp2_with fail
    refine (szTerms _ _ _ _ _ q0 (by omega) (by omega)).mono ?_
    rw [if_neg (Int.not_lt.2 s0)]
    rintro e w' ⟨rfl, hw'⟩
    obtain rfl := hw'.symm
    clear hw'
    obtain ⟨m0, m1, m2, m3⟩ := A0.out
    go_wp2_with fail
    go_region_held3 (fun u => u.cell? ⟨w.heap.size, 0, none⟩ = some (.int .i64 x1) ∧ u.cell? ⟨w.heap.size, 1, none⟩ = some (.int .i64 y1) ∧ u.cell? ⟨w.heap.size, 2, none⟩ = some (.int .i64 z1) ∧ u.cell? ⟨w.heap.size, 3, none⟩ = some (.int .i64 u1)) (first | exact s4c_below hbc (by assumption) | exact s4c_below hbb (by assumption) | exact s4c_below hba (by assumption) | (go_light; refine ⟨?_, ?_, ?_, ?_⟩ <;> go_simp <;> done)) (first | (go_at_call 8; refine (toTerms _ _ _ _ f0 (R0.out.below B0.out.drew)).mono ?_; rintro e wa ⟨rfl, hba, hob⟩; have hoa : Own wa (w.heap.size + 1) n0 f0 := (by simpa using hob); clear hob) | (go_at_call 14; refine (toMon _ _ _ _ _).mono ?_; rintro e wb ⟨rfl, hbb⟩) | (go_at_call 13; refine (polAtS _ _ _ _ f0 _ _ _ _ ((hoa.below hbb hoa.lt).rd k0)).mono ?_; rintro e wc ⟨rfl, hbc⟩))
    have Bc := Hid.mk' (bel_next (bel_next (bel_next B0.out.drew hba) hbb) hbc)
    have Ac : Hid (M4 wc w.heap.size x1 y1 z1 u1) := M4.below (M4.below (M4.below A0.out.drew' hba) hbb) hbc
    clear m0 m1 m2 m3 hba hbb hbc hoa A0
    go_wp2_with fail
    refine (toTerms _ _ _ _ f0 (R0.out.below Bc.out)).mono ?_
    rintro e wd ⟨rfl, hb, ho⟩
    have Bd := Hid.mk' (bel_next Bc.out hb)
    have Ad := Hid.mk' (Ac.out.below hb)
    clear Ac
    have Xd := Hid.mk' (ho)
    clear hb
    clear ho
    obtain ⟨m0, m1, m2, m3⟩ := Ad.out
    go_wp2_with fail
    refine (toMon _ _ _ _ _).mono ?_
    rintro e we ⟨rfl, hb⟩
    clear m0 m1 m2 m3
    have Be := Hid.mk' (bel_next Bd.out hb)
    have Ae := Hid.mk' (Ad.out.below hb)
    clear Ad
    have Xe := Hid.mk' (Xd.out.below hb Xd.out.lt)
    clear Xd
    clear hb
    go_wp2_with fail
    refine (polAtI _ _ _ _ f0 _ _ _ _ (Xe.out.rd k0)).mono ?_
    rintro e wf ⟨rfl, hb⟩
    have Bf := Hid.mk' (bel_next Be.out hb)
    clear Ae
    have Xf := Hid.mk' (Xe.out.below hb Xe.out.lt)
    clear Xe
    clear hb
    go_wp2_with fail
    refine (toTerms _ _ _ _ f0 (R0.out.below Bf.out)).mono ?_
    rintro e wg ⟨rfl, hb, ho⟩
    have Bg := Hid.mk' (bel_next Bf.out hb)
    have Xg := Hid.mk' (Xf.out.below hb Xf.out.lt)
    clear Xf
    have Zg := Hid.mk' (ho)
    clear hb
    clear ho
    go_wp2_with fail
    refine (eqTerms _ _ _ _ _ _ _ _ _ (Xg.out.rd k0) (Zg.out.rd k0)).mono ?_
    rw [termsEq_same]
    rintro e wh ⟨rfl, hb⟩
    have Bh := Hid.mk' (bel_next Bg.out hb)
    clear Xg
    clear Zg
    clear hb
    go_wp2
    go_ret
    exact ⟨rfl, Bh.out⟩
  · skip
    have s0 : (1048576 : Int) - n0 < 0 := by omega
    clear h0
    go_enter Try.func4, Try.ntmps4
    go_wp2_with fail
    refine (szTerms _ _ _ _ _ q0 (by omega) (by omega)).mono ?_
    rw [if_pos s0]
    rintro e w' ⟨rfl, hw'⟩
    obtain rfl := hw'.symm
    clear hw'
    go_wp2
    go_ret
    exact ⟨rfl, (bel_one w (.cells #[.int .i64 x1, .int .i64 y1, .int .i64 z1, .int .i64 u1] 32))⟩
theorem own : ownKnob Try.prog.godebug = none := by kernel_rfl
theorem laidOut : laidOutB Try.prog = true := by kernel_rfl
set_option maxRecDepth 100000 in
theorem lifted (os : Os) (started : os.Started) (H : Type) (enc : TypeId × Value → H) :
    ReturnsInHanded {} Try.checked os 4 .any (Rows.fnExactPolAtSpec.pre6 enc Try.prog Try.f4 Rows.fnExactPolAtRow.domain false) (Rows.fnExactPolAtSpec.post enc Try.prog Try.f4 false true false false) := by
  refine returnsInHanded_of_change (C := Try.checked) own started (by kernel_rfl) Try.func4
    (ChangeSpec.witness6 (enc := enc) (C := Try.checked) false ⟨#[], #[.slice none 0 0, .agg #[.int .i64 0, .int .i64 0, .int .i64 0, .int .i64 0]], []⟩ 8 (by kernel_rfl) (by kernel_rfl) (by kernel_rfl) (by kernel_rfl)) ?_
  intro W base args ds gs before hval0 hW hcnd _
  have hval : ∀ (j : Nat) t v, Try.f4.params[j]? = some t → args[j]? = some v → Value.okWide Try.prog W .any base t v := hval0
  have hW' := hW
  obtain ⟨p, q, hA0, hV, rfl, hfz, hnd⟩ := hW
  have hA : DataW.TrodAll enc Try.prog W 0 (fun _ => true) true Try.f4.params.toList args.toList ds p := hA0
  rw [Try.params4] at hA hval
  obtain ⟨v0, vs0, d0, ds0, p0, q0, hargs, rfl, rfl, h0, r0⟩ := trodAll_cons hA
  obtain ⟨v1, vs1, d1, ds1, p1, q1, rfl, rfl, rfl, h1, r1⟩ := trodAll_cons r0
  obtain ⟨rfl, rfl, rfl⟩ := trodAll_nil r1
  obtain rfl : args = #[v0, v1] := by cases args; simp_all
  obtain ⟨rfl, rfl⟩ := trodVars_none hV
  obtain ⟨a0, n0, c0, rfl⟩ := okWide_slice Try.underlying22 (hval 0 22 v0 rfl rfl)
  have k0 := h0
  have lt0 : ∀ x ∈ p0, x.block < W.heap.size := by obtain ⟨m, hm⟩ := k0; exact DataW.trod_lt m _ _ _ hm
  obtain ⟨f0, w0⟩ : ∃ f, IsTerms W a0 n0 c0 f := by
    obtain ⟨fuel, hf⟩ := h0
    exact terms_open hf
  have k1 := h1
  have lt1 : ∀ x ∈ p1, x.block < W.heap.size := by obtain ⟨m, hm⟩ := k1; exact DataW.trod_lt m _ _ _ hm
  obtain ⟨x1, y1, z1, u1, rfl⟩ := mon_open (hval 1 32 v1 rfl rfl) h1
  clear hA0 hval0
  refine (walk a0 n0 c0 f0 x1 y1 z1 u1 W w0).mono fun e W' ⟨he, bel⟩ => ?_
  subst he
  exact ⟨_, rfl, _, _, _, [], _, [], hW', trodAll_mk1 (shut_bool Try.underlying4 _), (trodAll_cons_mk (Below.trod laidOut (by kernel_rfl) (of_decide_eq_true (by kernel_rfl)) k0 bel lt0) (trodAll_cons_mk (Below.trod laidOut (by kernel_rfl) (of_decide_eq_true (by kernel_rfl)) k1 bel lt1) trodAll_mk0)), rfl, bel.frame _, fun h => by cases h⟩
theorem over : Rows.fnExactPolAtRow.holds Try.pinned (OpenSpec.ofChange Rows.fnExactPolAtSpec) :=
  OpenClaim.holds_of_wide 4 Try.f4 rfl rfl rfl rfl rfl rfl rfl ⟨rfl, rfl, rfl, rfl, rfl⟩ rfl rfl rfl rfl rfl (by kernel_rfl) Try.func4 (by kernel_rfl)
    (of_decide_eq_true (by kernel_rfl)) (by unfold Func.isWrapper; first | (rw [if_pos (by decide +kernel)]; kernel_rfl) | (rw [if_neg (by decide +kernel)]; exact ⟨rfl, rfl⟩))
    (fun os started H enc _ => lifted os started H enc)
end Go.Proofs.Ytjedkkgmehflnau.fnExactPolAt
namespace Go.Proofs.Ytjedkkgmehflnau
theorem fnExactPolAt_holds : Rows.FnExactPolAtSaid := fnExactPolAt.over
#print axioms fnExactPolAt_holds
end Go.Proofs.Ytjedkkgmehflnau
