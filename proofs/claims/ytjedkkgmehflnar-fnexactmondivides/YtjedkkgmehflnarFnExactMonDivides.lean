/-
  FnExactMonDivides: at every argument the program answers as its model, and writes into none.
-/
import Derived.Test.YtjedkkgmehflnarMonoI2
import Derived.Test.YtjedkkgmehflnarOpenM
import Derived.ProofKit
import Derived.OpenShut
namespace Go.Proofs.Ytjedkkgmehflnar.fnExactMonDivides
open Go.ChangeShapes Go.WideShapes Go.ChangeAt Go.RowKit Go.Deep Go.Joins
set_option linter.unusedVariables false

set_option maxRecDepth 100000 in
set_option maxHeartbeats 4000000 in
theorem walk (x0 y0 z0 u0 x1 y1 z1 u1 : Int) (w : World) : Calls Try.prog 8 #[.agg #[.int .i64 x0, .int .i64 y0, .int .i64 z0, .int .i64 u0], .agg #[.int .i64 x1, .int .i64 y1, .int .i64 z1, .int .i64 u1]] w fun e w' => e = .returned (.bool true) ∧ Below w.heap.size w w' := by
  have hne : (M.dvd ⟨x0, y0, z0, u0⟩ ⟨x1, y1, z1, u1⟩ != M.dvd ⟨x0, y0, z0, u0⟩ ⟨x1, y1, z1, u1⟩) = false := by simp
  have A0 := Hid.mk' ((M4.box w 25 x0 y0 z0 u0).alloc (.cells #[.int .i64 x1, .int .i64 y1, .int .i64 z1, .int .i64 u1] 25))
  have C0 := Hid.mk' (M4.box (w.alloc (.cells #[.int .i64 x0, .int .i64 y0, .int .i64 z0, .int .i64 u0] 25)) 25 x1 y1 z1 u1)
  have B0 := Hid.mk' (bel_two w (.cells #[.int .i64 x0, .int .i64 y0, .int .i64 z0, .int .i64 u0] 25) (.cells #[.int .i64 x1, .int .i64 y1, .int .i64 z1, .int .i64 u1] 25))
  rw [World.size_alloc] at C0
  go_enter Try.func8, Try.ntmps8
  go_wp2_with fail
  have ne := Ext.there ((w.alloc (.cells #[.int .i64 x0, .int .i64 y0, .int .i64 z0, .int .i64 u0] 25)).alloc (.cells #[.int .i64 x1, .int .i64 y1, .int .i64 z1, .int .i64 u1] 25))
  have s00 : ∀ u : Ext ((w.alloc (.cells #[.int .i64 x0, .int .i64 y0, .int .i64 z0, .int .i64 u0] 25)).alloc (.cells #[.int .i64 x1, .int .i64 y1, .int .i64 z1, .int .i64 u1] 25)), u.1.cell? ⟨w.heap.size, 0, none⟩ = some (.int .i64 x0) := fun u => (u.cell A0.out.lt).trans A0.out.1
  have t00 : ∀ u : Ext ((w.alloc (.cells #[.int .i64 x0, .int .i64 y0, .int .i64 z0, .int .i64 u0] 25)).alloc (.cells #[.int .i64 x1, .int .i64 y1, .int .i64 z1, .int .i64 u1] 25)), u.1.cell? ⟨w.heap.size + 1, 0, none⟩ = some (.int .i64 x1) := fun u => (u.cell C0.out.lt).trans C0.out.1
  have s01 : ∀ u : Ext ((w.alloc (.cells #[.int .i64 x0, .int .i64 y0, .int .i64 z0, .int .i64 u0] 25)).alloc (.cells #[.int .i64 x1, .int .i64 y1, .int .i64 z1, .int .i64 u1] 25)), u.1.cell? ⟨w.heap.size, 1, none⟩ = some (.int .i64 y0) := fun u => (u.cell A0.out.lt).trans A0.out.2.1
  have t01 : ∀ u : Ext ((w.alloc (.cells #[.int .i64 x0, .int .i64 y0, .int .i64 z0, .int .i64 u0] 25)).alloc (.cells #[.int .i64 x1, .int .i64 y1, .int .i64 z1, .int .i64 u1] 25)), u.1.cell? ⟨w.heap.size + 1, 1, none⟩ = some (.int .i64 y1) := fun u => (u.cell C0.out.lt).trans C0.out.2.1
  have s02 : ∀ u : Ext ((w.alloc (.cells #[.int .i64 x0, .int .i64 y0, .int .i64 z0, .int .i64 u0] 25)).alloc (.cells #[.int .i64 x1, .int .i64 y1, .int .i64 z1, .int .i64 u1] 25)), u.1.cell? ⟨w.heap.size, 2, none⟩ = some (.int .i64 z0) := fun u => (u.cell A0.out.lt).trans A0.out.2.2.1
  have t02 : ∀ u : Ext ((w.alloc (.cells #[.int .i64 x0, .int .i64 y0, .int .i64 z0, .int .i64 u0] 25)).alloc (.cells #[.int .i64 x1, .int .i64 y1, .int .i64 z1, .int .i64 u1] 25)), u.1.cell? ⟨w.heap.size + 1, 2, none⟩ = some (.int .i64 z1) := fun u => (u.cell C0.out.lt).trans C0.out.2.2.1
  have s03 : ∀ u : Ext ((w.alloc (.cells #[.int .i64 x0, .int .i64 y0, .int .i64 z0, .int .i64 u0] 25)).alloc (.cells #[.int .i64 x1, .int .i64 y1, .int .i64 z1, .int .i64 u1] 25)), u.1.cell? ⟨w.heap.size, 3, none⟩ = some (.int .i64 u0) := fun u => (u.cell A0.out.lt).trans A0.out.2.2.2
  have t03 : ∀ u : Ext ((w.alloc (.cells #[.int .i64 x0, .int .i64 y0, .int .i64 z0, .int .i64 u0] 25)).alloc (.cells #[.int .i64 x1, .int .i64 y1, .int .i64 z1, .int .i64 u1] 25)), u.1.cell? ⟨w.heap.size + 1, 3, none⟩ = some (.int .i64 u1) := fun u => (u.cell C0.out.lt).trans C0.out.2.2.2
  refine wp_region_ext (by kernel_rfl) (by kernel_rfl) ?_
  repeat (go_big_quiet_step (first | (go_at_call 12; exact ext_grows (toMon _ _ _ _ _)) | (go_at_call 21; exact ext_grows (monDividesS _ _ _ _ _ _ _ _  _))))
  refine wpQuiet_nil ?_
  rintro _ ⟨v0, rfl⟩
  have B1 := Hid.mk' (bel_next B0.out v0.2)
  have A1 := Hid.mk' (A0.out.below v0.2)
  have C1 := Hid.mk' (C0.out.below v0.2)
  obtain ⟨v0, e0⟩ : ∃ v, v0.1 = v := ⟨_, rfl⟩
  rw [e0] at B1 A1 C1 ⊢
  clear ne e0 s00 t00 s01 t01 s02 t02 s03 t03
  go_wp2_with fail
  have ne := Ext.there v0
  have s10 : ∀ u : Ext v0, u.1.cell? ⟨w.heap.size, 0, none⟩ = some (.int .i64 x0) := fun u => (u.cell A1.out.lt).trans A1.out.1
  have t10 : ∀ u : Ext v0, u.1.cell? ⟨w.heap.size + 1, 0, none⟩ = some (.int .i64 x1) := fun u => (u.cell C1.out.lt).trans C1.out.1
  have s11 : ∀ u : Ext v0, u.1.cell? ⟨w.heap.size, 1, none⟩ = some (.int .i64 y0) := fun u => (u.cell A1.out.lt).trans A1.out.2.1
  have t11 : ∀ u : Ext v0, u.1.cell? ⟨w.heap.size + 1, 1, none⟩ = some (.int .i64 y1) := fun u => (u.cell C1.out.lt).trans C1.out.2.1
  have s12 : ∀ u : Ext v0, u.1.cell? ⟨w.heap.size, 2, none⟩ = some (.int .i64 z0) := fun u => (u.cell A1.out.lt).trans A1.out.2.2.1
  have t12 : ∀ u : Ext v0, u.1.cell? ⟨w.heap.size + 1, 2, none⟩ = some (.int .i64 z1) := fun u => (u.cell C1.out.lt).trans C1.out.2.2.1
  have s13 : ∀ u : Ext v0, u.1.cell? ⟨w.heap.size, 3, none⟩ = some (.int .i64 u0) := fun u => (u.cell A1.out.lt).trans A1.out.2.2.2
  have t13 : ∀ u : Ext v0, u.1.cell? ⟨w.heap.size + 1, 3, none⟩ = some (.int .i64 u1) := fun u => (u.cell C1.out.lt).trans C1.out.2.2.2
  refine wp_region_ext (by kernel_rfl) (by kernel_rfl) ?_
  repeat (go_big_quiet_step (first | (go_at_call 12; exact ext_grows (toMon _ _ _ _ _)) | (go_at_call 22; exact ext_grows (monDividesI _ _ _ _ _ _ _ _  _))))
  refine wpQuiet_nil ?_
  rintro _ ⟨v1, rfl⟩
  have B2 := Hid.mk' (bel_next B1.out v1.2)
  go_wp2
  go_ret
  exact ⟨rfl, B2.out⟩
theorem own : ownKnob Try.prog.godebug = none := by kernel_rfl
theorem laidOut : laidOutB Try.prog = true := by kernel_rfl
set_option maxRecDepth 100000 in
theorem lifted (os : Os) (started : os.Started) (H : Type) (enc : TypeId × Value → H) :
    ReturnsInHanded {} Try.checked os 8 .any (Rows.fnExactMonDividesSpec.pre6 enc Try.prog Try.f8 Rows.fnExactMonDividesRow.domain false) (Rows.fnExactMonDividesSpec.post enc Try.prog Try.f8 false true false false) := by
  refine returnsInHanded_of_change (C := Try.checked) own started (by kernel_rfl) Try.func8
    (ChangeSpec.witness6 (enc := enc) (C := Try.checked) false ⟨#[], #[.agg #[.int .i64 0, .int .i64 0, .int .i64 0, .int .i64 0], .agg #[.int .i64 0, .int .i64 0, .int .i64 0, .int .i64 0]], []⟩ 8 (by kernel_rfl) (by kernel_rfl) (by kernel_rfl) (by kernel_rfl)) ?_
  intro W base args ds gs before hval0 hW hcnd _
  have hval : ∀ (j : Nat) t v, Try.f8.params[j]? = some t → args[j]? = some v → Value.okWide Try.prog W .any base t v := hval0
  have hW' := hW
  obtain ⟨p, q, hA0, hV, rfl, hfz, hnd⟩ := hW
  have hA : DataW.TrodAll enc Try.prog W 0 (fun _ => true) true Try.f8.params.toList args.toList ds p := hA0
  rw [Try.params8] at hA hval
  obtain ⟨v0, vs0, d0, ds0, p0, q0, hargs, rfl, rfl, h0, r0⟩ := trodAll_cons hA
  obtain ⟨v1, vs1, d1, ds1, p1, q1, rfl, rfl, rfl, h1, r1⟩ := trodAll_cons r0
  obtain ⟨rfl, rfl, rfl⟩ := trodAll_nil r1
  obtain rfl : args = #[v0, v1] := by cases args; simp_all
  obtain ⟨rfl, rfl⟩ := trodVars_none hV
  have k0 := h0
  have lt0 : ∀ x ∈ p0, x.block < W.heap.size := by obtain ⟨m, hm⟩ := k0; exact DataW.trod_lt m _ _ _ hm
  obtain ⟨x0, y0, z0, u0, rfl⟩ := mon_open (hval 0 25 v0 rfl rfl) h0
  have k1 := h1
  have lt1 : ∀ x ∈ p1, x.block < W.heap.size := by obtain ⟨m, hm⟩ := k1; exact DataW.trod_lt m _ _ _ hm
  obtain ⟨x1, y1, z1, u1, rfl⟩ := mon_open (hval 1 25 v1 rfl rfl) h1
  clear hA0 hval0
  refine (walk x0 y0 z0 u0 x1 y1 z1 u1 W ).mono fun e W' ⟨he, bel⟩ => ?_
  subst he
  exact ⟨_, rfl, _, _, _, [], _, [], hW', trodAll_mk1 (shut_bool Try.underlying4 _), (trodAll_cons_mk (Below.trod laidOut (by kernel_rfl) (of_decide_eq_true (by kernel_rfl)) k0 bel lt0) (trodAll_cons_mk (Below.trod laidOut (by kernel_rfl) (of_decide_eq_true (by kernel_rfl)) k1 bel lt1) trodAll_mk0)), rfl, bel.frame _, fun h => by cases h⟩
theorem over : Rows.fnExactMonDividesRow.holds Try.pinned (OpenSpec.ofChange Rows.fnExactMonDividesSpec) :=
  OpenClaim.holds_of_wide 8 Try.f8 rfl rfl rfl rfl rfl rfl rfl ⟨rfl, rfl, rfl, rfl, rfl⟩ rfl rfl rfl rfl rfl (by kernel_rfl) Try.func8 (by kernel_rfl)
    (of_decide_eq_true (by kernel_rfl)) (by unfold Func.isWrapper; first | (rw [if_pos (by decide +kernel)]; kernel_rfl) | (rw [if_neg (by decide +kernel)]; exact ⟨rfl, rfl⟩))
    (fun os started H enc _ => lifted os started H enc)
end Go.Proofs.Ytjedkkgmehflnar.fnExactMonDivides
namespace Go.Proofs.Ytjedkkgmehflnar
theorem fnExactMonDivides_holds : Rows.FnExactMonDividesSaid := fnExactMonDivides.over
#print axioms fnExactMonDivides_holds
end Go.Proofs.Ytjedkkgmehflnar
