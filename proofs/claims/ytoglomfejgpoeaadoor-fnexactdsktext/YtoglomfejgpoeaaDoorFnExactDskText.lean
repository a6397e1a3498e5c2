/-
  FnExactDskText: at every line the program writes the text that its model writes, and nothing that was there is turned; the listed tables of the library and the table of words are as the program lays them (the card ties them).
-/
import Derived.Test.YtoglomfejgpoeaaDoorDkW
import Derived.Test.YtoglomfejgpoeaaDoorDkJ
import Derived.Test.YtoglomfejgpoeaaDoorDkL
import Derived.Test.YtoglomfejgpoeaaDoorDkD
import Derived.Test.YtoglomfejgpoeaaDoorPxB
import Derived.Test.YtoglomfejgpoeaaDoorExact
import Derived.Test.YtoglomfejgpoeaaDoorOpenM
import Derived.Test.YtoglomfejgpoeaaDoorTie
import Derived.Test.YtoglomfejgpoeaaDoorCards
import Derived.ProofKit
import Derived.ChangeVars
import Derived.WalkSmall
import Derived.ChangeOld
import Derived.Deep.RegionHeld3
import Derived.OpenShut
import Derived.LaidMore
import Derived.Lay
import Derived.SevenTiedAt
import Derived.Stop.Joined
namespace Go.Proofs.YtoglomfejgpoeaaDoor.fnExactDskText
open Go.ChangeShapes Go.WideShapes Go.ChangeAt Go.RowKit Go.Deep Go.Joins
set_option linter.unusedVariables false

abbrev TwoL (B B5 : Nat) (k to a b : Int) (pa : Option Addr) (n cap : Nat) (pb : Option Addr) (cb : Nat) (u : World) : Prop :=
  (u.cell? ⟨B, 0, none⟩ = some (.int .i64 k) ∧ u.cell? ⟨B, 1, none⟩ = some (.int .i64 to) ∧ u.cell? ⟨B, 2, none⟩ = some (.int .i64 a) ∧ u.cell? ⟨B, 3, none⟩ = some (.int .i64 b) ∧ u.cell? ⟨B, 4, none⟩ = some (.slice pa n cap)) ∧ (u.cell? ⟨B5, 0, none⟩ = some (.int .i64 k) ∧ u.cell? ⟨B5, 1, none⟩ = some (.int .i64 to) ∧ u.cell? ⟨B5, 2, none⟩ = some (.int .i64 a) ∧ u.cell? ⟨B5, 3, none⟩ = some (.int .i64 b) ∧ u.cell? ⟨B5, 4, none⟩ = some (.slice pb n cb))
theorem TwoL.below {B B5 : Nat} {k to a b : Int} {pa : Option Addr} {n cap : Nat} {pb : Option Addr} {cb : Nat} {u u' : World} {N : Nat} (h : TwoL B B5 k to a b pa n cap pb cb u) (hb : Below N u u') (h1 : B < N) (h2 : B5 < N) : TwoL B B5 k to a b pa n cap pb cb u' :=
  ⟨⟨(hb.cell (p := ⟨B, 0, none⟩) h1).trans h.1.1, (hb.cell (p := ⟨B, 1, none⟩) h1).trans h.1.2.1, (hb.cell (p := ⟨B, 2, none⟩) h1).trans h.1.2.2.1, (hb.cell (p := ⟨B, 3, none⟩) h1).trans h.1.2.2.2.1, (hb.cell (p := ⟨B, 4, none⟩) h1).trans h.1.2.2.2.2⟩, ⟨(hb.cell (p := ⟨B5, 0, none⟩) h2).trans h.2.1, (hb.cell (p := ⟨B5, 1, none⟩) h2).trans h.2.2.1, (hb.cell (p := ⟨B5, 2, none⟩) h2).trans h.2.2.2.1, (hb.cell (p := ⟨B5, 3, none⟩) h2).trans h.2.2.2.2.1, (hb.cell (p := ⟨B5, 4, none⟩) h2).trans h.2.2.2.2.2⟩⟩
theorem bel_of_dr {n : Nat} {u w' : World} (h : Below n u.drew w') : Below n u w' := ⟨h.os, h.tape, h.output, h.size, h.block⟩
set_option maxRecDepth 100000 in
set_option maxHeartbeats 8000000 in
theorem walk (k to a b : Int) (pa : Option Addr) (n cap : Nat) (f : Nat → T) (w : World) (h : IsTerms w pa n cap f) (hT : Tb w) (hD : Dw w) : Calls Tryd.prog 3 #[.agg #[.int .i64 k, .int .i64 to, .int .i64 a, .int .i64 b, .slice pa n cap]] w fun e w' => e = .returned (.bool true) ∧ Below w.heap.size w w' := by
  have q1 : (n : Int) ≤ 9223372036854775807 := by have := h.1; have := h.2.1; unfold maxLen at this; omega
  have hb0 := bel_one w (.cells #[.int .i64 k, .int .i64 to, .int .i64 a, .int .i64 b, .slice pa n cap] 24)
  have HA0 : Hid ((w.alloc (.cells #[.int .i64 k, .int .i64 to, .int .i64 a, .int .i64 b, .slice pa n cap] 24)).heap[w.heap.size]? = some (.cells #[.int .i64 k, .int .i64 to, .int .i64 a, .int .i64 b, .slice pa n cap] 24 (0, 0))) := Hid.mk' (heap_alloc_new w _)
  have HB0 := Hid.mk' hb0
  by_cases c1 : (n : Int) ≤ 1048576
  · have R0 := Hid.mk' ((h.rd (by omega)).below hb0)
    have k1 : n * 40 ≤ 140737488351232 := by omega
    have s1 : ¬ ((1048576 : Int) - n < 0) := by omega
    have s2 : (0 : Int) ≤ (1048576 : Int) - n := by omega
    have HT := Hid.mk' hT
    have HD := Hid.mk' hD
    obtain ⟨S, hS⟩ : ∃ S, lnT k to a b n f = S := ⟨_, rfl⟩
    have DS := Hid.mk' (fun pa' cap' u hu => dskTextS k to a b pa' n cap' f u hu)
    have DI := Hid.mk' (fun pa' cap' u hu hu2 hu3 => dskTextI k to a b pa' n cap' f u hu hu2 hu3)
    rw [hS] at DS DI
    clear h hT hD hb0 hS
    go_enter Tryd.func3, Tryd.ntmps3
    go_wp2_with fail
    refine (szLine k to a b pa n cap _ _ q1 (by omega) (by omega)).mono ?_
    rw [if_neg (by omega)]
    rintro e w1 ⟨rfl, hb⟩
    have Z1 := Hid.mk' (bel_next HB0.out hb)
    have R1 := Hid.mk' (R0.out.below hb)
    have A1 := Hid.mk' ((hb.block _ (by simp)).trans HA0.out)
    have hlt1 : w.heap.size < w1.heap.size := Nat.lt_of_lt_of_le (by simp) hb.size
    clear hb R0 HA0 HB0
    obtain ⟨⟨x0, x1, x2, x3, x4⟩, xz⟩ := cells5 A1.out
    go_wp2_with fail
    clear x0 x1 x2 x3 x4 xz
    refine (toLine k to a b pa n cap f _ R1.out).mono ?_
    rintro e w2 ⟨g2, rfl, hb, ho⟩
    have Z2 := Hid.mk' (bel_next Z1.out hb)
    have R2 := Hid.mk' (R1.out.below hb)
    have A2 := Hid.mk' ((hb.block _ hlt1).trans A1.out)
    have O2 := Hid.mk' ho
    have hlt2 : w.heap.size < w2.heap.size := Nat.lt_of_lt_of_le hlt1 hb.size
    clear hb ho R1 A1 Z1
    go_wp2_with fail
    refine (DS.out _ _ _ (O2.out.rd k1)).mono ?_
    rintro e w3 ⟨rfl, hb⟩
    have Z3 := Hid.mk' (bel_next Z2.out hb)
    have R3 := Hid.mk' (R2.out.below hb)
    have A3 := Hid.mk' ((hb.block _ hlt2).trans A2.out)
    have hlt3 : w.heap.size < w3.heap.size := Nat.lt_of_lt_of_le hlt2 hb.size
    clear hb R2 A2 Z2 O2 DS
    obtain ⟨⟨x0, x1, x2, x3, x4⟩, xz⟩ := cells5 A3.out
    go_wp2_with fail
    clear x0 x1 x2 x3 x4 xz
    refine (toLine k to a b pa n cap f _ R3.out).mono ?_
    rintro e w4 ⟨g4, rfl, hb, ho⟩
    have hb4 := bel_next hb (bel_one w4 (.cells #[.int .i64 k, .int .i64 to, .int .i64 a, .int .i64 b, .slice (some ⟨g4, 0, none⟩) n n] 29))
    have Z5 := Hid.mk' (bel_next Z3.out hb4)
    have R5 := Hid.mk' (R3.out.below hb4)
    have A5 := Hid.mk' ((hb4.block _ hlt3).trans A3.out)
    have O5 := Hid.mk' (ho.below (bel_one w4 (.cells #[.int .i64 k, .int .i64 to, .int .i64 a, .int .i64 b, .slice (some ⟨g4, 0, none⟩) n n] 29)) ho.lt)
    have X5 := Hid.mk' (heap_alloc_new w4 (.cells #[.int .i64 k, .int .i64 to, .int .i64 a, .int .i64 b, .slice (some ⟨g4, 0, none⟩) n n] 29))
    have hlt4 : w.heap.size < w4.heap.size := Nat.lt_of_lt_of_le hlt3 hb.size
    have hlt5 : w4.heap.size < (w4.alloc (.cells #[.int .i64 k, .int .i64 to, .int .i64 a, .int .i64 b, .slice (some ⟨g4, 0, none⟩) n n] 29)).heap.size := by simp
    have hne : w.heap.size ≠ w4.heap.size := by omega
    clear hb hb4 ho R3 A3 Z3
    go_wp2_with fail
    generalize (w4.alloc (.cells #[.int .i64 k, .int .i64 to, .int .i64 a, .int .i64 b, .slice (some ⟨g4, 0, none⟩) n n] 29)) = w5 at Z5 R5 A5 O5 X5 hlt5 ⊢
    generalize w4.heap.size = B5 at X5 hlt4 hlt5 hne ⊢
    refine (DI.out _ _ _ (O5.out.rd k1) (HT.out.below Z5.out) (HD.out.below Z5.out)).mono ?_
    rintro e w6 ⟨rfl, hb⟩
    have Z6 := Hid.mk' (bel_next Z5.out hb)
    have R6 := Hid.mk' (R5.out.below hb)
    have A6 := Hid.mk' ((hb.block _ (by omega)).trans A5.out)
    have X6 := Hid.mk' ((hb.block _ hlt5).trans X5.out)
    have O6 := Hid.mk' (O5.out.below hb O5.out.lt)
    have hlt6 : B5 < w6.heap.size := Nat.lt_of_lt_of_le hlt5 hb.size
    clear hb R5 A5 Z5 O5 X5 DI
    go_wp2_with fail
    obtain ⟨a0, az⟩ := cells5 A6.out
    obtain ⟨b0, bz⟩ := cells5 X6.out
    have hSd : TwoL w.heap.size B5 k to a b pa n cap (some ⟨g4, 0, none⟩) n w6.drew := ⟨a0, b0⟩
    have TL := Hid.mk' (fun u (hu : Rd u pa n cap f) => toLine k to a b pa n cap f u hu)
    have EL := Hid.mk' (fun pa' cap' u hu hu' => eqLine k to a b (some ⟨g4, 0, none⟩) pa' n n cap' f u hu hu')
    clear az bz
    have hd1 : w.heap.size < w6.drew.heap.size := by show w.heap.size < w6.heap.size; omega
    have hd2 : B5 < w6.drew.heap.size := by show B5 < w6.heap.size; omega
    have HSD := Hid.mk' hSd
    have HD1 := Hid.mk' hd1
    have HD2 := Hid.mk' hd2
    clear a0 b0 hSd
    go_region_held3 (fun u => (u.cell? ⟨w.heap.size, 0, none⟩ = some (.int .i64 k) ∧ u.cell? ⟨w.heap.size, 1, none⟩ = some (.int .i64 to) ∧ u.cell? ⟨w.heap.size, 2, none⟩ = some (.int .i64 a) ∧ u.cell? ⟨w.heap.size, 3, none⟩ = some (.int .i64 b) ∧ u.cell? ⟨w.heap.size, 4, none⟩ = some (.slice pa n cap)) ∧ (u.cell? ⟨B5, 0, none⟩ = some (.int .i64 k) ∧ u.cell? ⟨B5, 1, none⟩ = some (.int .i64 to) ∧ u.cell? ⟨B5, 2, none⟩ = some (.int .i64 a) ∧ u.cell? ⟨B5, 3, none⟩ = some (.int .i64 b) ∧ u.cell? ⟨B5, 4, none⟩ = some (.slice (some ⟨g4, 0, none⟩) n n))) (first | with_reducible exact (HSD.out.below HBT.out HD1.out HD2.out).below HBE.out HD3.out HD4.out | with_reducible exact HSD.out.below HBT.out HD1.out HD2.out | with_reducible exact HSD.out) (first | (go_at_call 6; refine (TL.out _ (R6.out.below (Below.refl _ _).drew)).mono ?_; rintro e w7 ⟨g7, rfl, hb7, ho7⟩; have HBT := Hid.mk' hb7; have HO7 := Hid.mk' ho7; have hlt7 : w6.drew.heap.size ≤ w7.heap.size := hb7.size; have HD3 : Hid (w.heap.size < w7.heap.size) := Hid.mk' (Nat.lt_of_lt_of_le HD1.out hlt7); have HD4 : Hid (B5 < w7.heap.size) := Hid.mk' (Nat.lt_of_lt_of_le HD2.out hlt7); clear hb7 ho7 hlt7) | (go_at_call 8; refine (EL.out _ _ _ ((O6.out.below (bel_of_dr HBT.out) O6.out.lt).rd k1) (HO7.out.rd k1)).mono ?_; rintro e w8 ⟨rfl, hb8⟩; have HBE := Hid.mk' hb8; clear hb8))
    have Z8 := Hid.mk' (bel_next (bel_next Z6.out (bel_of_dr HBT.out)) HBE.out)
    go_wp2
    go_ret
    exact ⟨rfl, by first | exact Z8.out | exact Z8.out.drew⟩
  · have s1 : (1048576 : Int) - n < 0 := by omega
    clear h hT hD hb0
    go_enter Tryd.func3, Tryd.ntmps3
    go_wp2_with fail
    refine (szLine k to a b pa n cap _ _ q1 (by omega) (by omega)).mono ?_
    rw [if_pos s1]
    rintro e w1 ⟨rfl, hb⟩
    have Z1 := Hid.mk' (bel_next HB0.out hb)
    clear hb
    go_wp2
    go_ret
    exact ⟨rfl, Z1.out⟩
theorem own : ownKnob Tryd.prog.godebug = none := by kernel_rfl
theorem laidOut : laidOutB Tryd.prog = true := by kernel_rfl
set_option maxRecDepth 100000 in
theorem lifted (os : Os) (started : os.Started) (H : Type) (enc : TypeId × Value → H) :
    ReturnsInHanded {} Tryd.checked os 3 .any (fun w args => (Rows.fnExactDskTextSpec.pre enc Tryd.prog Tryd.f3 Rows.fnExactDskTextRow.domain false w args ∧ laidMetH Tryd.prog Rows.fnExactDskTextRow.laid w) ∧ sizedMet enc Tryd.prog Tryd.f3 (OpenSpec.ofChange Rows.fnExactDskTextSpec) false w args)
      (Rows.fnExactDskTextSpec.post enc Tryd.prog Tryd.f3 false true false false) := by
  refine returnsInHanded_of_change_and (C := Tryd.checked) (X := fun w _ => laidMetH Tryd.prog Rows.fnExactDskTextRow.laid w) (fun _ _ _ hh h => h.of_heap hh) own started (by kernel_rfl) Tryd.func3
    (ChangeSpec.witness_shaped (enc := enc) (C := Tryd.checked) (os := os) (X := fun w _ => laidMetH Tryd.prog Rows.fnExactDskTextRow.laid w) false (World.laidAll Tryd.prog os Rows.fnExactDskTextRow.laid) #[.agg #[.int .i64 0, .int .i64 0, .int .i64 0, .int .i64 0, .slice none 0 0]] 8 (World.laidAll_os _ _ _)
      (World.shaped_of_ZipB (by kernel_rfl) (by kernel_rfl)) (by kernel_rfl) (by kernel_rfl) (by kernel_rfl)
      (by rw [MakeChecks.laidMetH_plain _ _ _ (by kernel_rfl)]; exact laidMet_laidAll _ (by kernel_rfl) (by kernel_rfl))) ?_
  intro W base args ds gs before hval0 hW hcnd _ hL _
  have hval : ∀ (j : Nat) t v, Tryd.f3.params[j]? = some t → args[j]? = some v → Value.okWide Tryd.prog W .any base t v := hval0
  have hW' := hW
  obtain ⟨p, q, hA0, hV, rfl, hfz, hnd⟩ := hW
  have hA : DataW.TrodAll enc Tryd.prog W 0 (fun _ => true) true Tryd.f3.params.toList args.toList ds p := hA0
  rw [Tryd.params3] at hA hval
  obtain ⟨v0, vs0, d0, ds0, p0, q0, hargs, rfl, rfl, h0, r0⟩ := trodAll_cons hA
  obtain ⟨rfl, rfl, rfl⟩ := trodAll_nil r0
  obtain rfl : args = #[v0] := by cases args; simp_all
  have hV' : DataW.TrodVars enc Tryd.prog W (fun _ => true) ["loop.example/selvedge/impl.dskWords"] gs q := hV
  obtain ⟨g, t, cs, fuel, d, p', rfl, hg, ht, hvar, hd, rfl⟩ := trodVars_one hV'
  obtain rfl := Option.some.inj (wordsNamed.symm.trans hg)
  obtain rfl := Option.some.inj (wordsType.symm.trans ht)
  have k0 := h0
  have lt0 : ∀ x ∈ p0, x.block < W.heap.size := by obtain ⟨m, hm⟩ := k0; exact DataW.trod_lt m _ _ _ hm
  obtain ⟨k, to, a, b, pa, n, cap, f, rfl, hIs⟩ := line_open (hval 0 24 v0 rfl rfl) h0
  have hL2 := hL
  rw [MakeChecks.laidMetH_plain _ _ _ (by kernel_rfl)] at hL2
  have hTb : Tb W := tab_third hL2
  have hVW : W.var? Tryd.prog "loop.example/selvedge/impl.dskWords" = some wordsA := dw_list hL2
  have hDw : Dw W := dw_of hVW
  obtain rfl := Option.some.inj (hvar.symm.trans hVW)
  have h0lt : 0 < W.heap.size := World.block_lt_of_cell? _ _ (hDw 1 (by omega) (by omega))
  have hltv : ∀ x ∈ p', x.block < W.heap.size := fun x hx => hW'.lt x (List.mem_append_right _ (List.mem_append_right _ hx))
  clear hA0 hval0
  refine (walk k to a b pa n cap f W hIs hTb hDw).mono fun e W' ⟨he, bel⟩ => ?_
  subst he
  obtain ⟨fuel', hd'⟩ := Below.trod laidOut (by kernel_rfl) (of_decide_eq_true (by kernel_rfl)) (v := .agg wordsA) (⟨fuel, hd⟩ : DataW.Trod enc Tryd.prog W 0 (fun _ => true) true 43 (.agg wordsA) d p') bel hltv
  have hv' := trodVars_mk1 (enc := enc) (spare := fun b => decide (b < W.heap.size)) hg ht (var?_below bel hg h0lt hvar) hd'
  exact ⟨_, rfl, _, _, _, [], _, _, hW', trodAll_mk1 (shut_bool Tryd.underlying4 _), (trodAll_cons_mk (Below.trod laidOut (by kernel_rfl) (of_decide_eq_true (by kernel_rfl)) k0 bel lt0) trodAll_mk0), hv', bel.frame _, fun h => by cases h⟩
theorem over : Rows.fnExactDskTextRow.holds Tryd.pinned (OpenSpec.ofChange Rows.fnExactDskTextSpec) :=
  OpenClaim.holds_of_wide 3 Tryd.f3 rfl rfl rfl rfl rfl rfl rfl ⟨rfl, rfl, rfl, rfl, rfl⟩ rfl rfl rfl rfl rfl (by kernel_rfl) Tryd.func3 (by kernel_rfl)
    (of_decide_eq_true (by kernel_rfl)) (by unfold Func.isWrapper; first | (rw [if_pos (by decide +kernel)]; kernel_rfl) | (rw [if_neg (by decide +kernel)]; exact ⟨rfl, rfl⟩))
    (fun os started H enc _ => lifted os started H enc)
theorem cardIs : Claim7.holds Tryd.pinned (.plain (OpenSpec.ofChange Rows.fnExactDskTextSpec)) Rows.fnExactDskTextCard :=
  Claim7.holds_tied_plain_at .later [] [.data, .data, .data, .data] true _ false
    over (fun _ h => by cases h) (by kernel_rfl) (fun _ h => by cases h) fnExactDskText_row_tie rfl ⟨rfl, rfl⟩ (by kernel_rfl) rfl
    (fun f fn hf hfn => by
      obtain rfl : f = 3 := Option.some.inj ((show Tryd.prog.funcNamed Rows.fnExactDskTextRow.func = some 3 by kernel_rfl).symm.trans hf) |>.symm
      obtain rfl : fn = Tryd.f3 := (Option.some.inj (Tryd.func3.symm.trans hfn)).symm
      exact ⟨by kernel_rfl, fun j t ht => by
        rw [Tryd.params3] at ht
        have hall : (Tryd.f3.params.toList.all fun u => !Tryd.prog.wantsStandIn u) = true := by kernel_rfl
        have hm : t ∈ Tryd.f3.params.toList := by rw [Tryd.params3]; simpa using Array.mem_of_getElem? ht
        exact (show Tryd.prog.wantsStandIn t = false by simpa using List.all_eq_true.1 hall t hm)⟩)
    (by kernel_rfl)
end Go.Proofs.YtoglomfejgpoeaaDoor.fnExactDskText
namespace Go.Proofs.YtoglomfejgpoeaaDoor
theorem fnExactDskText_holds : Rows.FnExactDskTextCardSaid := fnExactDskText.cardIs
#print axioms fnExactDskText_holds
end Go.Proofs.YtoglomfejgpoeaaDoor
