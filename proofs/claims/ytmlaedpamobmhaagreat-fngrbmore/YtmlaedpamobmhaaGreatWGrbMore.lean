/-
  The walk of FnGrbMore: whatever the code, it comes out true, and nothing that was there is turned.
-/
import Derived.Test.YtmlaedpamobmhaaGreatDrawGM
import Derived.Test.YtmlaedpamobmhaaGreatMkO
import Derived.Test.YtmlaedpamobmhaaGreatGba
import Derived.Test.YtmlaedpamobmhaaGreatGay
namespace Go.Proofs.YtmlaedpamobmhaaGreat
open Go.RowKit
set_option linter.unusedVariables false
set_option maxRecDepth 100000 in
set_option maxHeartbeats 8000000 in
theorem walk_FnGrbMore (w : World) (a0 : Option Addr) (len0 cap0 : Nat) (s0 : Src w a0 len0 cap0) :
    Calls Tryz.prog 5 #[.slice a0 len0 cap0] w fun e w' => e = .returned (.bool true) ∧ Below w.heap.size w w' := by
  by_cases c0 : (1048576 : Int) < (len0 : Int)
  · go_enter Tryz.func5, Tryz.ntmps5
    go_wp2
    go_ret
    exact ⟨rfl, Below.refl _ _⟩
  go_enter Tryz.func5, Tryz.ntmps5
  go_wp2_with fail
  refine (drawGrbMake w a0 len0 cap0 s0).mono ?_
  rintro e wd ⟨o, la, n, lc, lad, lcp, L, fuel, rfl, hL, hn5, ⟨f1, f2⟩, hbd⟩
  have HL0 := Hid.mk' (hL)
  have Z0 := Hid.mk' (hbd)
  clear hL hbd s0
  obtain ⟨⟨m, BL, BP⟩, d, hX⟩ : ∃ (X : Bs) (d : Bool), grbMake o n L fuel = (X, d) := ⟨_, _, rfl⟩
  have hm12 := mk_m hX
  have HX := Hid.mk' (hX)
  clear hX
  have hm12I : (m : Int) ≤ 12 := by omega
  have hn5I : (n : Int) ≤ 5 := by omega
  go_wp2_with fail
  refine (mkI HL0.out HX.out).mono ?_
  rintro e w1 ⟨ba, bc, bad, bcp, pa, pc, pA, pC, pAD, pCP, rfl, hb1, hr1, hp1⟩
  have bx := bel_next hb1 (bel_one w1 (.cells #[.slice ba m bc, .slice pa m pc, .bool d] 28))
  have bo := bel_one w1 (.cells #[.slice ba m bc, .slice pa m pc, .bool d] 28)
  have HO1 := Hid.mk' (Own3.box w1 28 (.slice ba m bc) (.slice pa m pc) (.bool d))
  have HB1 := Hid.mk' (hr1.below bo)
  have HP1 := Hid.mk' (hp1.below bo)
  have HG1 := Hid.mk' (HL0.out.below bx)
  have Z1 := Hid.mk' (bel_next Z0.out bx)
  clear hb1 hr1 hp1 bx bo HL0 Z0
  go_wp2_with fail
  have hS : C3k w1.heap.size (.slice ba m bc) (.slice pa m pc) (.bool d) (w1.alloc (.cells #[.slice ba m bc, .slice pa m pc, .bool d] 28)).drew := HO1.out.1
  have bd := (Below.refl (w1.alloc (.cells #[.slice ba m bc, .slice pa m pc, .bool d] 28)).heap.size (w1.alloc (.cells #[.slice ba m bc, .slice pa m pc, .bool d] 28))).drew
  have HOd := Hid.mk' (HO1.out.below bd)
  have HBd := Hid.mk' (HB1.out.below bd)
  have HPd := Hid.mk' (HP1.out.below bd)
  have HGd := Hid.mk' (HG1.out.below bd)
  have Zd := Hid.mk' (bel_next Z1.out bd)
  clear HO1 HB1 HP1 HG1 Z1 bd
  obtain ⟨bx, hbx⟩ : ∃ bx, bx = w1.heap.size := ⟨_, rfl⟩
  clear hbx bx
  go_region_held3 (fun u => u.cell? ⟨w1.heap.size, 0, none⟩ = some (.slice ba m bc) ∧ u.cell? ⟨w1.heap.size, 1, none⟩ = some (.slice pa m pc) ∧ u.cell? ⟨w1.heap.size, 2, none⟩ = some (.bool d)) (first | with_reducible exact (C3k.below (C3k.below hS hb3) hb4) | with_reducible exact C3k.below hS hb3 | with_reducible exact hS) (first | (go_at_call 12; refine (mkS HGd.out HX.out).mono ?_; rintro e w3 ⟨ca, cc, cad, ccp, qa, qc, qA, qC, qAD, qCP, rfl, hb3, hr3, hp3⟩) | (go_at_call 11; refine (heBaseT w3 m m n d BL BP _ _ _ _ _ _ _ _ (HBd.out.below hb3) hr3 _ _ _ _ _ _ _ _ _ _ _ _ (HPd.out.below hb3) hp3).mono ?_; rintro e w4 ⟨rfl, hb4⟩))
  have HBB := Hid.mk' (bel_next hb3 hb4)
  have HO := Hid.mk' (HOd.out.below HBB.out)
  have HB := Hid.mk' (HBd.out.below HBB.out)
  have HP := Hid.mk' (HPd.out.below HBB.out)
  have HG := Hid.mk' (HGd.out.below HBB.out)
  have Z9 := Hid.mk' (bel_next Zd.out HBB.out)
  clear hS hb3 hb4 hr3 hp3 HBB HOd HBd HPd HGd Zd
  have HLT := HO.out.lt
  by_cases hm0 : m = 0
  · subst hm0
    obtain ⟨⟨c0, c1, c2⟩, cz⟩ := HO.out
    go_wp2_with fail
    refine (heOk_L _ ).mono ?_
    rintro e w1 ⟨rfl, b2⟩
    have X3 := Hid.mk' (HO.out.below b2)
    clear HO
    have X4 := Hid.mk' (HB.out.below b2)
    clear HB
    have X5 := Hid.mk' (HP.out.below b2)
    clear HP
    have X6 := Hid.mk' (HG.out.below b2)
    clear HG
    have Z7 := Hid.mk' (bel_next Z9.out b2)
    clear Z9
    clear b2
    go_wp2
    go_ret
    exact ⟨rfl, Z7.out⟩
  · by_cases hf60 : fuel = 60
    · subst hf60
      have hmz : ((m : Int) == 0) = false := beq_eq_false_iff_ne.2 (by omega)
      obtain ⟨⟨c0, c1, c2⟩, cz⟩ := HO.out
      go_wp2_with fail
      refine (heOk_L _ ).mono ?_
      rintro e w8 ⟨rfl, b9⟩
      have X10 := Hid.mk' (HO.out.below b9)
      clear HO
      have X11 := Hid.mk' (HB.out.below b9)
      clear HB
      have X12 := Hid.mk' (HP.out.below b9)
      clear HP
      have X13 := Hid.mk' (HG.out.below b9)
      clear HG
      have Z14 := Hid.mk' (bel_next Z9.out b9)
      clear Z9
      clear b9
      go_wp2
      go_ret
      exact ⟨rfl, Z14.out⟩
    · have hmz : ((m : Int) == 0) = false := beq_eq_false_iff_ne.2 (by omega)
      have hfz : (fuel == 60) = false := beq_eq_false_iff_ne.2 hf60
      have hfw : IntKind.i64.wrap (fuel + 1) = fuel + 1 := by rw [IntKind.wrap_i64]; omega
      obtain ⟨⟨m2, BL2, BP2⟩, d2, hX2⟩ : ∃ (X : Bs) (d : Bool), grbMake o n L (fuel + 1) = (X, d) := ⟨_, _, rfl⟩
      obtain ⟨⟨hmm2, hpre2⟩, hdone⟩ := mk_next HX.out hX2 hm0 hf60
      have hm22 := mk_m hX2
      have HX2 := Hid.mk' (hX2)
      have HPRE := Hid.mk' (hpre2)
      have HDN := Hid.mk' (hdone)
      clear hX2 hpre2 hdone
      have hm22I : (m2 : Int) ≤ 12 := by omega
      obtain ⟨⟨c0, c1, c2⟩, cz⟩ := HO.out
      go_wp2_with fail
      refine (mkI HG.out HX2.out).mono ?_
      rintro e w5 ⟨ca, cc, cad, ccp, qa, qc, qA, qC, qAD, qCP, rfl, hb5, hr5, hp5⟩
      clear c0 c1 c2 cz
      have bo := bel_one w5 (.cells #[.slice ca m2 cc, .slice qa m2 qc, .bool d2] 28)
      have bx := bel_next hb5 bo
      obtain ⟨⟨c0, c1, c2⟩, cz⟩ := HO.out.below hb5
      have hlt5 : w1.heap.size < w5.heap.size := World.block_lt_of_cell? w5 _ c0
      have hne5 : w1.heap.size ≠ w5.heap.size := Nat.ne_of_lt hlt5
      have hne6 : w5.heap.size ≠ w1.heap.size := Nat.ne_of_gt hlt5
      have HO2 := Hid.mk' (Own3.box w5 28 (.slice ca m2 cc) (.slice qa m2 qc) (.bool d2))
      have HB2 := Hid.mk' (hr5.below bo)
      have HP2 := Hid.mk' (hp5.below bo)
      have HO6 := Hid.mk' (HO.out.below bx)
      have HB6 := Hid.mk' (HB.out.below bx)
      have HP6 := Hid.mk' (HP.out.below bx)
      have HG6 := Hid.mk' (HG.out.below bx)
      have Z6 := Hid.mk' (bel_next Z9.out bx)
      clear hb5 hr5 hp5 bo bx HO HB HP HG Z9
      have hge : (m2 : Int) ≥ (m : Int) := by omega
      have hge2 : ¬ (m2 : Int) < (m : Int) := by omega
      have hcap : m2 ≤ cc := HB2.out.1
      have hcapI : (m : Int) ≤ (cc : Int) := by omega
      obtain ⟨b2, off2, rfl, hlb2, _⟩ := HB2.out.2.2.1.resolve_left (by omega)
      go_wp2_with fail
      clear c0 c1 c2 cz
      obtain ⟨⟨c0, c1, c2⟩, cz⟩ := HO6.out
      obtain ⟨⟨y0, y1, y2⟩, yz⟩ := HO2.out
      generalize hWW : (w5.alloc (.cells #[.slice (some ⟨b2, off2, none⟩) m2 cc, .slice qa m2 qc, .bool d2] 28)) = W at *
      clear hWW
      have ne := Ext.there W
      have q6 : w1.heap.size < W.heap.size := World.block_lt_of_cell? W _ c0
      have q7 : w5.heap.size < W.heap.size := World.block_lt_of_cell? W _ y0
      have s0 : ∀ u : Ext W, u.1.cell? ⟨w1.heap.size, 0, none⟩ = some (.slice ba m bc) := fun u => (u.cell q6).trans c0
      have s1 : ∀ u : Ext W, u.1.cell? ⟨w1.heap.size, 1, none⟩ = some (.slice pa m pc) := fun u => (u.cell q6).trans c1
      have s2 : ∀ u : Ext W, u.1.cell? ⟨w1.heap.size, 2, none⟩ = some (.bool d) := fun u => (u.cell q6).trans c2
      have t0 : ∀ u : Ext W, u.1.cell? ⟨w5.heap.size, 0, none⟩ = some (.slice (some ⟨b2, off2, none⟩) m2 cc) := fun u => (u.cell q7).trans y0
      have t1 : ∀ u : Ext W, u.1.cell? ⟨w5.heap.size, 1, none⟩ = some (.slice qa m2 qc) := fun u => (u.cell q7).trans y1
      have t2 : ∀ u : Ext W, u.1.cell? ⟨w5.heap.size, 2, none⟩ = some (.bool d2) := fun u => (u.cell q7).trans y2
      have HT : Hid (RdS W (some ⟨b2, off2, none⟩) m cc cad (lN BL) ccp (fN BL)) := (rds_congr (rds_takeM HB2.out hmm2) HPRE.out)
      have HBq : Hid (RdS W ba m bc bad (lN BL) bcp (fN BL)) := HB6.out
      have call1 : ∀ u : Ext W, Calls Tryz.prog 14 #[.slice (some ⟨b2, off2, none⟩) m cc, .slice ba m bc] u.1 fun r w' => r = .returned (.bool true) ∧ Below u.1.heap.size u.1 w' := fun u => heL_same (HT.out.below u.2) (HBq.out.below u.2)
      have call3 : ∀ u : Ext W, Calls Tryz.prog 13 #[] u.1 fun r w' => r = .returned (.bool true) ∧ Below u.1.heap.size u.1 w' := fun u => heOk_L u.1
      clear c0 c1 c2 cz y0 y1 y2 yz
      cases d
      · refine wp_region_ext (by kernel_rfl) (by kernel_rfl) ?_
        repeat (go_big_quiet_step (first | (go_at_call 14; exact ext_grows (call1 _)) | (go_at_call 13; exact ext_grows (call3 _)) | fail))
        refine wpQuiet_nil ?_
        rintro _ ⟨v, rfl⟩
        have HV := Hid.mk' v.2
        clear s0 s1 s2 t0 t1 t2 ne call1 call3
        go_wp2
        go_ret
        exact ⟨rfl, bel_next Z6.out HV.out⟩
      · obtain ⟨e1, e2, e3, e4⟩ := HDN.out rfl
        subst e1
        subst e2
        subst e3
        subst e4
        have HPq : Hid (R3 W pa m2 pc n pA pC pAD pCP BP2) := HP6.out
        have HPr : Hid (R3 W qa m2 qc n qA qC qAD qCP BP2) := HP2.out
        have call2 : ∀ u : Ext W, Calls Tryz.prog 11 #[.agg #[.slice (some ⟨b2, off2, none⟩) m2 cc, .slice qa m2 qc, .bool true], .agg #[.slice ba m2 bc, .slice pa m2 pc, .bool true]] u.1 fun r w' => r = .returned (.bool true) ∧ Below u.1.heap.size u.1 w' := fun u => heBaseT u.1 m2 m2 n true BL2 BP2 _ _ _ _ _ _ _ _ (HT.out.below u.2) (HBq.out.below u.2) _ _ _ _ _ _ _ _ _ _ _ _ (HPr.out.below u.2) (HPq.out.below u.2)
        refine wp_region_ext (by kernel_rfl) (by kernel_rfl) ?_
        repeat (go_big_quiet_step (first | (go_at_call 14; exact ext_grows (call1 _)) | (go_at_call 13; exact ext_grows (call3 _)) | (go_at_call 11; exact ext_grows (call2 _)) | fail))
        clear call2
        refine wpQuiet_nil ?_
        rintro _ ⟨v, rfl⟩
        have HV := Hid.mk' v.2
        clear s0 s1 s2 t0 t1 t2 ne call1 call3
        go_wp2
        go_ret
        exact ⟨rfl, bel_next Z6.out HV.out⟩
end Go.Proofs.YtmlaedpamobmhaaGreat
