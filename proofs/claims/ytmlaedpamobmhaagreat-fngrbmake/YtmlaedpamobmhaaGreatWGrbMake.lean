/-
  The walk of FnGrbMake: whatever the code, it comes out true, and nothing that was there is turned.
-/
import Derived.Test.YtmlaedpamobmhaaGreatDrawGM
import Derived.Test.YtmlaedpamobmhaaGreatMkO
import Derived.Test.YtmlaedpamobmhaaGreatGby
import Derived.Test.YtmlaedpamobmhaaGreatGba
import Derived.Test.YtmlaedpamobmhaaGreatGay
namespace Go.Proofs.YtmlaedpamobmhaaGreat
open Go.RowKit
set_option linter.unusedVariables false
set_option maxRecDepth 100000 in
set_option maxHeartbeats 8000000 in
theorem walk_FnGrbMake (w : World) (a0 : Option Addr) (len0 cap0 : Nat) (s0 : Src w a0 len0 cap0) :
    Calls Tryz.prog 3 #[.slice a0 len0 cap0] w fun e w' => e = .returned (.bool true) ∧ Below w.heap.size w w' := by
  by_cases c0 : (1048576 : Int) < (len0 : Int)
  · go_enter Tryz.func3, Tryz.ntmps3
    go_wp2
    go_ret
    exact ⟨rfl, Below.refl _ _⟩
  go_enter Tryz.func3, Tryz.ntmps3
  go_wp2_with fail
  refine (drawGrbMake w a0 len0 cap0 s0).mono ?_
  rintro e wd ⟨o, la, n, lc, lad, lcp, L, fuel, rfl, hL, hn5, ⟨f1, f2⟩, hbd⟩
  have HL0 := Hid.mk' (hL)
  have Z0 := Hid.mk' (hbd)
  clear hL hbd s0
  obtain ⟨⟨m, BL, BP⟩, d, hX⟩ : ∃ (X : Bs) (d : Bool), grbMake o n L fuel = (X, d) := ⟨_, _, rfl⟩
  have hm12 := mk_m hX
  have HX := Hid.mk' (hX)
  clear hX
  have hm12I : (m : Int) ≤ 12 := by omega
  have hn5I : (n : Int) ≤ 5 := by omega
  go_wp2_with fail
  refine (mkI HL0.out HX.out).mono ?_
  rintro e w1 ⟨ba, bc, bad, bcp, pa, pc, pA, pC, pAD, pCP, rfl, hb1, hr1, hp1⟩
  have bx := bel_next hb1 (bel_one w1 (.cells #[.slice ba m bc, .slice pa m pc, .bool d] 28))
  have bo := bel_one w1 (.cells #[.slice ba m bc, .slice pa m pc, .bool d] 28)
  have HO1 := Hid.mk' (Own3.box w1 28 (.slice ba m bc) (.slice pa m pc) (.bool d))
  have HB1 := Hid.mk' (hr1.below bo)
  have HP1 := Hid.mk' (hp1.below bo)
  have HG1 := Hid.mk' (HL0.out.below bx)
  have Z1 := Hid.mk' (bel_next Z0.out bx)
  clear hb1 hr1 hp1 bx bo HL0 Z0
  go_wp2_with fail
  have hS : C3k w1.heap.size (.slice ba m bc) (.slice pa m pc) (.bool d) (w1.alloc (.cells #[.slice ba m bc, .slice pa m pc, .bool d] 28)).drew := HO1.out.1
  have bd := (Below.refl (w1.alloc (.cells #[.slice ba m bc, .slice pa m pc, .bool d] 28)).heap.size (w1.alloc (.cells #[.slice ba m bc, .slice pa m pc, .bool d] 28))).drew
  have HOd := Hid.mk' (HO1.out.below bd)
  have HBd := Hid.mk' (HB1.out.below bd)
  have HPd := Hid.mk' (HP1.out.below bd)
  have HGd := Hid.mk' (HG1.out.below bd)
  have Zd := Hid.mk' (bel_next Z1.out bd)
  clear HO1 HB1 HP1 HG1 Z1 bd
  obtain ⟨bx, hbx⟩ : ∃ bx, bx = w1.heap.size := ⟨_, rfl⟩
  clear hbx bx
  go_region_held3 (fun u => u.cell? ⟨w1.heap.size, 0, none⟩ = some (.slice ba m bc) ∧ u.cell? ⟨w1.heap.size, 1, none⟩ = some (.slice pa m pc) ∧ u.cell? ⟨w1.heap.size, 2, none⟩ = some (.bool d)) (first | with_reducible exact (C3k.below (C3k.below hS hb3) hb4) | with_reducible exact C3k.below hS hb3 | with_reducible exact hS) (first | (go_at_call 12; refine (mkS HGd.out HX.out).mono ?_; rintro e w3 ⟨ca, cc, cad, ccp, qa, qc, qA, qC, qAD, qCP, rfl, hb3, hr3, hp3⟩) | (go_at_call 11; refine (heBaseT w3 m m n d BL BP _ _ _ _ _ _ _ _ (HBd.out.below hb3) hr3 _ _ _ _ _ _ _ _ _ _ _ _ (HPd.out.below hb3) hp3).mono ?_; rintro e w4 ⟨rfl, hb4⟩))
  have HBB := Hid.mk' (bel_next hb3 hb4)
  have HO := Hid.mk' (HOd.out.below HBB.out)
  have HB := Hid.mk' (HBd.out.below HBB.out)
  have HP := Hid.mk' (HPd.out.below HBB.out)
  have HG := Hid.mk' (HGd.out.below HBB.out)
  have Z9 := Hid.mk' (bel_next Zd.out HBB.out)
  clear hS hb3 hb4 hr3 hp3 HBB HOd HBd HPd HGd Zd
  have HLT := HO.out.lt
  rcases mk_case HX.out with ⟨hm0, hd0⟩ | ⟨ho, hl, hn, hf, hle, hpre, hlk, hbas, hpf⟩
  · subst hm0
    subst hd0
    obtain ⟨⟨c0, c1, c2⟩, cz⟩ := HO.out
    go_wp2_with fail
    refine (heOk_L _ ).mono ?_
    rintro e w1 ⟨rfl, b2⟩
    have X3 := Hid.mk' (HO.out.below b2)
    clear HO
    have X4 := Hid.mk' (HB.out.below b2)
    clear HB
    have X5 := Hid.mk' (HP.out.below b2)
    clear HP
    have X6 := Hid.mk' (HG.out.below b2)
    clear HG
    have Z7 := Hid.mk' (bel_next Z9.out b2)
    clear Z9
    clear b2
    go_wp2
    go_ret
    exact ⟨rfl, Z7.out⟩
  · have HBAS := Hid.mk' (hbas)
    have HLK := Hid.mk' (hlk)
    have HPRE := Hid.mk' (hpre)
    have HHO := Hid.mk' (ho)
    clear hbas hlk hpre ho hl hpf hf
    have hm1 : 1 ≤ m := by omega
    have hmz : ((m : Int) == 0) = false := beq_eq_false_iff_ne.2 (by omega)
    have hmn : ¬ (m : Int) < (n : Int) := by omega
    have hmm : ((m : Int) != (m : Int)) = false := by simp
    have hcap : m ≤ bc := HB.out.1
    have hcapI : (n : Int) ≤ (bc : Int) := by omega
    obtain ⟨⟨c0, c1, c2⟩, cz⟩ := HO.out
    have HT := Hid.mk' (rds_congr (rds_takeM HB.out hle) HPRE.out)
    obtain ⟨bb, off, rfl, hlb, _⟩ := HB.out.2.2.1.resolve_left (by omega)
    go_wp2_with fail
    refine (heL_same HT.out HG.out).mono ?_
    rintro e w5 ⟨rfl, hb5⟩
    clear c0 c1 c2 cz
    have X8 := Hid.mk' (HO.out.below hb5)
    clear HO
    have X9 := Hid.mk' (HB.out.below hb5)
    clear HB
    have X10 := Hid.mk' (HP.out.below hb5)
    clear HP
    have X11 := Hid.mk' (HG.out.below hb5)
    clear HG
    have Z12 := Hid.mk' (bel_next Z9.out hb5)
    clear Z9
    clear hb5
    obtain ⟨⟨c0, c1, c2⟩, cz⟩ := X8.out
    cases d
    · go_wp2
      go_ret
      exact ⟨rfl, Z12.out⟩
    · go_wp2_with fail
      refine (heBasisT _ o _ m _ _ _ BL X9.out ⟨hm1, hm12⟩ HHO.out HLK.out (HBAS.out (by simp))).mono ?_
      rintro e w6 ⟨rfl, hb6⟩
      clear c0 c1 c2 cz
      have X13 := Hid.mk' (X8.out.below hb6)
      clear X8
      have X14 := Hid.mk' (X9.out.below hb6)
      clear X9
      have X15 := Hid.mk' (X10.out.below hb6)
      clear X10
      have X16 := Hid.mk' (X11.out.below hb6)
      clear X11
      have Z17 := Hid.mk' (bel_next Z12.out hb6)
      clear Z12
      clear hb6
      go_wp2
      go_ret
      exact ⟨rfl, Z17.out⟩
end Go.Proofs.YtmlaedpamobmhaaGreat
