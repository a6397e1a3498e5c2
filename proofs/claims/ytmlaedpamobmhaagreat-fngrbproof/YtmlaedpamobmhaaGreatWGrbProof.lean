/-
  The walk of FnGrbProof: whatever the code, it comes out true, and nothing that was there is turned.
-/
import Derived.Test.YtmlaedpamobmhaaGreatDrawGM
import Derived.Test.YtmlaedpamobmhaaGreatMkO
import Derived.Test.YtmlaedpamobmhaaGreatGba
import Derived.Test.YtmlaedpamobmhaaGreatGay
namespace Go.Proofs.YtmlaedpamobmhaaGreat
open Go.RowKit
set_option linter.unusedVariables false
set_option maxRecDepth 100000 in
set_option maxHeartbeats 8000000 in
theorem walk_FnGrbProof (w : World) (a0 : Option Addr) (len0 cap0 : Nat) (s0 : Src w a0 len0 cap0) :
    Calls Tryz.prog 4 #[.slice a0 len0 cap0] w fun e w' => e = .returned (.bool true) ∧ Below w.heap.size w w' := by
  by_cases c0 : (1048576 : Int) < (len0 : Int)
  · go_enter Tryz.func4, Tryz.ntmps4
    go_wp2
    go_ret
    exact ⟨rfl, Below.refl _ _⟩
  go_enter Tryz.func4, Tryz.ntmps4
  go_wp2_with fail
  refine (drawGrbMake w a0 len0 cap0 s0).mono ?_
  rintro e wd ⟨o, la, n, lc, lad, lcp, L, fuel, rfl, hL, hn5, ⟨f1, f2⟩, hbd⟩
  have HL0 := Hid.mk' (hL)
  have Z0 := Hid.mk' (hbd)
  clear hL hbd s0
  obtain ⟨⟨m, BL, BP⟩, d, hX⟩ : ∃ (X : Bs) (d : Bool), grbMake o n L fuel = (X, d) := ⟨_, _, rfl⟩
  have hm12 := mk_m hX
  have HX := Hid.mk' (hX)
  clear hX
  have hm12I : (m : Int) ≤ 12 := by omega
  have hn5I : (n : Int) ≤ 5 := by omega
  go_wp2_with fail
  refine (mkI HL0.out HX.out).mono ?_
  rintro e w1 ⟨ba, bc, bad, bcp, pa, pc, pA, pC, pAD, pCP, rfl, hb1, hr1, hp1⟩
  have bx := bel_next hb1 (bel_one w1 (.cells #[.slice ba m bc, .slice pa m pc, .bool d] 28))
  have bo := bel_one w1 (.cells #[.slice ba m bc, .slice pa m pc, .bool d] 28)
  have HO1 := Hid.mk' (Own3.box w1 28 (.slice ba m bc) (.slice pa m pc) (.bool d))
  have HB1 := Hid.mk' (hr1.below bo)
  have HP1 := Hid.mk' (hp1.below bo)
  have HG1 := Hid.mk' (HL0.out.below bx)
  have Z1 := Hid.mk' (bel_next Z0.out bx)
  clear hb1 hr1 hp1 bx bo HL0 Z0
  go_wp2_with fail
  have hS : C3k w1.heap.size (.slice ba m bc) (.slice pa m pc) (.bool d) (w1.alloc (.cells #[.slice ba m bc, .slice pa m pc, .bool d] 28)).drew := HO1.out.1
  have bd := (Below.refl (w1.alloc (.cells #[.slice ba m bc, .slice pa m pc, .bool d] 28)).heap.size (w1.alloc (.cells #[.slice ba m bc, .slice pa m pc, .bool d] 28))).drew
  have HOd := Hid.mk' (HO1.out.below bd)
  have HBd := Hid.mk' (HB1.out.below bd)
  have HPd := Hid.mk' (HP1.out.below bd)
  have HGd := Hid.mk' (HG1.out.below bd)
  have Zd := Hid.mk' (bel_next Z1.out bd)
  clear HO1 HB1 HP1 HG1 Z1 bd
  obtain ⟨bx, hbx⟩ : ∃ bx, bx = w1.heap.size := ⟨_, rfl⟩
  clear hbx bx
  go_region_held3 (fun u => u.cell? ⟨w1.heap.size, 0, none⟩ = some (.slice ba m bc) ∧ u.cell? ⟨w1.heap.size, 1, none⟩ = some (.slice pa m pc) ∧ u.cell? ⟨w1.heap.size, 2, none⟩ = some (.bool d)) (first | with_reducible exact (C3k.below (C3k.below hS hb3) hb4) | with_reducible exact C3k.below hS hb3 | with_reducible exact hS) (first | (go_at_call 12; refine (mkS HGd.out HX.out).mono ?_; rintro e w3 ⟨ca, cc, cad, ccp, qa, qc, qA, qC, qAD, qCP, rfl, hb3, hr3, hp3⟩) | (go_at_call 11; refine (heBaseT w3 m m n d BL BP _ _ _ _ _ _ _ _ (HBd.out.below hb3) hr3 _ _ _ _ _ _ _ _ _ _ _ _ (HPd.out.below hb3) hp3).mono ?_; rintro e w4 ⟨rfl, hb4⟩))
  have HBB := Hid.mk' (bel_next hb3 hb4)
  have HO := Hid.mk' (HOd.out.below HBB.out)
  have HB := Hid.mk' (HBd.out.below HBB.out)
  have HP := Hid.mk' (HPd.out.below HBB.out)
  have HG := Hid.mk' (HGd.out.below HBB.out)
  have Z9 := Hid.mk' (bel_next Zd.out HBB.out)
  clear hS hb3 hb4 hr3 hp3 HBB HOd HBd HPd HGd Zd
  have HLT := HO.out.lt
  have hpf : ∀ i, i < m → ∀ x, redSum n (lN (BP i)) (fN (BP i)) n (lN L) (fN L) = (x, true) → x = BL i := by
    rcases mk_case HX.out with ⟨hm0, hd0⟩ | ⟨_, _, _, _, _, _, _, _, hpf⟩
    · intro i hi; omega
    · exact hpf
  have HPF := Hid.mk' (hpf)
  clear hpf HX
  obtain ⟨⟨c0, c1, c2⟩, cz⟩ := HO.out
  go_wp2
  go_loopw [7] (fun vi wr => ∃ i : Nat, i ≤ m ∧ vi = .int .i64 (i : Int) ∧ Below w4.heap.size w4 wr) (fun vi _ => m - (intOf vi).toNat)
  case atStart => exact ⟨0, Nat.zero_le _, rfl, Below.refl _ _⟩
  case round =>
    obtain ⟨i, hi, rfl, hBel⟩ := hrel
    have HBW := Hid.mk' hBel
    clear c0 c1 c2 cz
    have X1 := Hid.mk' (HO.out.below hBel)
    clear HO
    have X2 := Hid.mk' (HB.out.below hBel)
    clear HB
    have X3 := Hid.mk' (HP.out.below hBel)
    clear HP
    have X4 := Hid.mk' (HG.out.below hBel)
    clear HG
    have Z5 := Hid.mk' (bel_next Z9.out hBel)
    clear Z9
    clear hBel
    have hlt1 := X1.out.lt
    by_cases hlt : i < m
    · have hil : (i : Int) < (m : Int) := by omega
      obtain ⟨bb, off, rfl, hlb, hbcl⟩ := X2.out.2.2.1.resolve_left (by omega)
      obtain ⟨pb, pof, rfl, hpb, hpcl⟩ := X3.out.2.2.1.resolve_left (by omega)
      have p0 := hpcl i hlt
      have b0 := hbcl i hlt
      obtain ⟨X, xo, hx⟩ : ∃ X b, redSum n (lN (BP i)) (fN (BP i)) n (lN L) (fN L) = (X, b) := ⟨_, _, rfl⟩
      have HXX := Hid.mk' (hx)
      clear hx
      have HBC := Hid.mk' (hbcl)
      have HRP := Hid.mk' (X3.out.2.2.2 i hlt)
      clear hbcl hpcl b0
      obtain ⟨⟨c0, c1, c2⟩, cz⟩ := X1.out
      go_wp2_with fail
      refine (rsum_I HRP.out X4.out).mono ?_
      rw [HXX.out]
      rintro e w5 ⟨xa, xc, rfl, hb5, hrx⟩
      have HXR := Hid.mk' (hrx)
      have HXR2 : Hid (RL w5 xa xc X) := HXR.out
      clear HXR hrx p0 HRP
      clear c0 c1 c2 cz
      have HB5 := Hid.mk' (hb5)
      have X6 := Hid.mk' (X1.out.below hb5)
      clear X1
      have X7 := Hid.mk' (X2.out.below hb5)
      clear X2
      have X8 := Hid.mk' (X3.out.below hb5)
      clear X3
      have X9 := Hid.mk' (X4.out.below hb5)
      clear X4
      have Z10 := Hid.mk' (bel_next Z5.out hb5)
      clear Z5
      clear hb5
      cases xo
      · have _h := HXX
        obtain ⟨⟨c0, c1, c2⟩, cz⟩ := X6.out
        go_wp2
        go_roundw
        case rel => exact ⟨i + 1, by omega, by go_num, bel_next HBW.out HB5.out⟩
        case measure => simp [intOf]; omega
      · have hxe := HPF.out i hlt X HXX.out
        have HXE := Hid.mk' (hxe)
        clear hxe
        have HRB := Hid.mk' (X7.out.2.2.2 i hlt)
        have hbl : BL i = X := HXE.out.symm
        have HRB2 : Hid (RL w5 (bad i) (bcp i) X) := by rw [← hbl]; exact HRB.out
        obtain ⟨bb2, off2, e2, _, hbc2⟩ := X7.out.2.2.1.resolve_left (by omega)
        cases e2
        have b0 : w5.cell? ⟨bb, off + i, none⟩ = some (.slice (bad i) X.length (bcp i)) := by rw [← hbl]; exact hbc2 i hlt
        clear hbc2 hbl HRB HXE
        obtain ⟨⟨c0, c1, c2⟩, cz⟩ := X6.out
        go_wp2_with fail
        refine (he_L HXR2.out HRB2.out).mono ?_
        rw [sq_same]
        rintro e w6 ⟨rfl, hb6⟩
        go_wp2
        go_roundw
        case rel => exact ⟨i + 1, by omega, by go_num, bel_next HBW.out (bel_next HB5.out hb6)⟩
        case measure => simp [intOf]; omega
    · have hnl : ¬ (i : Int) < (m : Int) := by omega
      obtain ⟨⟨c0, c1, c2⟩, cz⟩ := X1.out
      go_wp2_with fail
      refine (heOk_L _ ).mono ?_
      rintro e w11 ⟨rfl, b12⟩
      have X13 := Hid.mk' (X1.out.below b12)
      clear X1
      have X14 := Hid.mk' (X2.out.below b12)
      clear X2
      have X15 := Hid.mk' (X3.out.below b12)
      clear X3
      have X16 := Hid.mk' (X4.out.below b12)
      clear X4
      have Z17 := Hid.mk' (bel_next Z5.out b12)
      clear Z5
      clear b12
      go_wp2
      go_ret
      exact ⟨rfl, Z17.out⟩
end Go.Proofs.YtmlaedpamobmhaaGreat
