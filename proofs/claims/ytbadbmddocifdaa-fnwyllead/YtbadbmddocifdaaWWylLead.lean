/-
  The walk of FnWylLead: whatever the code, it comes out true, and nothing that was there is turned.
-/
import Derived.Test.YtbadbmddocifdaaLeadL
import Derived.Test.YtbadbmddocifdaaGaz
namespace Go.Proofs.Ytbadbmddocifdaa
open Go.RowKit
set_option linter.unusedVariables false

set_option maxRecDepth 100000 in
set_option maxHeartbeats 8000000 in
theorem walk_FnWylLead (w : World) (a0 : Option Addr) (len0 cap0 : Nat) (s0 : Src w a0 len0 cap0) :
    Calls Try.prog 8 #[.slice a0 len0 cap0] w fun e w' => e = .returned (.bool true) ∧ Below w.heap.size w w' := by
  by_cases c0 : (1048576 : Int) < (len0 : Int)
  · go_enter Try.func8, Try.ntmps8
    go_wp2
    go_ret
    exact ⟨rfl, Below.refl _ _⟩
  go_enter Try.func8, Try.ntmps8
  go_wp2_with fail
  refine (drawWylMul w a0 len0 cap0 s0).mono ?_
  rintro e wd ⟨da, dca, A, db, dcb, B, rfl, hA, hB, hlA, hlB, hbd⟩
  have HA0 := Hid.mk' hA
  have HB0 := Hid.mk' hB
  have Z0 := Hid.mk' hbd
  clear hA hB hbd s0
  rcases wmV_if A B with h1 | ⟨P, h1⟩
  · go_wp2_with fail
    refine (wmI_L HA0.out HB0.out).mono ?_
    rw [h1]
    rintro e w1 ⟨a1, c1, rfl, b1, r1⟩
    have HA1 := Hid.mk' (HA0.out.below b1)
    have HB1 := Hid.mk' (HB0.out.below b1)
    have HX1 := Hid.mk' r1
    have Z1 := Hid.mk' (bel_next Z0.out b1)
    clear HA0 HB0 Z0 b1 r1
    go_wp2_with fail
    refine (wmS_L HA1.out HB1.out).mono ?_
    rw [h1]
    rintro e w2 ⟨a2, c2, rfl, b2, r2⟩
    have HX2 := Hid.mk' (RL.below HX1.out b2)
    have HY2 := Hid.mk' r2
    have Z2 := Hid.mk' (bel_next Z1.out b2)
    clear HA1 HB1 HX1 Z1 b2 r2
    go_wp2_with fail
    refine (he_L HX2.out HY2.out).mono ?_
    rw [sq_same]
    rintro e w3 ⟨rfl, b3⟩
    have Z3 := Hid.mk' (bel_next Z2.out b3)
    clear HX2 HY2 Z2 b3
    go_wp2
    go_loopw [9] (fun v wr => v = .int .i64 1 ∧ Below w.heap.size w wr) (fun _ _ => 0)
    case atStart => exact ⟨rfl, Z3.out⟩
    case round =>
      obtain ⟨rfl, hBw⟩ := hrel
      have KW := Hid.mk' hBw
      clear hBw
      go_wp2_with fail
      refine (heOk_L _).mono ?_
      rintro e wz ⟨rfl, bz⟩
      go_wp2
      go_ret
      exact ⟨rfl, bel_next KW.out bz⟩
  · go_wp2_with fail
    refine (wmI_L HA0.out HB0.out).mono ?_
    rw [h1]
    rintro e w1 ⟨a1, c1, rfl, b1, r1⟩
    have HA1 := Hid.mk' (HA0.out.below b1)
    have HB1 := Hid.mk' (HB0.out.below b1)
    have HX1 : Hid (RL w1 a1 c1 P) := r1
    have Z1 := Hid.mk' (bel_next Z0.out b1)
    clear HA0 HB0 Z0 b1 r1
    go_wp2_with fail
    refine (wmS_L HA1.out HB1.out).mono ?_
    rw [h1]
    rintro e w2 ⟨a2, c2, rfl, b2, r2⟩
    have HA2 := Hid.mk' (HA1.out.below b2)
    have HB2 := Hid.mk' (HB1.out.below b2)
    have HX2 := Hid.mk' (RL.below HX1.out b2)
    have HY2 : Hid (RL w2 a2 c2 P) := r2
    have Z2 := Hid.mk' (bel_next Z1.out b2)
    clear HA1 HB1 HX1 Z1 b2 r2
    go_wp2_with fail
    refine (he_L HX2.out HY2.out).mono ?_
    rw [sq_same]
    rintro e w3 ⟨rfl, b3⟩
    have HA3 := Hid.mk' (HA2.out.below b3)
    have HB3 := Hid.mk' (HB2.out.below b3)
    have HX3 := Hid.mk' (RL.below HX2.out b3)
    have Z3 := Hid.mk' (bel_next Z2.out b3)
    clear HA2 HB2 HX2 HY2 Z2 b3
    go_wp2
    go_loopw [9] (fun v wr => ∃ k : Nat, 1 ≤ k ∧ k ≤ 4 ∧ v = .int .i64 (k : Int) ∧ Below w.heap.size w wr ∧ RL wr da dca A ∧ RL wr db dcb B ∧ RL wr a1 c1 P) (fun v _ => 4 - (intOf v).toNat)
    case atStart => exact ⟨1, by omega, by omega, rfl, Z3.out, HA3.out, HB3.out, HX3.out⟩
    case round =>
      obtain ⟨k, k1, k4, rfl, hBw, kA, kB, kP⟩ := hrel
      have KA := Hid.mk' kA
      have KB := Hid.mk' kB
      have KP := Hid.mk' kP
      have KW := Hid.mk' hBw
      clear kA kB kP hBw HA3 HB3 HX3 Z3
      by_cases hlt : k ≤ 3
      · have hle : (k : Int) ≤ 3 := by omega
        have hf := ld_prod (o := (k : Int)) ⟨by omega, by omega⟩ h1
        obtain ⟨s, hs⟩ : ∃ z, ldT (k : Int) A = z := ⟨_, rfl⟩
        obtain ⟨os, hos⟩ : ∃ z, ldB (k : Int) A = z := ⟨_, rfl⟩
        obtain ⟨t, ht⟩ : ∃ z, ldT (k : Int) B = z := ⟨_, rfl⟩
        obtain ⟨ot, hot⟩ : ∃ z, ldB (k : Int) B = z := ⟨_, rfl⟩
        obtain ⟨u, hu⟩ : ∃ z, ldT (k : Int) P = z := ⟨_, rfl⟩
        obtain ⟨ou, hou⟩ : ∃ z, ldB (k : Int) P = z := ⟨_, rfl⟩
        rw [hs, ht, hu, hos, hot, hou] at hf
        have HF := Hid.mk' hf
        have HS := Hid.mk' (And.intro hs hos)
        have HT := Hid.mk' (And.intro ht hot)
        have HU := Hid.mk' (And.intro hu hou)
        clear hf hs ht hu hos hot hou h1
        go_wp2_with fail
        have HI := ldI_L (k : Int) KA.out
        rw [HS.out.1, HS.out.2] at HI
        refine HI.mono ?_
        clear HI
        rintro e w5 ⟨rfl, b5⟩
        have A5 := Hid.mk' (KA.out.below b5)
        have B5' := Hid.mk' (KB.out.below b5)
        have P5' := Hid.mk' (KP.out.below b5)
        have W5 := Hid.mk' (bel_next KW.out b5)
        clear b5 KA KB KP KW
        go_wp2_with fail
        have A6 := Hid.mk' (A5.out.below (bel_one w5 (.cells #[.int .i64 s.c, .int .i64 s.m.x, .int .i64 s.m.y, .int .i64 s.m.d, .int .i64 s.m.e] 41)))
        have B6 := Hid.mk' (B5'.out.below (bel_one w5 (.cells #[.int .i64 s.c, .int .i64 s.m.x, .int .i64 s.m.y, .int .i64 s.m.d, .int .i64 s.m.e] 41)))
        have P6 := Hid.mk' (P5'.out.below (bel_one w5 (.cells #[.int .i64 s.c, .int .i64 s.m.x, .int .i64 s.m.y, .int .i64 s.m.d, .int .i64 s.m.e] 41)))
        have W6 := Hid.mk' (bel_next W5.out (bel_one w5 (.cells #[.int .i64 s.c, .int .i64 s.m.x, .int .i64 s.m.y, .int .i64 s.m.d, .int .i64 s.m.e] 41)))
        have S6 := Hid.mk' (C5.box w5 41 s)
        clear A5 B5' P5' W5
        generalize (w5.alloc (.cells #[.int .i64 s.c, .int .i64 s.m.x, .int .i64 s.m.y, .int .i64 s.m.d, .int .i64 s.m.e] 41)) = w6 at A6 B6 P6 W6 S6 ⊢
        have HI := ldI_L (k : Int) B6.out
        rw [HT.out.1, HT.out.2] at HI
        refine HI.mono ?_
        clear HI
        rintro e w7 ⟨rfl, b7⟩
        have A7 := Hid.mk' (A6.out.below b7)
        have B7 := Hid.mk' (B6.out.below b7)
        have P7 := Hid.mk' (P6.out.below b7)
        have W7 := Hid.mk' (bel_next W6.out b7)
        have S7 := Hid.mk' (S6.out.below b7)
        clear b7 A6 B6 P6 W6 S6
        go_wp2_with fail
        have A8 := Hid.mk' (A7.out.below (bel_one w7 (.cells #[.int .i64 t.c, .int .i64 t.m.x, .int .i64 t.m.y, .int .i64 t.m.d, .int .i64 t.m.e] 41)))
        have B8 := Hid.mk' (B7.out.below (bel_one w7 (.cells #[.int .i64 t.c, .int .i64 t.m.x, .int .i64 t.m.y, .int .i64 t.m.d, .int .i64 t.m.e] 41)))
        have P8 := Hid.mk' (P7.out.below (bel_one w7 (.cells #[.int .i64 t.c, .int .i64 t.m.x, .int .i64 t.m.y, .int .i64 t.m.d, .int .i64 t.m.e] 41)))
        have W8 := Hid.mk' (bel_next W7.out (bel_one w7 (.cells #[.int .i64 t.c, .int .i64 t.m.x, .int .i64 t.m.y, .int .i64 t.m.d, .int .i64 t.m.e] 41)))
        have S8 := Hid.mk' (S7.out.below (bel_one w7 (.cells #[.int .i64 t.c, .int .i64 t.m.x, .int .i64 t.m.y, .int .i64 t.m.d, .int .i64 t.m.e] 41)))
        have T8 := Hid.mk' (C5.box w7 41 t)
        clear A7 B7 P7 W7 S7
        generalize (w7.alloc (.cells #[.int .i64 t.c, .int .i64 t.m.x, .int .i64 t.m.y, .int .i64 t.m.d, .int .i64 t.m.e] 41)) = w8 at A8 B8 P8 W8 S8 T8 ⊢
        have HI := ldI_L (k : Int) P8.out
        rw [HU.out.1, HU.out.2] at HI
        refine HI.mono ?_
        clear HI
        rintro e w9 ⟨rfl, b9⟩
        have A9 := Hid.mk' (A8.out.below b9)
        have B9 := Hid.mk' (B8.out.below b9)
        have P9 := Hid.mk' (P8.out.below b9)
        have W9 := Hid.mk' (bel_next W8.out b9)
        have S9 := Hid.mk' (S8.out.below b9)
        have T9 := Hid.mk' (T8.out.below b9)
        clear b9 A8 B8 P8 W8 S8 T8
        obtain ⟨p0, p1, p2, p3, p4⟩ := S9.out
        obtain ⟨q0, q1, q2, q3, q4⟩ := T9.out
        have ls := S9.out.lt
        have lt := T9.out.lt
        go_wp2_with fail
        clear p0 p1 p2 p3 p4 q0 q1 q2 q3 q4 ls lt
        have AX := Hid.mk' (A9.out.below (bel_one w9 (.cells #[.int .i64 u.c, .int .i64 u.m.x, .int .i64 u.m.y, .int .i64 u.m.d, .int .i64 u.m.e] 41)))
        have BX := Hid.mk' (B9.out.below (bel_one w9 (.cells #[.int .i64 u.c, .int .i64 u.m.x, .int .i64 u.m.y, .int .i64 u.m.d, .int .i64 u.m.e] 41)))
        have PX := Hid.mk' (P9.out.below (bel_one w9 (.cells #[.int .i64 u.c, .int .i64 u.m.x, .int .i64 u.m.y, .int .i64 u.m.d, .int .i64 u.m.e] 41)))
        have WX := Hid.mk' (bel_next W9.out (bel_one w9 (.cells #[.int .i64 u.c, .int .i64 u.m.x, .int .i64 u.m.y, .int .i64 u.m.d, .int .i64 u.m.e] 41)))
        have SX := Hid.mk' (S9.out.below (bel_one w9 (.cells #[.int .i64 u.c, .int .i64 u.m.x, .int .i64 u.m.y, .int .i64 u.m.d, .int .i64 u.m.e] 41)))
        have TX := Hid.mk' (T9.out.below (bel_one w9 (.cells #[.int .i64 u.c, .int .i64 u.m.x, .int .i64 u.m.y, .int .i64 u.m.d, .int .i64 u.m.e] 41)))
        have UX := Hid.mk' (C5.box w9 41 u)
        clear A9 B9 P9 W9 S9 T9
        generalize (w9.alloc (.cells #[.int .i64 u.c, .int .i64 u.m.x, .int .i64 u.m.y, .int .i64 u.m.d, .int .i64 u.m.e] 41)) = wx at AX BX PX WX SX TX UX ⊢
        obtain ⟨mm, bm, hmm⟩ : ∃ z b, M.mul ⟨s.m.x, s.m.y, s.m.d, s.m.e⟩ ⟨t.m.x, t.m.y, t.m.d, t.m.e⟩ = (z, b) := ⟨_, _, rfl⟩
        have HM := Hid.mk' hmm
        refine (monMulI s.m.x s.m.y s.m.d s.m.e t.m.x t.m.y t.m.d t.m.e wx).mono ?_
        rw [hmm]
        clear hmm
        rintro e wy ⟨rfl, hy⟩
        have AY := Hid.mk' (AX.out.below hy)
        have BY := Hid.mk' (BX.out.below hy)
        have PY := Hid.mk' (PX.out.below hy)
        have WY := Hid.mk' (bel_next WX.out hy)
        have SY := Hid.mk' (SX.out.below hy)
        have TY := Hid.mk' (TX.out.below hy)
        have UY := Hid.mk' (UX.out.below hy)
        clear hy AX BX PX WX SX TX UX
        have hou : ou = (os && ot) := HF.out.1
        subst hou
        have AZ := Hid.mk' (AY.out.below (bel_one wy (.cells #[.int .i64 mm.x, .int .i64 mm.y, .int .i64 mm.d, .int .i64 mm.e] 39)))
        have BZ := Hid.mk' (BY.out.below (bel_one wy (.cells #[.int .i64 mm.x, .int .i64 mm.y, .int .i64 mm.d, .int .i64 mm.e] 39)))
        have PZ := Hid.mk' (PY.out.below (bel_one wy (.cells #[.int .i64 mm.x, .int .i64 mm.y, .int .i64 mm.d, .int .i64 mm.e] 39)))
        have WZ := Hid.mk' (bel_next WY.out (bel_one wy (.cells #[.int .i64 mm.x, .int .i64 mm.y, .int .i64 mm.d, .int .i64 mm.e] 39)))
        have SZ := Hid.mk' (SY.out.below (bel_one wy (.cells #[.int .i64 mm.x, .int .i64 mm.y, .int .i64 mm.d, .int .i64 mm.e] 39)))
        have TZ := Hid.mk' (TY.out.below (bel_one wy (.cells #[.int .i64 mm.x, .int .i64 mm.y, .int .i64 mm.d, .int .i64 mm.e] 39)))
        have UZ := Hid.mk' (UY.out.below (bel_one wy (.cells #[.int .i64 mm.x, .int .i64 mm.y, .int .i64 mm.d, .int .i64 mm.e] 39)))
        have MZ := Hid.mk' (M4.box wy 39 mm.x mm.y mm.d mm.e)
        clear AY BY PY WY SY TY UY
        cases os
        · go_wp2_with fail
          generalize (wy.alloc (.cells #[.int .i64 mm.x, .int .i64 mm.y, .int .i64 mm.d, .int .i64 mm.e] 39)) = wz at AZ BZ PZ WZ SZ TZ UZ MZ ⊢
          have ne := Ext.there wz
          refine wp_region_ext (by kernel_rfl) (by kernel_rfl) ?_
          repeat (go_big_quiet_step (fail))
          refine wpQuiet_nil ?_
          rintro _ ⟨v, rfl⟩
          have HV := Hid.mk' v.2
          go_wp2
          go_roundw
          case rel => exact ⟨k + 1, by omega, by omega, by go_num, bel_next WZ.out HV.out, RL.below AZ.out HV.out, RL.below BZ.out HV.out, RL.below PZ.out HV.out⟩
          case measure => simp [intOf]; omega
        · cases ot
          · go_wp2_with fail
            generalize (wy.alloc (.cells #[.int .i64 mm.x, .int .i64 mm.y, .int .i64 mm.d, .int .i64 mm.e] 39)) = wz at AZ BZ PZ WZ SZ TZ UZ MZ ⊢
            have ne := Ext.there wz
            refine wp_region_ext (by kernel_rfl) (by kernel_rfl) ?_
            repeat (go_big_quiet_step (fail))
            refine wpQuiet_nil ?_
            rintro _ ⟨v, rfl⟩
            have HV := Hid.mk' v.2
            go_wp2
            go_roundw
            case rel => exact ⟨k + 1, by omega, by omega, by go_num, bel_next WZ.out HV.out, RL.below AZ.out HV.out, RL.below BZ.out HV.out, RL.below PZ.out HV.out⟩
            case measure => simp [intOf]; omega
          · have hf2 := HF.out.2 rfl rfl
            have hm2 := HM.out
            rw [hf2.1] at hm2
            have em : u.m = mm := congrArg Prod.fst hm2
            have hfc := hf2.2
            subst em
            clear hm2 hf2
            go_wp2_with fail
            generalize (wy.alloc (.cells #[.int .i64 u.m.x, .int .i64 u.m.y, .int .i64 u.m.d, .int .i64 u.m.e] 39)) = wz at AZ BZ PZ WZ SZ TZ UZ MZ ⊢
            have ne := Ext.there wz
            have ls := SZ.out.lt
            have lt := TZ.out.lt
            have lu := UZ.out.lt
            have lm := MZ.out.lt
            have s0 : ∀ v : Ext wz, v.1.cell? ⟨w5.heap.size, 0, none⟩ = some (.int .i64 s.c) := fun v => (v.cell ls).trans SZ.out.1
            have t0 : ∀ v : Ext wz, v.1.cell? ⟨w7.heap.size, 0, none⟩ = some (.int .i64 t.c) := fun v => (v.cell lt).trans TZ.out.1
            have u0 : ∀ v : Ext wz, v.1.cell? ⟨w9.heap.size, 0, none⟩ = some (.int .i64 u.c) := fun v => (v.cell lu).trans UZ.out.1
            have u1 : ∀ v : Ext wz, v.1.cell? ⟨w9.heap.size, 1, none⟩ = some (.int .i64 u.m.x) := fun v => (v.cell lu).trans UZ.out.2.1
            have u2 : ∀ v : Ext wz, v.1.cell? ⟨w9.heap.size, 2, none⟩ = some (.int .i64 u.m.y) := fun v => (v.cell lu).trans UZ.out.2.2.1
            have u3 : ∀ v : Ext wz, v.1.cell? ⟨w9.heap.size, 3, none⟩ = some (.int .i64 u.m.d) := fun v => (v.cell lu).trans UZ.out.2.2.2.1
            have u4 : ∀ v : Ext wz, v.1.cell? ⟨w9.heap.size, 4, none⟩ = some (.int .i64 u.m.e) := fun v => (v.cell lu).trans UZ.out.2.2.2.2
            obtain ⟨m0, m1, m2, m3⟩ := M4.ext MZ.out
            have hmul : ∀ x : World, Calls Try.prog 26 #[.int .i64 s.c, .int .i64 t.c] x fun e w' => e = .returned (.int .i64 u.c) ∧ w' = x := fun x => by
              have := mulI s.c t.c x
              rw [hfc] at this
              exact this
            clear hfc
            refine wp_region_ext (by kernel_rfl) (by kernel_rfl) ?_
            repeat (go_big_quiet_step (first | (go_at_call 26; exact ext_same (hmul _)) | fail))
            refine wpQuiet_nil ?_
            rintro _ ⟨v, rfl⟩
            have HV := Hid.mk' v.2
            clear s0 t0 u0 u1 u2 u3 u4 m0 m1 m2 m3 ne hmul
            go_wp2
            go_roundw
            case rel => exact ⟨k + 1, by omega, by omega, by go_num, bel_next WZ.out HV.out, RL.below AZ.out HV.out, RL.below BZ.out HV.out, RL.below PZ.out HV.out⟩
            case measure => simp [intOf]; omega
      · have hnl : ¬ (k : Int) ≤ 3 := by omega
        go_wp2_with fail
        refine (heOk_L _).mono ?_
        rintro e wz ⟨rfl, bz⟩
        go_wp2
        go_ret
        exact ⟨rfl, bel_next KW.out bz⟩
end Go.Proofs.Ytbadbmddocifdaa
