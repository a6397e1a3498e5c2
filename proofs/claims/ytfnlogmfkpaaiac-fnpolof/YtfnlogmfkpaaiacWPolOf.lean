/-
  The walk of FnPolOf: whatever the code, it comes out true, and nothing that was there is turned.
-/
import Derived.Test.YtfnlogmfkpaaiacDrawPO
import Derived.Test.YtfnlogmfkpaaiacHeSame
import Derived.Test.YtfnlogmfkpaaiacLawM
namespace Go.Proofs.Ytfnlogmfkpaaiac
open Go.RowKit
set_option linter.unusedVariables false

theorem polOf_bad {c : Int} {m : M} (h : ¬ ((1 ≤ c ∧ c ≤ 100) ∧ m.ok = true)) : polOf c m = [] := if_neg h
theorem polOf_good {c : Int} {m : M} (h1 : 1 ≤ c) (h2 : c ≤ 100) (h3 : m.ok = true) : polOf c m = [⟨c, m⟩] := if_pos ⟨⟨h1, h2⟩, h3⟩
theorem polOk_one {c : Int} {m : M} (h1 : 1 ≤ c) (h2 : c ≤ 100) (h3 : m.ok = true) : polOk 1 (lf [⟨c, m⟩]) = true := by
  simp only [polOk, decide_eq_true_eq]
  refine ⟨by omega, fun i hi => ?_⟩
  obtain rfl : i = 0 := by omega
  simp [okAt, lf, h1, h2, h3]
theorem polAt_one {c : Int} {x y d e : Int} : polAt (lf [⟨c, ⟨x, y, d, e⟩⟩]) 1 ⟨x, y, d, e⟩ = c := by
  simp [polAt, atFrom, lf, M.eqB]
/-- what PolOf hands back, to be read. -/
theorem polOfI_rd (c x y d e : Int) (L : List T) (hL : polOf c ⟨x, y, d, e⟩ = L) (hl : L.length ≤ 400) (w : World) :
    Calls Try.prog 15 #[.int .i64 c, .agg #[.int .i64 x, .int .i64 y, .int .i64 d, .int .i64 e]] w fun r w' => ∃ a cap, r = .returned (.slice a L.length cap) ∧ Below w.heap.size w w' ∧ Rd w' a L.length cap (lf L) := by
  refine (polOfI c x y d e w).mono ?_
  rw [hL]
  rintro r w' ⟨v, rfl, hb, ho⟩
  obtain ⟨a, cap, rfl, hout⟩ := out_of_owns ho (by omega)
  exact ⟨a, cap, rfl, hb, hout.1⟩
theorem polOfS_rd (c x y d e : Int) (L : List T) (hL : polOf c ⟨x, y, d, e⟩ = L) (hl : L.length ≤ 400) (w : World) :
    Calls Try.prog 21 #[.int .i64 c, .agg #[.int .i64 x, .int .i64 y, .int .i64 d, .int .i64 e]] w fun r w' => ∃ a cap, r = .returned (.slice a L.length cap) ∧ Below w.heap.size w w' ∧ Rd w' a L.length cap (lf L) := by
  refine (polOfS c x y d e w).mono ?_
  rw [hL]
  rintro r w' ⟨v, rfl, hb, ho⟩
  obtain ⟨a, cap, rfl, hout⟩ := out_of_owns ho (by omega)
  exact ⟨a, cap, rfl, hb, hout.1⟩
set_option maxRecDepth 100000 in
set_option maxHeartbeats 8000000 in
theorem walk_FnPolOf (w : World) (a0 : Option Addr) (len0 cap0 : Nat) (s0 : Src w a0 len0 cap0) :
    Calls Try.prog 5 #[.slice a0 len0 cap0] w fun e w' => e = .returned (.bool true) ∧ Below w.heap.size w w' := by
  by_cases c0 : (1048576 : Int) < (len0 : Int)
  · go_enter Try.func5, Try.ntmps5
    go_wp2
    go_ret
    exact ⟨rfl, Below.refl _ _⟩
  go_enter Try.func5, Try.ntmps5
  go_wp2_with fail
  refine (drawPolOf _ _ _ _ s0).mono ?_
  rintro e w1 ⟨c, x, y, d, z, rfl, b1⟩
  have HB1 := Hid.mk' b1
  clear s0 b1
  go_wp2_with fail
  have HB2 := Hid.mk' (bel_next HB1.out (bel_one w1 (.cells #[.int .i64 x, .int .i64 y, .int .i64 d, .int .i64 z] 24)))
  have HM2 := Hid.mk' (M4.box w1 24 x y d z)
  clear HB1
  generalize (w1.alloc (.cells #[.int .i64 x, .int .i64 y, .int .i64 d, .int .i64 z] 24)) = w2 at HB2 HM2 ⊢
  by_cases hg : (1 ≤ c ∧ c ≤ 100) ∧ M.ok ⟨x, y, d, z⟩ = true
  · obtain ⟨⟨g1, g2⟩, g3⟩ := hg
    have hL : polOf c ⟨x, y, d, z⟩ = [⟨c, ⟨x, y, d, z⟩⟩] := polOf_good g1 g2 g3
    have hL1 : polOf 1 ⟨0, 0, 0, 0⟩ = [⟨1, ⟨0, 0, 0, 0⟩⟩] := polOf_good (by omega) (by omega) (by decide)
    refine (polOfI_rd c x y d z _ hL (by simp) _).mono ?_
    rintro e w3 ⟨pa, pc, rfl, b3, hr3⟩
    have HR3 : Hid (Rd w3 pa 1 pc (lf [⟨c, ⟨x, y, d, z⟩⟩])) := hr3
    have HB3 := Hid.mk' (bel_next HB2.out b3)
    have HM3 := Hid.mk' (HM2.out.below b3)
    clear b3 HB2 HM2 hr3
    obtain ⟨k0, k1, k2, k3⟩ := HM3.out
    go_wp2_with fail
    clear k0 k1 k2 k3
    refine (polOfS_rd c x y d z _ hL (by simp) _).mono ?_
    rintro e w4 ⟨qa, qc, rfl, b4, hr4⟩
    have HQ4 : Hid (Rd w4 qa 1 qc (lf [⟨c, ⟨x, y, d, z⟩⟩])) := hr4
    have HR4 := Hid.mk' (HR3.out.below b4)
    have HB4 := Hid.mk' (bel_next HB3.out b4)
    have HM4 := Hid.mk' (HM3.out.below b4)
    clear b4 HB3 HM3 HR3 hr4
    go_wp2_with fail
    refine (heSameT _ _ _ _ _ _ _ _ _ HR4.out HQ4.out).mono ?_
    rw [termsEq_same]
    rintro e w5 ⟨rfl, b5⟩
    have HR5 := Hid.mk' (HR4.out.below b5)
    have HB5 := Hid.mk' (bel_next HB4.out b5)
    have HM5 := Hid.mk' (HM4.out.below b5)
    clear b5 HB4 HM4 HR4 HQ4
    have hok : okB c = true := okB_mk ⟨by omega, g2⟩
    have hc0 : (c == 0) = false := by simp; omega
    go_wp2_with fail
    refine (okS _ _).mono ?_
    rw [hok]
    rintro e w6 ⟨rfl, hw⟩
    obtain rfl := hw.symm
    clear hw
    obtain ⟨k0, k1, k2, k3⟩ := HM5.out
    go_wp2_with fail
    clear k0 k1 k2 k3
    refine (monOkS_of g3 _).mono ?_
    rintro e w6 ⟨rfl, b6⟩
    have HR6 := Hid.mk' (HR5.out.below b6)
    have HB6 := Hid.mk' (bel_next HB5.out b6)
    have HM6 := Hid.mk' (HM5.out.below b6)
    clear b6 HB5 HM5 HR5
    go_wp2_with fail
    refine (polOkI _ _ _ _ _ HR6.out).mono ?_
    rw [polOk_one g1 g2 g3]
    rintro e w7 ⟨rfl, b7⟩
    have HR7 := Hid.mk' (HR6.out.below b7)
    have HB7 := Hid.mk' (bel_next HB6.out b7)
    have HM7 := Hid.mk' (HM6.out.below b7)
    clear b7 HB6 HM6 HR6
    obtain ⟨k0, k1, k2, k3⟩ := HM7.out
    go_wp2_with fail
    clear k0 k1 k2 k3
    refine (polAtI _ _ _ _ _ _ _ _ _ HR7.out).mono ?_
    rw [polAt_one]
    rintro e w8 ⟨rfl, b8⟩
    have HB8 := Hid.mk' (bel_next HB7.out b8)
    clear b8 HB7 HM7 HR7
    go_wp2_with fail
    refine (polOfI_rd 1 0 0 0 0 _ hL1 (by simp) _).mono ?_
    rintro e w9 ⟨ra, rc, rfl, b9, hr9⟩
    have HR9 : Hid (Rd w9 ra 1 rc (lf [⟨1, ⟨0, 0, 0, 0⟩⟩])) := hr9
    have HB9 := Hid.mk' (bel_next HB8.out b9)
    clear b9 HB8 hr9
    go_wp2_with fail
    refine (heOneT _).mono ?_
    rintro e w10 ⟨rfl, rfl⟩
    have HB10 := Hid.mk' (bel_next HB9.out (bel_one w9 (.cells #[.int .i64 1, .int .i64 0, .int .i64 0, .int .i64 0, .int .i64 0] 36)))
    have HR10 := Hid.mk' (HR9.out.below (bel_one w9 (.cells #[.int .i64 1, .int .i64 0, .int .i64 0, .int .i64 0, .int .i64 0] 36)))
    have HO10 : Hid (Rd (w9.alloc (.cells #[.int .i64 1, .int .i64 0, .int .i64 0, .int .i64 0, .int .i64 0] 36)) (some ⟨w9.heap.size, 0, none⟩) 1 1 (fun _ => ⟨1, ⟨0, 0, 0, 0⟩⟩)) := by
      refine ⟨Nat.le_refl _, by omega, .inr ⟨w9.heap.size, 0, rfl, by simp, fun i hi => ?_⟩⟩
      obtain rfl : i = 0 := by omega
      exact ⟨by rw [World.cell?_alloc_at _ _ _ _ rfl]; rfl, by rw [World.cell?_alloc_at _ _ _ _ rfl]; rfl, by rw [World.cell?_alloc_at _ _ _ _ rfl]; rfl, by rw [World.cell?_alloc_at _ _ _ _ rfl]; rfl, by rw [World.cell?_alloc_at _ _ _ _ rfl]; rfl⟩
    generalize (w9.alloc (.cells #[.int .i64 1, .int .i64 0, .int .i64 0, .int .i64 0, .int .i64 0] 36)) = w10 at HB10 HR10 HO10 ⊢
    have hte : termsEq 1 (lf [⟨1, ⟨0, 0, 0, 0⟩⟩]) 1 (fun _ => ⟨1, ⟨0, 0, 0, 0⟩⟩) = true := by
      simp only [termsEq, decide_eq_true_eq]
      refine ⟨trivial, fun i hi => ?_⟩
      obtain rfl : i = 0 := by omega
      rfl
    go_wp2_with fail
    refine (heSameT _ _ _ _ _ _ _ _ _ HR10.out HO10.out).mono ?_
    rw [hte]
    rintro e w11 ⟨rfl, b11⟩
    have HB11 := Hid.mk' (bel_next HB10.out b11)
    clear b11 HR10 HO10 HB10 HR9
    go_wp2
    go_ret
    exact ⟨rfl, HB11.out⟩
  · have hL : polOf c ⟨x, y, d, z⟩ = [] := polOf_bad hg
    refine (polOfI_rd c x y d z _ hL (by simp) _).mono ?_
    rintro e w3 ⟨pa, pc, rfl, b3, hr3⟩
    have HR3 : Hid (Rd w3 pa 0 pc (lf [])) := hr3
    have HB3 := Hid.mk' (bel_next HB2.out b3)
    have HM3 := Hid.mk' (HM2.out.below b3)
    clear b3 HB2 HM2 hr3
    obtain ⟨k0, k1, k2, k3⟩ := HM3.out
    go_wp2_with fail
    clear k0 k1 k2 k3
    refine (polOfS_rd c x y d z _ hL (by simp) _).mono ?_
    rintro e w4 ⟨qa, qc, rfl, b4, hr4⟩
    have HQ4 : Hid (Rd w4 qa 0 qc (lf [])) := hr4
    have HR4 := Hid.mk' (HR3.out.below b4)
    have HB4 := Hid.mk' (bel_next HB3.out b4)
    have HM4 := Hid.mk' (HM3.out.below b4)
    clear b4 HB3 HM3 HR3 hr4
    go_wp2_with fail
    refine (heSameT _ _ _ _ _ _ _ _ _ HR4.out HQ4.out).mono ?_
    rw [termsEq_same]
    rintro e w5 ⟨rfl, b5⟩
    have HB5 := Hid.mk' (bel_next HB4.out b5)
    have HM5 := Hid.mk' (HM4.out.below b5)
    clear b5 HB4 HM4 HR4 HQ4
    go_wp2_with fail
    refine (okS _ _).mono ?_
    cases hok : okB c
    · rintro e w6 ⟨rfl, hw⟩
      obtain rfl := hw.symm
      clear hw
      go_wp2_with fail
      refine (heOkT _).mono ?_
      rintro e w7 ⟨rfl, b7⟩
      have HB7 := Hid.mk' (bel_next HB5.out b7)
      clear b7
      go_wp2
      go_ret
      exact ⟨rfl, HB7.out⟩
    · rintro e w6 ⟨rfl, hw⟩
      obtain rfl := hw.symm
      clear hw
      by_cases hc : c = 0
      · subst hc
        go_wp2_with fail
        refine (heOkT _).mono ?_
        rintro e w7 ⟨rfl, b7⟩
        have HB7 := Hid.mk' (bel_next HB5.out b7)
        clear b7
        go_wp2
        go_ret
        exact ⟨rfl, HB7.out⟩
      · have hcb : (c == 0) = false := by simp [hc]
        have hm : M.ok ⟨x, y, d, z⟩ = false := by
          cases hm : M.ok ⟨x, y, d, z⟩
          · rfl
          · have := okB_in hok
            exact absurd ⟨⟨by omega, by omega⟩, hm⟩ hg
        obtain ⟨k0, k1, k2, k3⟩ := HM5.out
        go_wp2_with fail
        clear k0 k1 k2 k3
        refine (monOkS_of hm _).mono ?_
        rintro e w6 ⟨rfl, b6⟩
        have HB6 := Hid.mk' (bel_next HB5.out b6)
        clear b6
        go_wp2_with fail
        refine (heOkT _).mono ?_
        rintro e w7 ⟨rfl, b7⟩
        have HB7 := Hid.mk' (bel_next HB6.out b7)
        clear b7
        go_wp2
        go_ret
        exact ⟨rfl, HB7.out⟩
end Go.Proofs.Ytfnlogmfkpaaiac
