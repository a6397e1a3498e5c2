/-
  The walk of FnMonText: whatever the codes, it comes out true, and nothing that was there is turned.
-/
import Derived.Test.YtnfgiplgkobnlaaDoorDrawMt
import Derived.Test.YtnfgiplgkobnlaaDoorRdM
import Derived.Test.YtnfgiplgkobnlaaDoorRdG
import Derived.Test.YtnfgiplgkobnlaaDoorTxI
import Derived.Test.YtnfgiplgkobnlaaDoorM4
namespace Go.Proofs.YtnfgiplgkobnlaaDoor
open Go.RowKit
set_option linter.unusedVariables false
theorem monR_ok {l : List UInt8} {n : M} (h : monR l = (n, true)) : monT n = l := by
  unfold monR at h
  by_cases q : l.length ≤ 40 ∧ monT (guess l) = l
  · rw [if_pos q] at h; cases h; exact q.2
  · rw [if_neg q] at h; cases h
theorem monR_T {m : M} (h : M.ok m = true) : monR (monT m) = (m, true) := by
  unfold monR
  rw [guess_T h, if_pos ⟨Nat.le_trans (monT_le m) (by omega), rfl⟩]
theorem monT_ne {m : M} (h : M.ok m = true) : ∃ c r, monT m = c :: r := by
  cases e : monT m with
  | nil =>
    by_cases q : monS m = []
    · rw [monT_one h q] at e; cases e
    · rw [monT_is h q] at e; exact absurd e q
  | cons c r => exact ⟨c, r, rfl⟩
theorem xd12 : monT ⟨1, 0, 12, 0⟩ = [120, 100, 49, 50] := by decide +kernel
set_option maxRecDepth 100000 in
set_option maxHeartbeats 8000000 in
theorem walk_FnMonText (w : World) (a0 : Option Addr) (len0 cap0 : Nat) (a1 : Option Addr) (len1 cap1 : Nat) (s0 : Src w a0 len0 cap0) (s1 : Src w a1 len1 cap1) (hE : Er w) :
    Calls Tryd.prog 3 #[.slice a0 len0 cap0, .slice a1 len1 cap1] w fun e w' => e = .returned (.bool true) ∧ Below w.heap.size w w' := by
  by_cases c0 : (1048576 : Int) < (len0 : Int)
  · go_enter Tryd.func3, Tryd.ntmps3
    go_wp2
    go_ret
    exact ⟨rfl, Below.refl _ _⟩
  by_cases c1 : (1048576 : Int) < (len1 : Int)
  · go_enter Tryd.func3, Tryd.ntmps3
    go_wp2
    go_ret
    exact ⟨rfl, Below.refl _ _⟩
  go_enter Tryd.func3, Tryd.ntmps3
  go_wp2_with fail
  refine (drawMonText _ _ _ _ s0).mono ?_
  rintro e w1 ⟨x, y, d, z, rfl, b1⟩
  have bx := bel_next b1 (bel_one w1 (.cells #[.int .i64 x, .int .i64 y, .int .i64 d, .int .i64 z] 24))
  have S1 := Hid.mk' (s1.below bx)
  have E1 := Hid.mk' (hE.below bx)
  have K1 := Hid.mk' (M4.box w1 24 x y d z)
  have Z1 := Hid.mk' bx
  clear bx b1 s0 s1 hE
  go_wp2_with fail
  generalize (w1.alloc (.cells #[.int .i64 x, .int .i64 y, .int .i64 d, .int .i64 z] 24)) = w2 at S1 E1 K1 Z1 ⊢
  generalize w1.heap.size = g1 at K1 ⊢
  clear w1
  obtain ⟨S, hS⟩ : ∃ S, monT ⟨x, y, d, z⟩ = S := ⟨_, rfl⟩
  have HSE := Hid.mk' hS
  have MI := Hid.mk' (fun u => monTextI x y d z u)
  have MS := Hid.mk' (fun u => monTextS x y d z u)
  rw [hS] at MI MS
  clear hS
  refine (MI.out _).mono ?_
  rintro r w3 ⟨rfl, b3⟩
  have S2 := Hid.mk' (S1.out.below b3)
  have E2 := Hid.mk' (E1.out.below b3)
  have K2 := Hid.mk' (K1.out.below b3)
  have Z2 := Hid.mk' (bel_next Z1.out b3)
  clear b3 S1 E1 K1 Z1
  go_wp2_with fail
  refine (drawMonRead _ _ _ _ S2.out).mono ?_
  rintro e w4 ⟨l, rfl, hl, b4⟩
  have E3 := Hid.mk' (E2.out.below b4)
  have K3 := Hid.mk' (K2.out.below b4)
  have Z3 := Hid.mk' (bel_next Z2.out b4)
  clear b4 S2 E2 K2 Z2
  obtain ⟨R, hR⟩ : ∃ R, monR l = R := ⟨_, rfl⟩
  have HR := Hid.mk' hR
  have RI := Hid.mk' (fun u h => monReadI l u (by omega) h)
  have RS := Hid.mk' (fun u => monReadS l u (by omega))
  rw [hR] at RI RS
  clear hR hl
  obtain ⟨⟨nx, ny, nd, nz⟩, b⟩ := R
  go_wp2_with fail
  refine (RI.out _ E3.out).mono ?_
  rintro r w5 ⟨rfl, b5⟩
  have bx := bel_next b5 (bel_one w5 (.cells #[.int .i64 nx, .int .i64 ny, .int .i64 nd, .int .i64 nz] 24))
  have E4 := Hid.mk' (E3.out.below bx)
  have K4 := Hid.mk' (K3.out.below bx)
  have N4 := Hid.mk' (M4.box w5 24 nx ny nd nz)
  have Z4 := Hid.mk' (bel_next Z3.out bx)
  clear bx b5 E3 K3 Z3
  go_wp2_with fail
  generalize (w5.alloc (.cells #[.int .i64 nx, .int .i64 ny, .int .i64 nd, .int .i64 nz] 24)) = w6 at E4 K4 N4 Z4 ⊢
  generalize w5.heap.size = g2 at N4 ⊢
  clear w5
  refine (RS.out _).mono ?_
  rintro r w7 ⟨rfl, b7⟩
  have bx := bel_next b7 (bel_one w7 (.cells #[.int .i64 nx, .int .i64 ny, .int .i64 nd, .int .i64 nz] 24))
  have E5 := Hid.mk' (E4.out.below bx)
  have K5 := Hid.mk' (K4.out.below bx)
  have N5 := Hid.mk' (N4.out.below bx)
  have P5 := Hid.mk' (M4.box w7 24 nx ny nd nz)
  have Z5 := Hid.mk' (bel_next Z4.out bx)
  have q1 : g1 < w7.heap.size := Nat.lt_of_lt_of_le (M4.lt K4.out) b7.size
  have q2 : g2 < w7.heap.size := Nat.lt_of_lt_of_le (M4.lt N4.out) b7.size
  have t1 := K4.out.below b7
  obtain ⟨k0, k1, k2, k3⟩ := t1
  clear bx b7 E4 K4 N4 Z4
  go_wp2_with fail
  clear k0 k1 k2 k3 q1 q2
  generalize (w7.alloc (.cells #[.int .i64 nx, .int .i64 ny, .int .i64 nd, .int .i64 nz] 24)) = w8 at E5 K5 N5 P5 Z5 ⊢
  generalize w7.heap.size = g3 at P5 ⊢
  clear w7
  refine (MS.out _).mono ?_
  rintro r w9 ⟨rfl, b9⟩
  have E6 := Hid.mk' (E5.out.below b9)
  have K6 := Hid.mk' (K5.out.below b9)
  have N6 := Hid.mk' (N5.out.below b9)
  have P6 := Hid.mk' (P5.out.below b9)
  have Z6 := Hid.mk' (bel_next Z5.out b9)
  clear b9 E5 K5 N5 P5 Z5 MI MS RS RI
  obtain ⟨k0, k1, k2, k3⟩ := K6.out
  obtain ⟨n0, n1, n2, n3⟩ := N6.out
  obtain ⟨p0, p1, p2, p3⟩ := P6.out
  cases hok : M.ok ⟨x, y, d, z⟩
  · have HOK := Hid.mk' hok
    have e0 : S = [] := by rw [← HSE.out, monT_no hok]
    clear hok
    subst e0
    cases b
    · skip
      have E7 := E6
      have K7 := K6
      have Z7 := Z6
      clear E6 K6 Z6
      go_wp2_with fail
      clear k0 k1 k2 k3
      refine (monOkI_of HOK.out _).mono ?_
      rintro r w11 ⟨rfl, b11⟩
      have E8 := Hid.mk' (E7.out.below b11)
      have K8 := Hid.mk' (K7.out.below b11)
      have Z8 := Hid.mk' (bel_next Z7.out b11)
      clear b11 E7 K7 Z7
      go_wp2_with fail
      have TX := Hid.mk' (fun u => monTextI 1 0 12 0 u)
      rw [xd12] at TX
      refine (TX.out _).mono ?_
      rintro r w12 ⟨rfl, b12⟩
      have Z9 := Hid.mk' (bel_next Z8.out b12)
      clear b12 TX
      go_wp2
      go_ret
      exact ⟨by rfl, Z9.out⟩
    · skip
      go_wp2_with fail
      clear k0 k1 k2 k3 n0 n1 n2 n3 p0 p1 p2 p3
      have TI := Hid.mk' (fun u => monTextI nx ny nd nz u)
      rw [monR_ok HR.out] at TI
      refine (TI.out _).mono ?_
      rintro r w10 ⟨rfl, b10⟩
      have E7 := Hid.mk' (E6.out.below b10)
      have K7 := Hid.mk' (K6.out.below b10)
      have Z7 := Hid.mk' (bel_next Z6.out b10)
      clear b10 E6 K6 N6 P6 Z6 TI
      obtain ⟨k0, k1, k2, k3⟩ := K7.out
      go_wp2_with fail
      clear k0 k1 k2 k3
      refine (monOkI_of HOK.out _).mono ?_
      rintro r w11 ⟨rfl, b11⟩
      have E8 := Hid.mk' (E7.out.below b11)
      have K8 := Hid.mk' (K7.out.below b11)
      have Z8 := Hid.mk' (bel_next Z7.out b11)
      clear b11 E7 K7 Z7
      go_wp2_with fail
      have TX := Hid.mk' (fun u => monTextI 1 0 12 0 u)
      rw [xd12] at TX
      refine (TX.out _).mono ?_
      rintro r w12 ⟨rfl, b12⟩
      have Z9 := Hid.mk' (bel_next Z8.out b12)
      clear b12 TX
      go_wp2
      go_ret
      exact ⟨by rfl, Z9.out⟩
  · have HOK := Hid.mk' hok
    clear hok
    have hse : S.isEmpty = false := by
      obtain ⟨c, r, e2⟩ := monT_ne HOK.out
      rw [HSE.out] at e2; rw [e2]; rfl
    cases b
    · skip
      have E7 := E6
      have K7 := K6
      have Z7 := Z6
      clear E6 K6 Z6
      go_wp2_with fail
      clear k0 k1 k2 k3
      refine (monOkI_of HOK.out _).mono ?_
      rintro r w11 ⟨rfl, b11⟩
      have E8 := Hid.mk' (E7.out.below b11)
      have K8 := Hid.mk' (K7.out.below b11)
      have Z8 := Hid.mk' (bel_next Z7.out b11)
      clear b11 E7 K7 Z7
      go_wp2_with fail
      have RB := Hid.mk' (fun u h => monReadI S u (by rw [← HSE.out]; exact Nat.le_trans (monT_le _) (by omega)) h)
      rw [show monR S = (⟨x, y, d, z⟩, true) by rw [← HSE.out]; exact monR_T HOK.out] at RB
      refine (RB.out _ E8.out).mono ?_
      rintro r w12 ⟨rfl, b12⟩
      have bx := bel_next b12 (bel_one w12 (.cells #[.int .i64 x, .int .i64 y, .int .i64 d, .int .i64 z] 24))
      have K9 := Hid.mk' (K8.out.below bx)
      have B9 := Hid.mk' (M4.box w12 24 x y d z)
      have Z9 := Hid.mk' (bel_next Z8.out bx)
      have q1 : g1 < w12.heap.size := Nat.lt_of_lt_of_le (M4.lt K8.out) b12.size
      obtain ⟨k0, k1, k2, k3⟩ := K8.out.below b12
      clear bx b12 RB
      go_wp2
      go_ret
      exact ⟨by simp, Z9.out⟩
    · skip
      go_wp2_with fail
      clear k0 k1 k2 k3 n0 n1 n2 n3 p0 p1 p2 p3
      have TI := Hid.mk' (fun u => monTextI nx ny nd nz u)
      rw [monR_ok HR.out] at TI
      refine (TI.out _).mono ?_
      rintro r w10 ⟨rfl, b10⟩
      have E7 := Hid.mk' (E6.out.below b10)
      have K7 := Hid.mk' (K6.out.below b10)
      have Z7 := Hid.mk' (bel_next Z6.out b10)
      clear b10 E6 K6 N6 P6 Z6 TI
      obtain ⟨k0, k1, k2, k3⟩ := K7.out
      go_wp2_with fail
      clear k0 k1 k2 k3
      refine (monOkI_of HOK.out _).mono ?_
      rintro r w11 ⟨rfl, b11⟩
      have E8 := Hid.mk' (E7.out.below b11)
      have K8 := Hid.mk' (K7.out.below b11)
      have Z8 := Hid.mk' (bel_next Z7.out b11)
      clear b11 E7 K7 Z7
      go_wp2_with fail
      have RB := Hid.mk' (fun u h => monReadI S u (by rw [← HSE.out]; exact Nat.le_trans (monT_le _) (by omega)) h)
      rw [show monR S = (⟨x, y, d, z⟩, true) by rw [← HSE.out]; exact monR_T HOK.out] at RB
      refine (RB.out _ E8.out).mono ?_
      rintro r w12 ⟨rfl, b12⟩
      have bx := bel_next b12 (bel_one w12 (.cells #[.int .i64 x, .int .i64 y, .int .i64 d, .int .i64 z] 24))
      have K9 := Hid.mk' (K8.out.below bx)
      have B9 := Hid.mk' (M4.box w12 24 x y d z)
      have Z9 := Hid.mk' (bel_next Z8.out bx)
      have q1 : g1 < w12.heap.size := Nat.lt_of_lt_of_le (M4.lt K8.out) b12.size
      obtain ⟨k0, k1, k2, k3⟩ := K8.out.below b12
      clear bx b12 RB
      go_wp2
      go_ret
      exact ⟨by simp, Z9.out⟩
end Go.Proofs.YtnfgiplgkobnlaaDoor
