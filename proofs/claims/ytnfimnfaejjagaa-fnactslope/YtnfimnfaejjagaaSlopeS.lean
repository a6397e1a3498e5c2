/-
  The slope of a form, in the model.
-/
import Derived.Test.YtnfimnfaejjagaaSlopeM
import Derived.Test.YtnfimnfaejjagaaActAt
import Derived.Deep.RegionWith
namespace Go.Proofs.Ytnfimnfaejjagaa
open Go.RowKit
set_option linter.unusedVariables false

set_option maxRecDepth 100000 in
set_option maxHeartbeats 8000000 in
theorem actSlopeS0 (w : World) (a : Option Addr) (n cap : Nat) (f : Nat → T) (h : Rd w a n cap f) (hp : polFree n f = true) :
    Calls Try.prog 22 #[.slice a n cap, .int .i64 0] w fun r w' => ∃ v, r = .returned v ∧ Below w.heap.size w w' ∧ w'.ownsRow w.heap.size 36 5 v (slT 0 f n).length (cellsL (slT 0 f n)) := by
  have hok := polFree_ok hp
  have HOK := Hid.mk' hok
  have HM := Hid.mk' (polOk_m hok)
  obtain ⟨hl, hc⟩ := polOk_c hok
  have HC := Hid.mk' hc
  have HR := Hid.mk' h
  obtain ⟨h1, h2, h3⟩ := h
  have hn : (n : Int) ≤ 400 := by omega
  clear hok hc
  go_enter Try.func22, Try.ntmps22
  go_wp2_with fail
  have HR1 := Hid.mk' (HR.out.below (bel_one w (.cells #[] 36)))
  have HB1 := Hid.mk' (bel_one w (.cells #[] 36))
  have HO1 := Hid.mk' (owns_none w w.heap.size (Nat.le_refl _))
  generalize (w.alloc (.cells #[] 36)) = W at HR1 HB1 HO1 ⊢
  refine (polFreeS _ _ _ _ f HR1.out).mono ?_
  rw [hp]
  rintro r w1 ⟨rfl, hb⟩
  have HB2 := Hid.mk' (bel_next HB1.out hb)
  have HO2 := Hid.mk' (owns_below HO1.out hb)
  clear hb HB1 HO1 HR1
  go_wp2_with (go_at_call 48; refine (inS_in _ _ _ _ (by omega) (by omega)).mono ?_; rintro r w2 ⟨rfl, hw⟩; obtain rfl := hw.symm; clear hw)
  go_loopw [5, 6] (fun v i wr => ∃ j : Nat, j ≤ n ∧ i = .int .i64 j ∧ wr.ownsRow w.heap.size 36 5 v (slT 0 f j).length (cellsL (slT 0 f j)) ∧ Below w.heap.size w wr) (fun _ i _ => n - (intOf i).toNat)
  case atStart => exact ⟨0, Nat.zero_le _, rfl, HO2.out, HB2.out⟩
  case round =>
    obtain ⟨j, hj, rfl, ho, hB⟩ := hrel
    by_cases hlt : j < n
    · rcases h3 with h0 | ⟨b, off, rfl, hblt, hcl⟩
      · omega
      have hjn : (j : Int) < (n : Int) := by omega
      have hbr : b < wr.heap.size := Nat.lt_of_lt_of_le hblt hB.size
      obtain ⟨g0, g1, g2, g3, g4⟩ := (hcl j hlt).below hB hblt
      obtain ⟨x1, x2, y1, y2, d1, d2, e1, e2⟩ := M.ok_iff.1 (HM.out j hlt)
      obtain ⟨c1, c2⟩ := HC.out j hlt
      have HO := Hid.mk' ho
      have HB := Hid.mk' hB
      have HLN := Hid.mk' (slT_len 0 f j)
      have HP : Hid (putT ((f j).c * (f j).m.x % 101) ⟨((f j).m.x - 1), (f j).m.y, (f j).m.d, (f j).m.e⟩ (slT 0 f j) = slT 0 f (j + 1)) := put_slT (k := 0) HOK.out hlt
      have m0 : 0 ≤ (f j).c * (f j).m.x := Int.mul_nonneg c1 x1
      have m1 : (f j).c * (f j).m.x ≤ 1500 := by have := Int.mul_le_mul c2 x2 x1 (by omega : (0 : Int) ≤ 100); omega
      have m2 : ((f j).c * (f j).m.x).tmod 101 = (f j).c * (f j).m.x % 101 := Int.tmod_eq_emod_of_nonneg m0
      have m3 : IntKind.i64.wrap ((f j).c * (f j).m.x) = (f j).c * (f j).m.x := by rw [IntKind.wrap_i64]; omega
      clear ho hcl
      go_wp2_with fail
      have HBQ := Hid.mk' (bel_next HB.out (bel_one wr (.cells #[.int .i64 ((f j).m.x - 1), .int .i64 (f j).m.y, .int .i64 (f j).m.d, .int .i64 (f j).m.e] 34)))
      have HOQ := Hid.mk' (owns_below HO.out (bel_one wr (.cells #[.int .i64 ((f j).m.x - 1), .int .i64 (f j).m.y, .int .i64 (f j).m.d, .int .i64 (f j).m.e] 34)))
      obtain ⟨q0, q1, q2, q3⟩ := M4.box wr 34 ((f j).m.x - 1) ((f j).m.y) ((f j).m.d) ((f j).m.e)
      have g5 := ((bel_one wr (.cells #[.int .i64 ((f j).m.x - 1), .int .i64 (f j).m.y, .int .i64 (f j).m.d, .int .i64 (f j).m.e] 34)).cell (p := ⟨b, off + j * 5, none⟩) hbr).trans g0
      clear g0 g1 g2 g3 g4 HO HB
      generalize (wr.alloc (.cells #[.int .i64 ((f j).m.x - 1), .int .i64 (f j).m.y, .int .i64 (f j).m.d, .int .i64 (f j).m.e] 34)) = wq at HBQ HOQ q0 q1 q2 q3 g5 ⊢
      have HPUT := l4PutS wq.drew w.heap.size _ (slT 0 f j) ((f j).c * (f j).m.x % 101) ((f j).m.x - 1) ((f j).m.y) ((f j).m.d) ((f j).m.e) (owns_below HOQ.out (Below.refl _ _).drew) HBQ.out.drew.size (by have := HLN.out; omega) (slT_c _ _ _) (by omega) (by omega)
      rw [HP.out] at HPUT
      have HPUT2 := Hid.mk' HPUT
      clear HPUT
      go_region_with (go_at_call 45; refine HPUT2.out.mono ?_; rintro e w4 ⟨v4, rfl, hb4, ho4⟩; have HB4 : Hid (Below w.heap.size w w4) := (bel_next HBQ.out.drew hb4); have HO4 := Hid.mk' ho4; clear hb4 ho4)
      all_goals
        go_wp2
        go_roundw
        case rel => exact ⟨j + 1, by omega, by go_num, HO4.out, HB4.out⟩
        case measure => simp [intOf]; omega
    · obtain rfl : j = n := by omega
      have HO := Hid.mk' ho
      clear ho
      go_wp2
      go_ret
      exact ⟨_, rfl, hB, HO.out⟩
set_option maxRecDepth 100000 in
set_option maxHeartbeats 8000000 in
theorem actSlopeS1 (w : World) (a : Option Addr) (n cap : Nat) (f : Nat → T) (h : Rd w a n cap f) (hp : polFree n f = true) :
    Calls Try.prog 22 #[.slice a n cap, .int .i64 1] w fun r w' => ∃ v, r = .returned v ∧ Below w.heap.size w w' ∧ w'.ownsRow w.heap.size 36 5 v (slT 1 f n).length (cellsL (slT 1 f n)) := by
  have hok := polFree_ok hp
  have HOK := Hid.mk' hok
  have HM := Hid.mk' (polOk_m hok)
  obtain ⟨hl, hc⟩ := polOk_c hok
  have HC := Hid.mk' hc
  have HR := Hid.mk' h
  obtain ⟨h1, h2, h3⟩ := h
  have hn : (n : Int) ≤ 400 := by omega
  clear hok hc
  go_enter Try.func22, Try.ntmps22
  go_wp2_with fail
  have HR1 := Hid.mk' (HR.out.below (bel_one w (.cells #[] 36)))
  have HB1 := Hid.mk' (bel_one w (.cells #[] 36))
  have HO1 := Hid.mk' (owns_none w w.heap.size (Nat.le_refl _))
  generalize (w.alloc (.cells #[] 36)) = W at HR1 HB1 HO1 ⊢
  refine (polFreeS _ _ _ _ f HR1.out).mono ?_
  rw [hp]
  rintro r w1 ⟨rfl, hb⟩
  have HB2 := Hid.mk' (bel_next HB1.out hb)
  have HO2 := Hid.mk' (owns_below HO1.out hb)
  clear hb HB1 HO1 HR1
  go_wp2_with (go_at_call 48; refine (inS_in _ _ _ _ (by omega) (by omega)).mono ?_; rintro r w2 ⟨rfl, hw⟩; obtain rfl := hw.symm; clear hw)
  go_loopw [5, 6] (fun v i wr => ∃ j : Nat, j ≤ n ∧ i = .int .i64 j ∧ wr.ownsRow w.heap.size 36 5 v (slT 1 f j).length (cellsL (slT 1 f j)) ∧ Below w.heap.size w wr) (fun _ i _ => n - (intOf i).toNat)
  case atStart => exact ⟨0, Nat.zero_le _, rfl, HO2.out, HB2.out⟩
  case round =>
    obtain ⟨j, hj, rfl, ho, hB⟩ := hrel
    by_cases hlt : j < n
    · rcases h3 with h0 | ⟨b, off, rfl, hblt, hcl⟩
      · omega
      have hjn : (j : Int) < (n : Int) := by omega
      have hbr : b < wr.heap.size := Nat.lt_of_lt_of_le hblt hB.size
      obtain ⟨g0, g1, g2, g3, g4⟩ := (hcl j hlt).below hB hblt
      obtain ⟨x1, x2, y1, y2, d1, d2, e1, e2⟩ := M.ok_iff.1 (HM.out j hlt)
      obtain ⟨c1, c2⟩ := HC.out j hlt
      have HO := Hid.mk' ho
      have HB := Hid.mk' hB
      have HLN := Hid.mk' (slT_len 1 f j)
      have HP : Hid (putT ((f j).c * (f j).m.y % 101) ⟨(f j).m.x, ((f j).m.y - 1), (f j).m.d, (f j).m.e⟩ (slT 1 f j) = slT 1 f (j + 1)) := put_slT (k := 1) HOK.out hlt
      have m0 : 0 ≤ (f j).c * (f j).m.y := Int.mul_nonneg c1 y1
      have m1 : (f j).c * (f j).m.y ≤ 1500 := by have := Int.mul_le_mul c2 y2 y1 (by omega : (0 : Int) ≤ 100); omega
      have m2 : ((f j).c * (f j).m.y).tmod 101 = (f j).c * (f j).m.y % 101 := Int.tmod_eq_emod_of_nonneg m0
      have m3 : IntKind.i64.wrap ((f j).c * (f j).m.y) = (f j).c * (f j).m.y := by rw [IntKind.wrap_i64]; omega
      clear ho hcl
      go_wp2_with fail
      have HBQ := Hid.mk' (bel_next HB.out (bel_one wr (.cells #[.int .i64 (f j).m.x, .int .i64 ((f j).m.y - 1), .int .i64 (f j).m.d, .int .i64 (f j).m.e] 34)))
      have HOQ := Hid.mk' (owns_below HO.out (bel_one wr (.cells #[.int .i64 (f j).m.x, .int .i64 ((f j).m.y - 1), .int .i64 (f j).m.d, .int .i64 (f j).m.e] 34)))
      obtain ⟨q0, q1, q2, q3⟩ := M4.box wr 34 ((f j).m.x) ((f j).m.y - 1) ((f j).m.d) ((f j).m.e)
      have g5 := ((bel_one wr (.cells #[.int .i64 (f j).m.x, .int .i64 ((f j).m.y - 1), .int .i64 (f j).m.d, .int .i64 (f j).m.e] 34)).cell (p := ⟨b, off + j * 5, none⟩) hbr).trans g0
      clear g0 g1 g2 g3 g4 HO HB
      generalize (wr.alloc (.cells #[.int .i64 (f j).m.x, .int .i64 ((f j).m.y - 1), .int .i64 (f j).m.d, .int .i64 (f j).m.e] 34)) = wq at HBQ HOQ q0 q1 q2 q3 g5 ⊢
      have HPUT := l4PutS wq.drew w.heap.size _ (slT 1 f j) ((f j).c * (f j).m.y % 101) ((f j).m.x) ((f j).m.y - 1) ((f j).m.d) ((f j).m.e) (owns_below HOQ.out (Below.refl _ _).drew) HBQ.out.drew.size (by have := HLN.out; omega) (slT_c _ _ _) (by omega) (by omega)
      rw [HP.out] at HPUT
      have HPUT2 := Hid.mk' HPUT
      clear HPUT
      go_region_with (go_at_call 45; refine HPUT2.out.mono ?_; rintro e w4 ⟨v4, rfl, hb4, ho4⟩; have HB4 : Hid (Below w.heap.size w w4) := (bel_next HBQ.out.drew hb4); have HO4 := Hid.mk' ho4; clear hb4 ho4)
      all_goals
        go_wp2
        go_roundw
        case rel => exact ⟨j + 1, by omega, by go_num, HO4.out, HB4.out⟩
        case measure => simp [intOf]; omega
    · obtain rfl : j = n := by omega
      have HO := Hid.mk' ho
      clear ho
      go_wp2
      go_ret
      exact ⟨_, rfl, hB, HO.out⟩
set_option maxHeartbeats 1000000 in
theorem actSlopeS (w : World) (a : Option Addr) (n cap : Nat) (f : Nat → T) (k : Int) (h : Rd w a n cap f) :
    Calls Try.prog 22 #[.slice a n cap, .int .i64 k] w fun r w' => ∃ v, r = .returned v ∧ Below w.heap.size w w' ∧ w'.ownsRow w.heap.size 36 5 v (actSlope k n f).length (cellsL (actSlope k n f)) := by
  cases hp : polFree n f
  · have e1 : actSlope k n f = [] := by simp [actSlope, hp]
    rw [e1]
    have HR1 := Hid.mk' (h.below (bel_one w (.cells #[] 36)))
    have HB1 := Hid.mk' (bel_one w (.cells #[] 36))
    have HO1 := Hid.mk' (owns_none w w.heap.size (Nat.le_refl _))
    clear h e1
    go_enter Try.func22, Try.ntmps22
    go_wp2_with fail
    generalize (w.alloc (.cells #[] 36)) = W at HR1 HB1 HO1 ⊢
    refine (polFreeS _ _ _ _ f HR1.out).mono ?_
    rw [hp]
    rintro r w1 ⟨rfl, hb⟩
    have HB2 := Hid.mk' (bel_next HB1.out hb)
    have HO2 := Hid.mk' (owns_below HO1.out hb)
    clear hb HB1 HO1 HR1
    go_wp2
    go_ret
    exact ⟨_, rfl, HB2.out, HO2.out⟩
  · by_cases hk : 0 ≤ k ∧ k ≤ 1
    · have e1 : actSlope k n f = slT k f n := by simp [actSlope, hp, hk]
      rw [e1]
      have h01 : k = 0 ∨ k = 1 := by omega
      rcases h01 with rfl | rfl
      · exact actSlopeS0 w a n cap f h hp
      · exact actSlopeS1 w a n cap f h hp
    · have e1 : actSlope k n f = [] := by simp only [actSlope]; rw [if_neg (fun hh => hk hh.2)]
      rw [e1]
      have HR1 := Hid.mk' (h.below (bel_one w (.cells #[] 36)))
      have HB1 := Hid.mk' (bel_one w (.cells #[] 36))
      have HO1 := Hid.mk' (owns_none w w.heap.size (Nat.le_refl _))
      have hk' : k < 0 ∨ (0 ≤ k ∧ 1 < k) := by omega
      clear h e1 hk
      go_enter Try.func22, Try.ntmps22
      go_wp2_with fail
      generalize (w.alloc (.cells #[] 36)) = W at HR1 HB1 HO1 ⊢
      refine (polFreeS _ _ _ _ f HR1.out).mono ?_
      rw [hp]
      rintro r w1 ⟨rfl, hb⟩
      have HB2 := Hid.mk' (bel_next HB1.out hb)
      have HO2 := Hid.mk' (owns_below HO1.out hb)
      clear hb HB1 HO1 HR1
      go_wp2_with fail
      refine (inS_out _ _ _ _ hk').mono ?_
      rintro r w2 ⟨rfl, hw⟩
      obtain rfl := hw.symm
      clear hw
      go_wp2
      go_ret
      exact ⟨_, rfl, HB2.out, HO2.out⟩
end Go.Proofs.Ytnfimnfaejjagaa
