/-
  The walk of FnIdlFlat: whatever the code, it comes out true, and nothing that was there is turned.
-/
import Derived.Test.YtbkighpmkadmmaaDrawIf
import Derived.Test.YtbkighpmkadmmaaGbw
import Derived.Test.YtbkighpmkadmmaaGbv
import Derived.Test.YtbkighpmkadmmaaGau
import Derived.Test.YtbkighpmkadmmaaGak
namespace Go.Proofs.Ytbkighpmkadmmaa
open Go.RowKit Go.Deep Go.Joins
set_option linter.unusedVariables false

set_option maxRecDepth 100000 in
theorem heOne_F (u : World) : Calls Try.prog 19 #[] u fun e w' => e = .returned (.slice (some ⟨u.heap.size, 0, none⟩) 1 1) ∧ Below u.heap.size u w' ∧ RL w' (some ⟨u.heap.size, 0, none⟩) 1 [⟨1, ⟨0, 0, 0, 0⟩⟩] := by
  go_enter Try.func19, Try.ntmps19
  go_wp2
  go_ret
  exact ⟨rfl, bel_one u _, one_RL u ⟨1, ⟨0, 0, 0, 0⟩⟩⟩
theorem rds_take {w : World} {a : Option Addr} {n cap k : Nat} {ad : Nat → Option Addr} {ln cp : Nat → Nat} {f : Nat → Nat → T} (h : RdS w a n cap ad ln cp f) (hk : k ≤ n) : RdS w a k cap ad ln cp f :=
  ⟨by have := h.1; omega, by have := h.2.1; omega, h.2.2.1.elim (fun h0 => .inl (by omega)) (fun ⟨b, off, e, hlt, hc⟩ => .inr ⟨b, off, e, hlt, fun i hi => hc i (by omega)⟩), fun i hi => h.2.2.2 i (by omega)⟩
theorem rds_none {w : World} {a : Option Addr} {cap : Nat} {ad : Nat → Option Addr} {ln cp : Nat → Nat} {f : Nat → Nat → T} : RdS w a 0 cap ad ln cp f :=
  ⟨Nat.zero_le _, Nat.zero_le _, .inl rfl, fun i hi => absurd hi (Nat.not_lt_zero _)⟩
/-- a list of one. -/
theorem rds_one {w : World} {a : Option Addr} {c : Nat} {p : List T} (h : RL w a c p) : RdS (w.alloc (.cells #[.slice a p.length c] 29)) (some ⟨w.heap.size, 0, none⟩) 1 1 (fun _ => a) (lN (fun _ => p)) (fun _ => c) (fN (fun _ => p)) :=
  ⟨Nat.le_refl _, by omega, .inr ⟨w.heap.size, 0, rfl, by simp, fun i hi => by
    obtain rfl : i = 0 := by omega
    rw [World.cell?_alloc_at _ _ _ _ rfl]; rfl⟩, fun i hi => Rd.below h (bel_one _ _)⟩
theorem flat_bad {o : Int} {n : Nat} {ln : Nat → Nat} {f : Nat → Nat → T} {s : Int} (h : ¬ ((1 ≤ o ∧ o ≤ 3) ∧ lstOk n ln f = true ∧ 0 ≤ s ∧ s ≤ 6)) : idlFlat o n ln f s = (0, false) := if_neg h
theorem flat_is {o : Int} {n : Nat} {ln : Nat → Nat} {f : Nat → Nat → T} {s : Int} (h : (1 ≤ o ∧ o ≤ 3) ∧ lstOk n ln f = true ∧ 0 ≤ s ∧ s ≤ 6) : idlFlat o n ln f s = ((flatN o n ln f s.toNat : Int), decide (flatE o n ln f s.toNat = 0)) := if_pos h
theorem lstOk_pre {n k : Nat} {ln : Nat → Nat} {f : Nat → Nat → T} (h : lstOk n ln f = true) (hk : k ≤ n) : lstOk k ln f = true := by
  obtain ⟨h1, h2⟩ := lstOk_all h
  exact decide_eq_true ⟨by omega, fun i hi => h2 i (by omega)⟩
set_option maxRecDepth 100000 in
set_option maxHeartbeats 8000000 in
theorem walk_FnIdlFlat (w : World) (a0 : Option Addr) (len0 cap0 : Nat) (s0 : Src w a0 len0 cap0) :
    Calls Try.prog 4 #[.slice a0 len0 cap0] w fun e w' => e = .returned (.bool true) ∧ Below w.heap.size w w' := by
  by_cases c0 : (1048576 : Int) < (len0 : Int)
  · go_enter Try.func4, Try.ntmps4
    go_wp2
    go_ret
    exact ⟨rfl, Below.refl _ _⟩
  go_enter Try.func4, Try.ntmps4
  go_wp2_with fail
  refine (drawIdlFlat _ _ _ _ s0).mono ?_
  rintro e w1 ⟨o, a, n, c, ad, cp, L, s, rfl, hr, hn, ⟨hs1, hs2⟩, b1⟩
  have HR := Hid.mk' hr
  have HB := Hid.mk' b1
  have hnI : (n : Int) ≤ 12 := by omega
  have hnc : n ≤ c := hr.1
  clear s0 hr b1
  obtain ⟨z, y, hzy⟩ : ∃ z y, idlFlat o n (lN L) (fN L) s = (z, y) := ⟨_, _, rfl⟩
  have HZ := Hid.mk' hzy
  go_wp2_with fail
  refine (idlFlatI w1 o a n c ad (lN L) cp (fN L) s HR.out).mono ?_
  rw [hzy]
  rintro e w2 ⟨rfl, hb2⟩
  have HB2 := Hid.mk' (bel_next HB.out hb2)
  have HR2 := Hid.mk' (HR.out.below hb2)
  clear hb2 HR HB
  go_wp2_with fail
  refine (idlFlatS w2 o a n c ad (lN L) cp (fN L) s HR2.out).mono ?_
  rw [hzy]
  rintro e w3 ⟨rfl, hb3⟩
  have HB3 := Hid.mk' (bel_next HB2.out hb3)
  have HR3 := Hid.mk' (HR2.out.below hb3)
  clear hb3 HR2 HB2 hzy
  have hzz : (z != z) = false := by simp
  have hyy : (y != y) = false := by simp
  cases hl : lstOk n (lN L) (fN L)
  · have e1 : (0, false) = (z, y) := by rw [← HZ.out]; exact (flat_bad (fun h => by rw [hl] at h; exact absurd h.2.1 (by simp))).symm
    obtain ⟨rfl, rfl⟩ : 0 = z ∧ false = y := by simpa using e1
    clear e1
    go_wp2_with fail
    refine (lstOkS w3 a n c ad (lN L) cp (fN L) HR3.out).mono ?_
    rw [hl]
    rintro e w5 ⟨rfl, hb5⟩
    have HB5 := Hid.mk' (bel_next HB3.out hb5)
    clear hb5
    go_wp2_with fail
    refine (heOk_L w5).mono ?_
    rintro e w6 ⟨rfl, hb6⟩
    have HB6 := Hid.mk' (bel_next HB5.out hb6)
    clear hb6
    go_wp2
    go_ret
    exact ⟨rfl, HB6.out⟩
  by_cases hg : (1 ≤ o ∧ o ≤ 3) ∧ 0 ≤ s ∧ s ≤ 6
  rotate_left
  · have e1 : (0, false) = (z, y) := by rw [← HZ.out]; exact (flat_bad (fun h => hg ⟨h.1, h.2.2⟩)).symm
    obtain ⟨rfl, rfl⟩ : 0 = z ∧ false = y := by simpa using e1
    have hc : o < 1 ∨ (1 ≤ o ∧ 3 < o) ∨ (1 ≤ o ∧ o ≤ 3 ∧ s < 0) ∨ (1 ≤ o ∧ o ≤ 3 ∧ 0 ≤ s ∧ 6 < s) := by omega
    clear e1 hg
    go_wp2_with fail
    refine (lstOkS w3 a n c ad (lN L) cp (fN L) HR3.out).mono ?_
    rw [hl]
    rintro e w5 ⟨rfl, hb5⟩
    have HB5 := Hid.mk' (bel_next HB3.out hb5)
    clear hb5
    rcases hc with q | ⟨q1, q2⟩ | ⟨q1, q2, q3⟩ | ⟨q1, q2, q3, q4⟩
    all_goals
      go_wp2_with fail
      refine (heOk_L w5).mono ?_
      rintro e w6 ⟨rfl, hb6⟩
      have HB6 := Hid.mk' (bel_next HB5.out hb6)
      clear hb6
      go_wp2
      go_ret
      exact ⟨rfl, HB6.out⟩
  obtain ⟨⟨o1, o2⟩, t1, t2⟩ := hg
  have e1 := HZ.out
  rw [flat_is ⟨⟨o1, o2⟩, hl, t1, t2⟩] at e1
  obtain ⟨rfl, rfl⟩ : (flatN o n (lN L) (fN L) s.toNat : Int) = z ∧ decide (flatE o n (lN L) (fN L) s.toNat = 0) = y := by simpa using e1
  have hk : n / 2 ≤ n := Nat.div_le_self _ _
  have f2 := flat_is (o := o) (n := n / 2) (ln := lN L) (f := fN L) (s := s) ⟨⟨o1, o2⟩, lstOk_pre hl hk, t1, t2⟩
  have f3 := flat_is (o := o) (n := 0) (ln := lN L) (f := fN L) (s := s) ⟨⟨o1, o2⟩, lstOk_pre hl (Nat.zero_le _), t1, t2⟩
  have f4 := flat_is (o := o) (n := 1) (ln := lN (fun _ => [(⟨1, ⟨0, 0, 0, 0⟩⟩ : T)])) (f := fN (fun _ => [(⟨1, ⟨0, 0, 0, 0⟩⟩ : T)])) (s := s) ⟨⟨o1, o2⟩, decide_eq_true ⟨by omega, fun i _ => ⟨by simp, by show okL [(⟨1, ⟨0, 0, 0, 0⟩⟩ : T)] = true; decide⟩⟩, t1, t2⟩
  obtain ⟨g1, g2⟩ := flat_one (o := o) (ln := lN (fun _ => [(⟨1, ⟨0, 0, 0, 0⟩⟩ : T)])) (f := fN (fun _ => [(⟨1, ⟨0, 0, 0, 0⟩⟩ : T)])) (s := s.toNat) rfl rfl (by omega)
  rw [g1, g2] at f4
  have m1 := flatN_less o (lN L) (fN L) s.toNat hk
  have m2 := flatN_less o (lN L) (fN L) s.toNat (Nat.zero_le (n / 2))
  have m3 := flatN_none o (lN L) (fN L) s.toNat
  generalize flatN o n (lN L) (fN L) s.toNat = z1 at *
  generalize flatN o (n / 2) (lN L) (fN L) s.toNat = z2 at *
  generalize flatN o 0 (lN L) (fN L) s.toNat = z3 at *
  generalize decide (flatE o n (lN L) (fN L) s.toNat = 0) = y1 at *
  generalize decide (flatE o (n / 2) (lN L) (fN L) s.toNat = 0) = y2 at *
  generalize decide (flatE o 0 (lN L) (fN L) s.toNat = 0) = y3 at *
  have HF2 := Hid.mk' f2
  have HF3 := Hid.mk' f3
  have HF4 := Hid.mk' f4
  have HM3 := Hid.mk' m3
  have hq : ((n : Int)).tdiv 2 = ((n / 2 : Nat) : Int) := (Int.ofNat_tdiv n 2).symm
  have hk2 : n / 2 ≤ 6 := by omega
  obtain ⟨k, hkk⟩ : ∃ k, n / 2 = k := ⟨_, rfl⟩
  rw [hkk] at hq hk hk2 HF2
  have hkI : (k : Int) ≤ 6 := by omega
  have hkc : (k : Int) ≤ (c : Int) := by omega
  have hk0 : ¬ (k : Int) < 0 := by omega
  have HR6 := Hid.mk' (rds_take HR3.out hk)
  clear e1 f2 f3 f4 g1 g2 m3 hkk HZ
  go_wp2_with fail
  refine (lstOkS w3 a n c ad (lN L) cp (fN L) HR3.out).mono ?_
  rw [hl]
  rintro e w5 ⟨rfl, hb5⟩
  have HB5 := Hid.mk' (bel_next HB3.out hb5)
  have HR7 := Hid.mk' (HR6.out.below hb5)
  clear hb5
  have hfin : ∀ W : World, RdS W a k c ad (lN L) cp (fN L) → Calls Try.prog 17 #[.int .i64 o, .slice a k c, .int .i64 s] W fun r w' => r = .returned (.tuple #[.int .i64 (z2 : Int), .bool y2]) ∧ Below W.heap.size W w' := fun W hW => by
    have := idlFlatI W o a k c ad (lN L) cp (fN L) s hW
    rw [HF2.out] at this
    exact this
  have HFI := Hid.mk' hfin
  clear hfin
  go_wp2_with fail
  refine (HFI.out w5 HR7.out).mono ?_
  rintro e w6 ⟨rfl, hb6⟩
  have HB6 := Hid.mk' (bel_next HB5.out hb6)
  clear hb6
  go_wp2_with fail
  refine (idlFlatI _ o _ 0 _ ad (lN L) cp (fN L) s rds_none).mono ?_
  rw [HF3.out]
  rintro e w7 ⟨rfl, hb7⟩
  have HB7 := Hid.mk' (bel_next (bel_next HB6.out (bel_one _ _)) hb7)
  clear hb7
  go_wp2_with fail
  refine (heOne_F w7).mono ?_
  rintro e w8 ⟨rfl, hb8, hr8⟩
  have HB8 := Hid.mk' (bel_next HB7.out hb8)
  have HR8 := Hid.mk' (rds_one hr8)
  clear hb8 hr8
  go_wp2_with fail
  refine (idlFlatI _ o _ 1 1 _ _ _ _ s HR8.out).mono ?_
  rw [HF4.out]
  rintro e w9 ⟨rfl, hb9⟩
  have HB9 := Hid.mk' (bel_next (bel_next HB8.out (bel_one _ _)) hb9)
  clear hb9
  have l1 : (z1 : Int) ≤ (z2 : Int) := by omega
  have l2 : (z2 : Int) ≤ (z3 : Int) := by omega
  have l3 : (0 : Int) ≤ (z1 : Int) := by omega
  have hs7 : s = 0 ∨ s = 1 ∨ s = 2 ∨ s = 3 ∨ s = 4 ∨ s = 5 ∨ s = 6 := by omega
  clear hs1 hs2 t1 t2 m1 m2
  rcases hs7 with rfl | rfl | rfl | rfl | rfl | rfl | rfl
  all_goals
    have h3 := HM3.out
    simp only [Int.reduceToNat, Nat.reduceAdd, Nat.reduceMul] at h3
    subst h3
    clear HM3 HF2 HF3 HF4
    go_wp2
    go_ret
    exact ⟨rfl, HB9.out⟩
end Go.Proofs.Ytbkighpmkadmmaa
