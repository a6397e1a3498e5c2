/-
  The program writes a line: its parts (named, slots, dskWhole).
-/
import Derived.Test.YtoglomfejgpoeaaDoorDkA
import Derived.Test.YtoglomfejgpoeaaDoorPolI
import Derived.Test.YtoglomfejgpoeaaDoorPxI
namespace Go.Proofs.YtoglomfejgpoeaaDoor
open Go.Shelf Go.RowKit
set_option linter.unusedVariables false
set_option linter.unusedSimpArgs false
set_option maxHeartbeats 1000000 in
theorem namedI (k : Int) (w : World) : Calls Tryd.prog 18 #[.int .i64 k] w fun e w' => e = .returned (.int .i64 (nmd k)) ∧ w' = w := by
  rcases (show k = 1 ∨ k = 2 ∨ k = 3 ∨ k = 4 ∨ k = 5 ∨ k = 6 ∨ k = 7 ∨ k = 8 ∨ ¬ (1 ≤ k ∧ k ≤ 8) by omega) with rfl | rfl | rfl | rfl | rfl | rfl | rfl | rfl | hk
  · go_enter Tryd.func18, Tryd.ntmps18
    go_wp2
    go_ret
    exact ⟨rfl, rfl⟩
  · go_enter Tryd.func18, Tryd.ntmps18
    go_wp2
    go_ret
    exact ⟨rfl, rfl⟩
  · go_enter Tryd.func18, Tryd.ntmps18
    go_wp2
    go_ret
    exact ⟨rfl, rfl⟩
  · go_enter Tryd.func18, Tryd.ntmps18
    go_wp2
    go_ret
    exact ⟨rfl, rfl⟩
  · go_enter Tryd.func18, Tryd.ntmps18
    go_wp2
    go_ret
    exact ⟨rfl, rfl⟩
  · go_enter Tryd.func18, Tryd.ntmps18
    go_wp2
    go_ret
    exact ⟨rfl, rfl⟩
  · go_enter Tryd.func18, Tryd.ntmps18
    go_wp2
    go_ret
    exact ⟨rfl, rfl⟩
  · go_enter Tryd.func18, Tryd.ntmps18
    go_wp2
    go_ret
    exact ⟨rfl, rfl⟩
  · have e : nmd k = 0 := by
      unfold nmd
      rw [if_neg (by omega), if_neg (by omega), if_neg (by omega)]
    have b1 : (k == 1) = false := by simp; omega
    have b2 : (k == 2) = false := by simp; omega
    have b3 : (k == 3) = false := by simp; omega
    have b4 : (k == 4) = false := by simp; omega
    have b5 : (k == 5) = false := by simp; omega
    have b6 : (k == 6) = false := by simp; omega
    have b7 : (k == 7) = false := by simp; omega
    have b8 : (k == 8) = false := by simp; omega
    rw [e]
    clear e hk
    go_enter Tryd.func18, Tryd.ntmps18
    go_wp2
    go_ret
    exact ⟨rfl, rfl⟩
set_option maxHeartbeats 1000000 in
theorem slotsI (k to a b : Int) (pa : Option Addr) (n cap : Nat) (w : World) : Calls Tryd.prog 17 #[.agg #[.int .i64 k, .int .i64 to, .int .i64 a, .int .i64 b, .slice pa n cap]] w fun e w' => e = .returned (.agg #[.int .i64 to, .int .i64 a, .int .i64 b]) ∧ Below w.heap.size w w' := by
  go_enter Tryd.func17, Tryd.ntmps17
  go_wp2
  refine bodyPost_ret (v := .agg #[.int .i64 to, .int .i64 a, .int .i64 b]) (by simp [results, Tryd.results17, go_sem]) rfl ⟨rfl, ?_⟩
  first | exact bel_two w _ _ | exact bel_one w _
def sv (to a b : Int) (j : Nat) : Int := if j = 0 then to else if j = 1 then a else b
/-- a slot is as it should be. -/
def slOk (N : Nat) (to a b : Int) (j : Nat) : Bool := decide ((0 ≤ sv to a b j ∧ sv to a b j ≤ 5) ∧ (j < N ∨ sv to a b j = 0))
theorem whl_is {k to a b : Int} {n : Nat} {f : Nat → T} (hN : nmd k ≠ 0) : whl k to a b n f = (polOk n f && slOk (nmd k) to a b 0 && slOk (nmd k) to a b 1 && slOk (nmd k) to a b 2 && (decide (k = 1) || decide (n = 0))) := by
  have hk : 1 ≤ k ∧ k ≤ 8 := by
    unfold nmd at hN
    split at hN
    · omega
    · split at hN
      · omega
      · split at hN
        · omega
        · exact absurd rfl hN
  have hN1 : 1 ≤ nmd k := by omega
  rw [Bool.eq_iff_iff]
  simp only [whl, slOk, sv, decide_eq_true_eq, Bool.and_eq_true, Bool.or_eq_true, if_true, if_false, if_pos, show (1 : Nat) ≠ 0 by omega, show (2 : Nat) ≠ 0 by omega, show (2 : Nat) ≠ 1 by omega]
  generalize nmd k = N at *
  constructor
  · rintro ⟨q1, q2, q3, q4, q5, q6, q7, q8⟩
    exact ⟨⟨⟨⟨q5, q2, .inl (by omega)⟩, q3, by omega⟩, q4, by omega⟩, q8⟩
  · rintro ⟨⟨⟨⟨q5, q2, _⟩, q3, q6⟩, q4, q7⟩, q8⟩
    exact ⟨hk, q2, q3, q4, q5, by omega, by omega, q8⟩
set_option maxRecDepth 100000 in
set_option maxHeartbeats 4000000 in
theorem dskWholeI (k to a b : Int) (pa : Option Addr) (n cap : Nat) (f : Nat → T) (w : World) (h : Rd w pa n cap f) :
    Calls Tryd.prog 16 #[.agg #[.int .i64 k, .int .i64 to, .int .i64 a, .int .i64 b, .slice pa n cap]] w fun r w' => r = .returned (.bool (whl k to a b n f)) ∧ Below w.heap.size w w' := by
  have hB0 := bel_one w (.cells #[.int .i64 k, .int .i64 to, .int .i64 a, .int .i64 b, .slice pa n cap] 29)
  have hnI : (n : Int) ≤ 9223372036854775807 := by have := h.2.1; omega
  have HRD := Hid.mk' (h.below hB0)
  have HB0 := Hid.mk' hB0
  have hx : ∀ j : Nat, (w.alloc (.cells #[.int .i64 k, .int .i64 to, .int .i64 a, .int .i64 b, .slice pa n cap] 29)).cell? ⟨w.heap.size, j, none⟩ = #[Value.int .i64 k, .int .i64 to, .int .i64 a, .int .i64 b, .slice pa n cap][j]? := fun j => World.cell?_alloc_at _ _ _ _ rfl
  have HX := Hid.mk' hx
  obtain ⟨N, hN⟩ : ∃ N, nmd k = N := ⟨_, rfl⟩
  have HNM := Hid.mk' (namedI k (w.alloc (.cells #[.int .i64 k, .int .i64 to, .int .i64 a, .int .i64 b, .slice pa n cap] 29)))
  rw [hN] at HNM
  clear hB0 h hx
  obtain ⟨R, hR⟩ : ∃ R, whl k to a b n f = R := ⟨_, rfl⟩
  rw [hR]
  by_cases h0 : N = 0
  · have HZ : Hid (R = false) := by
      rw [← hR]
      exact Hid.mk' (whl_no (fun q => by
        have := q.1
        rw [h0] at hN
        revert hN
        unfold nmd
        split
        · omega
        · split
          · omega
          · split
            · omega
            · omega))
    have h0b : ((N : Int) == 0) = true := by rw [h0]; rfl
    clear hN hR h0
    go_enter Tryd.func16, Tryd.ntmps16
    go_wp2_with fail
    refine HNM.out.mono ?_
    rintro r w' ⟨rfl, hw'⟩
    obtain rfl := hw'.symm
    clear hw'
    go_wp2
    go_ret
    exact ⟨by rw [HZ.out]; rfl, HB0.out⟩
  · have h0b : ((N : Int) == 0) = false := by simp; omega
    have HW : Hid (R = (polOk n f && slOk N to a b 0 && slOk N to a b 1 && slOk N to a b 2 && (decide (k = 1) || decide (n = 0)))) := by rw [← hR, whl_is (by rw [hN]; exact h0), hN]; exact Hid.mk' rfl
    clear hN hR
    obtain ⟨ok, hok⟩ : ∃ x, polOk n f = x := ⟨_, rfl⟩
    have HC := Hid.mk' (polOkI _ pa n cap f HRD.out)
    rw [hok] at HC HW
    clear hok
    cases ok
    · have HZ : Hid (R = false) := by rw [HW.out]; exact Hid.mk' (by simp)
      go_enter Tryd.func16, Tryd.ntmps16
      go_wp2_with fail
      refine HNM.out.mono ?_
      rintro r w' ⟨rfl, hw'⟩
      obtain rfl := hw'.symm
      clear hw'
      go_wp2_with fail
      refine HC.out.mono ?_
      rintro r w1 ⟨rfl, hb1⟩
      have HB1 := Hid.mk' (bel_next HB0.out hb1)
      clear hb1
      go_wp2
      go_ret
      exact ⟨by rw [HZ.out]; rfl, HB1.out⟩
    · have i0 : ∀ u : World, (Instr.index 44 (.agg #[.int .i64 to, .int .i64 a, .int .i64 b]) (.int .i64 0)).run Tryd.prog u = .ok (.int .i64 to) u := fun _ => by kernel_rfl
      have i1 : ∀ u : World, (Instr.index 44 (.agg #[.int .i64 to, .int .i64 a, .int .i64 b]) (.int .i64 1)).run Tryd.prog u = .ok (.int .i64 a) u := fun _ => by kernel_rfl
      have i2 : ∀ u : World, (Instr.index 44 (.agg #[.int .i64 to, .int .i64 a, .int .i64 b]) (.int .i64 2)).run Tryd.prog u = .ok (.int .i64 b) u := fun _ => by kernel_rfl
      have HI : Hid (∀ (j : Nat), j < 3 → ∀ u : World, (Instr.index 44 (.agg #[.int .i64 to, .int .i64 a, .int .i64 b]) (.int .i64 (j : Int))).run Tryd.prog u = .ok (.int .i64 (sv to a b j)) u) := Hid.mk' (fun j hj u => by
        rcases (show j = 0 ∨ j = 1 ∨ j = 2 by omega) with rfl | rfl | rfl
        · exact i0 u
        · exact i1 u
        · exact i2 u)
      clear i0 i1 i2
      go_enter Tryd.func16, Tryd.ntmps16
      go_wp2_with fail
      refine HNM.out.mono ?_
      rintro r w' ⟨rfl, hw'⟩
      obtain rfl := hw'.symm
      clear hw'
      go_wp2_with fail
      refine HC.out.mono ?_
      rintro r w1 ⟨rfl, hb1⟩
      have hlt1 : w.heap.size < w1.heap.size := Nat.lt_of_lt_of_le (by simp) hb1.size
      have hcc : ∀ j : Nat, w1.cell? ⟨w.heap.size, j, none⟩ = #[Value.int .i64 k, .int .i64 to, .int .i64 a, .int .i64 b, .slice pa n cap][j]? := fun j => (hb1.cell (p := ⟨w.heap.size, j, none⟩) (by simp)).trans (HX.out j)
      have l0 := hcc 0
      have l1 := hcc 1
      have l2 := hcc 2
      have l3 := hcc 3
      have l4 := hcc 4
      simp at l0 l1 l2 l3 l4
      have HCC := Hid.mk' hcc
      have HB1 := Hid.mk' (bel_next HB0.out hb1)
      clear hb1 hcc
      go_wp2_with fail
      refine (slotsI k to a b pa n cap _).mono ?_
      rintro r w2 ⟨rfl, hb2⟩
      have HB2 := Hid.mk' (bel_next HB1.out hb2)
      have m0 : w2.cell? ⟨w.heap.size, 0, none⟩ = some (.int .i64 k) := (hb2.cell (p := ⟨w.heap.size, 0, none⟩) hlt1).trans l0
      have m4 : w2.cell? ⟨w.heap.size, 4, none⟩ = some (.slice pa n cap) := (hb2.cell (p := ⟨w.heap.size, 4, none⟩) hlt1).trans l4
      have M0 := Hid.mk' m0
      have M4' := Hid.mk' m4
      clear hb2 l0 l1 l2 l3 l4 m0 m4 HB1 HCC
      go_wp2
      go_loopw [19] (fun v wr => ∃ j : Nat, j ≤ 3 ∧ v = .int .i64 (j : Int) ∧ Hid (∀ i, i < j → slOk N to a b i = true) ∧ wr = w2) (fun v _ => 3 - (intOf v).toNat)
      case atStart => exact ⟨0, by omega, rfl, Hid.mk' (fun i hi => by omega), rfl⟩
      case round =>
        obtain ⟨j, hj, rfl, HS, hwr⟩ := hrel
        obtain rfl := hwr.symm
        clear hwr
        by_cases hj3 : j < 3
        · have hjI : (j : Int) < 3 := by omega
          have hix := HI.out j hj3
          obtain ⟨x, hxx⟩ : ∃ x, sv to a b j = x := ⟨_, rfl⟩
          rw [hxx] at hix
          have HXX := Hid.mk' hxx
          clear hxx
          have HBAD : Hid (¬ ((0 ≤ x ∧ x ≤ 5) ∧ (j < N ∨ x = 0)) → R = false) := Hid.mk' (fun q => by
            have e : slOk N to a b j = false := by unfold slOk; rw [HXX.out]; exact decide_eq_false q
            rw [HW.out]
            rcases (show j = 0 ∨ j = 1 ∨ j = 2 by omega) with rfl | rfl | rfl <;> rw [e] <;> simp)
          have HGO : Hid (((0 ≤ x ∧ x ≤ 5) ∧ (j < N ∨ x = 0)) → ∀ i, i < j + 1 → slOk N to a b i = true) := Hid.mk' (fun q i hi => by
            by_cases hij : i = j
            · subst hij; unfold slOk; rw [HXX.out]; exact decide_eq_true q
            · exact HS.out i (by omega))
          by_cases x0 : x < 0
          · have HZ := Hid.mk' (HBAD.out (fun q => by omega))
            clear HBAD HGO
            go_wp2
            go_ret
            exact ⟨by rw [HZ.out]; rfl, HB2.out⟩
          · by_cases x5 : 6 ≤ x
            · have HZ := Hid.mk' (HBAD.out (fun q => by omega))
              have x0b : ¬ x < 0 := x0
              clear HBAD HGO
              go_wp2
              go_ret
              exact ⟨by rw [HZ.out]; rfl, HB2.out⟩
            · by_cases hjN : j < N
              · have HZ := Hid.mk' (HGO.out ⟨⟨by omega, by omega⟩, .inl hjN⟩)
                have hNI : ¬ (N : Int) ≤ (j : Int) := by omega
                clear HBAD HGO
                go_wp2
                go_roundw
                case rel => exact ⟨j + 1, by omega, by go_num, HZ, by first | rfl | trivial⟩
                case measure => simp [intOf]; omega
              · have hNI : (N : Int) ≤ (j : Int) := by omega
                by_cases xz : x = 0
                · have HZ := Hid.mk' (HGO.out ⟨⟨by omega, by omega⟩, .inr xz⟩)
                  have xzb : (x != 0) = false := by simp [xz]
                  clear HBAD HGO xz
                  go_wp2
                  go_roundw
                  case rel => exact ⟨j + 1, by omega, by go_num, HZ, by first | rfl | trivial⟩
                  case measure => simp [intOf]; omega
                · have HZ := Hid.mk' (HBAD.out (fun q => by omega))
                  have xzb : (x != 0) = true := by simp [xz]
                  clear HBAD HGO xz
                  go_wp2
                  go_ret
                  exact ⟨by rw [HZ.out]; rfl, HB2.out⟩
        · have hje : j = 3 := by omega
          subst hje
          have HZ : Hid (R = (decide (k = 1) || decide (n = 0))) := by
            rw [HW.out, HS.out 0 (by omega), HS.out 1 (by omega), HS.out 2 (by omega)]
            exact Hid.mk' (by simp)
          have m0 := M0.out
          have m4 := M4'.out
          by_cases k1 : k = 1
          · have k1b : (k == 1) = true := by simp [k1]
            have HY : Hid (R = true) := by rw [HZ.out]; exact Hid.mk' (by simp [k1])
            clear k1
            go_wp2
            go_ret
            exact ⟨by rw [HY.out]; rfl, HB2.out⟩
          · have k1b : (k == 1) = false := by simp [k1]
            have HY : Hid (R = decide (n = 0)) := by rw [HZ.out]; exact Hid.mk' (by simp [k1])
            clear k1
            by_cases n0 : n = 0
            · have n0b : ((n : Int) == 0) = true := by simp [n0]
              have HY2 : Hid (R = true) := by rw [HY.out]; exact Hid.mk' (decide_eq_true n0)
              clear n0
              go_wp2
              go_ret
              exact ⟨by rw [HY2.out]; rfl, HB2.out⟩
            · have n0b : ((n : Int) == 0) = false := by simp; omega
              have HY2 : Hid (R = false) := by rw [HY.out]; exact Hid.mk' (decide_eq_false n0)
              clear n0
              go_wp2
              go_ret
              exact ⟨by rw [HY2.out]; rfl, HB2.out⟩
end Go.Proofs.YtoglomfejgpoeaaDoor
