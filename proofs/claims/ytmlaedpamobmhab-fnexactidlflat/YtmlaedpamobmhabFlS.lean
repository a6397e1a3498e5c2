/-
  Counting within a side: the model's IdlFlat.
-/
import Derived.Test.YtmlaedpamobmhabGan
import Derived.Deep.RegionHeld3
namespace Go.Proofs.Ytmlaedpamobmhab
open Go.RowKit Go.Deep Go.Joins
set_option linter.unusedVariables false

set_option maxRecDepth 100000 in
set_option maxHeartbeats 4000000 in
theorem l7FindI (w : World) (o : Int) (a : Option Addr) (n cap : Nat) (ad : Nat → Option Addr) (ln cp : Nat → Nat) (f : Nat → Nat → T) (m : M) (h : RdS w a n cap ad ln cp f) (hok : ∀ i, i < n → ln i ≠ 0 ∧ polOk (ln i) (f i) = true) :
    Calls Try.prog 33 #[.int .i64 o, .slice a n cap, .agg #[.int .i64 m.x, .int .i64 m.y, .int .i64 m.d, .int .i64 m.e]] w fun r w' => r = .returned (.int .i64 (idxF (fun t => M.dvd t.m m) (ldAt o ln f) n)) ∧ Below w.heap.size w w' := by
  have hn : (n : Int) ≤ 140737488351232 := by have := h.2.1; omega
  have HB0 := Hid.mk' (bel_one w (.cells #[.int .i64 m.x, .int .i64 m.y, .int .i64 m.d, .int .i64 m.e] 31))
  have HM0 := Hid.mk' (M4.box w 31 m.x m.y m.d m.e)
  have HH := Hid.mk' h
  have HO := Hid.mk' hok
  clear h hok
  go_enter Try.func33, Try.ntmps33
  go_wp2
  go_loopw [7] (fun v wr => ∃ i : Nat, i ≤ n ∧ v = .int .i64 (i : Int) ∧ Below w.heap.size w wr ∧ M4 wr w.heap.size m.x m.y m.d m.e ∧ ∀ j, j < i → M.dvd (ldAt o ln f j).m m = false) (fun v _ => n - (intOf v).toNat)
  case atStart => exact ⟨0, Nat.zero_le _, rfl, HB0.out, HM0.out, fun j hj => by omega⟩
  case round =>
    obtain ⟨i, hi, rfl, hB, hM, hJ⟩ := hrel
    have HJ := Hid.mk' hJ
    have HB := Hid.mk' hB
    have HM := Hid.mk' hM
    clear hJ
    by_cases hlt : i < n
    · rcases HH.out.2.2.1 with h0 | ⟨b, off, rfl, hblt, hcl⟩
      · omega
      have hil : (i : Int) < (n : Int) := by omega
      have hbr : b < wr.heap.size := Nat.lt_of_lt_of_le hblt hB.size
      have g0 : wr.cell? ⟨b, off + i, none⟩ = some (.slice (ad i) (ln i) (cp i)) := (hB.cell (p := ⟨b, off + i, none⟩) hblt).trans (hcl i hlt)
      have hS : L5 b (off + i) w.heap.size (.slice (ad i) (ln i) (cp i)) m wr.drew := ⟨g0, hM.1, hM.2.1, hM.2.2.1, hM.2.2.2⟩
      have hoi := HO.out i hlt
      have fl := fl_of_ok hoi.2
      have HK := Hid.mk' ((HH.out.2.2.2 i hlt).below hB)
      obtain ⟨t, ht⟩ : ∃ t, ldAt o ln f i = t := ⟨_, rfl⟩
      have hlead : Calls Try.prog 25 #[.int .i64 o, .slice (ad i) (ln i) (cp i)] wr.drew fun r w' => r = .returned (.agg #[.int .i64 t.c, .int .i64 t.m.x, .int .i64 t.m.y, .int .i64 t.m.d, .int .i64 t.m.e]) ∧ Below wr.drew.heap.size wr.drew w' := by
        have := l3LeadS wr.drew o (ad i) (ln i) (cp i) (f i) (HK.out.below (Below.refl _ _).drew) (by omega) (fun j hj => (fl.2 j hj).1)
        rw [show f i (leadAt o (f i) (ln i)) = t from ht] at this
        exact this
      obtain ⟨bv, hbv⟩ : ∃ bv, M.dvd ⟨t.m.x, t.m.y, t.m.d, t.m.e⟩ ⟨m.x, m.y, m.d, m.e⟩ = bv := ⟨_, rfl⟩
      have HT : Hid (M.dvd (ldAt o ln f i).m m = bv) := by
        show M.dvd (ldAt o ln f i).m m = bv
        rw [ht]
        exact hbv
      have hfield : ∀ W : World, (Instr.field 33 (Value.agg #[.int .i64 t.c, .int .i64 t.m.x, .int .i64 t.m.y, .int .i64 t.m.d, .int .i64 t.m.e]) 1).run Try.prog W = .ok (Value.agg #[.int .i64 t.m.x, .int .i64 t.m.y, .int .i64 t.m.d, .int .i64 t.m.e]) W := fun W => by kernel_rfl
      have HBD := Hid.mk' hB.drew
      have HMD := Hid.mk' hM.drew'
      clear hcl hB hM g0 hoi fl ht hbr
      go_wp2_with fail
      go_region_held3 (fun u => u.cell? ⟨b, off + i, none⟩ = some (.slice (ad i) (ln i) (cp i)) ∧ u.cell? ⟨w.heap.size, 0, none⟩ = some (.int .i64 m.x) ∧ u.cell? ⟨w.heap.size, 1, none⟩ = some (.int .i64 m.y) ∧ u.cell? ⟨w.heap.size, 2, none⟩ = some (.int .i64 m.d) ∧ u.cell? ⟨w.heap.size, 3, none⟩ = some (.int .i64 m.e)) (first | with_reducible exact hS | with_reducible exact L5.below hS b1 | with_reducible exact L5.below (L5.below hS b1) b2) (first | (go_at_call 25; refine hlead.mono ?_; rintro e w1 ⟨rfl, b1⟩) | (go_at_call 53; refine (monDividesS_of hbv _).mono ?_; rintro e w2 ⟨rfl, b2⟩))
      have HBV := Hid.mk' (bel_next (bel_next HBD.out b1) b2)
      have HMV := Hid.mk' ((HMD.out.below b1).below b2)
      clear hS hlead hbv b1 b2 hfield
      cases bv
      · go_wp2
        go_roundw
        case rel => exact ⟨i + 1, by omega, by go_num, HBV.out, HMV.out, fun j hj => by
          by_cases e : j = i
          · rw [e]; exact HT.out
          · exact HJ.out j (by omega)⟩
        case measure => simp [intOf]; omega
      · go_wp2
        go_ret
        have e : idxF (fun t => M.dvd t.m m) (ldAt o ln f) n = (i : Int) := idx_hit (p := fun t => M.dvd t.m m) (f := ldAt o ln f) HJ.out HT.out n hlt
        rw [e]
        exact ⟨rfl, HBV.out⟩
    · have hnl : ¬ (i : Int) < (n : Int) := by omega
      have hie : i = n := by omega
      subst hie
      go_wp2
      go_ret
      have e : idxF (fun t => M.dvd t.m m) (ldAt o ln f) i = -1 := idx_none (p := fun t => M.dvd t.m m) (f := ldAt o ln f) HJ.out
      rw [e]
      exact ⟨rfl, HB.out⟩
theorem idxF_bd {p : T → Bool} {f : Nat → T} : ∀ n, -1 ≤ idxF p f n ∧ idxF p f n < n + 1
  | 0 => ⟨by show (-1 : Int) ≤ -1; omega, by show (-1 : Int) < ((0 : Nat) : Int) + 1; omega⟩
  | n + 1 => by
    have ih := idxF_bd (p := p) (f := f) n
    unfold idxF
    split
    · exact ⟨by omega, by omega⟩
    · split
      · exact ⟨by omega, by omega⟩
      · exact ⟨by omega, by omega⟩
theorem sumN_next (φ : Nat → Nat) (n : Nat) : sumN φ (n + 1) = sumN φ n + φ n := rfl
set_option maxRecDepth 100000 in
set_option maxHeartbeats 16000000 in
theorem idlFlatS_ok (w : World) (o : Int) (a : Option Addr) (n cap : Nat) (ad : Nat → Option Addr) (ln cp : Nat → Nat) (f : Nat → Nat → T) (s : Nat) (h : RdS w a n cap ad ln cp f) (o1 : 1 ≤ o) (o2 : o ≤ 3) (hl : lstOk n ln f = true) (hs : s ≤ 6) :
    Calls Try.prog 15 #[.int .i64 o, .slice a n cap, .int .i64 (s : Int)] w fun r w' => r = .returned (.tuple #[.int .i64 (flatN o n ln f s : Int), .bool (decide (flatE o n ln f s = 0))]) ∧ Below w.heap.size w w' := by
  have HH := Hid.mk' h
  have HLO := Hid.mk' (lstOk_all hl).2
  have s0 : (0 : Int) ≤ (s : Int) := by omega
  have s6 : (s : Int) ≤ 6 := by omega
  obtain ⟨G, hG⟩ : ∃ G : Nat → Nat → Nat → Nat → Nat, G = fun x y d e => if fGood o n ln f (fm x y d e) = true then 1 else 0 := ⟨_, rfl⟩
  obtain ⟨E, hE⟩ : ∃ E : Nat → Nat → Nat → Nat → Nat, E = fun x y d e => if fGood o n ln f (fm x y d e) = true ∧ fEdge s x y d e = true then 1 else 0 := ⟨_, rfl⟩
  have HGD := Hid.mk' hG
  have HED := Hid.mk' hE
  have HFN : Hid (flatN o n ln f s = sumN (fun x => sumN (fun y => sumN (fun d => sumN (fun e => G x y d e) (s + 1)) (s + 1)) (s + 1)) (s + 1)) := by show _ = _; rw [hG]; rfl
  have HFE : Hid (flatE o n ln f s = sumN (fun x => sumN (fun y => sumN (fun d => sumN (fun e => E x y d e) (s + 1)) (s + 1)) (s + 1)) (s + 1)) := by show _ = _; rw [hE]; rfl
  clear h hG hE
  go_enter Try.func15, Try.ntmps15
  go_wp2_with (go_at_call 32; refine (inS_in _ _ _ _ (by omega) (by omega)).mono ?_; rintro r w' ⟨rfl, hw'⟩; obtain rfl := hw'.symm; clear hw')
  refine (lstOkS _ _ _ _ _ _ _ _ HH.out).mono ?_
  rw [hl]
  rintro r w1 ⟨rfl, hb1⟩
  have HB1 := Hid.mk' hb1
  clear hb1
  go_wp2_with (go_at_call 32; refine (inS_in _ _ _ _ (by omega) (by omega)).mono ?_; rintro r w' ⟨rfl, hw'⟩; obtain rfl := hw'.symm; clear hw')
  go_loopw [8, 9, 10] (fun nv ev iv wr => ∃ (x N E9 : Nat) (ed : Bool), x ≤ s + 1 ∧ iv = .int .i64 (x : Int) ∧ nv = .int .i64 (N : Int) ∧ ev = .bool ed ∧ Hid (ed = decide (E9 ≠ 0)) ∧ Hid (N = sumN (fun x => sumN (fun y => sumN (fun d => sumN (fun e => G x y d e) (s + 1)) (s + 1)) (s + 1)) x) ∧ Hid (E9 = sumN (fun x => sumN (fun y => sumN (fun d => sumN (fun e => E x y d e) (s + 1)) (s + 1)) (s + 1)) x) ∧ N ≤ 343 * x ∧ Hid (Below w.heap.size w wr)) (fun _ _ iv _ => 7 - (intOf iv).toNat)
  case atStart => exact ⟨0, 0, 0, false, Nat.zero_le _, rfl, rfl, rfl, Hid.mk' rfl, Hid.mk' rfl, Hid.mk' rfl, by omega, HB1⟩
  case round =>
    obtain ⟨x, N0, E0, ed0, hx, rfl, rfl, rfl, HD0, HN0, HE0, m0, HB2⟩ := hrel
    by_cases lx : x ≤ s
    · have cx : (x : Int) ≤ (s : Int) := by omega
      go_wp2
      go_loopw [8, 9, 11] (fun nv ev iv wr => ∃ (y N E9 : Nat) (ed : Bool), y ≤ s + 1 ∧ iv = .int .i64 (y : Int) ∧ nv = .int .i64 (N : Int) ∧ ev = .bool ed ∧ Hid (ed = decide (E9 ≠ 0)) ∧ Hid (N = N0 + sumN (fun y => sumN (fun d => sumN (fun e => G x y d e) (s + 1)) (s + 1)) y) ∧ Hid (E9 = E0 + sumN (fun y => sumN (fun d => sumN (fun e => E x y d e) (s + 1)) (s + 1)) y) ∧ N ≤ 343 * x + 49 * y ∧ Hid (Below w.heap.size w wr)) (fun _ _ iv _ => 7 - (intOf iv).toNat)
      case atStart => exact ⟨0, N0, E0, ed0, Nat.zero_le _, rfl, rfl, rfl, HD0, Hid.mk' rfl, Hid.mk' rfl, by omega, HB2⟩
      case round =>
        obtain ⟨y, N1, E1, ed1, hy, rfl, rfl, rfl, HD1, HN1, HE1, m1, HB3⟩ := hrel
        by_cases ly : y ≤ s
        · have cy : (y : Int) ≤ (s : Int) := by omega
          go_wp2
          go_loopw [8, 9, 12] (fun nv ev iv wr => ∃ (d N E9 : Nat) (ed : Bool), d ≤ s + 1 ∧ iv = .int .i64 (d : Int) ∧ nv = .int .i64 (N : Int) ∧ ev = .bool ed ∧ Hid (ed = decide (E9 ≠ 0)) ∧ Hid (N = N1 + sumN (fun d => sumN (fun e => G x y d e) (s + 1)) d) ∧ Hid (E9 = E1 + sumN (fun d => sumN (fun e => E x y d e) (s + 1)) d) ∧ N ≤ 343 * x + 49 * y + 7 * d ∧ Hid (Below w.heap.size w wr)) (fun _ _ iv _ => 7 - (intOf iv).toNat)
          case atStart => exact ⟨0, N1, E1, ed1, Nat.zero_le _, rfl, rfl, rfl, HD1, Hid.mk' rfl, Hid.mk' rfl, by omega, HB3⟩
          case round =>
            obtain ⟨d, N2, E2, ed2, hd, rfl, rfl, rfl, HD2, HN2, HE2, m2, HB4⟩ := hrel
            by_cases ld : d ≤ s
            · have cd : (d : Int) ≤ (s : Int) := by omega
              go_wp2
              go_loopw [8, 9, 13] (fun nv ev iv wr => ∃ (e N E9 : Nat) (ed : Bool), e ≤ s + 1 ∧ iv = .int .i64 (e : Int) ∧ nv = .int .i64 (N : Int) ∧ ev = .bool ed ∧ Hid (ed = decide (E9 ≠ 0)) ∧ Hid (N = N2 + sumN (fun e => G x y d e) e) ∧ Hid (E9 = E2 + sumN (fun e => E x y d e) e) ∧ N ≤ 343 * x + 49 * y + 7 * d + 1 * e ∧ Hid (Below w.heap.size w wr)) (fun _ _ iv _ => 7 - (intOf iv).toNat)
              case atStart => exact ⟨0, N2, E2, ed2, Nat.zero_le _, rfl, rfl, rfl, HD2, Hid.mk' rfl, Hid.mk' rfl, by omega, HB4⟩
              case round =>
                obtain ⟨e, N3, E3, ed3, he, rfl, rfl, rfl, HD3, HN3, HE3, m3, HB5⟩ := hrel
                by_cases le : e ≤ s
                · have ce : (e : Int) ≤ (s : Int) := by omega
                  have hfi := fun W hW => l7FindI W o a n cap ad ln cp f (fm x y d e) hW HLO.out
                  have HFI := Hid.mk' hfi
                  clear hfi
                  obtain ⟨z, hz⟩ : ∃ z, idxF (fun t => M.dvd t.m (fm x y d e)) (ldAt o ln f) n = z := ⟨_, rfl⟩
                  have hzb := idxF_bd (p := fun t => M.dvd t.m (fm x y d e)) (f := ldAt o ln f) n
                  rw [hz] at hzb
                  have n12 := (lstOk_all hl).1
                  have HZ := Hid.mk' hz
                  clear hz
                  have hcall : Calls Try.prog 33 #[.int .i64 o, .slice a n cap, .agg #[.int .i64 (x : Int), .int .i64 (y : Int), .int .i64 (d : Int), .int .i64 (e : Int)]] wr fun r w' => r = .returned (.int .i64 z) ∧ Below wr.heap.size wr w' := by
                    have := HFI.out wr (HH.out.below HB5.out)
                    rw [HZ.out] at this
                    exact this
                  have HCALL := Hid.mk' hcall
                  clear hcall HFI
                  have HS1 : Hid (sumN (fun e => G x y d e) (e + 1) = sumN (fun e => G x y d e) e + G x y d e) := rfl
                  have HS2 : Hid (sumN (fun e => E x y d e) (e + 1) = sumN (fun e => E x y d e) e + E x y d e) := rfl
                  by_cases hz0 : z < 0
                  · have HG1 : Hid (G x y d e = 1) := by show G x y d e = 1; rw [HGD.out]; show (if fGood o n ln f (fm x y d e) = true then 1 else 0) = 1; rw [if_pos (by unfold fGood; rw [HZ.out]; exact decide_eq_true hz0)]
                    have HGO : Hid (fGood o n ln f (fm x y d e) = true) := by show fGood o n ln f (fm x y d e) = true; unfold fGood; rw [HZ.out]; exact decide_eq_true hz0
                    have HEDG : Hid (∀ b : Bool, b = decide (x = s ∨ y = s ∨ d = s ∨ e = s) → (ed3 || b) = decide (E3 + E x y d e ≠ 0)) := Hid.mk' (fun b hb => by
                      have hd := HD3.out
                      rw [HED.out]
                      show (ed3 || b) = decide (E3 + (if fGood o n ln f (fm x y d e) = true ∧ fEdge s x y d e = true then 1 else 0) ≠ 0)
                      rw [hd, hb]
                      unfold fEdge
                      by_cases q : x = s ∨ y = s ∨ d = s ∨ e = s
                      · rw [if_pos ⟨HGO.out, decide_eq_true q⟩, decide_eq_true q]; simp
                      · rw [if_neg (fun hh => q (of_decide_eq_true hh.2)), decide_eq_false q]; simp)
                    cases ed3
                    rotate_left
                    · have HEE : Hid (true = decide (E3 + E x y d e ≠ 0)) := Hid.mk' (HEDG.out _ rfl)
                      clear HEDG HD3
                      have HNX : Hid (N3 + 1 = N2 + sumN (fun e => G x y d e) (e + 1)) := by show _ = _; rw [HS1.out, HG1.out, ← Nat.add_assoc, ← HN3.out]
                      have HEX : Hid (E3 + E x y d e = E2 + sumN (fun e => E x y d e) (e + 1)) := by show _ = _; rw [HS2.out, ← Nat.add_assoc, ← HE3.out]
                      clear HG1 HGO HED HGD HS1 HS2 HZ HN3 HE3
                      go_wp2_with fail
                      refine HCALL.out.mono ?_
                      rintro r w6 ⟨rfl, hb6⟩
                      have HB6 := Hid.mk' (bel_next HB5.out hb6)
                      clear hb6 HCALL
                      go_wp2
                      go_roundw
                      case rel => exact ⟨e + 1, N3 + 1, E3 + E x y d e, true, by omega, by go_num, by go_num, rfl, HEE, HNX, HEX, by omega, HB6⟩
                      case measure => simp [intOf]; omega
                    by_cases qx : x = s
                    · have ebx : ((x : Int) == (s : Int)) = true := by simp; omega
                      have HEE : Hid (true = decide (E3 + E x y d e ≠ 0)) := Hid.mk' (by have h := HEDG.out true (decide_eq_true (by omega)).symm; simpa using h)
                      clear HEDG HD3 qx
                      have HNX : Hid (N3 + 1 = N2 + sumN (fun e => G x y d e) (e + 1)) := by show _ = _; rw [HS1.out, HG1.out, ← Nat.add_assoc, ← HN3.out]
                      have HEX : Hid (E3 + E x y d e = E2 + sumN (fun e => E x y d e) (e + 1)) := by show _ = _; rw [HS2.out, ← Nat.add_assoc, ← HE3.out]
                      clear HG1 HGO HED HGD HS1 HS2 HZ HN3 HE3
                      go_wp2_with fail
                      refine HCALL.out.mono ?_
                      rintro r w6 ⟨rfl, hb6⟩
                      have HB6 := Hid.mk' (bel_next HB5.out hb6)
                      clear hb6 HCALL
                      go_wp2
                      go_roundw
                      case rel => exact ⟨e + 1, N3 + 1, E3 + E x y d e, true, by omega, by go_num, by go_num, rfl, HEE, HNX, HEX, by omega, HB6⟩
                      case measure => simp [intOf]; omega
                    · have ebx : ((x : Int) == (s : Int)) = false := by simp; omega
                      have NX := Hid.mk' qx
                      clear qx
                      by_cases qy : y = s
                      · have eby : ((y : Int) == (s : Int)) = true := by simp; omega
                        have HEE : Hid (true = decide (E3 + E x y d e ≠ 0)) := Hid.mk' (by have h := HEDG.out true (decide_eq_true (by omega)).symm; simpa using h)
                        clear HEDG HD3 qy
                        have HNX : Hid (N3 + 1 = N2 + sumN (fun e => G x y d e) (e + 1)) := by show _ = _; rw [HS1.out, HG1.out, ← Nat.add_assoc, ← HN3.out]
                        have HEX : Hid (E3 + E x y d e = E2 + sumN (fun e => E x y d e) (e + 1)) := by show _ = _; rw [HS2.out, ← Nat.add_assoc, ← HE3.out]
                        clear HG1 HGO HED HGD HS1 HS2 HZ HN3 HE3
                        go_wp2_with fail
                        refine HCALL.out.mono ?_
                        rintro r w6 ⟨rfl, hb6⟩
                        have HB6 := Hid.mk' (bel_next HB5.out hb6)
                        clear hb6 HCALL
                        go_wp2
                        go_roundw
                        case rel => exact ⟨e + 1, N3 + 1, E3 + E x y d e, true, by omega, by go_num, by go_num, rfl, HEE, HNX, HEX, by omega, HB6⟩
                        case measure => simp [intOf]; omega
                      · have eby : ((y : Int) == (s : Int)) = false := by simp; omega
                        have NY := Hid.mk' qy
                        clear qy
                        by_cases qd : d = s
                        · have ebd : ((d : Int) == (s : Int)) = true := by simp; omega
                          have HEE : Hid (true = decide (E3 + E x y d e ≠ 0)) := Hid.mk' (by have h := HEDG.out true (decide_eq_true (by omega)).symm; simpa using h)
                          clear HEDG HD3 qd
                          have HNX : Hid (N3 + 1 = N2 + sumN (fun e => G x y d e) (e + 1)) := by show _ = _; rw [HS1.out, HG1.out, ← Nat.add_assoc, ← HN3.out]
                          have HEX : Hid (E3 + E x y d e = E2 + sumN (fun e => E x y d e) (e + 1)) := by show _ = _; rw [HS2.out, ← Nat.add_assoc, ← HE3.out]
                          clear HG1 HGO HED HGD HS1 HS2 HZ HN3 HE3
                          go_wp2_with fail
                          refine HCALL.out.mono ?_
                          rintro r w6 ⟨rfl, hb6⟩
                          have HB6 := Hid.mk' (bel_next HB5.out hb6)
                          clear hb6 HCALL
                          go_wp2
                          go_roundw
                          case rel => exact ⟨e + 1, N3 + 1, E3 + E x y d e, true, by omega, by go_num, by go_num, rfl, HEE, HNX, HEX, by omega, HB6⟩
                          case measure => simp [intOf]; omega
                        · have ebd : ((d : Int) == (s : Int)) = false := by simp; omega
                          have ND := Hid.mk' qd
                          clear qd
                          by_cases qe : e = s
                          · have ebe : ((e : Int) == (s : Int)) = true := by simp; omega
                            have HEE : Hid (true = decide (E3 + E x y d e ≠ 0)) := Hid.mk' (by have h := HEDG.out true (decide_eq_true (by omega)).symm; simpa using h)
                            clear HEDG HD3 qe
                            have HNX : Hid (N3 + 1 = N2 + sumN (fun e => G x y d e) (e + 1)) := by show _ = _; rw [HS1.out, HG1.out, ← Nat.add_assoc, ← HN3.out]
                            have HEX : Hid (E3 + E x y d e = E2 + sumN (fun e => E x y d e) (e + 1)) := by show _ = _; rw [HS2.out, ← Nat.add_assoc, ← HE3.out]
                            clear HG1 HGO HED HGD HS1 HS2 HZ HN3 HE3
                            go_wp2_with fail
                            refine HCALL.out.mono ?_
                            rintro r w6 ⟨rfl, hb6⟩
                            have HB6 := Hid.mk' (bel_next HB5.out hb6)
                            clear hb6 HCALL
                            go_wp2
                            go_roundw
                            case rel => exact ⟨e + 1, N3 + 1, E3 + E x y d e, true, by omega, by go_num, by go_num, rfl, HEE, HNX, HEX, by omega, HB6⟩
                            case measure => simp [intOf]; omega
                          · have ebe : ((e : Int) == (s : Int)) = false := by simp; omega
                            have NE := Hid.mk' qe
                            clear qe
                            have HEE : Hid (false = decide (E3 + E x y d e ≠ 0)) := Hid.mk' (HEDG.out false (decide_eq_false (fun q => by have := NX.out; have := NY.out; have := ND.out; have := NE.out; omega)).symm)
                            clear HEDG NX NY ND NE HD3
                            have HNX : Hid (N3 + 1 = N2 + sumN (fun e => G x y d e) (e + 1)) := by show _ = _; rw [HS1.out, HG1.out, ← Nat.add_assoc, ← HN3.out]
                            have HEX : Hid (E3 + E x y d e = E2 + sumN (fun e => E x y d e) (e + 1)) := by show _ = _; rw [HS2.out, ← Nat.add_assoc, ← HE3.out]
                            clear HG1 HGO HED HGD HS1 HS2 HZ HN3 HE3
                            go_wp2_with fail
                            refine HCALL.out.mono ?_
                            rintro r w6 ⟨rfl, hb6⟩
                            have HB6 := Hid.mk' (bel_next HB5.out hb6)
                            clear hb6 HCALL
                            go_wp2
                            go_roundw
                            case rel => exact ⟨e + 1, N3 + 1, E3 + E x y d e, false, by omega, by go_num, by go_num, rfl, HEE, HNX, HEX, by omega, HB6⟩
                            case measure => simp [intOf]; omega
                  · have HG0 : Hid (G x y d e = 0) := by show G x y d e = 0; rw [HGD.out]; show (if fGood o n ln f (fm x y d e) = true then 1 else 0) = 0; rw [if_neg (by unfold fGood; rw [HZ.out]; simpa using hz0)]
                    have HE00 : Hid (E x y d e = 0) := by show E x y d e = 0; rw [HED.out]; show (if fGood o n ln f (fm x y d e) = true ∧ fEdge s x y d e = true then 1 else 0) = 0; rw [if_neg (fun hh => by have := hh.1; unfold fGood at this; rw [HZ.out] at this; simp at this; omega)]
                    have HNX : Hid (N3 = N2 + sumN (fun e => G x y d e) (e + 1)) := by show _ = _; rw [HS1.out, HG0.out, Nat.add_zero, ← HN3.out]
                    have HEX : Hid (E3 = E2 + sumN (fun e => E x y d e) (e + 1)) := by show _ = _; rw [HS2.out, HE00.out, Nat.add_zero, ← HE3.out]
                    clear HG0 HE00 HED HGD HS1 HS2 HZ HN3 HE3
                    go_wp2_with fail
                    refine HCALL.out.mono ?_
                    rintro r w6 ⟨rfl, hb6⟩
                    have HB6 := Hid.mk' (bel_next HB5.out hb6)
                    clear hb6 HCALL
                    go_wp2
                    go_roundw
                    case rel => exact ⟨e + 1, N3, E3, ed3, by omega, by go_num, rfl, rfl, HD3, HNX, HEX, by omega, HB6⟩
                    case measure => simp [intOf]; omega
                · have ce : ¬ (e : Int) ≤ (s : Int) := by omega
                  have ze : e = s + 1 := by omega
                  have HXN : Hid (N3 = N1 + sumN (fun d => sumN (fun e => G x y d e) (s + 1)) (d + 1)) := by
                    show N3 = N1 + sumN (fun d => sumN (fun e => G x y d e) (s + 1)) (d + 1)
                    have hh : sumN (fun d => sumN (fun e => G x y d e) (s + 1)) (d + 1) = sumN (fun d => sumN (fun e => G x y d e) (s + 1)) d + sumN (fun e => G x y d e) (s + 1) := rfl
                    have h1 := HN3.out
                    have h2 := HN2.out
                    rw [ze] at h1
                    rw [hh]
                    omega
                  have HXE : Hid (E3 = E1 + sumN (fun d => sumN (fun e => E x y d e) (s + 1)) (d + 1)) := by
                    show E3 = E1 + sumN (fun d => sumN (fun e => E x y d e) (s + 1)) (d + 1)
                    have hh : sumN (fun d => sumN (fun e => E x y d e) (s + 1)) (d + 1) = sumN (fun d => sumN (fun e => E x y d e) (s + 1)) d + sumN (fun e => E x y d e) (s + 1) := rfl
                    have h1 := HE3.out
                    have h2 := HE2.out
                    rw [ze] at h1
                    rw [hh]
                    omega
                  have x3 : N3 ≤ 343 * x + 49 * y + 7 * (d + 1) := by omega
                  clear ze
                  go_wp2
                  go_roundw
                  case rel => exact ⟨d + 1, N3, E3, ed3, by omega, by go_num, rfl, rfl, HD3, HXN, HXE, x3, HB5⟩
                  case measure => simp [intOf]; omega
            · have cd : ¬ (d : Int) ≤ (s : Int) := by omega
              have zd : d = s + 1 := by omega
              have HXN : Hid (N2 = N0 + sumN (fun y => sumN (fun d => sumN (fun e => G x y d e) (s + 1)) (s + 1)) (y + 1)) := by
                show N2 = N0 + sumN (fun y => sumN (fun d => sumN (fun e => G x y d e) (s + 1)) (s + 1)) (y + 1)
                have hh : sumN (fun y => sumN (fun d => sumN (fun e => G x y d e) (s + 1)) (s + 1)) (y + 1) = sumN (fun y => sumN (fun d => sumN (fun e => G x y d e) (s + 1)) (s + 1)) y + sumN (fun d => sumN (fun e => G x y d e) (s + 1)) (s + 1) := rfl
                have h1 := HN2.out
                have h2 := HN1.out
                rw [zd] at h1
                rw [hh]
                omega
              have HXE : Hid (E2 = E0 + sumN (fun y => sumN (fun d => sumN (fun e => E x y d e) (s + 1)) (s + 1)) (y + 1)) := by
                show E2 = E0 + sumN (fun y => sumN (fun d => sumN (fun e => E x y d e) (s + 1)) (s + 1)) (y + 1)
                have hh : sumN (fun y => sumN (fun d => sumN (fun e => E x y d e) (s + 1)) (s + 1)) (y + 1) = sumN (fun y => sumN (fun d => sumN (fun e => E x y d e) (s + 1)) (s + 1)) y + sumN (fun d => sumN (fun e => E x y d e) (s + 1)) (s + 1) := rfl
                have h1 := HE2.out
                have h2 := HE1.out
                rw [zd] at h1
                rw [hh]
                omega
              have x3 : N2 ≤ 343 * x + 49 * (y + 1) := by omega
              clear zd
              go_wp2
              go_roundw
              case rel => exact ⟨y + 1, N2, E2, ed2, by omega, by go_num, rfl, rfl, HD2, HXN, HXE, x3, HB4⟩
              case measure => simp [intOf]; omega
        · have cy : ¬ (y : Int) ≤ (s : Int) := by omega
          have zy : y = s + 1 := by omega
          have HXN : Hid (N1 = sumN (fun x => sumN (fun y => sumN (fun d => sumN (fun e => G x y d e) (s + 1)) (s + 1)) (s + 1)) (x + 1)) := by
            show N1 = sumN (fun x => sumN (fun y => sumN (fun d => sumN (fun e => G x y d e) (s + 1)) (s + 1)) (s + 1)) (x + 1)
            have hh : sumN (fun x => sumN (fun y => sumN (fun d => sumN (fun e => G x y d e) (s + 1)) (s + 1)) (s + 1)) (x + 1) = sumN (fun x => sumN (fun y => sumN (fun d => sumN (fun e => G x y d e) (s + 1)) (s + 1)) (s + 1)) x + sumN (fun y => sumN (fun d => sumN (fun e => G x y d e) (s + 1)) (s + 1)) (s + 1) := rfl
            have h1 := HN1.out
            have h2 := HN0.out
            rw [zy] at h1
            rw [hh]
            omega
          have HXE : Hid (E1 = sumN (fun x => sumN (fun y => sumN (fun d => sumN (fun e => E x y d e) (s + 1)) (s + 1)) (s + 1)) (x + 1)) := by
            show E1 = sumN (fun x => sumN (fun y => sumN (fun d => sumN (fun e => E x y d e) (s + 1)) (s + 1)) (s + 1)) (x + 1)
            have hh : sumN (fun x => sumN (fun y => sumN (fun d => sumN (fun e => E x y d e) (s + 1)) (s + 1)) (s + 1)) (x + 1) = sumN (fun x => sumN (fun y => sumN (fun d => sumN (fun e => E x y d e) (s + 1)) (s + 1)) (s + 1)) x + sumN (fun y => sumN (fun d => sumN (fun e => E x y d e) (s + 1)) (s + 1)) (s + 1) := rfl
            have h1 := HE1.out
            have h2 := HE0.out
            rw [zy] at h1
            rw [hh]
            omega
          have x3 : N1 ≤ 343 * (x + 1) := by omega
          clear zy
          go_wp2
          go_roundw
          case rel => exact ⟨x + 1, N1, E1, ed1, by omega, by go_num, rfl, rfl, HD1, HXN, HXE, x3, HB3⟩
          case measure => simp [intOf]; omega
    · have cx : ¬ (x : Int) ≤ (s : Int) := by omega
      have zx : x = s + 1 := by omega
      have HFF := Hid.mk' (And.intro (HFN.out) (HFE.out))
      subst zx
      go_wp2
      refine bodyPost_ret (results_tmp2 rfl _ _ _) rfl ?_
      rw [HFF.out.1, HFF.out.2, ← HN0.out, ← HE0.out]
      refine ⟨?_, HB2.out⟩
      have hd := HD0.out
      by_cases hz : E0 = 0 <;> simp [hz] at hd ⊢ <;> simp [hd]
end Go.Proofs.Ytmlaedpamobmhab
