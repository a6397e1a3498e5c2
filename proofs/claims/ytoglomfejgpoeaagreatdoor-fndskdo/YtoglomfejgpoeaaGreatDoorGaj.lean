/-
  The model reads monomials (l3Number, l3Term, MonRead).
  The model reads terms and monomials (l3Term, MonRead).
  The model's PolText.
-/
import Derived.Test.YtoglomfejgpoeaaGreatDoorGae
import Derived.Test.YtoglomfejgpoeaaGreatDoorGai
import Derived.Test.YtoglomfejgpoeaaGreatDoorGac
namespace Go.Proofs.YtoglomfejgpoeaaGreatDoor
open Go.RowKit
set_option linter.unusedVariables false
set_option linter.unusedSimpArgs false

theorem drop_at {s : List UInt8} {at0 j : Nat} : (s.drop at0)[j]? = s[at0 + j]? := List.getElem?_drop
set_option maxRecDepth 100000 in
set_option maxHeartbeats 4000000 in
theorem l3NumberS (s : List UInt8) (hs : s.length ≤ 1048576) (p : Nat) (hp : p ≤ s.length) (w : World) :
    Calls Tryz.prog 133 #[.string ⟨s.toArray⟩, .int .i64 (p : Int)] w fun r w' => r = .returned (.tuple #[.int .i64 (nv (lead (s.drop p))), .int .i64 ((p + (lead (s.drop p)).length : Nat) : Int)]) ∧ w' = w := by
  have hsI : (s.length : Int) ≤ 1048576 := by omega
  obtain ⟨l, hl⟩ : ∃ l, s.drop p = l := ⟨_, rfl⟩
  have hll : l.length = s.length - p := by rw [← hl]; simp
  have HAT : Hid (∀ j, l[j]? = s[p + j]?) := fun j => by rw [← hl]; exact drop_at
  rw [hl]
  have HLN := Hid.mk' hll
  clear hl hll
  go_enter Tryz.func133, Tryz.ntmps133
  go_wp2
  go_loop [6, 7] (fun v6 v7 => ∃ (j q : Nat) (n : Int), j ≤ l.length ∧ q = p + j ∧ v7 = .int .i64 (q : Int) ∧ v6 = .int .i64 n ∧ Hid (n = nv (l.take j)) ∧ Hid (∀ i c, i < j → l[i]? = some c → isD c = true)) (fun _ v7 => s.length - (intOf v7).toNat)
  case atStart => exact ⟨0, p, 0, Nat.zero_le _, rfl, rfl, rfl, Hid.mk' rfl, fun i c hi => by omega⟩
  case round =>
    obtain ⟨j, q, n, hj, hq, rfl, rfl, HN, HD⟩ := hrel
    have HQ := Hid.mk' hq
    clear hq
    have hnb : 0 ≤ n ∧ n ≤ 10000 := by
      rw [HN.out]
      refine nv_bd _ fun c hc => ?_
      obtain ⟨i, hi, e⟩ := List.getElem_of_mem hc
      rw [List.length_take] at hi
      exact HD.out i c (by omega) (by rw [← e, List.getElem_take]; exact List.getElem?_eq_getElem _)
    obtain ⟨hn0, hn1⟩ := hnb
    by_cases hjl : j < l.length
    · have hqI : (q : Int) < (s.length : Int) := by have h1 := HLN.out; have h2 := HQ.out; omega
      obtain ⟨c, hc⟩ : ∃ c, l[j]? = some c := ⟨_, List.getElem?_eq_getElem hjl⟩
      have hix := str_index (l := s) (k := q) (c := c) (by rw [HQ.out, ← HAT.out j]; exact hc)
      have HC := Hid.mk' hc
      clear hc
      obtain ⟨z, hz⟩ : ∃ z : Nat, c.toNat = z := ⟨_, rfl⟩
      have hdz : isD c = decide (48 ≤ z ∧ z ≤ 57) := by unfold isD; rw [hz]
      have HDZ := Hid.mk' hdz
      have hz255 : z < 256 := by rw [← hz]; exact c.toNat_lt
      have HNX : Hid (nv (l.take (j + 1)) = if n < 1000 then n * 10 + ((z : Int) - 48) else n) := by
        rw [List.take_add_one, HC.out]
        show Hid (nv (l.take j ++ [c]) = _)
        rw [nv_snoc, ← HN.out, ← hz]
        exact Hid.mk' rfl
      rw [hz] at hix
      clear hz hdz
      have hw1 : IntKind.i64.wrap (z : Int) = (z : Int) := by rw [IntKind.wrap_i64]; omega
      by_cases hd : 48 ≤ z ∧ z ≤ 57
      · have HN2 : Hid (∀ i c, i < j + 1 → l[i]? = some c → isD c = true) := fun i c' hi hc' => by
          by_cases e : i = j
          · subst e
            have e := HC.out.symm.trans hc'
            cases e
            rw [HDZ.out]; exact decide_eq_true hd
          · exact HD.out i c' (by omega) hc'
        obtain ⟨hd1, hd2⟩ := hd
        have hu1 : IntKind.u8.wrap ((z : Int) - 48) = (z : Int) - 48 := by
          rcases (show z = 48 ∨ z = 49 ∨ z = 50 ∨ z = 51 ∨ z = 52 ∨ z = 53 ∨ z = 54 ∨ z = 55 ∨ z = 56 ∨ z = 57 by omega) with rfl | rfl | rfl | rfl | rfl | rfl | rfl | rfl | rfl | rfl <;> decide
        have HIN := Hid.mk' (inS_in (z : Int) 48 57)
        by_cases hn : n < 1000
        · have HV : Hid (nv (l.take (j + 1)) = n * 10 + ((z : Int) - 48)) := by rw [HNX.out, if_pos hn]; exact Hid.mk' rfl
          go_wp2_with (first | (go_at_call 73; refine (HIN.out _ (by omega) (by omega)).mono ?_; rintro e w' ⟨rfl, rfl⟩))
          go_round
          case rel => exact ⟨j + 1, q + 1, n * 10 + ((z : Int) - 48), by omega, by rw [HQ.out]; omega, by go_num, by first | rfl | (congr 1; done) | (simp; done), Hid.mk' HV.out.symm, HN2⟩
          case measure => simp [intOf]; omega
        · have HV : Hid (nv (l.take (j + 1)) = n) := by rw [HNX.out, if_neg hn]; exact Hid.mk' rfl
          go_wp2_with (first | (go_at_call 73; refine (HIN.out _ (by omega) (by omega)).mono ?_; rintro e w' ⟨rfl, rfl⟩))
          go_round
          case rel => exact ⟨j + 1, q + 1, n, by omega, by rw [HQ.out]; omega, by go_num, rfl, Hid.mk' HV.out.symm, HN2⟩
          case measure => simp [intOf]; omega
      · have HF : Hid (l.take j = lead l) := Hid.mk' (lead_take HD.out (fun c' hc' => by
          have e := HC.out.symm.trans hc'
          cases e
          rw [HDZ.out]; exact decide_eq_false hd) hj)
        have hout : (z : Int) < 48 ∨ (48 ≤ (z : Int) ∧ 57 < (z : Int)) := by omega
        have HOUT := Hid.mk' (fun u => inS_out (z : Int) 48 57 u hout)
        have HLL : Hid ((lead l).length = j) := by rw [← HF.out, List.length_take]; exact Hid.mk' (by omega)
        clear hout hd
        go_wp2_with (first | (go_at_call 73; refine (HOUT.out _).mono ?_; rintro e w' ⟨rfl, rfl⟩))
        refine bodyPost_ret (v := .tuple #[.int .i64 n, .int .i64 (q : Int)]) (by simp [results, Tryz.results133, go_sem]) rfl ⟨?_, rfl⟩
        rw [HLL.out, ← HF.out, ← HN.out]
        have e : ((p + j : Nat) : Int) = (q : Int) := by rw [HQ.out]
        have e2 : (p : Int) + (j : Int) = (q : Int) := by rw [HQ.out]; simp
        first | rw [e] | rw [e2]
    · have hje : j = l.length := by omega
      have hqI : ¬ (q : Int) < (s.length : Int) := by have h1 := HLN.out; have h2 := HQ.out; omega
      have HF : Hid (l.take j = lead l) := Hid.mk' (lead_take HD.out (fun c hc => by
        have := (List.getElem?_eq_some_iff.1 hc).1
        omega) hj)
      have HLL : Hid ((lead l).length = j) := by rw [← HF.out, List.length_take]; exact Hid.mk' (by omega)
      clear hje
      go_wp2
      refine bodyPost_ret (v := .tuple #[.int .i64 n, .int .i64 (q : Int)]) (by simp [results, Tryz.results133, go_sem]) rfl ⟨?_, rfl⟩
      rw [HLL.out, ← HF.out, ← HN.out]
      have e : ((p + j : Nat) : Int) = (q : Int) := by rw [HQ.out]
      have e2 : (p : Int) + (j : Int) = (q : Int) := by rw [HQ.out]; simp
      first | rw [e] | rw [e2]
end Go.Proofs.YtoglomfejgpoeaaGreatDoor
namespace Go.Proofs.YtoglomfejgpoeaaGreatDoor
open Go.RowKit
set_option linter.unusedVariables false
set_option linter.unusedSimpArgs false
/-- five cells that may be written. -/
def W5 (w : World) (b : Nat) (x0 x1 x2 x3 x4 : Int) : Prop := (w.cell? ⟨b, 0, none⟩ = some (.int .i64 x0) ∧ w.cell? ⟨b, 1, none⟩ = some (.int .i64 x1) ∧ w.cell? ⟨b, 2, none⟩ = some (.int .i64 x2) ∧ w.cell? ⟨b, 3, none⟩ = some (.int .i64 x3) ∧ w.cell? ⟨b, 4, none⟩ = some (.int .i64 x4)) ∧ ∀ j, w.frozen? ⟨b, j, none⟩ = false
theorem W5.lt {w : World} {b : Nat} {x0 x1 x2 x3 x4 : Int} (h : W5 w b x0 x1 x2 x3 x4) : b < w.heap.size := World.block_lt_of_cell? w _ h.1.1
theorem W5.below {w w' : World} {b : Nat} {x0 x1 x2 x3 x4 : Int} (h : W5 w b x0 x1 x2 x3 x4) (hb : Below w.heap.size w w') : W5 w' b x0 x1 x2 x3 x4 :=
  ⟨⟨(hb.cell (p := ⟨b, 0, none⟩) h.lt).trans h.1.1, (hb.cell (p := ⟨b, 1, none⟩) h.lt).trans h.1.2.1, (hb.cell (p := ⟨b, 2, none⟩) h.lt).trans h.1.2.2.1, (hb.cell (p := ⟨b, 3, none⟩) h.lt).trans h.1.2.2.2.1, (hb.cell (p := ⟨b, 4, none⟩) h.lt).trans h.1.2.2.2.2⟩, fun j => (hb.frozen (p := ⟨b, j, none⟩) h.lt).trans (h.2 j)⟩
theorem W5.box (w : World) (y : TypeId) (x0 x1 x2 x3 x4 : Int) : W5 (w.alloc (.cells #[.int .i64 x0, .int .i64 x1, .int .i64 x2, .int .i64 x3, .int .i64 x4] y)) w.heap.size x0 x1 x2 x3 x4 :=
  ⟨⟨by rw [World.cell?_alloc_at _ _ _ _ rfl]; rfl, by rw [World.cell?_alloc_at _ _ _ _ rfl]; rfl, by rw [World.cell?_alloc_at _ _ _ _ rfl]; rfl, by rw [World.cell?_alloc_at _ _ _ _ rfl]; rfl, by rw [World.cell?_alloc_at _ _ _ _ rfl]; rfl⟩, fun j => by rw [World.frozen?_alloc_at _ _ _ _ rfl]⟩
theorem W5.other {w : World} {b : Nat} {x0 x1 x2 x3 x4 : Int} (h : W5 w b x0 x1 x2 x3 x4) {b' k : Nat} (hne : b' ≠ b) (v : Value) : W5 (w.setCell ⟨b', k, none⟩ v) b x0 x1 x2 x3 x4 := by
  have ne : ∀ j, (⟨b', k, none⟩ : Addr) ≠ ⟨b, j, none⟩ := fun j e => hne (by cases e; rfl)
  exact ⟨⟨by rw [World.cell?_setCell_other _ _ _ _ (ne 0)]; exact h.1.1, by rw [World.cell?_setCell_other _ _ _ _ (ne 1)]; exact h.1.2.1, by rw [World.cell?_setCell_other _ _ _ _ (ne 2)]; exact h.1.2.2.1, by rw [World.cell?_setCell_other _ _ _ _ (ne 3)]; exact h.1.2.2.2.1, by rw [World.cell?_setCell_other _ _ _ _ (ne 4)]; exact h.1.2.2.2.2⟩, fun j => by rw [World.frozen?_setCell]; exact h.2 j⟩
theorem W5.set0 {w : World} {b : Nat} {x0 x1 x2 x3 x4 : Int} (h : W5 w b x0 x1 x2 x3 x4) (v : Int) : W5 (w.setCell ⟨b, 0, none⟩ (.int .i64 v)) b v x1 x2 x3 x4 :=
  ⟨⟨World.cell?_setCell_same _ _ _ h.1.1, by rw [World.cell?_setCell_other _ _ _ _ (by simp)]; exact h.1.2.1, by rw [World.cell?_setCell_other _ _ _ _ (by simp)]; exact h.1.2.2.1, by rw [World.cell?_setCell_other _ _ _ _ (by simp)]; exact h.1.2.2.2.1, by rw [World.cell?_setCell_other _ _ _ _ (by simp)]; exact h.1.2.2.2.2⟩, fun j => by rw [World.frozen?_setCell]; exact h.2 j⟩
theorem W5.set1 {w : World} {b : Nat} {x0 x1 x2 x3 x4 : Int} (h : W5 w b x0 x1 x2 x3 x4) (v : Int) : W5 (w.setCell ⟨b, 1, none⟩ (.int .i64 v)) b x0 v x2 x3 x4 :=
  ⟨⟨by rw [World.cell?_setCell_other _ _ _ _ (by simp)]; exact h.1.1, World.cell?_setCell_same _ _ _ h.1.2.1, by rw [World.cell?_setCell_other _ _ _ _ (by simp)]; exact h.1.2.2.1, by rw [World.cell?_setCell_other _ _ _ _ (by simp)]; exact h.1.2.2.2.1, by rw [World.cell?_setCell_other _ _ _ _ (by simp)]; exact h.1.2.2.2.2⟩, fun j => by rw [World.frozen?_setCell]; exact h.2 j⟩
theorem W5.set2 {w : World} {b : Nat} {x0 x1 x2 x3 x4 : Int} (h : W5 w b x0 x1 x2 x3 x4) (v : Int) : W5 (w.setCell ⟨b, 2, none⟩ (.int .i64 v)) b x0 x1 v x3 x4 :=
  ⟨⟨by rw [World.cell?_setCell_other _ _ _ _ (by simp)]; exact h.1.1, by rw [World.cell?_setCell_other _ _ _ _ (by simp)]; exact h.1.2.1, World.cell?_setCell_same _ _ _ h.1.2.2.1, by rw [World.cell?_setCell_other _ _ _ _ (by simp)]; exact h.1.2.2.2.1, by rw [World.cell?_setCell_other _ _ _ _ (by simp)]; exact h.1.2.2.2.2⟩, fun j => by rw [World.frozen?_setCell]; exact h.2 j⟩
theorem W5.set3 {w : World} {b : Nat} {x0 x1 x2 x3 x4 : Int} (h : W5 w b x0 x1 x2 x3 x4) (v : Int) : W5 (w.setCell ⟨b, 3, none⟩ (.int .i64 v)) b x0 x1 x2 v x4 :=
  ⟨⟨by rw [World.cell?_setCell_other _ _ _ _ (by simp)]; exact h.1.1, by rw [World.cell?_setCell_other _ _ _ _ (by simp)]; exact h.1.2.1, by rw [World.cell?_setCell_other _ _ _ _ (by simp)]; exact h.1.2.2.1, World.cell?_setCell_same _ _ _ h.1.2.2.2.1, by rw [World.cell?_setCell_other _ _ _ _ (by simp)]; exact h.1.2.2.2.2⟩, fun j => by rw [World.frozen?_setCell]; exact h.2 j⟩
theorem W5.set4 {w : World} {b : Nat} {x0 x1 x2 x3 x4 : Int} (h : W5 w b x0 x1 x2 x3 x4) (v : Int) : W5 (w.setCell ⟨b, 4, none⟩ (.int .i64 v)) b x0 x1 x2 x3 v :=
  ⟨⟨by rw [World.cell?_setCell_other _ _ _ _ (by simp)]; exact h.1.1, by rw [World.cell?_setCell_other _ _ _ _ (by simp)]; exact h.1.2.1, by rw [World.cell?_setCell_other _ _ _ _ (by simp)]; exact h.1.2.2.1, by rw [World.cell?_setCell_other _ _ _ _ (by simp)]; exact h.1.2.2.2.1, World.cell?_setCell_same _ _ _ h.1.2.2.2.2⟩, fun j => by rw [World.frozen?_setCell]; exact h.2 j⟩

def TQ (w : World) (wr : World) (t : T) : Prop := Below w.heap.size w wr ∧ W5 wr w.heap.size 0 0 0 0 0 ∧ W5 wr (w.heap.size + 1) t.c t.m.x t.m.y t.m.d t.m.e
theorem set_120 {c : UInt8} {z : Nat} (h : c.toNat = z) (hz : z = 120) (n : Int) (t : T) : setL c n t = ⟨t.c, ⟨n, t.m.y, t.m.d, t.m.e⟩⟩ := by unfold setL; rw [h, if_pos hz]
theorem set_121 {c : UInt8} {z : Nat} (h : c.toNat = z) (hz : z = 121) (n : Int) (t : T) : setL c n t = ⟨t.c, ⟨t.m.x, n, t.m.d, t.m.e⟩⟩ := by unfold setL; rw [h, if_neg (by omega), if_pos hz]
theorem set_100 {c : UInt8} {z : Nat} (h : c.toNat = z) (hz : z = 100) (n : Int) (t : T) : setL c n t = ⟨t.c, ⟨t.m.x, t.m.y, n, t.m.e⟩⟩ := by unfold setL; rw [h, if_neg (by omega), if_neg (by omega), if_pos hz]
theorem set_101 {c : UInt8} {z : Nat} (h : c.toNat = z) (hz : z = 101) (n : Int) (t : T) : setL c n t = ⟨t.c, ⟨t.m.x, t.m.y, t.m.d, n⟩⟩ := by unfold setL; rw [h, if_neg (by omega), if_neg (by omega), if_neg (by omega)]
theorem isLt_z {c : UInt8} {z : Nat} (h : c.toNat = z) : isLt c = decide (z = 120 ∨ z = 121 ∨ z = 100 ∨ z = 101) := by unfold isLt; rw [h]
set_option maxRecDepth 100000 in
set_option maxHeartbeats 8000000 in
theorem l3TermS (s : List UInt8) (hs : s.length ≤ 1048576) (w : World) :
    Calls Tryz.prog 93 #[.string ⟨s.toArray⟩] w fun r w' => r = .returned (.agg #[.int .i64 (trmR s).c, .int .i64 (trmR s).m.x, .int .i64 (trmR s).m.y, .int .i64 (trmR s).m.d, .int .i64 (trmR s).m.e]) ∧ Below w.heap.size w w' := by
  have hsI : (s.length : Int) ≤ 1048576 := by omega
  obtain ⟨R, hR⟩ : ∃ R, trmR s = R := ⟨_, rfl⟩
  rw [hR]
  have HR := Hid.mk' hR
  clear hR
  have b1 := bel_one w (.cells #[.int .i64 0, .int .i64 0, .int .i64 0, .int .i64 0, .int .i64 0] 80)
  have b2 := bel_next b1 (bel_one (w.alloc (.cells #[.int .i64 0, .int .i64 0, .int .i64 0, .int .i64 0, .int .i64 0] 80)) (.cells #[.int .i64 1, .int .i64 0, .int .i64 0, .int .i64 0, .int .i64 0] 80))
  have HQ0 : Hid (TQ w ((w.alloc (.cells #[.int .i64 0, .int .i64 0, .int .i64 0, .int .i64 0, .int .i64 0] 80)).alloc (.cells #[.int .i64 1, .int .i64 0, .int .i64 0, .int .i64 0, .int .i64 0] 80)) ⟨1, ⟨0, 0, 0, 0⟩⟩) :=
    ⟨b2, (W5.box w 80 0 0 0 0 0).below (bel_one _ _), by
      have := W5.box (w.alloc (.cells #[.int .i64 0, .int .i64 0, .int .i64 0, .int .i64 0, .int .i64 0] 80)) 80 1 0 0 0 0
      rw [World.size_alloc] at this
      exact this⟩
  clear b1 b2
  have hneB : w.heap.size + 1 ≠ w.heap.size := by omega
  have hneB2 : w.heap.size ≠ w.heap.size + 1 := by omega
  have HN0 := Hid.mk' (l3NumberS s hs 0 (Nat.zero_le _))
  rw [List.drop_zero, Nat.zero_add] at HN0
  obtain ⟨d0, hd0⟩ : ∃ d, (lead s).length = d := ⟨_, rfl⟩
  obtain ⟨n0, hn0⟩ : ∃ n, nv (lead s) = n := ⟨_, rfl⟩
  have hd0l : d0 ≤ s.length := by rw [← hd0]; exact lead_len s
  have HRR : Hid (∃ f, (s.drop d0).length ≤ f ∧ ltm f ⟨if 0 < d0 then n0 else 1, ⟨0, 0, 0, 0⟩⟩ (s.drop d0) = R) := by
    refine ⟨_, Nat.le_refl _, ?_⟩
    have := HR.out
    unfold trmR trm0 at this
    rw [hd0, hn0] at this
    exact this
  rw [hd0, hn0] at HN0
  clear hd0 hn0 HR
  have hd0I : (d0 : Int) ≤ 1048576 := by omega
  go_enter Tryz.func93, Tryz.ntmps93
  go_wp2_with fail
  refine (HN0.out _).mono ?_
  rintro r w1 ⟨rfl, hw1⟩
  obtain rfl := hw1.symm
  clear hw1
  by_cases hd00 : 0 < d0
  · have HRS : Hid (∃ f, (s.drop d0).length ≤ f ∧ ltm f ⟨n0, ⟨0, 0, 0, 0⟩⟩ (s.drop d0) = R) := by have := HRR.out; rw [if_pos hd00] at this; exact this
    have hd01 : (0 : Int) < (d0 : Int) := by omega
    have hd02 : decide (0 < d0) = true := decide_eq_true hd00
    have HQS : Hid (TQ w ((w.alloc (.cells #[.int .i64 0, .int .i64 0, .int .i64 0, .int .i64 0, .int .i64 0] 80)).alloc (.cells #[.int .i64 n0, .int .i64 0, .int .i64 0, .int .i64 0, .int .i64 0] 80)) ⟨n0, ⟨0, 0, 0, 0⟩⟩) := ⟨bel_next (bel_one w _) (bel_one _ _), (W5.box w 80 0 0 0 0 0).below (bel_one _ _), by
      have := W5.box (w.alloc (.cells #[.int .i64 0, .int .i64 0, .int .i64 0, .int .i64 0, .int .i64 0] 80)) 80 n0 0 0 0 0
      rw [World.size_alloc] at this
      exact this⟩
    clear HRR hd00 HQ0
    go_wp2
    (try simp only [hd02])
    go_loopw [5] (fun v5 wr => ∃ (q : Nat) (t : T), q ≤ s.length ∧ v5 = .int .i64 (q : Int) ∧ Hid (TQ w wr t) ∧ Hid (∃ f, (s.drop q).length ≤ f ∧ ltm f t (s.drop q) = R)) (fun v5 _ => s.length - (intOf v5).toNat)
    case atStart => exact ⟨d0, ⟨n0, ⟨0, 0, 0, 0⟩⟩, hd0l, by first | rfl | go_num, HQS, HRS⟩
    case round =>
      obtain ⟨q, t, hql, rfl, HTQ, HF⟩ := hrel
      by_cases hq : q < s.length
      · have hqI : (q : Int) < (s.length : Int) := by omega
        obtain ⟨c, hc⟩ : ∃ c, s[q]? = some c := ⟨_, List.getElem?_eq_getElem hq⟩
        have hix := str_index hc
        have HDR : Hid (s.drop q = c :: s.drop (q + 1)) := by rw [List.drop_eq_getElem_cons hq]; have := (List.getElem?_eq_some_iff.1 hc).2; rw [this]; exact Hid.mk' rfl
        obtain ⟨z, hz⟩ : ∃ z : Nat, c.toNat = z := ⟨_, rfl⟩
        have HZ := Hid.mk' hz
        rw [hz] at hix
        clear hc hz
        have HN := Hid.mk' (l3NumberS s hs (q + 1) hq)
        obtain ⟨L, hL⟩ : ∃ L, (lead (s.drop (q + 1))).length = L := ⟨_, rfl⟩
        obtain ⟨V, hV⟩ : ∃ V, nv (lead (s.drop (q + 1))) = V := ⟨_, rfl⟩
        obtain ⟨nn, hnn⟩ : ∃ n, nOf (s.drop (q + 1)) = n := ⟨_, rfl⟩
        have hnn2 : nn = if L = 0 then 1 else V := by rw [← hnn]; unfold nOf; rw [hL, hV]
        obtain ⟨k, hk⟩ : ∃ k, q + 1 + L = k := ⟨_, rfl⟩
        have hks : k ≤ s.length := by have := lead_len (s.drop (q + 1)); rw [hL, List.length_drop] at this; omega
        have hqk : q < k := by omega
        have HYES : Hid (isLt c = true → ∃ f', (s.drop k).length ≤ f' ∧ ltm f' (setL c nn t) (s.drop k) = R) := fun hl => by
          obtain ⟨f, hf, he⟩ := HF.out
          rw [HDR.out] at hf he
          obtain ⟨f', rfl⟩ : ∃ f', f = f' + 1 := ⟨f - 1, by simp at hf; omega⟩
          rw [ltm_yes hl, hnn, hL, List.drop_drop, hk] at he
          refine ⟨f', ?_, he⟩
          rw [List.length_cons, List.length_drop] at hf
          rw [List.length_drop]
          omega
        have HNO : Hid (isLt c = false → R = ⟨0, ⟨0, 0, 0, 0⟩⟩) := fun hl => by
          obtain ⟨f, hf, he⟩ := HF.out
          rw [HDR.out] at hf he
          obtain ⟨f', rfl⟩ : ∃ f', f = f' + 1 := ⟨f - 1, by simp at hf; omega⟩
          rw [ltm_no hl] at he
          exact he.symm
        rw [hL, hV, hk] at HN
        have HIL := Hid.mk' (isLt_z HZ.out)
        have HKQ : Hid (k = q + 1 + L) := hk.symm
        have HNN := Hid.mk' hnn2
        clear hL hV hnn hnn2 hk HF HDR
        have hkI : (k : Int) ≤ 1048576 := by omega
        have hqw : IntKind.i64.wrap ((q : Int) + 1) = (q : Int) + 1 := by rw [IntKind.wrap_i64]; omega
        have HN2 : Hid (∀ u : World, Calls Tryz.prog 133 #[.string ⟨s.toArray⟩, .int .i64 ((q : Int) + 1)] u fun r w' => r = .returned (.tuple #[.int .i64 V, .int .i64 (k : Int)]) ∧ w' = u) := fun u => by
          have := HN.out u
          rw [Int.natCast_add] at this
          exact this
        obtain ⟨⟨c0, c1, c2, c3, c4⟩, cz⟩ := HTQ.out.2.2
        obtain ⟨⟨r0, r1, r2, r3, r4⟩, rz⟩ := HTQ.out.2.1
        by_cases hL0 : L = 0
        · have hke : ((k : Int) == (q : Int) + 1) = true := by have := HKQ.out; simp; omega
          have hne1 : nn = 1 := by rw [HNN.out, if_pos hL0]
          subst hne1
          clear HNN hL0
          by_cases hz120 : z = 120
          · skip
            have HSE := Hid.mk' (set_120 HZ.out hz120 1 t)
            have HY := Hid.mk' (HYES.out (by rw [HIL.out]; exact decide_eq_true (by omega)))
            have HT2 : Hid (TQ w (wr.setCell ⟨w.heap.size + 1, 1, none⟩ (.int .i64 1)) (setL c 1 t)) := by rw [HSE.out]; exact ⟨HTQ.out.1.setCell (by simp) _, HTQ.out.2.1.other hneB _, HTQ.out.2.2.set1 _⟩
            have hb120 : ((z : Int) == 120) = true := by simp; omega
            have hb121 : ((z : Int) == 121) = false := by simp; omega
            have hb100 : ((z : Int) == 100) = false := by simp; omega
            have hb101 : ((z : Int) == 101) = false := by simp; omega
            clear HYES HNO HIL HSE hz120 HZ
            go_wp2_with fail
            refine (HN2.out _).mono ?_
            rintro r w2 ⟨rfl, hw2⟩
            obtain rfl := hw2.symm
            clear hw2
            go_wp2
            go_roundw
            case rel => exact ⟨k, setL c 1 t, hks, rfl, HT2, HY⟩
            case measure => simp [intOf]; omega
          by_cases hz121 : z = 121
          · skip
            have HSE := Hid.mk' (set_121 HZ.out hz121 1 t)
            have HY := Hid.mk' (HYES.out (by rw [HIL.out]; exact decide_eq_true (by omega)))
            have HT2 : Hid (TQ w (wr.setCell ⟨w.heap.size + 1, 2, none⟩ (.int .i64 1)) (setL c 1 t)) := by rw [HSE.out]; exact ⟨HTQ.out.1.setCell (by simp) _, HTQ.out.2.1.other hneB _, HTQ.out.2.2.set2 _⟩
            have hb120 : ((z : Int) == 120) = false := by simp; omega
            have hb121 : ((z : Int) == 121) = true := by simp; omega
            have hb100 : ((z : Int) == 100) = false := by simp; omega
            have hb101 : ((z : Int) == 101) = false := by simp; omega
            clear HYES HNO HIL HSE hz121 HZ
            go_wp2_with fail
            refine (HN2.out _).mono ?_
            rintro r w2 ⟨rfl, hw2⟩
            obtain rfl := hw2.symm
            clear hw2
            go_wp2
            go_roundw
            case rel => exact ⟨k, setL c 1 t, hks, rfl, HT2, HY⟩
            case measure => simp [intOf]; omega
          by_cases hz100 : z = 100
          · skip
            have HSE := Hid.mk' (set_100 HZ.out hz100 1 t)
            have HY := Hid.mk' (HYES.out (by rw [HIL.out]; exact decide_eq_true (by omega)))
            have HT2 : Hid (TQ w (wr.setCell ⟨w.heap.size + 1, 3, none⟩ (.int .i64 1)) (setL c 1 t)) := by rw [HSE.out]; exact ⟨HTQ.out.1.setCell (by simp) _, HTQ.out.2.1.other hneB _, HTQ.out.2.2.set3 _⟩
            have hb120 : ((z : Int) == 120) = false := by simp; omega
            have hb121 : ((z : Int) == 121) = false := by simp; omega
            have hb100 : ((z : Int) == 100) = true := by simp; omega
            have hb101 : ((z : Int) == 101) = false := by simp; omega
            clear HYES HNO HIL HSE hz100 HZ
            go_wp2_with fail
            refine (HN2.out _).mono ?_
            rintro r w2 ⟨rfl, hw2⟩
            obtain rfl := hw2.symm
            clear hw2
            go_wp2
            go_roundw
            case rel => exact ⟨k, setL c 1 t, hks, rfl, HT2, HY⟩
            case measure => simp [intOf]; omega
          by_cases hz101 : z = 101
          · skip
            have HSE := Hid.mk' (set_101 HZ.out hz101 1 t)
            have HY := Hid.mk' (HYES.out (by rw [HIL.out]; exact decide_eq_true (by omega)))
            have HT2 : Hid (TQ w (wr.setCell ⟨w.heap.size + 1, 4, none⟩ (.int .i64 1)) (setL c 1 t)) := by rw [HSE.out]; exact ⟨HTQ.out.1.setCell (by simp) _, HTQ.out.2.1.other hneB _, HTQ.out.2.2.set4 _⟩
            have hb120 : ((z : Int) == 120) = false := by simp; omega
            have hb121 : ((z : Int) == 121) = false := by simp; omega
            have hb100 : ((z : Int) == 100) = false := by simp; omega
            have hb101 : ((z : Int) == 101) = true := by simp; omega
            clear HYES HNO HIL HSE hz101 HZ
            go_wp2_with fail
            refine (HN2.out _).mono ?_
            rintro r w2 ⟨rfl, hw2⟩
            obtain rfl := hw2.symm
            clear hw2
            go_wp2
            go_roundw
            case rel => exact ⟨k, setL c 1 t, hks, rfl, HT2, HY⟩
            case measure => simp [intOf]; omega
          have HRZ := Hid.mk' (HNO.out (by rw [HIL.out]; exact decide_eq_false (by omega)))
          have hb120 : ((z : Int) == 120) = false := by simp; omega
          have hb121 : ((z : Int) == 121) = false := by simp; omega
          have hb100 : ((z : Int) == 100) = false := by simp; omega
          have hb101 : ((z : Int) == 101) = false := by simp; omega
          clear HYES HNO HIL HZ hz120 hz121 hz100 hz101
          go_wp2_with fail
          refine (HN2.out _).mono ?_
          rintro r w2 ⟨rfl, hw2⟩
          obtain rfl := hw2.symm
          clear hw2
          go_wp2
          refine bodyPost_ret (v := .agg #[.int .i64 0, .int .i64 0, .int .i64 0, .int .i64 0, .int .i64 0]) (by simp [results, Tryz.results93, go_sem, *]) rfl ⟨by rw [HRZ.out], ?_⟩
          exact ((((HTQ.out.1.setCell (Nat.le_refl _) _).setCell (Nat.le_refl _) _).setCell (Nat.le_refl _) _).setCell (Nat.le_refl _) _).setCell (Nat.le_refl _) _
        · have hke : ((k : Int) == (q : Int) + 1) = false := by have := HKQ.out; simp; omega
          have hne1 : nn = V := by rw [HNN.out, if_neg hL0]
          subst hne1
          clear HNN hL0
          by_cases hz120 : z = 120
          · skip
            have HSE := Hid.mk' (set_120 HZ.out hz120 nn t)
            have HY := Hid.mk' (HYES.out (by rw [HIL.out]; exact decide_eq_true (by omega)))
            have HT2 : Hid (TQ w (wr.setCell ⟨w.heap.size + 1, 1, none⟩ (.int .i64 nn)) (setL c nn t)) := by rw [HSE.out]; exact ⟨HTQ.out.1.setCell (by simp) _, HTQ.out.2.1.other hneB _, HTQ.out.2.2.set1 _⟩
            have hb120 : ((z : Int) == 120) = true := by simp; omega
            have hb121 : ((z : Int) == 121) = false := by simp; omega
            have hb100 : ((z : Int) == 100) = false := by simp; omega
            have hb101 : ((z : Int) == 101) = false := by simp; omega
            clear HYES HNO HIL HSE hz120 HZ
            go_wp2_with fail
            refine (HN2.out _).mono ?_
            rintro r w2 ⟨rfl, hw2⟩
            obtain rfl := hw2.symm
            clear hw2
            go_wp2
            go_roundw
            case rel => exact ⟨k, setL c nn t, hks, rfl, HT2, HY⟩
            case measure => simp [intOf]; omega
          by_cases hz121 : z = 121
          · skip
            have HSE := Hid.mk' (set_121 HZ.out hz121 nn t)
            have HY := Hid.mk' (HYES.out (by rw [HIL.out]; exact decide_eq_true (by omega)))
            have HT2 : Hid (TQ w (wr.setCell ⟨w.heap.size + 1, 2, none⟩ (.int .i64 nn)) (setL c nn t)) := by rw [HSE.out]; exact ⟨HTQ.out.1.setCell (by simp) _, HTQ.out.2.1.other hneB _, HTQ.out.2.2.set2 _⟩
            have hb120 : ((z : Int) == 120) = false := by simp; omega
            have hb121 : ((z : Int) == 121) = true := by simp; omega
            have hb100 : ((z : Int) == 100) = false := by simp; omega
            have hb101 : ((z : Int) == 101) = false := by simp; omega
            clear HYES HNO HIL HSE hz121 HZ
            go_wp2_with fail
            refine (HN2.out _).mono ?_
            rintro r w2 ⟨rfl, hw2⟩
            obtain rfl := hw2.symm
            clear hw2
            go_wp2
            go_roundw
            case rel => exact ⟨k, setL c nn t, hks, rfl, HT2, HY⟩
            case measure => simp [intOf]; omega
          by_cases hz100 : z = 100
          · skip
            have HSE := Hid.mk' (set_100 HZ.out hz100 nn t)
            have HY := Hid.mk' (HYES.out (by rw [HIL.out]; exact decide_eq_true (by omega)))
            have HT2 : Hid (TQ w (wr.setCell ⟨w.heap.size + 1, 3, none⟩ (.int .i64 nn)) (setL c nn t)) := by rw [HSE.out]; exact ⟨HTQ.out.1.setCell (by simp) _, HTQ.out.2.1.other hneB _, HTQ.out.2.2.set3 _⟩
            have hb120 : ((z : Int) == 120) = false := by simp; omega
            have hb121 : ((z : Int) == 121) = false := by simp; omega
            have hb100 : ((z : Int) == 100) = true := by simp; omega
            have hb101 : ((z : Int) == 101) = false := by simp; omega
            clear HYES HNO HIL HSE hz100 HZ
            go_wp2_with fail
            refine (HN2.out _).mono ?_
            rintro r w2 ⟨rfl, hw2⟩
            obtain rfl := hw2.symm
            clear hw2
            go_wp2
            go_roundw
            case rel => exact ⟨k, setL c nn t, hks, rfl, HT2, HY⟩
            case measure => simp [intOf]; omega
          by_cases hz101 : z = 101
          · skip
            have HSE := Hid.mk' (set_101 HZ.out hz101 nn t)
            have HY := Hid.mk' (HYES.out (by rw [HIL.out]; exact decide_eq_true (by omega)))
            have HT2 : Hid (TQ w (wr.setCell ⟨w.heap.size + 1, 4, none⟩ (.int .i64 nn)) (setL c nn t)) := by rw [HSE.out]; exact ⟨HTQ.out.1.setCell (by simp) _, HTQ.out.2.1.other hneB _, HTQ.out.2.2.set4 _⟩
            have hb120 : ((z : Int) == 120) = false := by simp; omega
            have hb121 : ((z : Int) == 121) = false := by simp; omega
            have hb100 : ((z : Int) == 100) = false := by simp; omega
            have hb101 : ((z : Int) == 101) = true := by simp; omega
            clear HYES HNO HIL HSE hz101 HZ
            go_wp2_with fail
            refine (HN2.out _).mono ?_
            rintro r w2 ⟨rfl, hw2⟩
            obtain rfl := hw2.symm
            clear hw2
            go_wp2
            go_roundw
            case rel => exact ⟨k, setL c nn t, hks, rfl, HT2, HY⟩
            case measure => simp [intOf]; omega
          have HRZ := Hid.mk' (HNO.out (by rw [HIL.out]; exact decide_eq_false (by omega)))
          have hb120 : ((z : Int) == 120) = false := by simp; omega
          have hb121 : ((z : Int) == 121) = false := by simp; omega
          have hb100 : ((z : Int) == 100) = false := by simp; omega
          have hb101 : ((z : Int) == 101) = false := by simp; omega
          clear HYES HNO HIL HZ hz120 hz121 hz100 hz101
          go_wp2_with fail
          refine (HN2.out _).mono ?_
          rintro r w2 ⟨rfl, hw2⟩
          obtain rfl := hw2.symm
          clear hw2
          go_wp2
          refine bodyPost_ret (v := .agg #[.int .i64 0, .int .i64 0, .int .i64 0, .int .i64 0, .int .i64 0]) (by simp [results, Tryz.results93, go_sem, *]) rfl ⟨by rw [HRZ.out], ?_⟩
          exact ((((HTQ.out.1.setCell (Nat.le_refl _) _).setCell (Nat.le_refl _) _).setCell (Nat.le_refl _) _).setCell (Nat.le_refl _) _).setCell (Nat.le_refl _) _
      · have hqe : ¬ (q : Int) < (s.length : Int) := by omega
        have HRT : Hid (R = t) := by
          obtain ⟨f, hf, he⟩ := HF.out
          rw [List.drop_eq_nil_of_le (by omega), ltm_nil] at he
          exact Hid.mk' he.symm
        obtain ⟨⟨c0, c1, c2, c3, c4⟩, cz⟩ := HTQ.out.2.2
        obtain ⟨⟨r0, r1, r2, r3, r4⟩, rz⟩ := HTQ.out.2.1
        go_wp2
        refine bodyPost_ret (v := .agg #[.int .i64 t.c, .int .i64 t.m.x, .int .i64 t.m.y, .int .i64 t.m.d, .int .i64 t.m.e]) (by simp [results, Tryz.results93, go_sem, *]) rfl ⟨by rw [HRT.out], ?_⟩
        exact ((((HTQ.out.1.setCell (Nat.le_refl _) _).setCell (Nat.le_refl _) _).setCell (Nat.le_refl _) _).setCell (Nat.le_refl _) _).setCell (Nat.le_refl _) _
  · have HRS : Hid (∃ f, (s.drop d0).length ≤ f ∧ ltm f ⟨1, ⟨0, 0, 0, 0⟩⟩ (s.drop d0) = R) := by have := HRR.out; rw [if_neg hd00] at this; exact this
    have hd01 : ¬ (0 : Int) < (d0 : Int) := by omega
    have hd02 : decide (0 < d0) = false := decide_eq_false hd00
    have HQS := HQ0
    clear HRR hd00 HQ0
    go_wp2
    (try simp only [hd02])
    go_loopw [5] (fun v5 wr => ∃ (q : Nat) (t : T), q ≤ s.length ∧ v5 = .int .i64 (q : Int) ∧ Hid (TQ w wr t) ∧ Hid (∃ f, (s.drop q).length ≤ f ∧ ltm f t (s.drop q) = R)) (fun v5 _ => s.length - (intOf v5).toNat)
    case atStart => exact ⟨d0, ⟨1, ⟨0, 0, 0, 0⟩⟩, hd0l, by first | rfl | go_num, HQS, HRS⟩
    case round =>
      obtain ⟨q, t, hql, rfl, HTQ, HF⟩ := hrel
      by_cases hq : q < s.length
      · have hqI : (q : Int) < (s.length : Int) := by omega
        obtain ⟨c, hc⟩ : ∃ c, s[q]? = some c := ⟨_, List.getElem?_eq_getElem hq⟩
        have hix := str_index hc
        have HDR : Hid (s.drop q = c :: s.drop (q + 1)) := by rw [List.drop_eq_getElem_cons hq]; have := (List.getElem?_eq_some_iff.1 hc).2; rw [this]; exact Hid.mk' rfl
        obtain ⟨z, hz⟩ : ∃ z : Nat, c.toNat = z := ⟨_, rfl⟩
        have HZ := Hid.mk' hz
        rw [hz] at hix
        clear hc hz
        have HN := Hid.mk' (l3NumberS s hs (q + 1) hq)
        obtain ⟨L, hL⟩ : ∃ L, (lead (s.drop (q + 1))).length = L := ⟨_, rfl⟩
        obtain ⟨V, hV⟩ : ∃ V, nv (lead (s.drop (q + 1))) = V := ⟨_, rfl⟩
        obtain ⟨nn, hnn⟩ : ∃ n, nOf (s.drop (q + 1)) = n := ⟨_, rfl⟩
        have hnn2 : nn = if L = 0 then 1 else V := by rw [← hnn]; unfold nOf; rw [hL, hV]
        obtain ⟨k, hk⟩ : ∃ k, q + 1 + L = k := ⟨_, rfl⟩
        have hks : k ≤ s.length := by have := lead_len (s.drop (q + 1)); rw [hL, List.length_drop] at this; omega
        have hqk : q < k := by omega
        have HYES : Hid (isLt c = true → ∃ f', (s.drop k).length ≤ f' ∧ ltm f' (setL c nn t) (s.drop k) = R) := fun hl => by
          obtain ⟨f, hf, he⟩ := HF.out
          rw [HDR.out] at hf he
          obtain ⟨f', rfl⟩ : ∃ f', f = f' + 1 := ⟨f - 1, by simp at hf; omega⟩
          rw [ltm_yes hl, hnn, hL, List.drop_drop, hk] at he
          refine ⟨f', ?_, he⟩
          rw [List.length_cons, List.length_drop] at hf
          rw [List.length_drop]
          omega
        have HNO : Hid (isLt c = false → R = ⟨0, ⟨0, 0, 0, 0⟩⟩) := fun hl => by
          obtain ⟨f, hf, he⟩ := HF.out
          rw [HDR.out] at hf he
          obtain ⟨f', rfl⟩ : ∃ f', f = f' + 1 := ⟨f - 1, by simp at hf; omega⟩
          rw [ltm_no hl] at he
          exact he.symm
        rw [hL, hV, hk] at HN
        have HIL := Hid.mk' (isLt_z HZ.out)
        have HKQ : Hid (k = q + 1 + L) := hk.symm
        have HNN := Hid.mk' hnn2
        clear hL hV hnn hnn2 hk HF HDR
        have hkI : (k : Int) ≤ 1048576 := by omega
        have hqw : IntKind.i64.wrap ((q : Int) + 1) = (q : Int) + 1 := by rw [IntKind.wrap_i64]; omega
        have HN2 : Hid (∀ u : World, Calls Tryz.prog 133 #[.string ⟨s.toArray⟩, .int .i64 ((q : Int) + 1)] u fun r w' => r = .returned (.tuple #[.int .i64 V, .int .i64 (k : Int)]) ∧ w' = u) := fun u => by
          have := HN.out u
          rw [Int.natCast_add] at this
          exact this
        obtain ⟨⟨c0, c1, c2, c3, c4⟩, cz⟩ := HTQ.out.2.2
        obtain ⟨⟨r0, r1, r2, r3, r4⟩, rz⟩ := HTQ.out.2.1
        by_cases hL0 : L = 0
        · have hke : ((k : Int) == (q : Int) + 1) = true := by have := HKQ.out; simp; omega
          have hne1 : nn = 1 := by rw [HNN.out, if_pos hL0]
          subst hne1
          clear HNN hL0
          by_cases hz120 : z = 120
          · skip
            have HSE := Hid.mk' (set_120 HZ.out hz120 1 t)
            have HY := Hid.mk' (HYES.out (by rw [HIL.out]; exact decide_eq_true (by omega)))
            have HT2 : Hid (TQ w (wr.setCell ⟨w.heap.size + 1, 1, none⟩ (.int .i64 1)) (setL c 1 t)) := by rw [HSE.out]; exact ⟨HTQ.out.1.setCell (by simp) _, HTQ.out.2.1.other hneB _, HTQ.out.2.2.set1 _⟩
            have hb120 : ((z : Int) == 120) = true := by simp; omega
            have hb121 : ((z : Int) == 121) = false := by simp; omega
            have hb100 : ((z : Int) == 100) = false := by simp; omega
            have hb101 : ((z : Int) == 101) = false := by simp; omega
            clear HYES HNO HIL HSE hz120 HZ
            go_wp2_with fail
            refine (HN2.out _).mono ?_
            rintro r w2 ⟨rfl, hw2⟩
            obtain rfl := hw2.symm
            clear hw2
            go_wp2
            go_roundw
            case rel => exact ⟨k, setL c 1 t, hks, rfl, HT2, HY⟩
            case measure => simp [intOf]; omega
          by_cases hz121 : z = 121
          · skip
            have HSE := Hid.mk' (set_121 HZ.out hz121 1 t)
            have HY := Hid.mk' (HYES.out (by rw [HIL.out]; exact decide_eq_true (by omega)))
            have HT2 : Hid (TQ w (wr.setCell ⟨w.heap.size + 1, 2, none⟩ (.int .i64 1)) (setL c 1 t)) := by rw [HSE.out]; exact ⟨HTQ.out.1.setCell (by simp) _, HTQ.out.2.1.other hneB _, HTQ.out.2.2.set2 _⟩
            have hb120 : ((z : Int) == 120) = false := by simp; omega
            have hb121 : ((z : Int) == 121) = true := by simp; omega
            have hb100 : ((z : Int) == 100) = false := by simp; omega
            have hb101 : ((z : Int) == 101) = false := by simp; omega
            clear HYES HNO HIL HSE hz121 HZ
            go_wp2_with fail
            refine (HN2.out _).mono ?_
            rintro r w2 ⟨rfl, hw2⟩
            obtain rfl := hw2.symm
            clear hw2
            go_wp2
            go_roundw
            case rel => exact ⟨k, setL c 1 t, hks, rfl, HT2, HY⟩
            case measure => simp [intOf]; omega
          by_cases hz100 : z = 100
          · skip
            have HSE := Hid.mk' (set_100 HZ.out hz100 1 t)
            have HY := Hid.mk' (HYES.out (by rw [HIL.out]; exact decide_eq_true (by omega)))
            have HT2 : Hid (TQ w (wr.setCell ⟨w.heap.size + 1, 3, none⟩ (.int .i64 1)) (setL c 1 t)) := by rw [HSE.out]; exact ⟨HTQ.out.1.setCell (by simp) _, HTQ.out.2.1.other hneB _, HTQ.out.2.2.set3 _⟩
            have hb120 : ((z : Int) == 120) = false := by simp; omega
            have hb121 : ((z : Int) == 121) = false := by simp; omega
            have hb100 : ((z : Int) == 100) = true := by simp; omega
            have hb101 : ((z : Int) == 101) = false := by simp; omega
            clear HYES HNO HIL HSE hz100 HZ
            go_wp2_with fail
            refine (HN2.out _).mono ?_
            rintro r w2 ⟨rfl, hw2⟩
            obtain rfl := hw2.symm
            clear hw2
            go_wp2
            go_roundw
            case rel => exact ⟨k, setL c 1 t, hks, rfl, HT2, HY⟩
            case measure => simp [intOf]; omega
          by_cases hz101 : z = 101
          · skip
            have HSE := Hid.mk' (set_101 HZ.out hz101 1 t)
            have HY := Hid.mk' (HYES.out (by rw [HIL.out]; exact decide_eq_true (by omega)))
            have HT2 : Hid (TQ w (wr.setCell ⟨w.heap.size + 1, 4, none⟩ (.int .i64 1)) (setL c 1 t)) := by rw [HSE.out]; exact ⟨HTQ.out.1.setCell (by simp) _, HTQ.out.2.1.other hneB _, HTQ.out.2.2.set4 _⟩
            have hb120 : ((z : Int) == 120) = false := by simp; omega
            have hb121 : ((z : Int) == 121) = false := by simp; omega
            have hb100 : ((z : Int) == 100) = false := by simp; omega
            have hb101 : ((z : Int) == 101) = true := by simp; omega
            clear HYES HNO HIL HSE hz101 HZ
            go_wp2_with fail
            refine (HN2.out _).mono ?_
            rintro r w2 ⟨rfl, hw2⟩
            obtain rfl := hw2.symm
            clear hw2
            go_wp2
            go_roundw
            case rel => exact ⟨k, setL c 1 t, hks, rfl, HT2, HY⟩
            case measure => simp [intOf]; omega
          have HRZ := Hid.mk' (HNO.out (by rw [HIL.out]; exact decide_eq_false (by omega)))
          have hb120 : ((z : Int) == 120) = false := by simp; omega
          have hb121 : ((z : Int) == 121) = false := by simp; omega
          have hb100 : ((z : Int) == 100) = false := by simp; omega
          have hb101 : ((z : Int) == 101) = false := by simp; omega
          clear HYES HNO HIL HZ hz120 hz121 hz100 hz101
          go_wp2_with fail
          refine (HN2.out _).mono ?_
          rintro r w2 ⟨rfl, hw2⟩
          obtain rfl := hw2.symm
          clear hw2
          go_wp2
          refine bodyPost_ret (v := .agg #[.int .i64 0, .int .i64 0, .int .i64 0, .int .i64 0, .int .i64 0]) (by simp [results, Tryz.results93, go_sem, *]) rfl ⟨by rw [HRZ.out], ?_⟩
          exact ((((HTQ.out.1.setCell (Nat.le_refl _) _).setCell (Nat.le_refl _) _).setCell (Nat.le_refl _) _).setCell (Nat.le_refl _) _).setCell (Nat.le_refl _) _
        · have hke : ((k : Int) == (q : Int) + 1) = false := by have := HKQ.out; simp; omega
          have hne1 : nn = V := by rw [HNN.out, if_neg hL0]
          subst hne1
          clear HNN hL0
          by_cases hz120 : z = 120
          · skip
            have HSE := Hid.mk' (set_120 HZ.out hz120 nn t)
            have HY := Hid.mk' (HYES.out (by rw [HIL.out]; exact decide_eq_true (by omega)))
            have HT2 : Hid (TQ w (wr.setCell ⟨w.heap.size + 1, 1, none⟩ (.int .i64 nn)) (setL c nn t)) := by rw [HSE.out]; exact ⟨HTQ.out.1.setCell (by simp) _, HTQ.out.2.1.other hneB _, HTQ.out.2.2.set1 _⟩
            have hb120 : ((z : Int) == 120) = true := by simp; omega
            have hb121 : ((z : Int) == 121) = false := by simp; omega
            have hb100 : ((z : Int) == 100) = false := by simp; omega
            have hb101 : ((z : Int) == 101) = false := by simp; omega
            clear HYES HNO HIL HSE hz120 HZ
            go_wp2_with fail
            refine (HN2.out _).mono ?_
            rintro r w2 ⟨rfl, hw2⟩
            obtain rfl := hw2.symm
            clear hw2
            go_wp2
            go_roundw
            case rel => exact ⟨k, setL c nn t, hks, rfl, HT2, HY⟩
            case measure => simp [intOf]; omega
          by_cases hz121 : z = 121
          · skip
            have HSE := Hid.mk' (set_121 HZ.out hz121 nn t)
            have HY := Hid.mk' (HYES.out (by rw [HIL.out]; exact decide_eq_true (by omega)))
            have HT2 : Hid (TQ w (wr.setCell ⟨w.heap.size + 1, 2, none⟩ (.int .i64 nn)) (setL c nn t)) := by rw [HSE.out]; exact ⟨HTQ.out.1.setCell (by simp) _, HTQ.out.2.1.other hneB _, HTQ.out.2.2.set2 _⟩
            have hb120 : ((z : Int) == 120) = false := by simp; omega
            have hb121 : ((z : Int) == 121) = true := by simp; omega
            have hb100 : ((z : Int) == 100) = false := by simp; omega
            have hb101 : ((z : Int) == 101) = false := by simp; omega
            clear HYES HNO HIL HSE hz121 HZ
            go_wp2_with fail
            refine (HN2.out _).mono ?_
            rintro r w2 ⟨rfl, hw2⟩
            obtain rfl := hw2.symm
            clear hw2
            go_wp2
            go_roundw
            case rel => exact ⟨k, setL c nn t, hks, rfl, HT2, HY⟩
            case measure => simp [intOf]; omega
          by_cases hz100 : z = 100
          · skip
            have HSE := Hid.mk' (set_100 HZ.out hz100 nn t)
            have HY := Hid.mk' (HYES.out (by rw [HIL.out]; exact decide_eq_true (by omega)))
            have HT2 : Hid (TQ w (wr.setCell ⟨w.heap.size + 1, 3, none⟩ (.int .i64 nn)) (setL c nn t)) := by rw [HSE.out]; exact ⟨HTQ.out.1.setCell (by simp) _, HTQ.out.2.1.other hneB _, HTQ.out.2.2.set3 _⟩
            have hb120 : ((z : Int) == 120) = false := by simp; omega
            have hb121 : ((z : Int) == 121) = false := by simp; omega
            have hb100 : ((z : Int) == 100) = true := by simp; omega
            have hb101 : ((z : Int) == 101) = false := by simp; omega
            clear HYES HNO HIL HSE hz100 HZ
            go_wp2_with fail
            refine (HN2.out _).mono ?_
            rintro r w2 ⟨rfl, hw2⟩
            obtain rfl := hw2.symm
            clear hw2
            go_wp2
            go_roundw
            case rel => exact ⟨k, setL c nn t, hks, rfl, HT2, HY⟩
            case measure => simp [intOf]; omega
          by_cases hz101 : z = 101
          · skip
            have HSE := Hid.mk' (set_101 HZ.out hz101 nn t)
            have HY := Hid.mk' (HYES.out (by rw [HIL.out]; exact decide_eq_true (by omega)))
            have HT2 : Hid (TQ w (wr.setCell ⟨w.heap.size + 1, 4, none⟩ (.int .i64 nn)) (setL c nn t)) := by rw [HSE.out]; exact ⟨HTQ.out.1.setCell (by simp) _, HTQ.out.2.1.other hneB _, HTQ.out.2.2.set4 _⟩
            have hb120 : ((z : Int) == 120) = false := by simp; omega
            have hb121 : ((z : Int) == 121) = false := by simp; omega
            have hb100 : ((z : Int) == 100) = false := by simp; omega
            have hb101 : ((z : Int) == 101) = true := by simp; omega
            clear HYES HNO HIL HSE hz101 HZ
            go_wp2_with fail
            refine (HN2.out _).mono ?_
            rintro r w2 ⟨rfl, hw2⟩
            obtain rfl := hw2.symm
            clear hw2
            go_wp2
            go_roundw
            case rel => exact ⟨k, setL c nn t, hks, rfl, HT2, HY⟩
            case measure => simp [intOf]; omega
          have HRZ := Hid.mk' (HNO.out (by rw [HIL.out]; exact decide_eq_false (by omega)))
          have hb120 : ((z : Int) == 120) = false := by simp; omega
          have hb121 : ((z : Int) == 121) = false := by simp; omega
          have hb100 : ((z : Int) == 100) = false := by simp; omega
          have hb101 : ((z : Int) == 101) = false := by simp; omega
          clear HYES HNO HIL HZ hz120 hz121 hz100 hz101
          go_wp2_with fail
          refine (HN2.out _).mono ?_
          rintro r w2 ⟨rfl, hw2⟩
          obtain rfl := hw2.symm
          clear hw2
          go_wp2
          refine bodyPost_ret (v := .agg #[.int .i64 0, .int .i64 0, .int .i64 0, .int .i64 0, .int .i64 0]) (by simp [results, Tryz.results93, go_sem, *]) rfl ⟨by rw [HRZ.out], ?_⟩
          exact ((((HTQ.out.1.setCell (Nat.le_refl _) _).setCell (Nat.le_refl _) _).setCell (Nat.le_refl _) _).setCell (Nat.le_refl _) _).setCell (Nat.le_refl _) _
      · have hqe : ¬ (q : Int) < (s.length : Int) := by omega
        have HRT : Hid (R = t) := by
          obtain ⟨f, hf, he⟩ := HF.out
          rw [List.drop_eq_nil_of_le (by omega), ltm_nil] at he
          exact Hid.mk' he.symm
        obtain ⟨⟨c0, c1, c2, c3, c4⟩, cz⟩ := HTQ.out.2.2
        obtain ⟨⟨r0, r1, r2, r3, r4⟩, rz⟩ := HTQ.out.2.1
        go_wp2
        refine bodyPost_ret (v := .agg #[.int .i64 t.c, .int .i64 t.m.x, .int .i64 t.m.y, .int .i64 t.m.d, .int .i64 t.m.e]) (by simp [results, Tryz.results93, go_sem, *]) rfl ⟨by rw [HRT.out], ?_⟩
        exact ((((HTQ.out.1.setCell (Nat.le_refl _) _).setCell (Nat.le_refl _) _).setCell (Nat.le_refl _) _).setCell (Nat.le_refl _) _).setCell (Nat.le_refl _) _
end Go.Proofs.YtoglomfejgpoeaaGreatDoor
namespace Go.Proofs.YtoglomfejgpoeaaGreatDoor
open Go.RowKit
set_option linter.unusedVariables false
set_option linter.unusedSimpArgs false
theorem ba_eq {a b : List UInt8} (h : a = b) : (Value.string ⟨a.toArray⟩) = .string ⟨b.toArray⟩ := by rw [h]
set_option maxRecDepth 100000 in
set_option maxHeartbeats 8000000 in
theorem polTextS (w : World) (a : Option Addr) (n cap : Nat) (f : Nat → T) (h : Rd w a n cap f) :
    Calls Tryz.prog 62 #[.slice a n cap] w fun r w' => r = .returned (.string ⟨(polT n f).toArray⟩) ∧ Below w.heap.size w w' := by
  have HH := Hid.mk' h
  have hnI : (n : Int) ≤ 9223372036854775807 := by have := h.2.1; omega
  obtain ⟨ok, hok⟩ : ∃ b, polOk n f = b := ⟨_, rfl⟩
  have hc := polOkS w a n cap f h
  rw [hok] at hc
  have HC := Hid.mk' hc
  have HOK := Hid.mk' hok
  clear hc hok h
  obtain ⟨R, hR⟩ : ∃ R, polT n f = R := ⟨_, rfl⟩
  rw [hR]
  cases ok
  · have HR := Hid.mk' (hR.symm.trans (polT_no HOK.out))
    clear hR
    go_enter Tryz.func62, Tryz.ntmps62
    go_wp2_with fail
    refine HC.out.mono ?_
    rintro r w1 ⟨rfl, hb⟩
    go_wp2
    go_ret
    exact ⟨by rw [HR.out]; rfl, hb⟩
  · by_cases h0 : n = 0
    · have HR := Hid.mk' (hR.symm.trans (polT_zero HOK.out h0))
      have hn0 : ((n : Int) == 0) = true := by rw [h0]; rfl
      clear hR h0
      go_enter Tryz.func62, Tryz.ntmps62
      go_wp2_with fail
      refine HC.out.mono ?_
      rintro r w1 ⟨rfl, hb⟩
      go_wp2
      go_ret
      exact ⟨by rw [HR.out]; rfl, hb⟩
    · have HR := Hid.mk' (hR.symm.trans (polT_is HOK.out h0))
      have hn0 : ((n : Int) == 0) = false := beq_eq_false_iff_ne.2 (by omega)
      have HALL := Hid.mk' (polOk_is HOK.out)
      have n400 := (polOk_is HOK.out).1
      have n400I : (n : Int) ≤ 400 := by omega
      clear hR
      obtain ⟨b, off, rfl, hblt, hcl⟩ := HH.out.2.2.resolve_left h0
      have HCL := Hid.mk' hcl
      clear hcl
      go_enter Tryz.func62, Tryz.ntmps62
      go_wp2_with fail
      refine HC.out.mono ?_
      rintro r w1 ⟨rfl, hb⟩
      have HB1 := Hid.mk' hb
      have hs1 := hb.size
      clear hb HC
      go_wp2
      go_loopw [4, 3] (fun v4 v3 wr => ∃ (k : Nat) (S : List UInt8), k ≤ n ∧ v4 = .int .i64 (k : Int) ∧ v3 = .string ⟨S.toArray⟩ ∧ Hid (S = jnT f k) ∧ Hid (Below w.heap.size w wr)) (fun v4 _ _ => n - (intOf v4).toNat)
      case atStart => exact ⟨0, [], Nat.zero_le _, rfl, rfl, Hid.mk' rfl, HB1⟩
      case round =>
        obtain ⟨k, S, hk, rfl, rfl, HS, HB⟩ := hrel
        by_cases hkn : k < n
        · have hklI : (k : Int) < (n : Int) := by omega
          have hSl : S.length ≤ 6800 := by
            rw [HS.out]
            have := jnT_len k (fun i hi => HALL.out.2 i (by omega))
            omega
          obtain ⟨⟨tc1, tc2⟩, tmo⟩ := HALL.out.2 k hkn
          obtain ⟨t, ht⟩ : ∃ t, f k = t := ⟨_, rfl⟩
          have HJ := Hid.mk' (show jnT f (k + 1) = (if k = 0 then [] else jnT f k ++ [43]) ++ trmT t by rw [← ht]; rfl)
          rw [← HS.out] at HJ
          have HS00 : Hid (S = jnT f k) := HS
          obtain ⟨g0, g1, g2, g3, g4⟩ := (HCL.out k hkn).below HB.out hblt
          rw [ht] at tc1 tc2 tmo g0 g1 g2 g3 g4
          clear ht
          obtain ⟨c, ⟨x, y, d, e⟩⟩ := t
          simp only at tc1 tc2 tmo g0 g1 g2 g3 g4
          obtain ⟨C, rfl⟩ : ∃ C : Nat, c = (C : Int) := ⟨c.toNat, by omega⟩
          have hC100 : C ≤ 100 := by omega
          obtain ⟨MT, hMT⟩ : ∃ MT, monT ⟨x, y, d, e⟩ = MT := ⟨_, rfl⟩
          have hml : MT.length ≤ 12 := by rw [← hMT]; exact monT_len tmo
          have hcm : ∀ u : World, Calls Tryz.prog 108 #[.agg #[.int .i64 x, .int .i64 y, .int .i64 d, .int .i64 e]] u fun r w' => r = .returned (.string ⟨MT.toArray⟩) ∧ Below u.heap.size u w' := fun u => by rw [← hMT]; exact monTextS x y d e u
          obtain ⟨DT, hDT⟩ : ∃ DT, Lib.decDigits C = DT := ⟨_, rfl⟩
          have hdl : DT.length ≤ 4 := by rw [← hDT]; exact dec_len4 (by omega)
          have hcd : ∀ u : World, Calls Tryz.prog 61 #[.int .i64 (C : Int)] u fun r w' => r = .returned (.string ⟨DT.toArray⟩) ∧ Below u.heap.size u w' := fun u => by rw [← hDT]; exact l2DigitsS C (by omega) u
          have htrm : trmT ⟨(C : Int), ⟨x, y, d, e⟩⟩ = if MT = [49] then DT else if C = 1 then MT else DT ++ MT := by
            show (if x = 0 ∧ y = 0 ∧ d = 0 ∧ e = 0 then Lib.decDigits C else if (C : Int) = 1 then monT ⟨x, y, d, e⟩ else Lib.decDigits C ++ monT ⟨x, y, d, e⟩) = _
            rw [hMT, hDT]
            by_cases hz : x = 0 ∧ y = 0 ∧ d = 0 ∧ e = 0
            · have hm : MT = [49] := by
                obtain ⟨rfl, rfl, rfl, rfl⟩ := hz
                rw [← hMT]; exact monT_1
              rw [if_pos hz, if_pos hm]
            · have hm : MT ≠ [49] := by rw [← hMT]; exact (monT_not1 tmo hz).1
              rw [if_neg hz, if_neg hm]
              by_cases h1 : C = 1
              · rw [if_pos h1, if_pos (by omega)]
              · rw [if_neg h1, if_neg (by omega)]
          rw [htrm] at HJ
          have HCM := Hid.mk' hcm
          have HCD := Hid.mk' hcd
          clear hcm hcd hMT hDT htrm tmo HS
          by_cases hk0 : k = 0
          · subst hk0
            have HJ0 : Hid (jnT f 1 = if MT = [49] then DT else if C = 1 then MT else DT ++ MT) := HJ.out
            have hS0 : S = [] := HS00.out
            subst hS0
            clear HS00
            simp only [Nat.zero_mul, Nat.add_zero] at g0 g1 g2 g3 g4
            clear HJ
            by_cases hm1 : MT = [49]
            · subst hm1
              have HQ : Hid (DT = jnT f 1) := by rw [HJ0.out, if_pos rfl]; exact Hid.mk' rfl
              go_wp2_with fail
              refine (HCM.out _).mono ?_
              rintro r wx0 ⟨rfl, hbx0⟩
              have HBx0 := Hid.mk' (bel_next HB.out hbx0)
              obtain ⟨g0, g1, g2, g3, g4⟩ := Cells.below (t := ⟨_, ⟨x, y, d, e⟩⟩) ⟨g0, g1, g2, g3, g4⟩ hbx0 (by have := HB.out.size; omega)
              simp only at g0 g1 g2 g3 g4
              clear hbx0
              go_wp2_with fail
              refine (HCD.out _).mono ?_
              rintro r wx1 ⟨rfl, hbx1⟩
              have HBx1 := Hid.mk' (bel_next HBx0.out hbx1)
              obtain ⟨g0, g1, g2, g3, g4⟩ := Cells.below (t := ⟨_, ⟨x, y, d, e⟩⟩) ⟨g0, g1, g2, g3, g4⟩ hbx1 (by have := HBx0.out.size; omega)
              simp only at g0 g1 g2 g3 g4
              clear hbx1
              go_wp2
              go_roundw
              case rel => exact ⟨1, _, by omega, by go_num, by first | rfl | (refine ba_eq ?_; simp; done) | (congr 1; apply ByteArray.ext; simp [ByteArray.data_append]; done), HQ, HBx1⟩
              case measure => simp [intOf]; omega
            · have hmb1 : (MT == [49]) = false := beq_eq_false_iff_ne.2 hm1
              by_cases hc1 : C = 1
              · subst hc1
                have HQ : Hid (MT = jnT f 1) := by rw [HJ0.out, if_neg hm1, if_pos rfl]; exact Hid.mk' rfl
                go_wp2_with fail
                refine (HCM.out _).mono ?_
                rintro r wx0 ⟨rfl, hbx0⟩
                have HBx0 := Hid.mk' (bel_next HB.out hbx0)
                obtain ⟨g0, g1, g2, g3, g4⟩ := Cells.below (t := ⟨_, ⟨x, y, d, e⟩⟩) ⟨g0, g1, g2, g3, g4⟩ hbx0 (by have := HB.out.size; omega)
                simp only at g0 g1 g2 g3 g4
                clear hbx0
                go_wp2
                go_roundw
                case rel => exact ⟨1, _, by omega, by go_num, by first | rfl | (refine ba_eq ?_; simp; done) | (congr 1; apply ByteArray.ext; simp [ByteArray.data_append]; done), HQ, HBx0⟩
                case measure => simp [intOf]; omega
              · have hc1I : ((C : Int) == 1) = false := beq_eq_false_iff_ne.2 (by omega)
                have HQ : Hid (DT ++ MT = jnT f 1) := by rw [HJ0.out, if_neg hm1, if_neg hc1]; exact Hid.mk' rfl
                go_wp2_with fail
                refine (HCM.out _).mono ?_
                rintro r wx0 ⟨rfl, hbx0⟩
                have HBx0 := Hid.mk' (bel_next HB.out hbx0)
                obtain ⟨g0, g1, g2, g3, g4⟩ := Cells.below (t := ⟨_, ⟨x, y, d, e⟩⟩) ⟨g0, g1, g2, g3, g4⟩ hbx0 (by have := HB.out.size; omega)
                simp only at g0 g1 g2 g3 g4
                clear hbx0
                go_wp2_with fail
                refine (HCD.out _).mono ?_
                rintro r wx1 ⟨rfl, hbx1⟩
                have HBx1 := Hid.mk' (bel_next HBx0.out hbx1)
                obtain ⟨g0, g1, g2, g3, g4⟩ := Cells.below (t := ⟨_, ⟨x, y, d, e⟩⟩) ⟨g0, g1, g2, g3, g4⟩ hbx1 (by have := HBx0.out.size; omega)
                simp only at g0 g1 g2 g3 g4
                clear hbx1
                go_wp2
                go_roundw
                case rel => exact ⟨1, _, by omega, by go_num, by first | rfl | (refine ba_eq ?_; simp; done) | (congr 1; apply ByteArray.ext; simp [ByteArray.data_append]; done), HQ, HBx1⟩
                case measure => simp [intOf]; omega
          · have hkp : (0 : Int) < (k : Int) := by omega
            have HJ1 : Hid (jnT f (k + 1) = S ++ [43] ++ if MT = [49] then DT else if C = 1 then MT else DT ++ MT) := by have := HJ.out; rw [if_neg hk0] at this; exact this
            clear HJ
            by_cases hm1 : MT = [49]
            · subst hm1
              have HQ : Hid (S ++ [43] ++ DT = jnT f (k + 1)) := by rw [HJ1.out, if_pos rfl]; exact Hid.mk' rfl
              go_wp2_with fail
              refine (HCM.out _).mono ?_
              rintro r wx0 ⟨rfl, hbx0⟩
              have HBx0 := Hid.mk' (bel_next HB.out hbx0)
              obtain ⟨g0, g1, g2, g3, g4⟩ := Cells.below (t := ⟨_, ⟨x, y, d, e⟩⟩) ⟨g0, g1, g2, g3, g4⟩ hbx0 (by have := HB.out.size; omega)
              simp only at g0 g1 g2 g3 g4
              clear hbx0
              go_wp2_with fail
              refine (HCD.out _).mono ?_
              rintro r wx1 ⟨rfl, hbx1⟩
              have HBx1 := Hid.mk' (bel_next HBx0.out hbx1)
              obtain ⟨g0, g1, g2, g3, g4⟩ := Cells.below (t := ⟨_, ⟨x, y, d, e⟩⟩) ⟨g0, g1, g2, g3, g4⟩ hbx1 (by have := HBx0.out.size; omega)
              simp only at g0 g1 g2 g3 g4
              clear hbx1
              go_wp2
              go_roundw
              case rel => exact ⟨k + 1, _, by omega, by go_num, by first | rfl | (refine ba_eq ?_; simp; done) | (congr 1; apply ByteArray.ext; simp [ByteArray.data_append]; done), HQ, HBx1⟩
              case measure => simp [intOf]; omega
            · have hmb1 : (MT == [49]) = false := beq_eq_false_iff_ne.2 hm1
              by_cases hc1 : C = 1
              · subst hc1
                have HQ : Hid (S ++ [43] ++ MT = jnT f (k + 1)) := by rw [HJ1.out, if_neg hm1, if_pos rfl]; exact Hid.mk' rfl
                go_wp2_with fail
                refine (HCM.out _).mono ?_
                rintro r wx0 ⟨rfl, hbx0⟩
                have HBx0 := Hid.mk' (bel_next HB.out hbx0)
                obtain ⟨g0, g1, g2, g3, g4⟩ := Cells.below (t := ⟨_, ⟨x, y, d, e⟩⟩) ⟨g0, g1, g2, g3, g4⟩ hbx0 (by have := HB.out.size; omega)
                simp only at g0 g1 g2 g3 g4
                clear hbx0
                go_wp2
                go_roundw
                case rel => exact ⟨k + 1, _, by omega, by go_num, by first | rfl | (refine ba_eq ?_; simp; done) | (congr 1; apply ByteArray.ext; simp [ByteArray.data_append]; done), HQ, HBx0⟩
                case measure => simp [intOf]; omega
              · have hc1I : ((C : Int) == 1) = false := beq_eq_false_iff_ne.2 (by omega)
                have HQ : Hid (S ++ [43] ++ (DT ++ MT) = jnT f (k + 1)) := by rw [HJ1.out, if_neg hm1, if_neg hc1]; exact Hid.mk' rfl
                go_wp2_with fail
                refine (HCM.out _).mono ?_
                rintro r wx0 ⟨rfl, hbx0⟩
                have HBx0 := Hid.mk' (bel_next HB.out hbx0)
                obtain ⟨g0, g1, g2, g3, g4⟩ := Cells.below (t := ⟨_, ⟨x, y, d, e⟩⟩) ⟨g0, g1, g2, g3, g4⟩ hbx0 (by have := HB.out.size; omega)
                simp only at g0 g1 g2 g3 g4
                clear hbx0
                go_wp2_with fail
                refine (HCD.out _).mono ?_
                rintro r wx1 ⟨rfl, hbx1⟩
                have HBx1 := Hid.mk' (bel_next HBx0.out hbx1)
                obtain ⟨g0, g1, g2, g3, g4⟩ := Cells.below (t := ⟨_, ⟨x, y, d, e⟩⟩) ⟨g0, g1, g2, g3, g4⟩ hbx1 (by have := HBx0.out.size; omega)
                simp only at g0 g1 g2 g3 g4
                clear hbx1
                go_wp2
                go_roundw
                case rel => exact ⟨k + 1, _, by omega, by go_num, by first | rfl | (refine ba_eq ?_; simp; done) | (congr 1; apply ByteArray.ext; simp [ByteArray.data_append]; done), HQ, HBx1⟩
                case measure => simp [intOf]; omega
        · have hke : k = n := by omega
          subst hke
          have hnl : ¬ (k : Int) < (k : Int) := by omega
          have HRS := Hid.mk' (HR.out.trans HS.out.symm)
          go_wp2
          go_ret
          exact ⟨by rw [HRS.out]; rfl, HB.out⟩
end Go.Proofs.YtoglomfejgpoeaaGreatDoor
