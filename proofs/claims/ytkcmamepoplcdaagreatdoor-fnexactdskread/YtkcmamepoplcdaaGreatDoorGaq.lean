/-
  The model reads monomials (l3Number, l3Term, MonRead).
  The model reads terms and monomials (l3Term, MonRead).
  The model cuts texts at each '+' and reads operators (l3Cut, PolRead).
-/
import Derived.Test.YtkcmamepoplcdaaGreatDoorGao
import Derived.Test.YtkcmamepoplcdaaGreatDoorGap
import Derived.Test.YtkcmamepoplcdaaGreatDoorGag
import Derived.Test.YtkcmamepoplcdaaGreatDoorGac
import Derived.Test.YtkcmamepoplcdaaGreatDoorGaf
import Derived.Test.YtkcmamepoplcdaaGreatDoorGak
namespace Go.Proofs.YtkcmamepoplcdaaGreatDoor
open Go.RowKit
set_option linter.unusedVariables false
set_option linter.unusedSimpArgs false

theorem drop_at {s : List UInt8} {at0 j : Nat} : (s.drop at0)[j]? = s[at0 + j]? := List.getElem?_drop
set_option maxRecDepth 100000 in
set_option maxHeartbeats 4000000 in
theorem l3NumberS (s : List UInt8) (hs : s.length ≤ 1048576) (p : Nat) (hp : p ≤ s.length) (w : World) :
    Calls Tryz.prog 94 #[.string ⟨s.toArray⟩, .int .i64 (p : Int)] w fun r w' => r = .returned (.tuple #[.int .i64 (nv (lead (s.drop p))), .int .i64 ((p + (lead (s.drop p)).length : Nat) : Int)]) ∧ w' = w := by
  have hsI : (s.length : Int) ≤ 1048576 := by omega
  obtain ⟨l, hl⟩ : ∃ l, s.drop p = l := ⟨_, rfl⟩
  have hll : l.length = s.length - p := by rw [← hl]; simp
  have HAT : Hid (∀ j, l[j]? = s[p + j]?) := fun j => by rw [← hl]; exact drop_at
  rw [hl]
  have HLN := Hid.mk' hll
  clear hl hll
  go_enter Tryz.func94, Tryz.ntmps94
  go_wp2
  go_loop [6, 7] (fun v6 v7 => ∃ (j q : Nat) (n : Int), j ≤ l.length ∧ q = p + j ∧ v7 = .int .i64 (q : Int) ∧ v6 = .int .i64 n ∧ Hid (n = nv (l.take j)) ∧ Hid (∀ i c, i < j → l[i]? = some c → isD c = true)) (fun _ v7 => s.length - (intOf v7).toNat)
  case atStart => exact ⟨0, p, 0, Nat.zero_le _, rfl, rfl, rfl, Hid.mk' rfl, fun i c hi => by omega⟩
  case round =>
    obtain ⟨j, q, n, hj, hq, rfl, rfl, HN, HD⟩ := hrel
    have HQ := Hid.mk' hq
    clear hq
    have hnb : 0 ≤ n ∧ n ≤ 10000 := by
      rw [HN.out]
      refine nv_bd _ fun c hc => ?_
      obtain ⟨i, hi, e⟩ := List.getElem_of_mem hc
      rw [List.length_take] at hi
      exact HD.out i c (by omega) (by rw [← e, List.getElem_take]; exact List.getElem?_eq_getElem _)
    obtain ⟨hn0, hn1⟩ := hnb
    by_cases hjl : j < l.length
    · have hqI : (q : Int) < (s.length : Int) := by have h1 := HLN.out; have h2 := HQ.out; omega
      obtain ⟨c, hc⟩ : ∃ c, l[j]? = some c := ⟨_, List.getElem?_eq_getElem hjl⟩
      have hix := str_index (l := s) (k := q) (c := c) (by rw [HQ.out, ← HAT.out j]; exact hc)
      have HC := Hid.mk' hc
      clear hc
      obtain ⟨z, hz⟩ : ∃ z : Nat, c.toNat = z := ⟨_, rfl⟩
      have hdz : isD c = decide (48 ≤ z ∧ z ≤ 57) := by unfold isD; rw [hz]
      have HDZ := Hid.mk' hdz
      have hz255 : z < 256 := by rw [← hz]; exact c.toNat_lt
      have HNX : Hid (nv (l.take (j + 1)) = if n < 1000 then n * 10 + ((z : Int) - 48) else n) := by
        rw [List.take_add_one, HC.out]
        show Hid (nv (l.take j ++ [c]) = _)
        rw [nv_snoc, ← HN.out, ← hz]
        exact Hid.mk' rfl
      rw [hz] at hix
      clear hz hdz
      have hw1 : IntKind.i64.wrap (z : Int) = (z : Int) := by rw [IntKind.wrap_i64]; omega
      by_cases hd : 48 ≤ z ∧ z ≤ 57
      · have HN2 : Hid (∀ i c, i < j + 1 → l[i]? = some c → isD c = true) := fun i c' hi hc' => by
          by_cases e : i = j
          · subst e
            have e := HC.out.symm.trans hc'
            cases e
            rw [HDZ.out]; exact decide_eq_true hd
          · exact HD.out i c' (by omega) hc'
        obtain ⟨hd1, hd2⟩ := hd
        have hu1 : IntKind.u8.wrap ((z : Int) - 48) = (z : Int) - 48 := by
          rcases (show z = 48 ∨ z = 49 ∨ z = 50 ∨ z = 51 ∨ z = 52 ∨ z = 53 ∨ z = 54 ∨ z = 55 ∨ z = 56 ∨ z = 57 by omega) with rfl | rfl | rfl | rfl | rfl | rfl | rfl | rfl | rfl | rfl <;> decide
        have HIN := Hid.mk' (inS_in (z : Int) 48 57)
        by_cases hn : n < 1000
        · have HV : Hid (nv (l.take (j + 1)) = n * 10 + ((z : Int) - 48)) := by rw [HNX.out, if_pos hn]; exact Hid.mk' rfl
          go_wp2_with (first | (go_at_call 54; refine (HIN.out _ (by omega) (by omega)).mono ?_; rintro e w' ⟨rfl, rfl⟩))
          go_round
          case rel => exact ⟨j + 1, q + 1, n * 10 + ((z : Int) - 48), by omega, by rw [HQ.out]; omega, by go_num, by first | rfl | (congr 1; done) | (simp; done), Hid.mk' HV.out.symm, HN2⟩
          case measure => simp [intOf]; omega
        · have HV : Hid (nv (l.take (j + 1)) = n) := by rw [HNX.out, if_neg hn]; exact Hid.mk' rfl
          go_wp2_with (first | (go_at_call 54; refine (HIN.out _ (by omega) (by omega)).mono ?_; rintro e w' ⟨rfl, rfl⟩))
          go_round
          case rel => exact ⟨j + 1, q + 1, n, by omega, by rw [HQ.out]; omega, by go_num, rfl, Hid.mk' HV.out.symm, HN2⟩
          case measure => simp [intOf]; omega
      · have HF : Hid (l.take j = lead l) := Hid.mk' (lead_take HD.out (fun c' hc' => by
          have e := HC.out.symm.trans hc'
          cases e
          rw [HDZ.out]; exact decide_eq_false hd) hj)
        have hout : (z : Int) < 48 ∨ (48 ≤ (z : Int) ∧ 57 < (z : Int)) := by omega
        have HOUT := Hid.mk' (fun u => inS_out (z : Int) 48 57 u hout)
        have HLL : Hid ((lead l).length = j) := by rw [← HF.out, List.length_take]; exact Hid.mk' (by omega)
        clear hout hd
        go_wp2_with (first | (go_at_call 54; refine (HOUT.out _).mono ?_; rintro e w' ⟨rfl, rfl⟩))
        refine bodyPost_ret (v := .tuple #[.int .i64 n, .int .i64 (q : Int)]) (by simp [results, Tryz.results94, go_sem]) rfl ⟨?_, rfl⟩
        rw [HLL.out, ← HF.out, ← HN.out]
        have e : ((p + j : Nat) : Int) = (q : Int) := by rw [HQ.out]
        have e2 : (p : Int) + (j : Int) = (q : Int) := by rw [HQ.out]; simp
        first | rw [e] | rw [e2]
    · have hje : j = l.length := by omega
      have hqI : ¬ (q : Int) < (s.length : Int) := by have h1 := HLN.out; have h2 := HQ.out; omega
      have HF : Hid (l.take j = lead l) := Hid.mk' (lead_take HD.out (fun c hc => by
        have := (List.getElem?_eq_some_iff.1 hc).1
        omega) hj)
      have HLL : Hid ((lead l).length = j) := by rw [← HF.out, List.length_take]; exact Hid.mk' (by omega)
      clear hje
      go_wp2
      refine bodyPost_ret (v := .tuple #[.int .i64 n, .int .i64 (q : Int)]) (by simp [results, Tryz.results94, go_sem]) rfl ⟨?_, rfl⟩
      rw [HLL.out, ← HF.out, ← HN.out]
      have e : ((p + j : Nat) : Int) = (q : Int) := by rw [HQ.out]
      have e2 : (p : Int) + (j : Int) = (q : Int) := by rw [HQ.out]; simp
      first | rw [e] | rw [e2]
end Go.Proofs.YtkcmamepoplcdaaGreatDoor
namespace Go.Proofs.YtkcmamepoplcdaaGreatDoor
open Go.RowKit
set_option linter.unusedVariables false
set_option linter.unusedSimpArgs false
/-- five cells that may be written. -/
def W5 (w : World) (b : Nat) (x0 x1 x2 x3 x4 : Int) : Prop := (w.cell? ⟨b, 0, none⟩ = some (.int .i64 x0) ∧ w.cell? ⟨b, 1, none⟩ = some (.int .i64 x1) ∧ w.cell? ⟨b, 2, none⟩ = some (.int .i64 x2) ∧ w.cell? ⟨b, 3, none⟩ = some (.int .i64 x3) ∧ w.cell? ⟨b, 4, none⟩ = some (.int .i64 x4)) ∧ ∀ j, w.frozen? ⟨b, j, none⟩ = false
theorem W5.lt {w : World} {b : Nat} {x0 x1 x2 x3 x4 : Int} (h : W5 w b x0 x1 x2 x3 x4) : b < w.heap.size := World.block_lt_of_cell? w _ h.1.1
theorem W5.below {w w' : World} {b : Nat} {x0 x1 x2 x3 x4 : Int} (h : W5 w b x0 x1 x2 x3 x4) (hb : Below w.heap.size w w') : W5 w' b x0 x1 x2 x3 x4 :=
  ⟨⟨(hb.cell (p := ⟨b, 0, none⟩) h.lt).trans h.1.1, (hb.cell (p := ⟨b, 1, none⟩) h.lt).trans h.1.2.1, (hb.cell (p := ⟨b, 2, none⟩) h.lt).trans h.1.2.2.1, (hb.cell (p := ⟨b, 3, none⟩) h.lt).trans h.1.2.2.2.1, (hb.cell (p := ⟨b, 4, none⟩) h.lt).trans h.1.2.2.2.2⟩, fun j => (hb.frozen (p := ⟨b, j, none⟩) h.lt).trans (h.2 j)⟩
theorem W5.box (w : World) (y : TypeId) (x0 x1 x2 x3 x4 : Int) : W5 (w.alloc (.cells #[.int .i64 x0, .int .i64 x1, .int .i64 x2, .int .i64 x3, .int .i64 x4] y)) w.heap.size x0 x1 x2 x3 x4 :=
  ⟨⟨by rw [World.cell?_alloc_at _ _ _ _ rfl]; rfl, by rw [World.cell?_alloc_at _ _ _ _ rfl]; rfl, by rw [World.cell?_alloc_at _ _ _ _ rfl]; rfl, by rw [World.cell?_alloc_at _ _ _ _ rfl]; rfl, by rw [World.cell?_alloc_at _ _ _ _ rfl]; rfl⟩, fun j => by rw [World.frozen?_alloc_at _ _ _ _ rfl]⟩
theorem W5.other {w : World} {b : Nat} {x0 x1 x2 x3 x4 : Int} (h : W5 w b x0 x1 x2 x3 x4) {b' k : Nat} (hne : b' ≠ b) (v : Value) : W5 (w.setCell ⟨b', k, none⟩ v) b x0 x1 x2 x3 x4 := by
  have ne : ∀ j, (⟨b', k, none⟩ : Addr) ≠ ⟨b, j, none⟩ := fun j e => hne (by cases e; rfl)
  exact ⟨⟨by rw [World.cell?_setCell_other _ _ _ _ (ne 0)]; exact h.1.1, by rw [World.cell?_setCell_other _ _ _ _ (ne 1)]; exact h.1.2.1, by rw [World.cell?_setCell_other _ _ _ _ (ne 2)]; exact h.1.2.2.1, by rw [World.cell?_setCell_other _ _ _ _ (ne 3)]; exact h.1.2.2.2.1, by rw [World.cell?_setCell_other _ _ _ _ (ne 4)]; exact h.1.2.2.2.2⟩, fun j => by rw [World.frozen?_setCell]; exact h.2 j⟩
theorem W5.set0 {w : World} {b : Nat} {x0 x1 x2 x3 x4 : Int} (h : W5 w b x0 x1 x2 x3 x4) (v : Int) : W5 (w.setCell ⟨b, 0, none⟩ (.int .i64 v)) b v x1 x2 x3 x4 :=
  ⟨⟨World.cell?_setCell_same _ _ _ h.1.1, by rw [World.cell?_setCell_other _ _ _ _ (by simp)]; exact h.1.2.1, by rw [World.cell?_setCell_other _ _ _ _ (by simp)]; exact h.1.2.2.1, by rw [World.cell?_setCell_other _ _ _ _ (by simp)]; exact h.1.2.2.2.1, by rw [World.cell?_setCell_other _ _ _ _ (by simp)]; exact h.1.2.2.2.2⟩, fun j => by rw [World.frozen?_setCell]; exact h.2 j⟩
theorem W5.set1 {w : World} {b : Nat} {x0 x1 x2 x3 x4 : Int} (h : W5 w b x0 x1 x2 x3 x4) (v : Int) : W5 (w.setCell ⟨b, 1, none⟩ (.int .i64 v)) b x0 v x2 x3 x4 :=
  ⟨⟨by rw [World.cell?_setCell_other _ _ _ _ (by simp)]; exact h.1.1, World.cell?_setCell_same _ _ _ h.1.2.1, by rw [World.cell?_setCell_other _ _ _ _ (by simp)]; exact h.1.2.2.1, by rw [World.cell?_setCell_other _ _ _ _ (by simp)]; exact h.1.2.2.2.1, by rw [World.cell?_setCell_other _ _ _ _ (by simp)]; exact h.1.2.2.2.2⟩, fun j => by rw [World.frozen?_setCell]; exact h.2 j⟩
theorem W5.set2 {w : World} {b : Nat} {x0 x1 x2 x3 x4 : Int} (h : W5 w b x0 x1 x2 x3 x4) (v : Int) : W5 (w.setCell ⟨b, 2, none⟩ (.int .i64 v)) b x0 x1 v x3 x4 :=
  ⟨⟨by rw [World.cell?_setCell_other _ _ _ _ (by simp)]; exact h.1.1, by rw [World.cell?_setCell_other _ _ _ _ (by simp)]; exact h.1.2.1, World.cell?_setCell_same _ _ _ h.1.2.2.1, by rw [World.cell?_setCell_other _ _ _ _ (by simp)]; exact h.1.2.2.2.1, by rw [World.cell?_setCell_other _ _ _ _ (by simp)]; exact h.1.2.2.2.2⟩, fun j => by rw [World.frozen?_setCell]; exact h.2 j⟩
theorem W5.set3 {w : World} {b : Nat} {x0 x1 x2 x3 x4 : Int} (h : W5 w b x0 x1 x2 x3 x4) (v : Int) : W5 (w.setCell ⟨b, 3, none⟩ (.int .i64 v)) b x0 x1 x2 v x4 :=
  ⟨⟨by rw [World.cell?_setCell_other _ _ _ _ (by simp)]; exact h.1.1, by rw [World.cell?_setCell_other _ _ _ _ (by simp)]; exact h.1.2.1, by rw [World.cell?_setCell_other _ _ _ _ (by simp)]; exact h.1.2.2.1, World.cell?_setCell_same _ _ _ h.1.2.2.2.1, by rw [World.cell?_setCell_other _ _ _ _ (by simp)]; exact h.1.2.2.2.2⟩, fun j => by rw [World.frozen?_setCell]; exact h.2 j⟩
theorem W5.set4 {w : World} {b : Nat} {x0 x1 x2 x3 x4 : Int} (h : W5 w b x0 x1 x2 x3 x4) (v : Int) : W5 (w.setCell ⟨b, 4, none⟩ (.int .i64 v)) b x0 x1 x2 x3 v :=
  ⟨⟨by rw [World.cell?_setCell_other _ _ _ _ (by simp)]; exact h.1.1, by rw [World.cell?_setCell_other _ _ _ _ (by simp)]; exact h.1.2.1, by rw [World.cell?_setCell_other _ _ _ _ (by simp)]; exact h.1.2.2.1, by rw [World.cell?_setCell_other _ _ _ _ (by simp)]; exact h.1.2.2.2.1, World.cell?_setCell_same _ _ _ h.1.2.2.2.2⟩, fun j => by rw [World.frozen?_setCell]; exact h.2 j⟩

def TQ (w : World) (wr : World) (t : T) : Prop := Below w.heap.size w wr ∧ W5 wr w.heap.size 0 0 0 0 0 ∧ W5 wr (w.heap.size + 1) t.c t.m.x t.m.y t.m.d t.m.e
theorem set_120 {c : UInt8} {z : Nat} (h : c.toNat = z) (hz : z = 120) (n : Int) (t : T) : setL c n t = ⟨t.c, ⟨n, t.m.y, t.m.d, t.m.e⟩⟩ := by unfold setL; rw [h, if_pos hz]
theorem set_121 {c : UInt8} {z : Nat} (h : c.toNat = z) (hz : z = 121) (n : Int) (t : T) : setL c n t = ⟨t.c, ⟨t.m.x, n, t.m.d, t.m.e⟩⟩ := by unfold setL; rw [h, if_neg (by omega), if_pos hz]
theorem set_100 {c : UInt8} {z : Nat} (h : c.toNat = z) (hz : z = 100) (n : Int) (t : T) : setL c n t = ⟨t.c, ⟨t.m.x, t.m.y, n, t.m.e⟩⟩ := by unfold setL; rw [h, if_neg (by omega), if_neg (by omega), if_pos hz]
theorem set_101 {c : UInt8} {z : Nat} (h : c.toNat = z) (hz : z = 101) (n : Int) (t : T) : setL c n t = ⟨t.c, ⟨t.m.x, t.m.y, t.m.d, n⟩⟩ := by unfold setL; rw [h, if_neg (by omega), if_neg (by omega), if_neg (by omega)]
theorem isLt_z {c : UInt8} {z : Nat} (h : c.toNat = z) : isLt c = decide (z = 120 ∨ z = 121 ∨ z = 100 ∨ z = 101) := by unfold isLt; rw [h]
set_option maxRecDepth 100000 in
set_option maxHeartbeats 8000000 in
theorem l3TermS (s : List UInt8) (hs : s.length ≤ 1048576) (w : World) :
    Calls Tryz.prog 64 #[.string ⟨s.toArray⟩] w fun r w' => r = .returned (.agg #[.int .i64 (trmR s).c, .int .i64 (trmR s).m.x, .int .i64 (trmR s).m.y, .int .i64 (trmR s).m.d, .int .i64 (trmR s).m.e]) ∧ Below w.heap.size w w' := by
  have hsI : (s.length : Int) ≤ 1048576 := by omega
  obtain ⟨R, hR⟩ : ∃ R, trmR s = R := ⟨_, rfl⟩
  rw [hR]
  have HR := Hid.mk' hR
  clear hR
  have b1 := bel_one w (.cells #[.int .i64 0, .int .i64 0, .int .i64 0, .int .i64 0, .int .i64 0] 79)
  have b2 := bel_next b1 (bel_one (w.alloc (.cells #[.int .i64 0, .int .i64 0, .int .i64 0, .int .i64 0, .int .i64 0] 79)) (.cells #[.int .i64 1, .int .i64 0, .int .i64 0, .int .i64 0, .int .i64 0] 79))
  have HQ0 : Hid (TQ w ((w.alloc (.cells #[.int .i64 0, .int .i64 0, .int .i64 0, .int .i64 0, .int .i64 0] 79)).alloc (.cells #[.int .i64 1, .int .i64 0, .int .i64 0, .int .i64 0, .int .i64 0] 79)) ⟨1, ⟨0, 0, 0, 0⟩⟩) :=
    ⟨b2, (W5.box w 79 0 0 0 0 0).below (bel_one _ _), by
      have := W5.box (w.alloc (.cells #[.int .i64 0, .int .i64 0, .int .i64 0, .int .i64 0, .int .i64 0] 79)) 79 1 0 0 0 0
      rw [World.size_alloc] at this
      exact this⟩
  clear b1 b2
  have hneB : w.heap.size + 1 ≠ w.heap.size := by omega
  have hneB2 : w.heap.size ≠ w.heap.size + 1 := by omega
  have HN0 := Hid.mk' (l3NumberS s hs 0 (Nat.zero_le _))
  rw [List.drop_zero, Nat.zero_add] at HN0
  obtain ⟨d0, hd0⟩ : ∃ d, (lead s).length = d := ⟨_, rfl⟩
  obtain ⟨n0, hn0⟩ : ∃ n, nv (lead s) = n := ⟨_, rfl⟩
  have hd0l : d0 ≤ s.length := by rw [← hd0]; exact lead_len s
  have HRR : Hid (∃ f, (s.drop d0).length ≤ f ∧ ltm f ⟨if 0 < d0 then n0 else 1, ⟨0, 0, 0, 0⟩⟩ (s.drop d0) = R) := by
    refine ⟨_, Nat.le_refl _, ?_⟩
    have := HR.out
    unfold trmR trm0 at this
    rw [hd0, hn0] at this
    exact this
  rw [hd0, hn0] at HN0
  clear hd0 hn0 HR
  have hd0I : (d0 : Int) ≤ 1048576 := by omega
  go_enter Tryz.func64, Tryz.ntmps64
  go_wp2_with fail
  refine (HN0.out _).mono ?_
  rintro r w1 ⟨rfl, hw1⟩
  obtain rfl := hw1.symm
  clear hw1
  by_cases hd00 : 0 < d0
  · have HRS : Hid (∃ f, (s.drop d0).length ≤ f ∧ ltm f ⟨n0, ⟨0, 0, 0, 0⟩⟩ (s.drop d0) = R) := by have := HRR.out; rw [if_pos hd00] at this; exact this
    have hd01 : (0 : Int) < (d0 : Int) := by omega
    have hd02 : decide (0 < d0) = true := decide_eq_true hd00
    have HQS : Hid (TQ w ((w.alloc (.cells #[.int .i64 0, .int .i64 0, .int .i64 0, .int .i64 0, .int .i64 0] 79)).alloc (.cells #[.int .i64 n0, .int .i64 0, .int .i64 0, .int .i64 0, .int .i64 0] 79)) ⟨n0, ⟨0, 0, 0, 0⟩⟩) := ⟨bel_next (bel_one w _) (bel_one _ _), (W5.box w 79 0 0 0 0 0).below (bel_one _ _), by
      have := W5.box (w.alloc (.cells #[.int .i64 0, .int .i64 0, .int .i64 0, .int .i64 0, .int .i64 0] 79)) 79 n0 0 0 0 0
      rw [World.size_alloc] at this
      exact this⟩
    clear HRR hd00 HQ0
    go_wp2
    (try simp only [hd02])
    go_loopw [5] (fun v5 wr => ∃ (q : Nat) (t : T), q ≤ s.length ∧ v5 = .int .i64 (q : Int) ∧ Hid (TQ w wr t) ∧ Hid (∃ f, (s.drop q).length ≤ f ∧ ltm f t (s.drop q) = R)) (fun v5 _ => s.length - (intOf v5).toNat)
    case atStart => exact ⟨d0, ⟨n0, ⟨0, 0, 0, 0⟩⟩, hd0l, by first | rfl | go_num, HQS, HRS⟩
    case round =>
      obtain ⟨q, t, hql, rfl, HTQ, HF⟩ := hrel
      by_cases hq : q < s.length
      · have hqI : (q : Int) < (s.length : Int) := by omega
        obtain ⟨c, hc⟩ : ∃ c, s[q]? = some c := ⟨_, List.getElem?_eq_getElem hq⟩
        have hix := str_index hc
        have HDR : Hid (s.drop q = c :: s.drop (q + 1)) := by rw [List.drop_eq_getElem_cons hq]; have := (List.getElem?_eq_some_iff.1 hc).2; rw [this]; exact Hid.mk' rfl
        obtain ⟨z, hz⟩ : ∃ z : Nat, c.toNat = z := ⟨_, rfl⟩
        have HZ := Hid.mk' hz
        rw [hz] at hix
        clear hc hz
        have HN := Hid.mk' (l3NumberS s hs (q + 1) hq)
        obtain ⟨L, hL⟩ : ∃ L, (lead (s.drop (q + 1))).length = L := ⟨_, rfl⟩
        obtain ⟨V, hV⟩ : ∃ V, nv (lead (s.drop (q + 1))) = V := ⟨_, rfl⟩
        obtain ⟨nn, hnn⟩ : ∃ n, nOf (s.drop (q + 1)) = n := ⟨_, rfl⟩
        have hnn2 : nn = if L = 0 then 1 else V := by rw [← hnn]; unfold nOf; rw [hL, hV]
        obtain ⟨k, hk⟩ : ∃ k, q + 1 + L = k := ⟨_, rfl⟩
        have hks : k ≤ s.length := by have := lead_len (s.drop (q + 1)); rw [hL, List.length_drop] at this; omega
        have hqk : q < k := by omega
        have HYES : Hid (isLt c = true → ∃ f', (s.drop k).length ≤ f' ∧ ltm f' (setL c nn t) (s.drop k) = R) := fun hl => by
          obtain ⟨f, hf, he⟩ := HF.out
          rw [HDR.out] at hf he
          obtain ⟨f', rfl⟩ : ∃ f', f = f' + 1 := ⟨f - 1, by simp at hf; omega⟩
          rw [ltm_yes hl, hnn, hL, List.drop_drop, hk] at he
          refine ⟨f', ?_, he⟩
          rw [List.length_cons, List.length_drop] at hf
          rw [List.length_drop]
          omega
        have HNO : Hid (isLt c = false → R = ⟨0, ⟨0, 0, 0, 0⟩⟩) := fun hl => by
          obtain ⟨f, hf, he⟩ := HF.out
          rw [HDR.out] at hf he
          obtain ⟨f', rfl⟩ : ∃ f', f = f' + 1 := ⟨f - 1, by simp at hf; omega⟩
          rw [ltm_no hl] at he
          exact he.symm
        rw [hL, hV, hk] at HN
        have HIL := Hid.mk' (isLt_z HZ.out)
        have HKQ : Hid (k = q + 1 + L) := hk.symm
        have HNN := Hid.mk' hnn2
        clear hL hV hnn hnn2 hk HF HDR
        have hkI : (k : Int) ≤ 1048576 := by omega
        have hqw : IntKind.i64.wrap ((q : Int) + 1) = (q : Int) + 1 := by rw [IntKind.wrap_i64]; omega
        have HN2 : Hid (∀ u : World, Calls Tryz.prog 94 #[.string ⟨s.toArray⟩, .int .i64 ((q : Int) + 1)] u fun r w' => r = .returned (.tuple #[.int .i64 V, .int .i64 (k : Int)]) ∧ w' = u) := fun u => by
          have := HN.out u
          rw [Int.natCast_add] at this
          exact this
        obtain ⟨⟨c0, c1, c2, c3, c4⟩, cz⟩ := HTQ.out.2.2
        obtain ⟨⟨r0, r1, r2, r3, r4⟩, rz⟩ := HTQ.out.2.1
        by_cases hL0 : L = 0
        · have hke : ((k : Int) == (q : Int) + 1) = true := by have := HKQ.out; simp; omega
          have hne1 : nn = 1 := by rw [HNN.out, if_pos hL0]
          subst hne1
          clear HNN hL0
          by_cases hz120 : z = 120
          · skip
            have HSE := Hid.mk' (set_120 HZ.out hz120 1 t)
            have HY := Hid.mk' (HYES.out (by rw [HIL.out]; exact decide_eq_true (by omega)))
            have HT2 : Hid (TQ w (wr.setCell ⟨w.heap.size + 1, 1, none⟩ (.int .i64 1)) (setL c 1 t)) := by rw [HSE.out]; exact ⟨HTQ.out.1.setCell (by simp) _, HTQ.out.2.1.other hneB _, HTQ.out.2.2.set1 _⟩
            have hb120 : ((z : Int) == 120) = true := by simp; omega
            have hb121 : ((z : Int) == 121) = false := by simp; omega
            have hb100 : ((z : Int) == 100) = false := by simp; omega
            have hb101 : ((z : Int) == 101) = false := by simp; omega
            clear HYES HNO HIL HSE hz120 HZ
            go_wp2_with fail
            refine (HN2.out _).mono ?_
            rintro r w2 ⟨rfl, hw2⟩
            obtain rfl := hw2.symm
            clear hw2
            go_wp2
            go_roundw
            case rel => exact ⟨k, setL c 1 t, hks, rfl, HT2, HY⟩
            case measure => simp [intOf]; omega
          by_cases hz121 : z = 121
          · skip
            have HSE := Hid.mk' (set_121 HZ.out hz121 1 t)
            have HY := Hid.mk' (HYES.out (by rw [HIL.out]; exact decide_eq_true (by omega)))
            have HT2 : Hid (TQ w (wr.setCell ⟨w.heap.size + 1, 2, none⟩ (.int .i64 1)) (setL c 1 t)) := by rw [HSE.out]; exact ⟨HTQ.out.1.setCell (by simp) _, HTQ.out.2.1.other hneB _, HTQ.out.2.2.set2 _⟩
            have hb120 : ((z : Int) == 120) = false := by simp; omega
            have hb121 : ((z : Int) == 121) = true := by simp; omega
            have hb100 : ((z : Int) == 100) = false := by simp; omega
            have hb101 : ((z : Int) == 101) = false := by simp; omega
            clear HYES HNO HIL HSE hz121 HZ
            go_wp2_with fail
            refine (HN2.out _).mono ?_
            rintro r w2 ⟨rfl, hw2⟩
            obtain rfl := hw2.symm
            clear hw2
            go_wp2
            go_roundw
            case rel => exact ⟨k, setL c 1 t, hks, rfl, HT2, HY⟩
            case measure => simp [intOf]; omega
          by_cases hz100 : z = 100
          · skip
            have HSE := Hid.mk' (set_100 HZ.out hz100 1 t)
            have HY := Hid.mk' (HYES.out (by rw [HIL.out]; exact decide_eq_true (by omega)))
            have HT2 : Hid (TQ w (wr.setCell ⟨w.heap.size + 1, 3, none⟩ (.int .i64 1)) (setL c 1 t)) := by rw [HSE.out]; exact ⟨HTQ.out.1.setCell (by simp) _, HTQ.out.2.1.other hneB _, HTQ.out.2.2.set3 _⟩
            have hb120 : ((z : Int) == 120) = false := by simp; omega
            have hb121 : ((z : Int) == 121) = false := by simp; omega
            have hb100 : ((z : Int) == 100) = true := by simp; omega
            have hb101 : ((z : Int) == 101) = false := by simp; omega
            clear HYES HNO HIL HSE hz100 HZ
            go_wp2_with fail
            refine (HN2.out _).mono ?_
            rintro r w2 ⟨rfl, hw2⟩
            obtain rfl := hw2.symm
            clear hw2
            go_wp2
            go_roundw
            case rel => exact ⟨k, setL c 1 t, hks, rfl, HT2, HY⟩
            case measure => simp [intOf]; omega
          by_cases hz101 : z = 101
          · skip
            have HSE := Hid.mk' (set_101 HZ.out hz101 1 t)
            have HY := Hid.mk' (HYES.out (by rw [HIL.out]; exact decide_eq_true (by omega)))
            have HT2 : Hid (TQ w (wr.setCell ⟨w.heap.size + 1, 4, none⟩ (.int .i64 1)) (setL c 1 t)) := by rw [HSE.out]; exact ⟨HTQ.out.1.setCell (by simp) _, HTQ.out.2.1.other hneB _, HTQ.out.2.2.set4 _⟩
            have hb120 : ((z : Int) == 120) = false := by simp; omega
            have hb121 : ((z : Int) == 121) = false := by simp; omega
            have hb100 : ((z : Int) == 100) = false := by simp; omega
            have hb101 : ((z : Int) == 101) = true := by simp; omega
            clear HYES HNO HIL HSE hz101 HZ
            go_wp2_with fail
            refine (HN2.out _).mono ?_
            rintro r w2 ⟨rfl, hw2⟩
            obtain rfl := hw2.symm
            clear hw2
            go_wp2
            go_roundw
            case rel => exact ⟨k, setL c 1 t, hks, rfl, HT2, HY⟩
            case measure => simp [intOf]; omega
          have HRZ := Hid.mk' (HNO.out (by rw [HIL.out]; exact decide_eq_false (by omega)))
          have hb120 : ((z : Int) == 120) = false := by simp; omega
          have hb121 : ((z : Int) == 121) = false := by simp; omega
          have hb100 : ((z : Int) == 100) = false := by simp; omega
          have hb101 : ((z : Int) == 101) = false := by simp; omega
          clear HYES HNO HIL HZ hz120 hz121 hz100 hz101
          go_wp2_with fail
          refine (HN2.out _).mono ?_
          rintro r w2 ⟨rfl, hw2⟩
          obtain rfl := hw2.symm
          clear hw2
          go_wp2
          refine bodyPost_ret (v := .agg #[.int .i64 0, .int .i64 0, .int .i64 0, .int .i64 0, .int .i64 0]) (by simp [results, Tryz.results64, go_sem, *]) rfl ⟨by rw [HRZ.out], ?_⟩
          exact ((((HTQ.out.1.setCell (Nat.le_refl _) _).setCell (Nat.le_refl _) _).setCell (Nat.le_refl _) _).setCell (Nat.le_refl _) _).setCell (Nat.le_refl _) _
        · have hke : ((k : Int) == (q : Int) + 1) = false := by have := HKQ.out; simp; omega
          have hne1 : nn = V := by rw [HNN.out, if_neg hL0]
          subst hne1
          clear HNN hL0
          by_cases hz120 : z = 120
          · skip
            have HSE := Hid.mk' (set_120 HZ.out hz120 nn t)
            have HY := Hid.mk' (HYES.out (by rw [HIL.out]; exact decide_eq_true (by omega)))
            have HT2 : Hid (TQ w (wr.setCell ⟨w.heap.size + 1, 1, none⟩ (.int .i64 nn)) (setL c nn t)) := by rw [HSE.out]; exact ⟨HTQ.out.1.setCell (by simp) _, HTQ.out.2.1.other hneB _, HTQ.out.2.2.set1 _⟩
            have hb120 : ((z : Int) == 120) = true := by simp; omega
            have hb121 : ((z : Int) == 121) = false := by simp; omega
            have hb100 : ((z : Int) == 100) = false := by simp; omega
            have hb101 : ((z : Int) == 101) = false := by simp; omega
            clear HYES HNO HIL HSE hz120 HZ
            go_wp2_with fail
            refine (HN2.out _).mono ?_
            rintro r w2 ⟨rfl, hw2⟩
            obtain rfl := hw2.symm
            clear hw2
            go_wp2
            go_roundw
            case rel => exact ⟨k, setL c nn t, hks, rfl, HT2, HY⟩
            case measure => simp [intOf]; omega
          by_cases hz121 : z = 121
          · skip
            have HSE := Hid.mk' (set_121 HZ.out hz121 nn t)
            have HY := Hid.mk' (HYES.out (by rw [HIL.out]; exact decide_eq_true (by omega)))
            have HT2 : Hid (TQ w (wr.setCell ⟨w.heap.size + 1, 2, none⟩ (.int .i64 nn)) (setL c nn t)) := by rw [HSE.out]; exact ⟨HTQ.out.1.setCell (by simp) _, HTQ.out.2.1.other hneB _, HTQ.out.2.2.set2 _⟩
            have hb120 : ((z : Int) == 120) = false := by simp; omega
            have hb121 : ((z : Int) == 121) = true := by simp; omega
            have hb100 : ((z : Int) == 100) = false := by simp; omega
            have hb101 : ((z : Int) == 101) = false := by simp; omega
            clear HYES HNO HIL HSE hz121 HZ
            go_wp2_with fail
            refine (HN2.out _).mono ?_
            rintro r w2 ⟨rfl, hw2⟩
            obtain rfl := hw2.symm
            clear hw2
            go_wp2
            go_roundw
            case rel => exact ⟨k, setL c nn t, hks, rfl, HT2, HY⟩
            case measure => simp [intOf]; omega
          by_cases hz100 : z = 100
          · skip
            have HSE := Hid.mk' (set_100 HZ.out hz100 nn t)
            have HY := Hid.mk' (HYES.out (by rw [HIL.out]; exact decide_eq_true (by omega)))
            have HT2 : Hid (TQ w (wr.setCell ⟨w.heap.size + 1, 3, none⟩ (.int .i64 nn)) (setL c nn t)) := by rw [HSE.out]; exact ⟨HTQ.out.1.setCell (by simp) _, HTQ.out.2.1.other hneB _, HTQ.out.2.2.set3 _⟩
            have hb120 : ((z : Int) == 120) = false := by simp; omega
            have hb121 : ((z : Int) == 121) = false := by simp; omega
            have hb100 : ((z : Int) == 100) = true := by simp; omega
            have hb101 : ((z : Int) == 101) = false := by simp; omega
            clear HYES HNO HIL HSE hz100 HZ
            go_wp2_with fail
            refine (HN2.out _).mono ?_
            rintro r w2 ⟨rfl, hw2⟩
            obtain rfl := hw2.symm
            clear hw2
            go_wp2
            go_roundw
            case rel => exact ⟨k, setL c nn t, hks, rfl, HT2, HY⟩
            case measure => simp [intOf]; omega
          by_cases hz101 : z = 101
          · skip
            have HSE := Hid.mk' (set_101 HZ.out hz101 nn t)
            have HY := Hid.mk' (HYES.out (by rw [HIL.out]; exact decide_eq_true (by omega)))
            have HT2 : Hid (TQ w (wr.setCell ⟨w.heap.size + 1, 4, none⟩ (.int .i64 nn)) (setL c nn t)) := by rw [HSE.out]; exact ⟨HTQ.out.1.setCell (by simp) _, HTQ.out.2.1.other hneB _, HTQ.out.2.2.set4 _⟩
            have hb120 : ((z : Int) == 120) = false := by simp; omega
            have hb121 : ((z : Int) == 121) = false := by simp; omega
            have hb100 : ((z : Int) == 100) = false := by simp; omega
            have hb101 : ((z : Int) == 101) = true := by simp; omega
            clear HYES HNO HIL HSE hz101 HZ
            go_wp2_with fail
            refine (HN2.out _).mono ?_
            rintro r w2 ⟨rfl, hw2⟩
            obtain rfl := hw2.symm
            clear hw2
            go_wp2
            go_roundw
            case rel => exact ⟨k, setL c nn t, hks, rfl, HT2, HY⟩
            case measure => simp [intOf]; omega
          have HRZ := Hid.mk' (HNO.out (by rw [HIL.out]; exact decide_eq_false (by omega)))
          have hb120 : ((z : Int) == 120) = false := by simp; omega
          have hb121 : ((z : Int) == 121) = false := by simp; omega
          have hb100 : ((z : Int) == 100) = false := by simp; omega
          have hb101 : ((z : Int) == 101) = false := by simp; omega
          clear HYES HNO HIL HZ hz120 hz121 hz100 hz101
          go_wp2_with fail
          refine (HN2.out _).mono ?_
          rintro r w2 ⟨rfl, hw2⟩
          obtain rfl := hw2.symm
          clear hw2
          go_wp2
          refine bodyPost_ret (v := .agg #[.int .i64 0, .int .i64 0, .int .i64 0, .int .i64 0, .int .i64 0]) (by simp [results, Tryz.results64, go_sem, *]) rfl ⟨by rw [HRZ.out], ?_⟩
          exact ((((HTQ.out.1.setCell (Nat.le_refl _) _).setCell (Nat.le_refl _) _).setCell (Nat.le_refl _) _).setCell (Nat.le_refl _) _).setCell (Nat.le_refl _) _
      · have hqe : ¬ (q : Int) < (s.length : Int) := by omega
        have HRT : Hid (R = t) := by
          obtain ⟨f, hf, he⟩ := HF.out
          rw [List.drop_eq_nil_of_le (by omega), ltm_nil] at he
          exact Hid.mk' he.symm
        obtain ⟨⟨c0, c1, c2, c3, c4⟩, cz⟩ := HTQ.out.2.2
        obtain ⟨⟨r0, r1, r2, r3, r4⟩, rz⟩ := HTQ.out.2.1
        go_wp2
        refine bodyPost_ret (v := .agg #[.int .i64 t.c, .int .i64 t.m.x, .int .i64 t.m.y, .int .i64 t.m.d, .int .i64 t.m.e]) (by simp [results, Tryz.results64, go_sem, *]) rfl ⟨by rw [HRT.out], ?_⟩
        exact ((((HTQ.out.1.setCell (Nat.le_refl _) _).setCell (Nat.le_refl _) _).setCell (Nat.le_refl _) _).setCell (Nat.le_refl _) _).setCell (Nat.le_refl _) _
  · have HRS : Hid (∃ f, (s.drop d0).length ≤ f ∧ ltm f ⟨1, ⟨0, 0, 0, 0⟩⟩ (s.drop d0) = R) := by have := HRR.out; rw [if_neg hd00] at this; exact this
    have hd01 : ¬ (0 : Int) < (d0 : Int) := by omega
    have hd02 : decide (0 < d0) = false := decide_eq_false hd00
    have HQS := HQ0
    clear HRR hd00 HQ0
    go_wp2
    (try simp only [hd02])
    go_loopw [5] (fun v5 wr => ∃ (q : Nat) (t : T), q ≤ s.length ∧ v5 = .int .i64 (q : Int) ∧ Hid (TQ w wr t) ∧ Hid (∃ f, (s.drop q).length ≤ f ∧ ltm f t (s.drop q) = R)) (fun v5 _ => s.length - (intOf v5).toNat)
    case atStart => exact ⟨d0, ⟨1, ⟨0, 0, 0, 0⟩⟩, hd0l, by first | rfl | go_num, HQS, HRS⟩
    case round =>
      obtain ⟨q, t, hql, rfl, HTQ, HF⟩ := hrel
      by_cases hq : q < s.length
      · have hqI : (q : Int) < (s.length : Int) := by omega
        obtain ⟨c, hc⟩ : ∃ c, s[q]? = some c := ⟨_, List.getElem?_eq_getElem hq⟩
        have hix := str_index hc
        have HDR : Hid (s.drop q = c :: s.drop (q + 1)) := by rw [List.drop_eq_getElem_cons hq]; have := (List.getElem?_eq_some_iff.1 hc).2; rw [this]; exact Hid.mk' rfl
        obtain ⟨z, hz⟩ : ∃ z : Nat, c.toNat = z := ⟨_, rfl⟩
        have HZ := Hid.mk' hz
        rw [hz] at hix
        clear hc hz
        have HN := Hid.mk' (l3NumberS s hs (q + 1) hq)
        obtain ⟨L, hL⟩ : ∃ L, (lead (s.drop (q + 1))).length = L := ⟨_, rfl⟩
        obtain ⟨V, hV⟩ : ∃ V, nv (lead (s.drop (q + 1))) = V := ⟨_, rfl⟩
        obtain ⟨nn, hnn⟩ : ∃ n, nOf (s.drop (q + 1)) = n := ⟨_, rfl⟩
        have hnn2 : nn = if L = 0 then 1 else V := by rw [← hnn]; unfold nOf; rw [hL, hV]
        obtain ⟨k, hk⟩ : ∃ k, q + 1 + L = k := ⟨_, rfl⟩
        have hks : k ≤ s.length := by have := lead_len (s.drop (q + 1)); rw [hL, List.length_drop] at this; omega
        have hqk : q < k := by omega
        have HYES : Hid (isLt c = true → ∃ f', (s.drop k).length ≤ f' ∧ ltm f' (setL c nn t) (s.drop k) = R) := fun hl => by
          obtain ⟨f, hf, he⟩ := HF.out
          rw [HDR.out] at hf he
          obtain ⟨f', rfl⟩ : ∃ f', f = f' + 1 := ⟨f - 1, by simp at hf; omega⟩
          rw [ltm_yes hl, hnn, hL, List.drop_drop, hk] at he
          refine ⟨f', ?_, he⟩
          rw [List.length_cons, List.length_drop] at hf
          rw [List.length_drop]
          omega
        have HNO : Hid (isLt c = false → R = ⟨0, ⟨0, 0, 0, 0⟩⟩) := fun hl => by
          obtain ⟨f, hf, he⟩ := HF.out
          rw [HDR.out] at hf he
          obtain ⟨f', rfl⟩ : ∃ f', f = f' + 1 := ⟨f - 1, by simp at hf; omega⟩
          rw [ltm_no hl] at he
          exact he.symm
        rw [hL, hV, hk] at HN
        have HIL := Hid.mk' (isLt_z HZ.out)
        have HKQ : Hid (k = q + 1 + L) := hk.symm
        have HNN := Hid.mk' hnn2
        clear hL hV hnn hnn2 hk HF HDR
        have hkI : (k : Int) ≤ 1048576 := by omega
        have hqw : IntKind.i64.wrap ((q : Int) + 1) = (q : Int) + 1 := by rw [IntKind.wrap_i64]; omega
        have HN2 : Hid (∀ u : World, Calls Tryz.prog 94 #[.string ⟨s.toArray⟩, .int .i64 ((q : Int) + 1)] u fun r w' => r = .returned (.tuple #[.int .i64 V, .int .i64 (k : Int)]) ∧ w' = u) := fun u => by
          have := HN.out u
          rw [Int.natCast_add] at this
          exact this
        obtain ⟨⟨c0, c1, c2, c3, c4⟩, cz⟩ := HTQ.out.2.2
        obtain ⟨⟨r0, r1, r2, r3, r4⟩, rz⟩ := HTQ.out.2.1
        by_cases hL0 : L = 0
        · have hke : ((k : Int) == (q : Int) + 1) = true := by have := HKQ.out; simp; omega
          have hne1 : nn = 1 := by rw [HNN.out, if_pos hL0]
          subst hne1
          clear HNN hL0
          by_cases hz120 : z = 120
          · skip
            have HSE := Hid.mk' (set_120 HZ.out hz120 1 t)
            have HY := Hid.mk' (HYES.out (by rw [HIL.out]; exact decide_eq_true (by omega)))
            have HT2 : Hid (TQ w (wr.setCell ⟨w.heap.size + 1, 1, none⟩ (.int .i64 1)) (setL c 1 t)) := by rw [HSE.out]; exact ⟨HTQ.out.1.setCell (by simp) _, HTQ.out.2.1.other hneB _, HTQ.out.2.2.set1 _⟩
            have hb120 : ((z : Int) == 120) = true := by simp; omega
            have hb121 : ((z : Int) == 121) = false := by simp; omega
            have hb100 : ((z : Int) == 100) = false := by simp; omega
            have hb101 : ((z : Int) == 101) = false := by simp; omega
            clear HYES HNO HIL HSE hz120 HZ
            go_wp2_with fail
            refine (HN2.out _).mono ?_
            rintro r w2 ⟨rfl, hw2⟩
            obtain rfl := hw2.symm
            clear hw2
            go_wp2
            go_roundw
            case rel => exact ⟨k, setL c 1 t, hks, rfl, HT2, HY⟩
            case measure => simp [intOf]; omega
          by_cases hz121 : z = 121
          · skip
            have HSE := Hid.mk' (set_121 HZ.out hz121 1 t)
            have HY := Hid.mk' (HYES.out (by rw [HIL.out]; exact decide_eq_true (by omega)))
            have HT2 : Hid (TQ w (wr.setCell ⟨w.heap.size + 1, 2, none⟩ (.int .i64 1)) (setL c 1 t)) := by rw [HSE.out]; exact ⟨HTQ.out.1.setCell (by simp) _, HTQ.out.2.1.other hneB _, HTQ.out.2.2.set2 _⟩
            have hb120 : ((z : Int) == 120) = false := by simp; omega
            have hb121 : ((z : Int) == 121) = true := by simp; omega
            have hb100 : ((z : Int) == 100) = false := by simp; omega
            have hb101 : ((z : Int) == 101) = false := by simp; omega
            clear HYES HNO HIL HSE hz121 HZ
            go_wp2_with fail
            refine (HN2.out _).mono ?_
            rintro r w2 ⟨rfl, hw2⟩
            obtain rfl := hw2.symm
            clear hw2
            go_wp2
            go_roundw
            case rel => exact ⟨k, setL c 1 t, hks, rfl, HT2, HY⟩
            case measure => simp [intOf]; omega
          by_cases hz100 : z = 100
          · skip
            have HSE := Hid.mk' (set_100 HZ.out hz100 1 t)
            have HY := Hid.mk' (HYES.out (by rw [HIL.out]; exact decide_eq_true (by omega)))
            have HT2 : Hid (TQ w (wr.setCell ⟨w.heap.size + 1, 3, none⟩ (.int .i64 1)) (setL c 1 t)) := by rw [HSE.out]; exact ⟨HTQ.out.1.setCell (by simp) _, HTQ.out.2.1.other hneB _, HTQ.out.2.2.set3 _⟩
            have hb120 : ((z : Int) == 120) = false := by simp; omega
            have hb121 : ((z : Int) == 121) = false := by simp; omega
            have hb100 : ((z : Int) == 100) = true := by simp; omega
            have hb101 : ((z : Int) == 101) = false := by simp; omega
            clear HYES HNO HIL HSE hz100 HZ
            go_wp2_with fail
            refine (HN2.out _).mono ?_
            rintro r w2 ⟨rfl, hw2⟩
            obtain rfl := hw2.symm
            clear hw2
            go_wp2
            go_roundw
            case rel => exact ⟨k, setL c 1 t, hks, rfl, HT2, HY⟩
            case measure => simp [intOf]; omega
          by_cases hz101 : z = 101
          · skip
            have HSE := Hid.mk' (set_101 HZ.out hz101 1 t)
            have HY := Hid.mk' (HYES.out (by rw [HIL.out]; exact decide_eq_true (by omega)))
            have HT2 : Hid (TQ w (wr.setCell ⟨w.heap.size + 1, 4, none⟩ (.int .i64 1)) (setL c 1 t)) := by rw [HSE.out]; exact ⟨HTQ.out.1.setCell (by simp) _, HTQ.out.2.1.other hneB _, HTQ.out.2.2.set4 _⟩
            have hb120 : ((z : Int) == 120) = false := by simp; omega
            have hb121 : ((z : Int) == 121) = false := by simp; omega
            have hb100 : ((z : Int) == 100) = false := by simp; omega
            have hb101 : ((z : Int) == 101) = true := by simp; omega
            clear HYES HNO HIL HSE hz101 HZ
            go_wp2_with fail
            refine (HN2.out _).mono ?_
            rintro r w2 ⟨rfl, hw2⟩
            obtain rfl := hw2.symm
            clear hw2
            go_wp2
            go_roundw
            case rel => exact ⟨k, setL c 1 t, hks, rfl, HT2, HY⟩
            case measure => simp [intOf]; omega
          have HRZ := Hid.mk' (HNO.out (by rw [HIL.out]; exact decide_eq_false (by omega)))
          have hb120 : ((z : Int) == 120) = false := by simp; omega
          have hb121 : ((z : Int) == 121) = false := by simp; omega
          have hb100 : ((z : Int) == 100) = false := by simp; omega
          have hb101 : ((z : Int) == 101) = false := by simp; omega
          clear HYES HNO HIL HZ hz120 hz121 hz100 hz101
          go_wp2_with fail
          refine (HN2.out _).mono ?_
          rintro r w2 ⟨rfl, hw2⟩
          obtain rfl := hw2.symm
          clear hw2
          go_wp2
          refine bodyPost_ret (v := .agg #[.int .i64 0, .int .i64 0, .int .i64 0, .int .i64 0, .int .i64 0]) (by simp [results, Tryz.results64, go_sem, *]) rfl ⟨by rw [HRZ.out], ?_⟩
          exact ((((HTQ.out.1.setCell (Nat.le_refl _) _).setCell (Nat.le_refl _) _).setCell (Nat.le_refl _) _).setCell (Nat.le_refl _) _).setCell (Nat.le_refl _) _
        · have hke : ((k : Int) == (q : Int) + 1) = false := by have := HKQ.out; simp; omega
          have hne1 : nn = V := by rw [HNN.out, if_neg hL0]
          subst hne1
          clear HNN hL0
          by_cases hz120 : z = 120
          · skip
            have HSE := Hid.mk' (set_120 HZ.out hz120 nn t)
            have HY := Hid.mk' (HYES.out (by rw [HIL.out]; exact decide_eq_true (by omega)))
            have HT2 : Hid (TQ w (wr.setCell ⟨w.heap.size + 1, 1, none⟩ (.int .i64 nn)) (setL c nn t)) := by rw [HSE.out]; exact ⟨HTQ.out.1.setCell (by simp) _, HTQ.out.2.1.other hneB _, HTQ.out.2.2.set1 _⟩
            have hb120 : ((z : Int) == 120) = true := by simp; omega
            have hb121 : ((z : Int) == 121) = false := by simp; omega
            have hb100 : ((z : Int) == 100) = false := by simp; omega
            have hb101 : ((z : Int) == 101) = false := by simp; omega
            clear HYES HNO HIL HSE hz120 HZ
            go_wp2_with fail
            refine (HN2.out _).mono ?_
            rintro r w2 ⟨rfl, hw2⟩
            obtain rfl := hw2.symm
            clear hw2
            go_wp2
            go_roundw
            case rel => exact ⟨k, setL c nn t, hks, rfl, HT2, HY⟩
            case measure => simp [intOf]; omega
          by_cases hz121 : z = 121
          · skip
            have HSE := Hid.mk' (set_121 HZ.out hz121 nn t)
            have HY := Hid.mk' (HYES.out (by rw [HIL.out]; exact decide_eq_true (by omega)))
            have HT2 : Hid (TQ w (wr.setCell ⟨w.heap.size + 1, 2, none⟩ (.int .i64 nn)) (setL c nn t)) := by rw [HSE.out]; exact ⟨HTQ.out.1.setCell (by simp) _, HTQ.out.2.1.other hneB _, HTQ.out.2.2.set2 _⟩
            have hb120 : ((z : Int) == 120) = false := by simp; omega
            have hb121 : ((z : Int) == 121) = true := by simp; omega
            have hb100 : ((z : Int) == 100) = false := by simp; omega
            have hb101 : ((z : Int) == 101) = false := by simp; omega
            clear HYES HNO HIL HSE hz121 HZ
            go_wp2_with fail
            refine (HN2.out _).mono ?_
            rintro r w2 ⟨rfl, hw2⟩
            obtain rfl := hw2.symm
            clear hw2
            go_wp2
            go_roundw
            case rel => exact ⟨k, setL c nn t, hks, rfl, HT2, HY⟩
            case measure => simp [intOf]; omega
          by_cases hz100 : z = 100
          · skip
            have HSE := Hid.mk' (set_100 HZ.out hz100 nn t)
            have HY := Hid.mk' (HYES.out (by rw [HIL.out]; exact decide_eq_true (by omega)))
            have HT2 : Hid (TQ w (wr.setCell ⟨w.heap.size + 1, 3, none⟩ (.int .i64 nn)) (setL c nn t)) := by rw [HSE.out]; exact ⟨HTQ.out.1.setCell (by simp) _, HTQ.out.2.1.other hneB _, HTQ.out.2.2.set3 _⟩
            have hb120 : ((z : Int) == 120) = false := by simp; omega
            have hb121 : ((z : Int) == 121) = false := by simp; omega
            have hb100 : ((z : Int) == 100) = true := by simp; omega
            have hb101 : ((z : Int) == 101) = false := by simp; omega
            clear HYES HNO HIL HSE hz100 HZ
            go_wp2_with fail
            refine (HN2.out _).mono ?_
            rintro r w2 ⟨rfl, hw2⟩
            obtain rfl := hw2.symm
            clear hw2
            go_wp2
            go_roundw
            case rel => exact ⟨k, setL c nn t, hks, rfl, HT2, HY⟩
            case measure => simp [intOf]; omega
          by_cases hz101 : z = 101
          · skip
            have HSE := Hid.mk' (set_101 HZ.out hz101 nn t)
            have HY := Hid.mk' (HYES.out (by rw [HIL.out]; exact decide_eq_true (by omega)))
            have HT2 : Hid (TQ w (wr.setCell ⟨w.heap.size + 1, 4, none⟩ (.int .i64 nn)) (setL c nn t)) := by rw [HSE.out]; exact ⟨HTQ.out.1.setCell (by simp) _, HTQ.out.2.1.other hneB _, HTQ.out.2.2.set4 _⟩
            have hb120 : ((z : Int) == 120) = false := by simp; omega
            have hb121 : ((z : Int) == 121) = false := by simp; omega
            have hb100 : ((z : Int) == 100) = false := by simp; omega
            have hb101 : ((z : Int) == 101) = true := by simp; omega
            clear HYES HNO HIL HSE hz101 HZ
            go_wp2_with fail
            refine (HN2.out _).mono ?_
            rintro r w2 ⟨rfl, hw2⟩
            obtain rfl := hw2.symm
            clear hw2
            go_wp2
            go_roundw
            case rel => exact ⟨k, setL c nn t, hks, rfl, HT2, HY⟩
            case measure => simp [intOf]; omega
          have HRZ := Hid.mk' (HNO.out (by rw [HIL.out]; exact decide_eq_false (by omega)))
          have hb120 : ((z : Int) == 120) = false := by simp; omega
          have hb121 : ((z : Int) == 121) = false := by simp; omega
          have hb100 : ((z : Int) == 100) = false := by simp; omega
          have hb101 : ((z : Int) == 101) = false := by simp; omega
          clear HYES HNO HIL HZ hz120 hz121 hz100 hz101
          go_wp2_with fail
          refine (HN2.out _).mono ?_
          rintro r w2 ⟨rfl, hw2⟩
          obtain rfl := hw2.symm
          clear hw2
          go_wp2
          refine bodyPost_ret (v := .agg #[.int .i64 0, .int .i64 0, .int .i64 0, .int .i64 0, .int .i64 0]) (by simp [results, Tryz.results64, go_sem, *]) rfl ⟨by rw [HRZ.out], ?_⟩
          exact ((((HTQ.out.1.setCell (Nat.le_refl _) _).setCell (Nat.le_refl _) _).setCell (Nat.le_refl _) _).setCell (Nat.le_refl _) _).setCell (Nat.le_refl _) _
      · have hqe : ¬ (q : Int) < (s.length : Int) := by omega
        have HRT : Hid (R = t) := by
          obtain ⟨f, hf, he⟩ := HF.out
          rw [List.drop_eq_nil_of_le (by omega), ltm_nil] at he
          exact Hid.mk' he.symm
        obtain ⟨⟨c0, c1, c2, c3, c4⟩, cz⟩ := HTQ.out.2.2
        obtain ⟨⟨r0, r1, r2, r3, r4⟩, rz⟩ := HTQ.out.2.1
        go_wp2
        refine bodyPost_ret (v := .agg #[.int .i64 t.c, .int .i64 t.m.x, .int .i64 t.m.y, .int .i64 t.m.d, .int .i64 t.m.e]) (by simp [results, Tryz.results64, go_sem, *]) rfl ⟨by rw [HRT.out], ?_⟩
        exact ((((HTQ.out.1.setCell (Nat.le_refl _) _).setCell (Nat.le_refl _) _).setCell (Nat.le_refl _) _).setCell (Nat.le_refl _) _).setCell (Nat.le_refl _) _
end Go.Proofs.YtkcmamepoplcdaaGreatDoor
namespace Go.Proofs.YtkcmamepoplcdaaGreatDoor
open Go.RowKit
set_option linter.unusedVariables false
set_option linter.unusedSimpArgs false
def ctS (s : List UInt8) : List (List UInt8) := if s.length ≤ 400 then cutL s else []
theorem cut_len : ∀ s : List UInt8, (cutL s).length ≤ s.length + 1
  | [] => by simp [cutL]
  | c :: r => by
    have := cut_len r
    unfold cutL
    split
    · simp; omega
    · cases e : cutL r with
      | nil => exact absurd e (cut_ne r)
      | cons h t => rw [e] at this; simp [consH] at this ⊢; omega
theorem cut_mem_len : ∀ (s : List UInt8) (w : List UInt8), w ∈ cutL s → w.length ≤ s.length
  | [], w, h => by simp [cutL] at h; subst h; simp
  | c :: r, w, h => by
    unfold cutL at h
    split at h
    · rcases List.mem_cons.1 h with e | e
      · subst e; simp
      · have := cut_mem_len r w e; simp; omega
    · cases q : cutL r with
      | nil => exact absurd q (cut_ne r)
      | cons a t =>
        rw [q] at h
        rcases List.mem_cons.1 h with e | e
        · subst e
          have := cut_mem_len r a (by rw [q]; simp)
          simp; omega
        · have := cut_mem_len r w (by rw [q]; simp [e])
          simp; omega
theorem byte_back (c : UInt8) : UInt8.ofNat (((c.toNat : Int)) % 256).toNat = c := by
  have h : c.toNat < 256 := c.toNat_lt
  have e : ((c.toNat : Int) % 256).toNat = c.toNat := by omega
  rw [e]
  simp
theorem one_byte' (w : World) (c : UInt8) (t : TypeId) :
    (convert 35 9 (.slice (some ⟨w.heap.size, 0, none⟩) 1 1)).run Tryz.prog (w.alloc (Obj.cells #[.int .u8 (c.toNat : Int)] t)) = .ok (.string ⟨#[c]⟩) (w.alloc (Obj.cells #[.int .u8 (c.toNat : Int)] t)) := by
  have h : c.toNat < 256 := c.toNat_lt
  have := one_byte w (c.toNat : Int) t
  rw [byte_back, show ((c.toNat : Int)) % 256 = (c.toNat : Int) by omega] at this
  exact this
def CtI (w : World) (o : List (List UInt8)) (v : Value) (wr : World) : Prop := OwT w.heap.size v o wr ∧ Below w.heap.size w wr
set_option maxRecDepth 100000 in
set_option maxHeartbeats 4000000 in
theorem l3CutS (s : List UInt8) (hs : s.length ≤ 1048576) (w : World) :
    Calls Tryz.prog 63 #[.string ⟨s.toArray⟩] w fun r w' => ∃ g cp, r = .returned (.slice (some ⟨g, 0, none⟩) (ctS s).length cp) ∧ OwT w.heap.size (.slice (some ⟨g, 0, none⟩) (ctS s).length cp) (ctS s) w' ∧ Below w.heap.size w w' := by
  have hsI : (s.length : Int) ≤ 1048576 := by omega
  obtain ⟨i0, hi0, hz0, hz1, hz2⟩ := info_parts infoSt
  have HO0 := Hid.mk' (owt_none w w.heap.size (Nat.le_refl _))
  have HB0 := Hid.mk' (bel_one w (.cells #[] 9))
  by_cases hl : s.length ≤ 400
  · have hlI : ¬ (400 : Int) < (s.length : Int) := by omega
    have hlJ : (s.length : Int) ≤ 400 := by omega
    have HE : Hid (ctS s = cutL s) := by unfold ctS; rw [if_pos hl]; exact Hid.mk' rfl
    go_enter Tryz.func63, Tryz.ntmps63
    go_wp2
    go_loopw [5, 3, 4] (fun v5 v3 v4 wr => ∃ (k g cp n : Nat) (o : List (List UInt8)) (wd : List UInt8), k ≤ s.length ∧ n ≤ k ∧ v5 = .int .i64 (k : Int) ∧ v3 = .slice (some ⟨g, 0, none⟩) n cp ∧ v4 = .string ⟨wd.toArray⟩ ∧ wd.length ≤ k ∧ Hid (n = o.length ∧ cutL (s.take k) = o ++ [wd]) ∧ Hid (CtI w o (.slice (some ⟨g, 0, none⟩) n cp) wr)) (fun v5 _ _ _ => s.length - (intOf v5).toNat)
    case atStart => exact ⟨0, _, _, 0, [], [], Nat.zero_le _, Nat.le_refl _, rfl, rfl, rfl, Nat.le_refl _, Hid.mk' ⟨rfl, rfl⟩, Hid.mk' ⟨HO0.out, HB0.out⟩⟩
    case round =>
      obtain ⟨k, g, cp, n, o, wd, hk, hnk, rfl, rfl, rfl, hwd, HC, HI⟩ := hrel
      have hmax : n + 1 ≤ maxLen := by unfold maxLen; omega
      have hs0 := HI.out.2.size
      by_cases hkl : k < s.length
      · have hkI : (k : Int) < (s.length : Int) := by omega
        obtain ⟨c, hc⟩ : ∃ c, s[k]? = some c := ⟨_, List.getElem?_eq_getElem hkl⟩
        have hix := str_index hc
        have htk : s.take (k + 1) = s.take k ++ [c] := by
          rw [List.take_add_one, hc]; rfl
        by_cases hp : c = 43
        · subst hp
          have HC2 : Hid (cutL (s.take (k + 1)) = (o ++ [wd]) ++ [[]]) := by rw [htk, cut_plus, HC.out.2]; exact Hid.mk' rfl
          have HO4 := Hid.mk' (HI.out.1.alloc (.cells #[.string ⟨wd.toArray⟩] 9))
          have HB4 := Hid.mk' (HI.out.2.alloc hs0 (.cells #[.string ⟨wd.toArray⟩] 9))
          have HN := Hid.mk' (heap_alloc_new wr (.cells #[.string ⟨wd.toArray⟩] 9))
          clear hc htk
          have hix' : ∀ u : World, (Instr.index 9 (.string ⟨s.toArray⟩) (.int .i64 (k : Int))).run Tryz.prog u = .ok (.int .u8 43) u := fun u => hix u
          clear hix
          go_wp2_with (at_builtin; refine wpList_append_lies _ rfl (.tmp 21) (.tmp 23) 30 rfl w.heap.size 9 i0 _ 1 16 Tryz.underlying30 hi0 hz0 hz1 hz2 rfl (by omega) _ n (stL o) rfl (HC.out.1 ▸ HO4.out) ⟨wr.heap.size, 0, none⟩ 1 1 [.string ⟨wd.toArray⟩] rfl rfl (World.news_of_block HN.out) (one_st _) (by omega) hmax (by omega) (by simp; omega) _ rfl ?_; intro g1 cap1 w7 hown2 hgrow2 hat2 hlt2; have HO7 := Hid.mk' hown2; have HB7 := Hid.mk' (HB4.out.grown hgrow2 (by simp; omega) (fun k' e' => (HO4.out.lt k' e').1)); clear hown2 hgrow2 hat2 hlt2)
          go_roundw
          case rel => exact ⟨k + 1, g1, cap1, n + 1, o ++ [wd], [], by omega, by omega, by go_num, rfl, rfl, by simp, Hid.mk' ⟨by rw [HC.out.1]; simp, HC2.out⟩, Hid.mk' ⟨by
            have := HO7.out
            show World.ownsRow _ _ _ _ _ _ _
            rw [stL_app, List.length_append, ← HC.out.1]; exact this, HB7.out⟩⟩
          case measure => simp [intOf]; omega
        · have HC2 : Hid (cutL (s.take (k + 1)) = o ++ [wd ++ [c]]) := by rw [htk, cut_more hp, HC.out.2, snocH_app]; exact Hid.mk' rfl
          have hcv := one_byte' wr c 5
          have HB4 := Hid.mk' (HI.out.2.alloc hs0 (.cells #[.int .u8 (c.toNat : Int)] 5))
          have HO4 := Hid.mk' (HI.out.1.alloc (.cells #[.int .u8 (c.toNat : Int)] 5))
          have hp43 : (c.toNat : Int) ≠ 43 := fun e => hp (by
            apply UInt8.toNat_inj.1
            have : c.toNat = 43 := by omega
            rw [this]; rfl)
          have hpb : ((c.toNat : Int) == 43) = false := beq_eq_false_iff_ne.2 hp43
          have hsz : ¬ (9223372036854775807 < wd.length + 1) := by omega
          clear hc htk hp hp43
          go_wp2
          go_roundw
          case rel => exact ⟨k + 1, g, cp, n, o, wd ++ [c], by omega, by omega, by go_num, rfl, by first | rfl | exact congrArg Value.string (ba_cat1 wd c) | (simp; exact ba_cat1 wd c), by simp; omega, Hid.mk' ⟨HC.out.1, HC2.out⟩, Hid.mk' ⟨HO4.out, HB4.out⟩⟩
          case measure => simp [intOf]; omega
      · have hke : k = s.length := by omega
        have hnl : ¬ (k : Int) < (s.length : Int) := by omega
        have HCE : Hid (ctS s = o ++ [wd]) := by
          rw [HE.out]
          have := HC.out.2
          rw [hke, List.take_length] at this
          exact Hid.mk' this
        clear hke
        have HO4 := Hid.mk' (HI.out.1.alloc (.cells #[.string ⟨wd.toArray⟩] 9))
        have HB4 := Hid.mk' (HI.out.2.alloc hs0 (.cells #[.string ⟨wd.toArray⟩] 9))
        have HN := Hid.mk' (heap_alloc_new wr (.cells #[.string ⟨wd.toArray⟩] 9))
        go_wp2_with (at_builtin; refine wpList_append_lies _ rfl (.tmp 32) (.tmp 34) 30 rfl w.heap.size 9 i0 _ 1 16 Tryz.underlying30 hi0 hz0 hz1 hz2 rfl (by omega) _ n (stL o) rfl (HC.out.1 ▸ HO4.out) ⟨wr.heap.size, 0, none⟩ 1 1 [.string ⟨wd.toArray⟩] rfl rfl (World.news_of_block HN.out) (one_st _) (by omega) hmax (by omega) (by simp; omega) _ rfl ?_; intro g1 cap1 w7 hown2 hgrow2 hat2 hlt2; have HO7 := Hid.mk' hown2; have HB7 := Hid.mk' (HB4.out.grown hgrow2 (by simp; omega) (fun k' e' => (HO4.out.lt k' e').1)); clear hown2 hgrow2 hat2 hlt2)
        go_ret
        have hn1 : n + 1 = (ctS s).length := by rw [HCE.out]; simp [HC.out.1]
        refine ⟨g1, cap1, by rw [hn1]; rfl, ?_, HB7.out⟩
        have := HO7.out
        show World.ownsRow _ _ _ _ _ _ _
        rw [← hn1, HCE.out, stL_app]
        exact this
  · have hlI : (400 : Int) < (s.length : Int) := by omega
    have HE : Hid (ctS s = []) := by unfold ctS; rw [if_neg hl]; exact Hid.mk' rfl
    clear hl
    go_enter Tryz.func63, Tryz.ntmps63
    go_wp2
    go_ret
    exact ⟨_, 0, by rw [HE.out]; rfl, by rw [HE.out]; exact HO0.out, HB0.out⟩
end Go.Proofs.YtkcmamepoplcdaaGreatDoor
