/-
  The model's PolText.
  The model cuts texts at each '+' and reads operators (l3Cut, PolRead).
  The model reads operators (PolRead).
-/
import Derived.Test.YtnfgiplgkobnlaaGreatDoorGak
import Derived.Test.YtnfgiplgkobnlaaGreatDoorGap
import Derived.Test.YtnfgiplgkobnlaaGreatDoorGam
import Derived.Test.YtnfgiplgkobnlaaGreatDoorGao
import Derived.Test.YtnfgiplgkobnlaaGreatDoorGaf
namespace Go.Proofs.YtnfgiplgkobnlaaGreatDoor
open Go.RowKit
set_option linter.unusedVariables false
set_option linter.unusedSimpArgs false
theorem ba_eq {a b : List UInt8} (h : a = b) : (Value.string ⟨a.toArray⟩) = .string ⟨b.toArray⟩ := by rw [h]
set_option maxRecDepth 100000 in
set_option maxHeartbeats 8000000 in
theorem polTextS (w : World) (a : Option Addr) (n cap : Nat) (f : Nat → T) (h : Rd w a n cap f) :
    Calls Tryz.prog 10 #[.slice a n cap] w fun r w' => r = .returned (.string ⟨(polT n f).toArray⟩) ∧ Below w.heap.size w w' := by
  have HH := Hid.mk' h
  have hnI : (n : Int) ≤ 9223372036854775807 := by have := h.2.1; omega
  obtain ⟨ok, hok⟩ : ∃ b, polOk n f = b := ⟨_, rfl⟩
  have hc := polOkS w a n cap f h
  rw [hok] at hc
  have HC := Hid.mk' hc
  have HOK := Hid.mk' hok
  clear hc hok h
  obtain ⟨R, hR⟩ : ∃ R, polT n f = R := ⟨_, rfl⟩
  rw [hR]
  cases ok
  · have HR := Hid.mk' (hR.symm.trans (polT_no HOK.out))
    clear hR
    go_enter Tryz.func10, Tryz.ntmps10
    go_wp2_with fail
    refine HC.out.mono ?_
    rintro r w1 ⟨rfl, hb⟩
    go_wp2
    go_ret
    exact ⟨by rw [HR.out]; rfl, hb⟩
  · by_cases h0 : n = 0
    · have HR := Hid.mk' (hR.symm.trans (polT_zero HOK.out h0))
      have hn0 : ((n : Int) == 0) = true := by rw [h0]; rfl
      clear hR h0
      go_enter Tryz.func10, Tryz.ntmps10
      go_wp2_with fail
      refine HC.out.mono ?_
      rintro r w1 ⟨rfl, hb⟩
      go_wp2
      go_ret
      exact ⟨by rw [HR.out]; rfl, hb⟩
    · have HR := Hid.mk' (hR.symm.trans (polT_is HOK.out h0))
      have hn0 : ((n : Int) == 0) = false := beq_eq_false_iff_ne.2 (by omega)
      have HALL := Hid.mk' (polOk_is HOK.out)
      have n400 := (polOk_is HOK.out).1
      have n400I : (n : Int) ≤ 400 := by omega
      clear hR
      obtain ⟨b, off, rfl, hblt, hcl⟩ := HH.out.2.2.resolve_left h0
      have HCL := Hid.mk' hcl
      clear hcl
      go_enter Tryz.func10, Tryz.ntmps10
      go_wp2_with fail
      refine HC.out.mono ?_
      rintro r w1 ⟨rfl, hb⟩
      have HB1 := Hid.mk' hb
      have hs1 := hb.size
      clear hb HC
      go_wp2
      go_loopw [4, 3] (fun v4 v3 wr => ∃ (k : Nat) (S : List UInt8), k ≤ n ∧ v4 = .int .i64 (k : Int) ∧ v3 = .string ⟨S.toArray⟩ ∧ Hid (S = jnT f k) ∧ Hid (Below w.heap.size w wr)) (fun v4 _ _ => n - (intOf v4).toNat)
      case atStart => exact ⟨0, [], Nat.zero_le _, rfl, rfl, Hid.mk' rfl, HB1⟩
      case round =>
        obtain ⟨k, S, hk, rfl, rfl, HS, HB⟩ := hrel
        by_cases hkn : k < n
        · have hklI : (k : Int) < (n : Int) := by omega
          have hSl : S.length ≤ 6800 := by
            rw [HS.out]
            have := jnT_len k (fun i hi => HALL.out.2 i (by omega))
            omega
          obtain ⟨⟨tc1, tc2⟩, tmo⟩ := HALL.out.2 k hkn
          obtain ⟨t, ht⟩ : ∃ t, f k = t := ⟨_, rfl⟩
          have HJ := Hid.mk' (show jnT f (k + 1) = (if k = 0 then [] else jnT f k ++ [43]) ++ trmT t by rw [← ht]; rfl)
          rw [← HS.out] at HJ
          have HS00 : Hid (S = jnT f k) := HS
          obtain ⟨g0, g1, g2, g3, g4⟩ := (HCL.out k hkn).below HB.out hblt
          rw [ht] at tc1 tc2 tmo g0 g1 g2 g3 g4
          clear ht
          obtain ⟨c, ⟨x, y, d, e⟩⟩ := t
          simp only at tc1 tc2 tmo g0 g1 g2 g3 g4
          obtain ⟨C, rfl⟩ : ∃ C : Nat, c = (C : Int) := ⟨c.toNat, by omega⟩
          have hC100 : C ≤ 100 := by omega
          obtain ⟨MT, hMT⟩ : ∃ MT, monT ⟨x, y, d, e⟩ = MT := ⟨_, rfl⟩
          have hml : MT.length ≤ 12 := by rw [← hMT]; exact monT_len tmo
          have hcm : ∀ u : World, Calls Tryz.prog 29 #[.agg #[.int .i64 x, .int .i64 y, .int .i64 d, .int .i64 e]] u fun r w' => r = .returned (.string ⟨MT.toArray⟩) ∧ Below u.heap.size u w' := fun u => by rw [← hMT]; exact monTextS x y d e u
          obtain ⟨DT, hDT⟩ : ∃ DT, Lib.decDigits C = DT := ⟨_, rfl⟩
          have hdl : DT.length ≤ 4 := by rw [← hDT]; exact dec_len4 (by omega)
          have hcd : ∀ u : World, Calls Tryz.prog 30 #[.int .i64 (C : Int)] u fun r w' => r = .returned (.string ⟨DT.toArray⟩) ∧ Below u.heap.size u w' := fun u => by rw [← hDT]; exact l2DigitsS C (by omega) u
          have htrm : trmT ⟨(C : Int), ⟨x, y, d, e⟩⟩ = if MT = [49] then DT else if C = 1 then MT else DT ++ MT := by
            show (if x = 0 ∧ y = 0 ∧ d = 0 ∧ e = 0 then Lib.decDigits C else if (C : Int) = 1 then monT ⟨x, y, d, e⟩ else Lib.decDigits C ++ monT ⟨x, y, d, e⟩) = _
            rw [hMT, hDT]
            by_cases hz : x = 0 ∧ y = 0 ∧ d = 0 ∧ e = 0
            · have hm : MT = [49] := by
                obtain ⟨rfl, rfl, rfl, rfl⟩ := hz
                rw [← hMT]; exact monT_1
              rw [if_pos hz, if_pos hm]
            · have hm : MT ≠ [49] := by rw [← hMT]; exact (monT_not1 tmo hz).1
              rw [if_neg hz, if_neg hm]
              by_cases h1 : C = 1
              · rw [if_pos h1, if_pos (by omega)]
              · rw [if_neg h1, if_neg (by omega)]
          rw [htrm] at HJ
          have HCM := Hid.mk' hcm
          have HCD := Hid.mk' hcd
          clear hcm hcd hMT hDT htrm tmo HS
          by_cases hk0 : k = 0
          · subst hk0
            have HJ0 : Hid (jnT f 1 = if MT = [49] then DT else if C = 1 then MT else DT ++ MT) := HJ.out
            have hS0 : S = [] := HS00.out
            subst hS0
            clear HS00
            simp only [Nat.zero_mul, Nat.add_zero] at g0 g1 g2 g3 g4
            clear HJ
            by_cases hm1 : MT = [49]
            · subst hm1
              have HQ : Hid (DT = jnT f 1) := by rw [HJ0.out, if_pos rfl]; exact Hid.mk' rfl
              go_wp2_with fail
              refine (HCM.out _).mono ?_
              rintro r wx0 ⟨rfl, hbx0⟩
              have HBx0 := Hid.mk' (bel_next HB.out hbx0)
              obtain ⟨g0, g1, g2, g3, g4⟩ := Cells.below (t := ⟨_, ⟨x, y, d, e⟩⟩) ⟨g0, g1, g2, g3, g4⟩ hbx0 (by have := HB.out.size; omega)
              simp only at g0 g1 g2 g3 g4
              clear hbx0
              go_wp2_with fail
              refine (HCD.out _).mono ?_
              rintro r wx1 ⟨rfl, hbx1⟩
              have HBx1 := Hid.mk' (bel_next HBx0.out hbx1)
              obtain ⟨g0, g1, g2, g3, g4⟩ := Cells.below (t := ⟨_, ⟨x, y, d, e⟩⟩) ⟨g0, g1, g2, g3, g4⟩ hbx1 (by have := HBx0.out.size; omega)
              simp only at g0 g1 g2 g3 g4
              clear hbx1
              go_wp2
              go_roundw
              case rel => exact ⟨1, _, by omega, by go_num, by first | rfl | (refine ba_eq ?_; simp; done) | (congr 1; apply ByteArray.ext; simp [ByteArray.data_append]; done), HQ, HBx1⟩
              case measure => simp [intOf]; omega
            · have hmb1 : (MT == [49]) = false := beq_eq_false_iff_ne.2 hm1
              by_cases hc1 : C = 1
              · subst hc1
                have HQ : Hid (MT = jnT f 1) := by rw [HJ0.out, if_neg hm1, if_pos rfl]; exact Hid.mk' rfl
                go_wp2_with fail
                refine (HCM.out _).mono ?_
                rintro r wx0 ⟨rfl, hbx0⟩
                have HBx0 := Hid.mk' (bel_next HB.out hbx0)
                obtain ⟨g0, g1, g2, g3, g4⟩ := Cells.below (t := ⟨_, ⟨x, y, d, e⟩⟩) ⟨g0, g1, g2, g3, g4⟩ hbx0 (by have := HB.out.size; omega)
                simp only at g0 g1 g2 g3 g4
                clear hbx0
                go_wp2
                go_roundw
                case rel => exact ⟨1, _, by omega, by go_num, by first | rfl | (refine ba_eq ?_; simp; done) | (congr 1; apply ByteArray.ext; simp [ByteArray.data_append]; done), HQ, HBx0⟩
                case measure => simp [intOf]; omega
              · have hc1I : ((C : Int) == 1) = false := beq_eq_false_iff_ne.2 (by omega)
                have HQ : Hid (DT ++ MT = jnT f 1) := by rw [HJ0.out, if_neg hm1, if_neg hc1]; exact Hid.mk' rfl
                go_wp2_with fail
                refine (HCM.out _).mono ?_
                rintro r wx0 ⟨rfl, hbx0⟩
                have HBx0 := Hid.mk' (bel_next HB.out hbx0)
                obtain ⟨g0, g1, g2, g3, g4⟩ := Cells.below (t := ⟨_, ⟨x, y, d, e⟩⟩) ⟨g0, g1, g2, g3, g4⟩ hbx0 (by have := HB.out.size; omega)
                simp only at g0 g1 g2 g3 g4
                clear hbx0
                go_wp2_with fail
                refine (HCD.out _).mono ?_
                rintro r wx1 ⟨rfl, hbx1⟩
                have HBx1 := Hid.mk' (bel_next HBx0.out hbx1)
                obtain ⟨g0, g1, g2, g3, g4⟩ := Cells.below (t := ⟨_, ⟨x, y, d, e⟩⟩) ⟨g0, g1, g2, g3, g4⟩ hbx1 (by have := HBx0.out.size; omega)
                simp only at g0 g1 g2 g3 g4
                clear hbx1
                go_wp2
                go_roundw
                case rel => exact ⟨1, _, by omega, by go_num, by first | rfl | (refine ba_eq ?_; simp; done) | (congr 1; apply ByteArray.ext; simp [ByteArray.data_append]; done), HQ, HBx1⟩
                case measure => simp [intOf]; omega
          · have hkp : (0 : Int) < (k : Int) := by omega
            have HJ1 : Hid (jnT f (k + 1) = S ++ [43] ++ if MT = [49] then DT else if C = 1 then MT else DT ++ MT) := by have := HJ.out; rw [if_neg hk0] at this; exact this
            clear HJ
            by_cases hm1 : MT = [49]
            · subst hm1
              have HQ : Hid (S ++ [43] ++ DT = jnT f (k + 1)) := by rw [HJ1.out, if_pos rfl]; exact Hid.mk' rfl
              go_wp2_with fail
              refine (HCM.out _).mono ?_
              rintro r wx0 ⟨rfl, hbx0⟩
              have HBx0 := Hid.mk' (bel_next HB.out hbx0)
              obtain ⟨g0, g1, g2, g3, g4⟩ := Cells.below (t := ⟨_, ⟨x, y, d, e⟩⟩) ⟨g0, g1, g2, g3, g4⟩ hbx0 (by have := HB.out.size; omega)
              simp only at g0 g1 g2 g3 g4
              clear hbx0
              go_wp2_with fail
              refine (HCD.out _).mono ?_
              rintro r wx1 ⟨rfl, hbx1⟩
              have HBx1 := Hid.mk' (bel_next HBx0.out hbx1)
              obtain ⟨g0, g1, g2, g3, g4⟩ := Cells.below (t := ⟨_, ⟨x, y, d, e⟩⟩) ⟨g0, g1, g2, g3, g4⟩ hbx1 (by have := HBx0.out.size; omega)
              simp only at g0 g1 g2 g3 g4
              clear hbx1
              go_wp2
              go_roundw
              case rel => exact ⟨k + 1, _, by omega, by go_num, by first | rfl | (refine ba_eq ?_; simp; done) | (congr 1; apply ByteArray.ext; simp [ByteArray.data_append]; done), HQ, HBx1⟩
              case measure => simp [intOf]; omega
            · have hmb1 : (MT == [49]) = false := beq_eq_false_iff_ne.2 hm1
              by_cases hc1 : C = 1
              · subst hc1
                have HQ : Hid (S ++ [43] ++ MT = jnT f (k + 1)) := by rw [HJ1.out, if_neg hm1, if_pos rfl]; exact Hid.mk' rfl
                go_wp2_with fail
                refine (HCM.out _).mono ?_
                rintro r wx0 ⟨rfl, hbx0⟩
                have HBx0 := Hid.mk' (bel_next HB.out hbx0)
                obtain ⟨g0, g1, g2, g3, g4⟩ := Cells.below (t := ⟨_, ⟨x, y, d, e⟩⟩) ⟨g0, g1, g2, g3, g4⟩ hbx0 (by have := HB.out.size; omega)
                simp only at g0 g1 g2 g3 g4
                clear hbx0
                go_wp2
                go_roundw
                case rel => exact ⟨k + 1, _, by omega, by go_num, by first | rfl | (refine ba_eq ?_; simp; done) | (congr 1; apply ByteArray.ext; simp [ByteArray.data_append]; done), HQ, HBx0⟩
                case measure => simp [intOf]; omega
              · have hc1I : ((C : Int) == 1) = false := beq_eq_false_iff_ne.2 (by omega)
                have HQ : Hid (S ++ [43] ++ (DT ++ MT) = jnT f (k + 1)) := by rw [HJ1.out, if_neg hm1, if_neg hc1]; exact Hid.mk' rfl
                go_wp2_with fail
                refine (HCM.out _).mono ?_
                rintro r wx0 ⟨rfl, hbx0⟩
                have HBx0 := Hid.mk' (bel_next HB.out hbx0)
                obtain ⟨g0, g1, g2, g3, g4⟩ := Cells.below (t := ⟨_, ⟨x, y, d, e⟩⟩) ⟨g0, g1, g2, g3, g4⟩ hbx0 (by have := HB.out.size; omega)
                simp only at g0 g1 g2 g3 g4
                clear hbx0
                go_wp2_with fail
                refine (HCD.out _).mono ?_
                rintro r wx1 ⟨rfl, hbx1⟩
                have HBx1 := Hid.mk' (bel_next HBx0.out hbx1)
                obtain ⟨g0, g1, g2, g3, g4⟩ := Cells.below (t := ⟨_, ⟨x, y, d, e⟩⟩) ⟨g0, g1, g2, g3, g4⟩ hbx1 (by have := HBx0.out.size; omega)
                simp only at g0 g1 g2 g3 g4
                clear hbx1
                go_wp2
                go_roundw
                case rel => exact ⟨k + 1, _, by omega, by go_num, by first | rfl | (refine ba_eq ?_; simp; done) | (congr 1; apply ByteArray.ext; simp [ByteArray.data_append]; done), HQ, HBx1⟩
                case measure => simp [intOf]; omega
        · have hke : k = n := by omega
          subst hke
          have hnl : ¬ (k : Int) < (k : Int) := by omega
          have HRS := Hid.mk' (HR.out.trans HS.out.symm)
          go_wp2
          go_ret
          exact ⟨by rw [HRS.out]; rfl, HB.out⟩
end Go.Proofs.YtnfgiplgkobnlaaGreatDoor
namespace Go.Proofs.YtnfgiplgkobnlaaGreatDoor
open Go.RowKit
set_option linter.unusedVariables false
set_option linter.unusedSimpArgs false
def ctS (s : List UInt8) : List (List UInt8) := if s.length ≤ 400 then cutL s else []
theorem cut_len : ∀ s : List UInt8, (cutL s).length ≤ s.length + 1
  | [] => by simp [cutL]
  | c :: r => by
    have := cut_len r
    unfold cutL
    split
    · simp; omega
    · cases e : cutL r with
      | nil => exact absurd e (cut_ne r)
      | cons h t => rw [e] at this; simp [consH] at this ⊢; omega
theorem cut_mem_len : ∀ (s : List UInt8) (w : List UInt8), w ∈ cutL s → w.length ≤ s.length
  | [], w, h => by simp [cutL] at h; subst h; simp
  | c :: r, w, h => by
    unfold cutL at h
    split at h
    · rcases List.mem_cons.1 h with e | e
      · subst e; simp
      · have := cut_mem_len r w e; simp; omega
    · cases q : cutL r with
      | nil => exact absurd q (cut_ne r)
      | cons a t =>
        rw [q] at h
        rcases List.mem_cons.1 h with e | e
        · subst e
          have := cut_mem_len r a (by rw [q]; simp)
          simp; omega
        · have := cut_mem_len r w (by rw [q]; simp [e])
          simp; omega
theorem byte_back (c : UInt8) : UInt8.ofNat (((c.toNat : Int)) % 256).toNat = c := by
  have h : c.toNat < 256 := c.toNat_lt
  have e : ((c.toNat : Int) % 256).toNat = c.toNat := by omega
  rw [e]
  simp
theorem one_byte' (w : World) (c : UInt8) (t : TypeId) :
    (convert 22 9 (.slice (some ⟨w.heap.size, 0, none⟩) 1 1)).run Tryz.prog (w.alloc (Obj.cells #[.int .u8 (c.toNat : Int)] t)) = .ok (.string ⟨#[c]⟩) (w.alloc (Obj.cells #[.int .u8 (c.toNat : Int)] t)) := by
  have h : c.toNat < 256 := c.toNat_lt
  have := one_byte w (c.toNat : Int) t
  rw [byte_back, show ((c.toNat : Int)) % 256 = (c.toNat : Int) by omega] at this
  exact this
def CtI (w : World) (o : List (List UInt8)) (v : Value) (wr : World) : Prop := OwT w.heap.size v o wr ∧ Below w.heap.size w wr
set_option maxRecDepth 100000 in
set_option maxHeartbeats 4000000 in
theorem l3CutS (s : List UInt8) (hs : s.length ≤ 1048576) (w : World) :
    Calls Tryz.prog 27 #[.string ⟨s.toArray⟩] w fun r w' => ∃ g cp, r = .returned (.slice (some ⟨g, 0, none⟩) (ctS s).length cp) ∧ OwT w.heap.size (.slice (some ⟨g, 0, none⟩) (ctS s).length cp) (ctS s) w' ∧ Below w.heap.size w w' := by
  have hsI : (s.length : Int) ≤ 1048576 := by omega
  obtain ⟨i0, hi0, hz0, hz1, hz2⟩ := info_parts infoSt
  have HO0 := Hid.mk' (owt_none w w.heap.size (Nat.le_refl _))
  have HB0 := Hid.mk' (bel_one w (.cells #[] 9))
  by_cases hl : s.length ≤ 400
  · have hlI : ¬ (400 : Int) < (s.length : Int) := by omega
    have hlJ : (s.length : Int) ≤ 400 := by omega
    have HE : Hid (ctS s = cutL s) := by unfold ctS; rw [if_pos hl]; exact Hid.mk' rfl
    go_enter Tryz.func27, Tryz.ntmps27
    go_wp2
    go_loopw [5, 3, 4] (fun v5 v3 v4 wr => ∃ (k g cp n : Nat) (o : List (List UInt8)) (wd : List UInt8), k ≤ s.length ∧ n ≤ k ∧ v5 = .int .i64 (k : Int) ∧ v3 = .slice (some ⟨g, 0, none⟩) n cp ∧ v4 = .string ⟨wd.toArray⟩ ∧ wd.length ≤ k ∧ Hid (n = o.length ∧ cutL (s.take k) = o ++ [wd]) ∧ Hid (CtI w o (.slice (some ⟨g, 0, none⟩) n cp) wr)) (fun v5 _ _ _ => s.length - (intOf v5).toNat)
    case atStart => exact ⟨0, _, _, 0, [], [], Nat.zero_le _, Nat.le_refl _, rfl, rfl, rfl, Nat.le_refl _, Hid.mk' ⟨rfl, rfl⟩, Hid.mk' ⟨HO0.out, HB0.out⟩⟩
    case round =>
      obtain ⟨k, g, cp, n, o, wd, hk, hnk, rfl, rfl, rfl, hwd, HC, HI⟩ := hrel
      have hmax : n + 1 ≤ maxLen := by unfold maxLen; omega
      have hs0 := HI.out.2.size
      by_cases hkl : k < s.length
      · have hkI : (k : Int) < (s.length : Int) := by omega
        obtain ⟨c, hc⟩ : ∃ c, s[k]? = some c := ⟨_, List.getElem?_eq_getElem hkl⟩
        have hix := str_index hc
        have htk : s.take (k + 1) = s.take k ++ [c] := by
          rw [List.take_add_one, hc]; rfl
        by_cases hp : c = 43
        · subst hp
          have HC2 : Hid (cutL (s.take (k + 1)) = (o ++ [wd]) ++ [[]]) := by rw [htk, cut_plus, HC.out.2]; exact Hid.mk' rfl
          have HO4 := Hid.mk' (HI.out.1.alloc (.cells #[.string ⟨wd.toArray⟩] 9))
          have HB4 := Hid.mk' (HI.out.2.alloc hs0 (.cells #[.string ⟨wd.toArray⟩] 9))
          have HN := Hid.mk' (heap_alloc_new wr (.cells #[.string ⟨wd.toArray⟩] 9))
          clear hc htk
          have hix' : ∀ u : World, (Instr.index 9 (.string ⟨s.toArray⟩) (.int .i64 (k : Int))).run Tryz.prog u = .ok (.int .u8 43) u := fun u => hix u
          clear hix
          go_wp2_with (at_builtin; refine wpList_append_lies _ rfl (.tmp 21) (.tmp 23) 43 rfl w.heap.size 9 i0 _ 1 16 Tryz.underlying43 hi0 hz0 hz1 hz2 rfl (by omega) _ n (stL o) rfl (HC.out.1 ▸ HO4.out) ⟨wr.heap.size, 0, none⟩ 1 1 [.string ⟨wd.toArray⟩] rfl rfl (World.news_of_block HN.out) (one_st _) (by omega) hmax (by omega) (by simp; omega) _ rfl ?_; intro g1 cap1 w7 hown2 hgrow2 hat2 hlt2; have HO7 := Hid.mk' hown2; have HB7 := Hid.mk' (HB4.out.grown hgrow2 (by simp; omega) (fun k' e' => (HO4.out.lt k' e').1)); clear hown2 hgrow2 hat2 hlt2)
          go_roundw
          case rel => exact ⟨k + 1, g1, cap1, n + 1, o ++ [wd], [], by omega, by omega, by go_num, rfl, rfl, by simp, Hid.mk' ⟨by rw [HC.out.1]; simp, HC2.out⟩, Hid.mk' ⟨by
            have := HO7.out
            show World.ownsRow _ _ _ _ _ _ _
            rw [stL_app, List.length_append, ← HC.out.1]; exact this, HB7.out⟩⟩
          case measure => simp [intOf]; omega
        · have HC2 : Hid (cutL (s.take (k + 1)) = o ++ [wd ++ [c]]) := by rw [htk, cut_more hp, HC.out.2, snocH_app]; exact Hid.mk' rfl
          have hcv := one_byte' wr c 5
          have HB4 := Hid.mk' (HI.out.2.alloc hs0 (.cells #[.int .u8 (c.toNat : Int)] 5))
          have HO4 := Hid.mk' (HI.out.1.alloc (.cells #[.int .u8 (c.toNat : Int)] 5))
          have hp43 : (c.toNat : Int) ≠ 43 := fun e => hp (by
            apply UInt8.toNat_inj.1
            have : c.toNat = 43 := by omega
            rw [this]; rfl)
          have hpb : ((c.toNat : Int) == 43) = false := beq_eq_false_iff_ne.2 hp43
          have hsz : ¬ (9223372036854775807 < wd.length + 1) := by omega
          clear hc htk hp hp43
          go_wp2
          go_roundw
          case rel => exact ⟨k + 1, g, cp, n, o, wd ++ [c], by omega, by omega, by go_num, rfl, by first | rfl | exact congrArg Value.string (ba_cat1 wd c) | (simp; exact ba_cat1 wd c), by simp; omega, Hid.mk' ⟨HC.out.1, HC2.out⟩, Hid.mk' ⟨HO4.out, HB4.out⟩⟩
          case measure => simp [intOf]; omega
      · have hke : k = s.length := by omega
        have hnl : ¬ (k : Int) < (s.length : Int) := by omega
        have HCE : Hid (ctS s = o ++ [wd]) := by
          rw [HE.out]
          have := HC.out.2
          rw [hke, List.take_length] at this
          exact Hid.mk' this
        clear hke
        have HO4 := Hid.mk' (HI.out.1.alloc (.cells #[.string ⟨wd.toArray⟩] 9))
        have HB4 := Hid.mk' (HI.out.2.alloc hs0 (.cells #[.string ⟨wd.toArray⟩] 9))
        have HN := Hid.mk' (heap_alloc_new wr (.cells #[.string ⟨wd.toArray⟩] 9))
        go_wp2_with (at_builtin; refine wpList_append_lies _ rfl (.tmp 32) (.tmp 34) 43 rfl w.heap.size 9 i0 _ 1 16 Tryz.underlying43 hi0 hz0 hz1 hz2 rfl (by omega) _ n (stL o) rfl (HC.out.1 ▸ HO4.out) ⟨wr.heap.size, 0, none⟩ 1 1 [.string ⟨wd.toArray⟩] rfl rfl (World.news_of_block HN.out) (one_st _) (by omega) hmax (by omega) (by simp; omega) _ rfl ?_; intro g1 cap1 w7 hown2 hgrow2 hat2 hlt2; have HO7 := Hid.mk' hown2; have HB7 := Hid.mk' (HB4.out.grown hgrow2 (by simp; omega) (fun k' e' => (HO4.out.lt k' e').1)); clear hown2 hgrow2 hat2 hlt2)
        go_ret
        have hn1 : n + 1 = (ctS s).length := by rw [HCE.out]; simp [HC.out.1]
        refine ⟨g1, cap1, by rw [hn1]; rfl, ?_, HB7.out⟩
        have := HO7.out
        show World.ownsRow _ _ _ _ _ _ _
        rw [← hn1, HCE.out, stL_app]
        exact this
  · have hlI : (400 : Int) < (s.length : Int) := by omega
    have HE : Hid (ctS s = []) := by unfold ctS; rw [if_neg hl]; exact Hid.mk' rfl
    clear hl
    go_enter Tryz.func27, Tryz.ntmps27
    go_wp2
    go_ret
    exact ⟨_, 0, by rw [HE.out]; rfl, by rw [HE.out]; exact HO0.out, HB0.out⟩
end Go.Proofs.YtnfgiplgkobnlaaGreatDoor
namespace Go.Proofs.YtnfgiplgkobnlaaGreatDoor
open Go.RowKit
set_option linter.unusedVariables false
set_option linter.unusedSimpArgs false
theorem ctS_wT {s : List UInt8} (h : s.length ≤ 400) : (ctS s).map trmR = wT s := by unfold ctS wT; rw [if_pos h]
theorem ctS_bd (s : List UInt8) : (ctS s).length ≤ 401 := by
  unfold ctS
  split
  · have := cut_len s; omega
  · simp
theorem ctS_mem {s : List UInt8} {i : Nat} {l : List UInt8} (h : (ctS s)[i]? = some l) : l.length ≤ 400 := by
  unfold ctS at h
  split at h
  · have := cut_mem_len s l (List.mem_of_getElem? h); omega
  · simp at h
def PrI (w1 : World) (ts : List T) (v : Value) (wr : World) : Prop := wr.ownsRow w1.heap.size 45 5 v ts.length (cellsL ts) ∧ Below w1.heap.size w1 wr
theorem out_nil (w : World) (lo : Nat) (h : lo ≤ w.heap.size) : Out lo (w.alloc (.cells #[] 45)) (some ⟨w.heap.size, 0, none⟩) 0 [] := by
  obtain ⟨a, cap, e, ho⟩ := out_of_owns (L := []) (owns_none w lo h) (by simp)
  cases e
  exact ho
set_option maxRecDepth 100000 in
set_option maxHeartbeats 8000000 in
theorem polReadS (s : List UInt8) (hs : s.length ≤ 1048576) (w : World) :
    Calls Tryz.prog 9 #[.string ⟨s.toArray⟩] w fun r w' => ∃ a cap, r = .returned (.tuple #[.slice a (polR s).1.length cap, .bool (polR s).2]) ∧ Below w.heap.size w w' ∧ Out w.heap.size w' a cap (polR s).1 := by
  have hsI : (s.length : Int) ≤ 1048576 := by omega
  obtain ⟨i0, hi0, hz0, hz1, hz2⟩ := info_parts infoT
  by_cases h0 : s = [48]
  · subst h0
    rw [polR_zero]
    have HO := Hid.mk' (out_nil w w.heap.size (Nat.le_refl _))
    have HB := Hid.mk' (bel_one w (.cells #[] 45))
    go_enter Tryz.func9, Tryz.ntmps9
    go_wp2
    go_ret2
    exact ⟨_, _, rfl, HB.out, HO.out⟩
  · have h0b : (s == [48]) = false := beq_eq_false_iff_ne.2 h0
    have HC := Hid.mk' (l3CutS s hs w)
    have hbd := ctS_bd s
    have HM : Hid (∀ (i : Nat) (l : List UInt8), (ctS s)[i]? = some l → l.length ≤ 400) := Hid.mk' (fun i l h => ctS_mem h)
    have HCW : Hid (s.length ≤ 400 → (ctS s).map trmR = wT s) := Hid.mk' ctS_wT
    have HCZ : Hid (¬ s.length ≤ 400 → (ctS s) = []) := Hid.mk' (fun h => by unfold ctS; rw [if_neg h])
    obtain ⟨W, hW⟩ : ∃ W, ctS s = W := ⟨_, rfl⟩
    rw [hW] at HC hbd HM HCW HCZ
    obtain ⟨N, hN⟩ : ∃ N, W.length = N := ⟨_, rfl⟩
    rw [hN] at HC hbd
    have HH0 := Hid.mk' h0
    have HN := Hid.mk' hN
    obtain ⟨Rr, hRr⟩ : ∃ R, polR s = R := ⟨_, rfl⟩
    have HRR := Hid.mk' hRr
    rw [hRr]
    clear hW hN h0 hRr
    go_enter Tryz.func9, Tryz.ntmps9
    go_wp2_with fail
    refine HC.out.mono ?_
    rintro r w1 ⟨g, cp, rfl, how, hb1⟩
    have HOW := Hid.mk' how
    have HB1 := Hid.mk' hb1
    have hs1 := hb1.size
    have HI0 : Hid (PrI w1 [] (.slice (some ⟨w1.heap.size, 0, none⟩) 0 0) (w1.alloc (.cells #[] 45))) := ⟨owns_none w1 _ (Nat.le_refl _), bel_one w1 _⟩
    clear how hb1 HC
    go_wp2
    go_loopw [6, 5] (fun v6 v5 wr => ∃ (k g5 cp5 : Nat) (ts : List T), k ≤ N ∧ v6 = .int .i64 (k : Int) ∧ v5 = .slice (some ⟨g5, 0, none⟩) k cp5 ∧ Hid (ts.length = k ∧ ts = (W.take k).map trmR) ∧ Hid (PrI w1 ts (.slice (some ⟨g5, 0, none⟩) k cp5) wr)) (fun v6 _ _ => N - (intOf v6).toNat)
    case atStart => exact ⟨0, _, _, [], Nat.zero_le _, rfl, rfl, Hid.mk' ⟨rfl, rfl⟩, HI0⟩
    case round =>
      obtain ⟨k, g5, cp5, ts, hk, rfl, rfl, HT, HI⟩ := hrel
      have hs5 := HI.out.2.size
      by_cases hkl : k < N
      · have hkI : (k : Int) < (N : Int) := by omega
        obtain ⟨l, hl⟩ : ∃ l, W[k]? = some l := ⟨_, List.getElem?_eq_getElem (by rw [HN.out]; exact hkl)⟩
        have hll := HM.out k l hl
        have hcl := owt_cell (owns_below HOW.out HI.out.2) hl
        have htk : (W.take (k + 1)).map trmR = ts ++ [trmR l] := by
          rw [List.take_add_one, hl, HT.out.2]; simp
        have HTK := Hid.mk' htk
        obtain ⟨t, ht⟩ : ∃ t, trmR l = t := ⟨_, rfl⟩
        have HCT := Hid.mk' (l3TermS l (by omega) wr)
        rw [ht] at HCT HTK
        clear ht htk hl
        have hmax : k + 1 ≤ maxLen := by unfold maxLen; omega
        go_wp2_with fail
        refine HCT.out.mono ?_
        rintro r w3 ⟨rfl, hb3⟩
        have hO3 := owns_below HI.out.1 hb3
        have hB3 := bel_next HI.out.2 hb3
        have hs3 : w1.heap.size ≤ w3.heap.size := hB3.size
        have HO4 := Hid.mk' (hO3.alloc (.cells #[.int .i64 t.c, .int .i64 t.m.x, .int .i64 t.m.y, .int .i64 t.m.d, .int .i64 t.m.e] 45))
        have HB4 := Hid.mk' (hB3.alloc hs3 (.cells #[.int .i64 t.c, .int .i64 t.m.x, .int .i64 t.m.y, .int .i64 t.m.d, .int .i64 t.m.e] 45))
        have HNW := Hid.mk' (heap_alloc_new w3 (.cells #[.int .i64 t.c, .int .i64 t.m.x, .int .i64 t.m.y, .int .i64 t.m.d, .int .i64 t.m.e] 45))
        clear hb3 hO3 hB3 HCT hcl
        go_wp2_with (at_builtin; refine wpList_append_lies _ rfl (.tmp 19) (.tmp 25) 23 rfl w1.heap.size 45 i0 _ 5 40 Tryz.underlying23 hi0 hz0 hz1 hz2 rfl (by omega) _ k (cellsL ts) rfl (HT.out.1 ▸ HO4.out) ⟨w3.heap.size, 0, none⟩ 1 1 (cellsL [t]) rfl (by rw [cellsL_length]; rfl) (by rw [cellsL_one]; exact World.news_of_block HNW.out) (one_cells _) (by omega) hmax (by omega) (by simp; omega) _ rfl ?_; intro g1 cap1 w7 hown2 hgrow2 hat2 hlt2; have HO7 := Hid.mk' hown2; have HB7 := Hid.mk' (HB4.out.grown hgrow2 (by simp; omega) (fun k' e' => (HO4.out.lt k' e').1)); clear hown2 hgrow2 hat2 hlt2)
        go_roundw
        case rel => exact ⟨k + 1, g1, cap1, ts ++ [t], by omega, by go_num, rfl, Hid.mk' ⟨by simp [HT.out.1], HTK.out.symm⟩, Hid.mk' ⟨by
          have := HO7.out
          show World.ownsRow _ _ _ _ _ _ _
          rw [cellsL_append, List.length_append, HT.out.1]; exact this, HB7.out⟩⟩
        case measure => simp [intOf]; omega
      · have hke : k = N := by omega
        have hnl : ¬ (k : Int) < (N : Int) := by omega
        have HTE : Hid (ts = W.map trmR) := by
          have := HT.out.2
          rw [hke, ← HN.out, List.take_length] at this
          exact Hid.mk' this
        have HKL : Hid (ts.length = k) := Hid.mk' HT.out.1
        clear hke HT
        have HBw := Hid.mk' (bel_next HB1.out HI.out.2)
        by_cases hk0 : k = 0
        · have HZ : Hid (Rr = ([], false)) := by
            rw [← HRR.out]
            refine Hid.mk' (polR_no HH0.out (fun q => ?_))
            have e1 := HTE.out
            rw [HCW.out q.1] at e1
            have e2 := wT_len s
            rw [← e1, HKL.out, hk0] at e2
            exact cut_ne s (List.length_eq_zero_iff.1 e2.symm)
          have hk0b : ((k : Int) == 0) = true := by rw [hk0]; rfl
          have HOo := Hid.mk' (out_nil wr w.heap.size HBw.out.size)
          have HBo := Hid.mk' (HBw.out.alloc HBw.out.size (.cells #[] 45))
          clear hk0
          go_wp2
          go_ret2
          exact ⟨_, _, by rw [HZ.out]; rfl, HBo.out, by rw [HZ.out]; exact HOo.out⟩
        · have hk0b : ((k : Int) == 0) = false := beq_eq_false_iff_ne.2 (by omega)
          have HL4 : Hid (s.length ≤ 400) := Hid.mk' <| Decidable.byContradiction fun q => hk0 (by
            have := HTE.out
            rw [HCZ.out q] at this
            rw [← HKL.out, this]; rfl)
          have HTW : Hid (ts = wT s) := by rw [HTE.out]; exact Hid.mk' (HCW.out HL4.out)
          obtain ⟨a5, c5, hv5, hout⟩ := out_of_owns (owns_lower HI.out.1 hs1) (by rw [HKL.out]; omega)
          rw [HKL.out] at hv5
          cases hv5
          have HOUT := Hid.mk' hout
          have hrd := hout.1
          rw [HKL.out] at hrd
          have HRD := Hid.mk' hrd
          obtain ⟨ok, hok⟩ : ∃ b, polOk k (lf ts) = b := ⟨_, rfl⟩
          have HOKC := Hid.mk' (polOkS wr _ _ _ _ hrd)
          rw [hok] at HOKC
          have HOK := Hid.mk' hok
          clear hout hrd hok
          go_wp2_with fail
          refine HOKC.out.mono ?_
          rintro r w4 ⟨rfl, hb4⟩
          have HB4 := Hid.mk' (bel_next HBw.out hb4)
          have HOUT4 := Hid.mk' (HOUT.out.below hb4)
          have HRD4 := Hid.mk' (HRD.out.below hb4)
          clear hb4 HOKC
          cases ok
          · have HZ : Hid (Rr = ([], false)) := by
              rw [← HRR.out]
              refine Hid.mk' (polR_no HH0.out (fun q => ?_))
              have e1 := q.2.1
              rw [← HTW.out, HKL.out, HOK.out] at e1
              cases e1
            have HOo := Hid.mk' (out_nil w4 w.heap.size HB4.out.size)
            have HBo := Hid.mk' (HB4.out.alloc HB4.out.size (.cells #[] 45))
            go_wp2
            go_ret2
            exact ⟨_, _, by rw [HZ.out]; rfl, HBo.out, by rw [HZ.out]; exact HOo.out⟩
          · obtain ⟨S, hS⟩ : ∃ S, polT k (lf ts) = S := ⟨_, rfl⟩
            have HTC := Hid.mk' (polTextS w4 _ _ _ _ HRD4.out)
            rw [hS] at HTC
            have HS := Hid.mk' hS
            clear hS
            go_wp2_with fail
            refine HTC.out.mono ?_
            rintro r w5 ⟨rfl, hb5⟩
            have HB5 := Hid.mk' (bel_next HB4.out hb5)
            have HOUT5 := Hid.mk' (HOUT4.out.below hb5)
            clear hb5 HTC
            by_cases q : S = s
            · have HZ : Hid (Rr = (ts, true)) := by
                rw [← HRR.out]
                have e1 := polR_yes HH0.out HL4.out (by rw [← HTW.out, HKL.out]; exact HOK.out) (by rw [← HTW.out, HKL.out, HS.out]; exact q)
                rw [← HTW.out] at e1
                exact Hid.mk' e1
              clear HS HM HCW HCZ HN HTE HTW HRR
              subst q
              go_wp2
              go_ret2
              exact ⟨_, _, by rw [HZ.out, HKL.out]; rfl, HB5.out, by rw [HZ.out]; exact HOUT5.out⟩
            · have HZ : Hid (Rr = ([], false)) := by
                rw [← HRR.out]
                refine Hid.mk' (polR_no HH0.out (fun z => q ?_))
                have e1 := z.2.2
                rw [← HTW.out, HKL.out, HS.out] at e1
                exact e1
              have q1 : (S == s) = false := beq_eq_false_iff_ne.2 q
              have HOo := Hid.mk' (out_nil w5 w.heap.size HB5.out.size)
              have HBo := Hid.mk' (HB5.out.alloc HB5.out.size (.cells #[] 45))
              clear HS q
              go_wp2
              go_ret2
              exact ⟨_, _, by rw [HZ.out]; rfl, HBo.out, by rw [HZ.out]; exact HOo.out⟩
end Go.Proofs.YtnfgiplgkobnlaaGreatDoor
