/-
  The program reads a term (polTermRead): the walk.
-/
import Derived.Test.YtnfgiplgkobnlaaDoorRdP
import Derived.Deep.RegionHeld3
namespace Go.Proofs.YtnfgiplgkobnlaaDoor
open Go.Shelf Go.RowKit
set_option linter.unusedVariables false
set_option linter.unusedSimpArgs false
abbrev C5 (u : World) (b : Nat) (c x y d e : Int) : Prop := u.cell? ⟨b, 0, none⟩ = some (.int .i64 c) ∧ u.cell? ⟨b, 1, none⟩ = some (.int .i64 x) ∧ u.cell? ⟨b, 2, none⟩ = some (.int .i64 y) ∧ u.cell? ⟨b, 3, none⟩ = some (.int .i64 d) ∧ u.cell? ⟨b, 4, none⟩ = some (.int .i64 e)
/-- both boxes of a term's reading. -/
def RT (w : World) (wr : World) (t : T) : Prop := Below w.heap.size w wr ∧ W5 wr w.heap.size 0 0 0 0 0 ∧ W5 wr (w.heap.size + 1) t.c t.m.x t.m.y t.m.d t.m.e
theorem RT.below {w wr w' : World} {t : T} (h : RT w wr t) (hb : Below wr.heap.size wr w') : RT w w' t := ⟨bel_next h.1 hb, h.2.1.below hb, h.2.2.below hb⟩
theorem rt_new (w : World) : RT w ((w.alloc (.cells #[.int .i64 0, .int .i64 0, .int .i64 0, .int .i64 0, .int .i64 0] 65)).alloc (.cells #[.int .i64 1, .int .i64 0, .int .i64 0, .int .i64 0, .int .i64 0] 65)) ⟨1, ⟨0, 0, 0, 0⟩⟩ := by
  refine ⟨bel_next (bel_one w _) (bel_one _ _), (W5.box w 65 0 0 0 0 0).below (bel_one _ _), ?_⟩
  have := W5.box (w.alloc (.cells #[.int .i64 0, .int .i64 0, .int .i64 0, .int .i64 0, .int .i64 0] 65)) 65 1 0 0 0 0
  rw [World.size_alloc] at this
  exact this
theorem RT.setC {w wr : World} {t : T} (h : RT w wr t) (c : Int) : RT w (wr.setCell ⟨w.heap.size + 1, 0, none⟩ (.int .i64 c)) ⟨c, t.m⟩ := ⟨h.1.setCell (by simp) _, h.2.1.other (by omega) _, h.2.2.set0 c⟩
theorem RT.setM {w wr : World} {t : T} (h : RT w wr t) (x y d e : Int) : RT w ((((wr.setCell ⟨w.heap.size + 1, 1, none⟩ (.int .i64 x)).setCell ⟨w.heap.size + 1, 2, none⟩ (.int .i64 y)).setCell ⟨w.heap.size + 1, 3, none⟩ (.int .i64 d)).setCell ⟨w.heap.size + 1, 4, none⟩ (.int .i64 e)) ⟨t.c, ⟨x, y, d, e⟩⟩ :=
  ⟨(((h.1.setCell (by simp) _).setCell (by simp) _).setCell (by simp) _).setCell (by simp) _, (((h.2.1.other (by omega) _).other (by omega) _).other (by omega) _).other (by omega) _, (((h.2.2.set1 x).set2 y).set3 d).set4 e⟩
def PtrPost (w : World) (s : List UInt8) (r : Ending) (w' : World) : Prop := r = .returned (.tuple #[.agg #[.int .i64 (trmP s).1.c, .int .i64 (trmP s).1.m.x, .int .i64 (trmP s).1.m.y, .int .i64 (trmP s).1.m.d, .int .i64 (trmP s).1.m.e], .bool (trmP s).2]) ∧ Below w.heap.size w w'
theorem c5_set {u : World} {b b' : Nat} {c x y d e : Int} (h : C5 u b c x y d e) (hn : b' ≠ b) (v0 v1 v2 v3 v4 : Value) : C5 (((((u.setCell ⟨b', 0, none⟩ v0).setCell ⟨b', 1, none⟩ v1).setCell ⟨b', 2, none⟩ v2).setCell ⟨b', 3, none⟩ v3).setCell ⟨b', 4, none⟩ v4) b c x y d e := by
  have ne : ∀ i j, (⟨b', i, none⟩ : Addr) ≠ ⟨b, j, none⟩ := fun i j q => hn (by cases q; rfl)
  refine ⟨?_, ?_, ?_, ?_, ?_⟩
  all_goals (rw [World.cell?_setCell_other _ _ _ _ (ne _ _), World.cell?_setCell_other _ _ _ _ (ne _ _), World.cell?_setCell_other _ _ _ _ (ne _ _), World.cell?_setCell_other _ _ _ _ (ne _ _), World.cell?_setCell_other _ _ _ _ (ne _ _)])
  · exact h.1
  · exact h.2.1
  · exact h.2.2.1
  · exact h.2.2.2.1
  · exact h.2.2.2.2
theorem c5_below {u u' : World} {n b : Nat} {c x y d e : Int} (h : C5 u b c x y d e) (hb : Below n u u') (hn : b < n) : C5 u' b c x y d e :=
  ⟨(hb.cell (p := ⟨b, 0, none⟩) hn).trans h.1, (hb.cell (p := ⟨b, 1, none⟩) hn).trans h.2.1, (hb.cell (p := ⟨b, 2, none⟩) hn).trans h.2.2.1, (hb.cell (p := ⟨b, 3, none⟩) hn).trans h.2.2.2.1, (hb.cell (p := ⟨b, 4, none⟩) hn).trans h.2.2.2.2⟩
theorem bel_of_drew {n : Nat} {u w' : World} (h : Below n u.drew w') : Below n u w' := ⟨h.os, h.tape, h.output, h.size, h.block⟩
theorem c5_drew {u : World} {b : Nat} {c x y d e : Int} (h : C5 u b c x y d e) : C5 u.drew b c x y d e := h
set_option maxRecDepth 100000 in
set_option maxHeartbeats 8000000 in
theorem polTermReadI (s : List UInt8) (hs : s.length ≤ 400) (w : World) (hE : Er w) (hT : Tb w) :
    Calls Tryd.prog 46 #[.string ⟨s.toArray⟩] w (PtrPost w s) := by
  have HE := Hid.mk' hE
  have HT := Hid.mk' hT
  obtain ⟨d, hd⟩ : ∃ d, lead s = d := ⟨_, rfl⟩
  have hdl : d.length ≤ s.length := by rw [← hd]; exact lead_len s
  have hdI : (d.length : Int) ≤ 400 := by omega
  obtain ⟨rs, hrs⟩ : ∃ r, s.drop d.length = r := ⟨_, rfl⟩
  have hrl : rs.length ≤ 400 := by rw [← hrs]; simp; omega
  have hDD : ∀ c ∈ d, isD c = true := by rw [← hd]; exact lead_isD s
  have HR0 := Hid.mk' (rt_new w)
  have hC := leadI s (by omega) (w.alloc (.cells #[.int .i64 0, .int .i64 0, .int .i64 0, .int .i64 0, .int .i64 0] 65))
  rw [hd] at hC
  have HLC := Hid.mk' hC
  have hfr := fun u => str_from (l := s) (k := d.length) hdl u
  rw [hrs] at hfr
  have HNC : Hid (cRd d = none → trmP s = (⟨0, ⟨0, 0, 0, 0⟩⟩, false)) := Hid.mk' (fun h => trmP_noC (by rw [hd]; exact h))
  have HNM : Hid (∀ c, cRd d = some c → mRd rs = none → trmP s = (⟨0, ⟨0, 0, 0, 0⟩⟩, false)) := Hid.mk' (fun c h h2 => trmP_noM (by rw [hd]; exact h) (by rw [hd, hrs]; exact h2))
  have HIS : Hid (∀ c m, cRd d = some c → mRd rs = some m → trmP s = (⟨c, m⟩, decide (trmT ⟨c, m⟩ = s))) := Hid.mk' (fun c m h h2 => trmP_is (by rw [hd]; exact h) (by rw [hd, hrs]; exact h2))
  clear hC hd hrs hE hT
  obtain ⟨PS, hPS⟩ : ∃ Q : Ending → World → Prop, PtrPost w s = Q := ⟨_, rfl⟩
  have HPN : Hid (trmP s = (⟨0, ⟨0, 0, 0, 0⟩⟩, false) → ∀ w', Below w.heap.size w w' → PS (.returned (.tuple #[.agg #[.int .i64 0, .int .i64 0, .int .i64 0, .int .i64 0, .int .i64 0], .bool false])) w') := by
    rw [← hPS]
    exact Hid.mk' (fun h w' hb => ⟨by rw [h], hb⟩)
  have HPY : Hid (∀ c x y d e b, trmP s = (⟨c, ⟨x, y, d, e⟩⟩, b) → ∀ w', Below w.heap.size w w' → PS (.returned (.tuple #[.agg #[.int .i64 c, .int .i64 x, .int .i64 y, .int .i64 d, .int .i64 e], .bool b])) w') := by
    rw [← hPS]
    exact Hid.mk' (fun c x y d e b h w' hb => ⟨by rw [h], hb⟩)
  rw [hPS]
  clear hPS
  go_enter Tryd.func46, Tryd.ntmps46
  go_wp2_with fail
  refine HLC.out.mono ?_
  rintro r w1 ⟨rfl, hw1⟩
  obtain rfl := hw1.symm
  clear hw1
  by_cases hd0 : d = []
  · have hde : d.isEmpty = true := by rw [hd0]; rfl
    have HCC : Hid (cRd d = some ((1 : Nat) : Int)) := by rw [hd0]; exact Hid.mk' rfl
    clear hd0 hDD HLC
    by_cases hr0 : rs = []
    · have hre : rs.isEmpty = true := by rw [hr0]; rfl
      have HMM : Hid (mRd rs = some ⟨0, 0, 0, 0⟩) := by rw [hr0]; exact Hid.mk' rfl
      clear hr0
      have HR1 := HR0
      go_wp2_with fail
      clear HR0
      generalize ((w.alloc (.cells #[.int .i64 0, .int .i64 0, .int .i64 0, .int .i64 0, .int .i64 0] 65)).alloc (.cells #[.int .i64 1, .int .i64 0, .int .i64 0, .int .i64 0, .int .i64 0] 65)) = wa at HR1 ⊢
      have HPT : Hid (∀ u : World, Tb u → _) := Hid.mk' (fun u (hu : Tb u) => polTermTextI 1 (by omega) 0 0 0 0 (by decide) u hu)
      obtain ⟨S, hS⟩ : ∃ S, trmT ⟨((1 : Nat) : Int), ⟨0, 0, 0, 0⟩⟩ = S := ⟨_, rfl⟩
      have HPT2 : Hid (∀ u : World, Tb u → Calls Tryd.prog 41 #[.agg #[.int .i64 ((1 : Nat) : Int), .int .i64 0, .int .i64 0, .int .i64 0, .int .i64 0]] u fun r w' => r = .returned (.string ⟨S.toArray⟩) ∧ Below u.heap.size u w') := by rw [← hS]; exact HPT
      have HIF : Hid (trmP s = (⟨((1 : Nat) : Int), ⟨0, 0, 0, 0⟩⟩, decide (S = s))) := by rw [← hS]; exact Hid.mk' (HIS.out _ _ HCC.out HMM.out)
      clear hS HPT
      obtain ⟨⟨x0, x1, x2, x3, x4⟩, xz⟩ := HR1.out.2.2
      have hSC : C5 wa (w.heap.size + 1) ((1 : Nat) : Int) 0 0 0 0 := ⟨x0, x1, x2, x3, x4⟩
      have HSC := Hid.mk' hSC
      have HBE := Hid.mk' HR1.out.1
      have HTE := Hid.mk' (HT.out.below HR1.out.1)
      have HTZ := Hid.mk' HR1.out.2.1
      have HLT := Hid.mk' HR1.out.2.2.lt
      have hn1 : w.heap.size ≠ w.heap.size + 1 := by omega
      clear x0 x1 x2 x3 x4 xz hSC
      by_cases q : S = s
      · have HPF := Hid.mk' (HPY.out _ _ _ _ _ _ HIF.out)
        rw [decide_eq_true q] at HPF
        clear HIF HIS HNM HNC HPN HPY HCC HMM
        subst q
        obtain ⟨⟨r0, r1, r2, r3, r4⟩, rz⟩ := HTZ.out
        go_region_held3 (fun u => C5 u (w.heap.size + 1) ((1 : Nat) : Int) 0 0 0 0) (first | with_reducible exact HSC.out | with_reducible exact c5_drew HSC.out | with_reducible exact HC7.out | with_reducible exact c5_drew HC7.out | with_reducible exact c5_set HC7.out hn1 _ _ _ _ _ | with_reducible exact c5_drew (c5_set HC7.out hn1 _ _ _ _ _)) (first | (go_at_call 41; refine (HPT2.out _ ?_).mono ?_; (first | with_reducible exact HTE.out | with_reducible exact HTE.out.below (Below.refl _ _).drew); rintro r w7 ⟨rfl, hb7⟩; have HB7 := Hid.mk' hb7; have HZ7 := Hid.mk' (HTZ.out.below (bel_of_drew hb7)); have HC7 := Hid.mk' (c5_below HSC.out (bel_of_drew hb7) HLT.out); obtain ⟨⟨r0, r1, r2, r3, r4⟩, rz⟩ := HZ7.out; clear hb7))
        go_wp2
        refine bodyPost_ret (v := .tuple #[.agg #[.int .i64 ((1 : Nat) : Int), .int .i64 0, .int .i64 0, .int .i64 0, .int .i64 0], .bool true]) (by simp [results, Tryd.results46, go_sem, *]) rfl (HPF.out _ ?_)
        first | exact bel_s5 (bel_next HBE.out (bel_of_drew HB7.out)) (Nat.le_refl _) _ _ _ _ _ | exact (bel_s5 (bel_next HBE.out (bel_of_drew HB7.out)) (Nat.le_refl _) _ _ _ _ _).drew
      · have HPF := Hid.mk' (HPY.out _ _ _ _ _ _ HIF.out)
        rw [decide_eq_false q] at HPF
        have q1 : (S == s) = false := beq_eq_false_iff_ne.2 q
        clear HIF q HIS HNM HNC HPN HPY HCC HMM
        obtain ⟨⟨r0, r1, r2, r3, r4⟩, rz⟩ := HTZ.out
        go_region_held3 (fun u => C5 u (w.heap.size + 1) ((1 : Nat) : Int) 0 0 0 0) (first | with_reducible exact HSC.out | with_reducible exact c5_drew HSC.out | with_reducible exact HC7.out | with_reducible exact c5_drew HC7.out | with_reducible exact c5_set HC7.out hn1 _ _ _ _ _ | with_reducible exact c5_drew (c5_set HC7.out hn1 _ _ _ _ _)) (first | (go_at_call 41; refine (HPT2.out _ ?_).mono ?_; (first | with_reducible exact HTE.out | with_reducible exact HTE.out.below (Below.refl _ _).drew); rintro r w7 ⟨rfl, hb7⟩; have HB7 := Hid.mk' hb7; have HZ7 := Hid.mk' (HTZ.out.below (bel_of_drew hb7)); have HC7 := Hid.mk' (c5_below HSC.out (bel_of_drew hb7) HLT.out); obtain ⟨⟨r0, r1, r2, r3, r4⟩, rz⟩ := HZ7.out; clear hb7))
        go_wp2
        refine bodyPost_ret (v := .tuple #[.agg #[.int .i64 ((1 : Nat) : Int), .int .i64 0, .int .i64 0, .int .i64 0, .int .i64 0], .bool false]) (by simp [results, Tryd.results46, go_sem, *]) rfl (HPF.out _ ?_)
        first | exact bel_s5 (bel_next HBE.out (bel_of_drew HB7.out)) (Nat.le_refl _) _ _ _ _ _ | exact (bel_s5 (bel_next HBE.out (bel_of_drew HB7.out)) (Nat.le_refl _) _ _ _ _ _).drew
    · have hre : rs.isEmpty = false := by cases rs <;> simp at hr0 ⊢
      have HMR := Hid.mk' (fun (u : World) (hu : Er u) => monReadI rs u (by omega) hu)
      obtain ⟨m, ok, hmr⟩ : ∃ m ok, monR rs = (m, ok) := ⟨_, _, rfl⟩
      rw [hmr] at HMR
      have hMN : ok = false → mRd rs = none := fun h => by unfold mRd; rw [if_neg hr0, hmr, h]; rfl
      have hMY : ok = true → mRd rs = some m := fun h => by unfold mRd; rw [if_neg hr0, hmr, h]; rfl
      have HMN := Hid.mk' hMN
      have HMY := Hid.mk' hMY
      clear hr0 hmr hMN hMY
      obtain ⟨x, y, d0, e⟩ := m
      have HR1 := HR0
      go_wp2_with fail
      clear HR0
      generalize ((w.alloc (.cells #[.int .i64 0, .int .i64 0, .int .i64 0, .int .i64 0, .int .i64 0] 65)).alloc (.cells #[.int .i64 1, .int .i64 0, .int .i64 0, .int .i64 0, .int .i64 0] 65)) = wa at HR1 ⊢
      refine (HMR.out wa (HE.out.below HR1.out.1)).mono ?_
      rintro r w3 ⟨rfl, hb3⟩
      have HRw := Hid.mk' (HR1.out.below hb3)
      have HRm := Hid.mk' (HRw.out.below (bel_one w3 (.cells #[.int .i64 x, .int .i64 y, .int .i64 d0, .int .i64 e] 24)))
      have hlt3 : w.heap.size + 1 < w3.heap.size := HRw.out.2.2.lt
      have hne3 : w3.heap.size ≠ w.heap.size + 1 := by omega
      have hne4 : w.heap.size + 1 ≠ w3.heap.size := by omega
      have hne5 : w3.heap.size ≠ w.heap.size := by omega
      have hne6 : w.heap.size ≠ w3.heap.size := by omega
      clear hb3 HMR
      cases ok
      · have HNZ := Hid.mk' (HMN.out rfl)
        obtain ⟨⟨s0, s1, s2, s3, s4⟩, sz⟩ := HRw.out.2.1
        have HBW := Hid.mk' HRw.out.1
        obtain ⟨⟨r0, r1, r2, r3, r4⟩, rz⟩ := HRm.out.2.1
        have HPF := Hid.mk' (HPN.out (HNM.out _ HCC.out HNZ.out))
        have HBE := Hid.mk' HRm.out.1
        clear HNC HNM HIS HPN HPY
        go_wp2
        refine bodyPost_ret (v := .tuple #[.agg #[.int .i64 0, .int .i64 0, .int .i64 0, .int .i64 0, .int .i64 0], .bool false]) (by simp [results, Tryd.results46, go_sem, *]) rfl (HPF.out _ ?_)
        first | exact HBE.out | exact bel_s5 HBE.out (Nat.le_refl _) _ _ _ _ _ | exact (bel_s5 HBW.out (Nat.le_refl _) _ _ _ _ _).alloc (bel_s5 HBW.out (Nat.le_refl _) _ _ _ _ _).size _
      · have HMM := Hid.mk' (HMY.out rfl)
        have HMO := Hid.mk' (mRd_ok HMM.out)
        have HR4 := Hid.mk' (HRm.out.setM x y d0 e)
        obtain ⟨⟨x0, x1, x2, x3, x4⟩, xz⟩ := HRw.out.2.2
        go_wp2_with fail
        clear x0 x1 x2 x3 x4 xz HRm HRw HMN HMY
        have eW : (((((w3.setCell ⟨w.heap.size + 1, 1, none⟩ (.int .i64 x)).setCell ⟨w.heap.size + 1, 2, none⟩ (.int .i64 y)).setCell ⟨w.heap.size + 1, 3, none⟩ (.int .i64 d0)).setCell ⟨w.heap.size + 1, 4, none⟩ (.int .i64 e)).alloc (.cells #[.int .i64 x, .int .i64 y, .int .i64 d0, .int .i64 e] 24)) = (((((w3.alloc (.cells #[.int .i64 x, .int .i64 y, .int .i64 d0, .int .i64 e] 24)).setCell ⟨w.heap.size + 1, 1, none⟩ (.int .i64 x)).setCell ⟨w.heap.size + 1, 2, none⟩ (.int .i64 y)).setCell ⟨w.heap.size + 1, 3, none⟩ (.int .i64 d0)).setCell ⟨w.heap.size + 1, 4, none⟩ (.int .i64 e)) := by go_simp
        rw [← eW] at HR4
        clear eW
        generalize (((((w3.setCell ⟨w.heap.size + 1, 1, none⟩ (.int .i64 x)).setCell ⟨w.heap.size + 1, 2, none⟩ (.int .i64 y)).setCell ⟨w.heap.size + 1, 3, none⟩ (.int .i64 d0)).setCell ⟨w.heap.size + 1, 4, none⟩ (.int .i64 e)).alloc (.cells #[.int .i64 x, .int .i64 y, .int .i64 d0, .int .i64 e] 24)) = w4 at HR4 ⊢
        have HPT : Hid (∀ u : World, Tb u → _) := Hid.mk' (fun u (hu : Tb u) => polTermTextI 1 (by omega) x y d0 e HMO.out u hu)
        obtain ⟨S, hS⟩ : ∃ S, trmT ⟨((1 : Nat) : Int), ⟨x, y, d0, e⟩⟩ = S := ⟨_, rfl⟩
        have HPT2 : Hid (∀ u : World, Tb u → Calls Tryd.prog 41 #[.agg #[.int .i64 ((1 : Nat) : Int), .int .i64 x, .int .i64 y, .int .i64 d0, .int .i64 e]] u fun r w' => r = .returned (.string ⟨S.toArray⟩) ∧ Below u.heap.size u w') := by rw [← hS]; exact HPT
        have HIF : Hid (trmP s = (⟨((1 : Nat) : Int), ⟨x, y, d0, e⟩⟩, decide (S = s))) := by rw [← hS]; exact Hid.mk' (HIS.out _ _ HCC.out HMM.out)
        clear hS HPT
        obtain ⟨⟨x0, x1, x2, x3, x4⟩, xz⟩ := HR4.out.2.2
        have hSC : C5 w4 (w.heap.size + 1) ((1 : Nat) : Int) x y d0 e := ⟨x0, x1, x2, x3, x4⟩
        have HSC := Hid.mk' hSC
        have HBE := Hid.mk' HR4.out.1
        have HTE := Hid.mk' (HT.out.below HR4.out.1)
        have HTZ := Hid.mk' HR4.out.2.1
        have HLT := Hid.mk' HR4.out.2.2.lt
        have hn1 : w.heap.size ≠ w.heap.size + 1 := by omega
        clear x0 x1 x2 x3 x4 xz hSC
        by_cases q : S = s
        · have HPF := Hid.mk' (HPY.out _ _ _ _ _ _ HIF.out)
          rw [decide_eq_true q] at HPF
          clear HIF HIS HNM HNC HPN HPY HCC HMM
          subst q
          obtain ⟨⟨r0, r1, r2, r3, r4⟩, rz⟩ := HTZ.out
          go_region_held3 (fun u => C5 u (w.heap.size + 1) ((1 : Nat) : Int) x y d0 e) (first | with_reducible exact HSC.out | with_reducible exact c5_drew HSC.out | with_reducible exact HC7.out | with_reducible exact c5_drew HC7.out | with_reducible exact c5_set HC7.out hn1 _ _ _ _ _ | with_reducible exact c5_drew (c5_set HC7.out hn1 _ _ _ _ _)) (first | (go_at_call 41; refine (HPT2.out _ ?_).mono ?_; (first | with_reducible exact HTE.out | with_reducible exact HTE.out.below (Below.refl _ _).drew); rintro r w7 ⟨rfl, hb7⟩; have HB7 := Hid.mk' hb7; have HZ7 := Hid.mk' (HTZ.out.below (bel_of_drew hb7)); have HC7 := Hid.mk' (c5_below HSC.out (bel_of_drew hb7) HLT.out); obtain ⟨⟨r0, r1, r2, r3, r4⟩, rz⟩ := HZ7.out; clear hb7))
          go_wp2
          refine bodyPost_ret (v := .tuple #[.agg #[.int .i64 ((1 : Nat) : Int), .int .i64 x, .int .i64 y, .int .i64 d0, .int .i64 e], .bool true]) (by simp [results, Tryd.results46, go_sem, *]) rfl (HPF.out _ ?_)
          first | exact bel_s5 (bel_next HBE.out (bel_of_drew HB7.out)) (Nat.le_refl _) _ _ _ _ _ | exact (bel_s5 (bel_next HBE.out (bel_of_drew HB7.out)) (Nat.le_refl _) _ _ _ _ _).drew
        · have HPF := Hid.mk' (HPY.out _ _ _ _ _ _ HIF.out)
          rw [decide_eq_false q] at HPF
          have q1 : (S == s) = false := beq_eq_false_iff_ne.2 q
          clear HIF q HIS HNM HNC HPN HPY HCC HMM
          obtain ⟨⟨r0, r1, r2, r3, r4⟩, rz⟩ := HTZ.out
          go_region_held3 (fun u => C5 u (w.heap.size + 1) ((1 : Nat) : Int) x y d0 e) (first | with_reducible exact HSC.out | with_reducible exact c5_drew HSC.out | with_reducible exact HC7.out | with_reducible exact c5_drew HC7.out | with_reducible exact c5_set HC7.out hn1 _ _ _ _ _ | with_reducible exact c5_drew (c5_set HC7.out hn1 _ _ _ _ _)) (first | (go_at_call 41; refine (HPT2.out _ ?_).mono ?_; (first | with_reducible exact HTE.out | with_reducible exact HTE.out.below (Below.refl _ _).drew); rintro r w7 ⟨rfl, hb7⟩; have HB7 := Hid.mk' hb7; have HZ7 := Hid.mk' (HTZ.out.below (bel_of_drew hb7)); have HC7 := Hid.mk' (c5_below HSC.out (bel_of_drew hb7) HLT.out); obtain ⟨⟨r0, r1, r2, r3, r4⟩, rz⟩ := HZ7.out; clear hb7))
          go_wp2
          refine bodyPost_ret (v := .tuple #[.agg #[.int .i64 ((1 : Nat) : Int), .int .i64 x, .int .i64 y, .int .i64 d0, .int .i64 e], .bool false]) (by simp [results, Tryd.results46, go_sem, *]) rfl (HPF.out _ ?_)
          first | exact bel_s5 (bel_next HBE.out (bel_of_drew HB7.out)) (Nat.le_refl _) _ _ _ _ _ | exact (bel_s5 (bel_next HBE.out (bel_of_drew HB7.out)) (Nat.le_refl _) _ _ _ _ _).drew
  · have hde : d.isEmpty = false := by cases d <;> simp at hd0 ⊢
    have HAC := Hid.mk' (fun (u : World) (hu : Er u) => atoiI2 d (by omega) hd0 u hu)
    have HAB : Hid (∀ v, cRd d = some v → 0 ≤ v ∧ v ≤ 9223372036854775807) := Hid.mk' (fun v h => by
      unfold cRd at h
      rw [if_neg hd0] at h
      split at h
      · rename_i q; cases h; exact at_bd hDD hd0 q
      · cases h)
    clear hd0 hDD HLC
    have HR1 := HR0
    go_wp2_with fail
    clear HR0
    generalize ((w.alloc (.cells #[.int .i64 0, .int .i64 0, .int .i64 0, .int .i64 0, .int .i64 0] 65)).alloc (.cells #[.int .i64 1, .int .i64 0, .int .i64 0, .int .i64 0, .int .i64 0] 65)) = wa at HR1 ⊢
    refine (HAC.out wa (HE.out.below HR1.out.1)).mono ?_
    rintro r w2 ⟨hb2, hr2⟩
    have HR2 := Hid.mk' (HR1.out.below hb2)
    clear hb2 HR1 HAC
    rcases hr2 with ⟨v, hv, rfl⟩ | ⟨hv, v9, t9, N9, rfl⟩
    · obtain ⟨v0, v1⟩ := HAB.out v hv
      obtain ⟨C, rfl⟩ : ∃ C : Nat, v = (C : Int) := ⟨v.toNat, by omega⟩
      have hC63 : C ≤ 9223372036854775807 := by omega
      have HCC := Hid.mk' hv
      clear hv HAB v0 v1
      by_cases hr0 : rs = []
      · have hre : rs.isEmpty = true := by rw [hr0]; rfl
        have HMM : Hid (mRd rs = some ⟨0, 0, 0, 0⟩) := by rw [hr0]; exact Hid.mk' rfl
        clear hr0
        have HR3 := Hid.mk' (HR2.out.setC (C : Int))
        obtain ⟨⟨x0, x1, x2, x3, x4⟩, xz⟩ := HR2.out.2.2
        go_wp2_with fail
        clear x0 x1 x2 x3 x4 xz HR2
        generalize w2.setCell ⟨w.heap.size + 1, 0, none⟩ (.int .i64 (C : Int)) = wb at HR3 ⊢
        have HPT : Hid (∀ u : World, Tb u → _) := Hid.mk' (fun u (hu : Tb u) => polTermTextI C hC63 0 0 0 0 (by decide) u hu)
        obtain ⟨S, hS⟩ : ∃ S, trmT ⟨((C : Nat) : Int), ⟨0, 0, 0, 0⟩⟩ = S := ⟨_, rfl⟩
        have HPT2 : Hid (∀ u : World, Tb u → Calls Tryd.prog 41 #[.agg #[.int .i64 ((C : Nat) : Int), .int .i64 0, .int .i64 0, .int .i64 0, .int .i64 0]] u fun r w' => r = .returned (.string ⟨S.toArray⟩) ∧ Below u.heap.size u w') := by rw [← hS]; exact HPT
        have HIF : Hid (trmP s = (⟨((C : Nat) : Int), ⟨0, 0, 0, 0⟩⟩, decide (S = s))) := by rw [← hS]; exact Hid.mk' (HIS.out _ _ HCC.out HMM.out)
        clear hS HPT
        obtain ⟨⟨x0, x1, x2, x3, x4⟩, xz⟩ := HR3.out.2.2
        have hSC : C5 wb (w.heap.size + 1) ((C : Nat) : Int) 0 0 0 0 := ⟨x0, x1, x2, x3, x4⟩
        have HSC := Hid.mk' hSC
        have HBE := Hid.mk' HR3.out.1
        have HTE := Hid.mk' (HT.out.below HR3.out.1)
        have HTZ := Hid.mk' HR3.out.2.1
        have HLT := Hid.mk' HR3.out.2.2.lt
        have hn1 : w.heap.size ≠ w.heap.size + 1 := by omega
        clear x0 x1 x2 x3 x4 xz hSC
        by_cases q : S = s
        · have HPF := Hid.mk' (HPY.out _ _ _ _ _ _ HIF.out)
          rw [decide_eq_true q] at HPF
          clear HIF HIS HNM HNC HPN HPY HCC HMM
          subst q
          obtain ⟨⟨r0, r1, r2, r3, r4⟩, rz⟩ := HTZ.out
          go_region_held3 (fun u => C5 u (w.heap.size + 1) ((C : Nat) : Int) 0 0 0 0) (first | with_reducible exact HSC.out | with_reducible exact c5_drew HSC.out | with_reducible exact HC7.out | with_reducible exact c5_drew HC7.out | with_reducible exact c5_set HC7.out hn1 _ _ _ _ _ | with_reducible exact c5_drew (c5_set HC7.out hn1 _ _ _ _ _)) (first | (go_at_call 41; refine (HPT2.out _ ?_).mono ?_; (first | with_reducible exact HTE.out | with_reducible exact HTE.out.below (Below.refl _ _).drew); rintro r w7 ⟨rfl, hb7⟩; have HB7 := Hid.mk' hb7; have HZ7 := Hid.mk' (HTZ.out.below (bel_of_drew hb7)); have HC7 := Hid.mk' (c5_below HSC.out (bel_of_drew hb7) HLT.out); obtain ⟨⟨r0, r1, r2, r3, r4⟩, rz⟩ := HZ7.out; clear hb7))
          go_wp2
          refine bodyPost_ret (v := .tuple #[.agg #[.int .i64 ((C : Nat) : Int), .int .i64 0, .int .i64 0, .int .i64 0, .int .i64 0], .bool true]) (by simp [results, Tryd.results46, go_sem, *]) rfl (HPF.out _ ?_)
          first | exact bel_s5 (bel_next HBE.out (bel_of_drew HB7.out)) (Nat.le_refl _) _ _ _ _ _ | exact (bel_s5 (bel_next HBE.out (bel_of_drew HB7.out)) (Nat.le_refl _) _ _ _ _ _).drew
        · have HPF := Hid.mk' (HPY.out _ _ _ _ _ _ HIF.out)
          rw [decide_eq_false q] at HPF
          have q1 : (S == s) = false := beq_eq_false_iff_ne.2 q
          clear HIF q HIS HNM HNC HPN HPY HCC HMM
          obtain ⟨⟨r0, r1, r2, r3, r4⟩, rz⟩ := HTZ.out
          go_region_held3 (fun u => C5 u (w.heap.size + 1) ((C : Nat) : Int) 0 0 0 0) (first | with_reducible exact HSC.out | with_reducible exact c5_drew HSC.out | with_reducible exact HC7.out | with_reducible exact c5_drew HC7.out | with_reducible exact c5_set HC7.out hn1 _ _ _ _ _ | with_reducible exact c5_drew (c5_set HC7.out hn1 _ _ _ _ _)) (first | (go_at_call 41; refine (HPT2.out _ ?_).mono ?_; (first | with_reducible exact HTE.out | with_reducible exact HTE.out.below (Below.refl _ _).drew); rintro r w7 ⟨rfl, hb7⟩; have HB7 := Hid.mk' hb7; have HZ7 := Hid.mk' (HTZ.out.below (bel_of_drew hb7)); have HC7 := Hid.mk' (c5_below HSC.out (bel_of_drew hb7) HLT.out); obtain ⟨⟨r0, r1, r2, r3, r4⟩, rz⟩ := HZ7.out; clear hb7))
          go_wp2
          refine bodyPost_ret (v := .tuple #[.agg #[.int .i64 ((C : Nat) : Int), .int .i64 0, .int .i64 0, .int .i64 0, .int .i64 0], .bool false]) (by simp [results, Tryd.results46, go_sem, *]) rfl (HPF.out _ ?_)
          first | exact bel_s5 (bel_next HBE.out (bel_of_drew HB7.out)) (Nat.le_refl _) _ _ _ _ _ | exact (bel_s5 (bel_next HBE.out (bel_of_drew HB7.out)) (Nat.le_refl _) _ _ _ _ _).drew
      · have hre : rs.isEmpty = false := by cases rs <;> simp at hr0 ⊢
        have HMR := Hid.mk' (fun (u : World) (hu : Er u) => monReadI rs u (by omega) hu)
        obtain ⟨m, ok, hmr⟩ : ∃ m ok, monR rs = (m, ok) := ⟨_, _, rfl⟩
        rw [hmr] at HMR
        have hMN : ok = false → mRd rs = none := fun h => by unfold mRd; rw [if_neg hr0, hmr, h]; rfl
        have hMY : ok = true → mRd rs = some m := fun h => by unfold mRd; rw [if_neg hr0, hmr, h]; rfl
        have HMN := Hid.mk' hMN
        have HMY := Hid.mk' hMY
        clear hr0 hmr hMN hMY
        obtain ⟨x, y, d0, e⟩ := m
        have HR3 := Hid.mk' (HR2.out.setC (C : Int))
        obtain ⟨⟨x0, x1, x2, x3, x4⟩, xz⟩ := HR2.out.2.2
        go_wp2_with fail
        clear x0 x1 x2 x3 x4 xz HR2
        generalize w2.setCell ⟨w.heap.size + 1, 0, none⟩ (.int .i64 (C : Int)) = wb at HR3 ⊢
        refine (HMR.out wb (HE.out.below HR3.out.1)).mono ?_
        rintro r w3 ⟨rfl, hb3⟩
        have HRw := Hid.mk' (HR3.out.below hb3)
        have HRm := Hid.mk' (HRw.out.below (bel_one w3 (.cells #[.int .i64 x, .int .i64 y, .int .i64 d0, .int .i64 e] 24)))
        have hlt3 : w.heap.size + 1 < w3.heap.size := HRw.out.2.2.lt
        have hne3 : w3.heap.size ≠ w.heap.size + 1 := by omega
        have hne4 : w.heap.size + 1 ≠ w3.heap.size := by omega
        have hne5 : w3.heap.size ≠ w.heap.size := by omega
        have hne6 : w.heap.size ≠ w3.heap.size := by omega
        clear hb3 HMR
        cases ok
        · have HNZ := Hid.mk' (HMN.out rfl)
          obtain ⟨⟨s0, s1, s2, s3, s4⟩, sz⟩ := HRw.out.2.1
          have HBW := Hid.mk' HRw.out.1
          obtain ⟨⟨r0, r1, r2, r3, r4⟩, rz⟩ := HRm.out.2.1
          have HPF := Hid.mk' (HPN.out (HNM.out _ HCC.out HNZ.out))
          have HBE := Hid.mk' HRm.out.1
          clear HNC HNM HIS HPN HPY
          go_wp2
          refine bodyPost_ret (v := .tuple #[.agg #[.int .i64 0, .int .i64 0, .int .i64 0, .int .i64 0, .int .i64 0], .bool false]) (by simp [results, Tryd.results46, go_sem, *]) rfl (HPF.out _ ?_)
          first | exact HBE.out | exact bel_s5 HBE.out (Nat.le_refl _) _ _ _ _ _ | exact (bel_s5 HBW.out (Nat.le_refl _) _ _ _ _ _).alloc (bel_s5 HBW.out (Nat.le_refl _) _ _ _ _ _).size _
        · have HMM := Hid.mk' (HMY.out rfl)
          have HMO := Hid.mk' (mRd_ok HMM.out)
          have HR4 := Hid.mk' (HRm.out.setM x y d0 e)
          obtain ⟨⟨x0, x1, x2, x3, x4⟩, xz⟩ := HRw.out.2.2
          go_wp2_with fail
          clear x0 x1 x2 x3 x4 xz HRm HRw HMN HMY
          have eW : (((((w3.setCell ⟨w.heap.size + 1, 1, none⟩ (.int .i64 x)).setCell ⟨w.heap.size + 1, 2, none⟩ (.int .i64 y)).setCell ⟨w.heap.size + 1, 3, none⟩ (.int .i64 d0)).setCell ⟨w.heap.size + 1, 4, none⟩ (.int .i64 e)).alloc (.cells #[.int .i64 x, .int .i64 y, .int .i64 d0, .int .i64 e] 24)) = (((((w3.alloc (.cells #[.int .i64 x, .int .i64 y, .int .i64 d0, .int .i64 e] 24)).setCell ⟨w.heap.size + 1, 1, none⟩ (.int .i64 x)).setCell ⟨w.heap.size + 1, 2, none⟩ (.int .i64 y)).setCell ⟨w.heap.size + 1, 3, none⟩ (.int .i64 d0)).setCell ⟨w.heap.size + 1, 4, none⟩ (.int .i64 e)) := by go_simp
          rw [← eW] at HR4
          clear eW
          generalize (((((w3.setCell ⟨w.heap.size + 1, 1, none⟩ (.int .i64 x)).setCell ⟨w.heap.size + 1, 2, none⟩ (.int .i64 y)).setCell ⟨w.heap.size + 1, 3, none⟩ (.int .i64 d0)).setCell ⟨w.heap.size + 1, 4, none⟩ (.int .i64 e)).alloc (.cells #[.int .i64 x, .int .i64 y, .int .i64 d0, .int .i64 e] 24)) = w4 at HR4 ⊢
          have HPT : Hid (∀ u : World, Tb u → _) := Hid.mk' (fun u (hu : Tb u) => polTermTextI C hC63 x y d0 e HMO.out u hu)
          obtain ⟨S, hS⟩ : ∃ S, trmT ⟨((C : Nat) : Int), ⟨x, y, d0, e⟩⟩ = S := ⟨_, rfl⟩
          have HPT2 : Hid (∀ u : World, Tb u → Calls Tryd.prog 41 #[.agg #[.int .i64 ((C : Nat) : Int), .int .i64 x, .int .i64 y, .int .i64 d0, .int .i64 e]] u fun r w' => r = .returned (.string ⟨S.toArray⟩) ∧ Below u.heap.size u w') := by rw [← hS]; exact HPT
          have HIF : Hid (trmP s = (⟨((C : Nat) : Int), ⟨x, y, d0, e⟩⟩, decide (S = s))) := by rw [← hS]; exact Hid.mk' (HIS.out _ _ HCC.out HMM.out)
          clear hS HPT
          obtain ⟨⟨x0, x1, x2, x3, x4⟩, xz⟩ := HR4.out.2.2
          have hSC : C5 w4 (w.heap.size + 1) ((C : Nat) : Int) x y d0 e := ⟨x0, x1, x2, x3, x4⟩
          have HSC := Hid.mk' hSC
          have HBE := Hid.mk' HR4.out.1
          have HTE := Hid.mk' (HT.out.below HR4.out.1)
          have HTZ := Hid.mk' HR4.out.2.1
          have HLT := Hid.mk' HR4.out.2.2.lt
          have hn1 : w.heap.size ≠ w.heap.size + 1 := by omega
          clear x0 x1 x2 x3 x4 xz hSC
          by_cases q : S = s
          · have HPF := Hid.mk' (HPY.out _ _ _ _ _ _ HIF.out)
            rw [decide_eq_true q] at HPF
            clear HIF HIS HNM HNC HPN HPY HCC HMM
            subst q
            obtain ⟨⟨r0, r1, r2, r3, r4⟩, rz⟩ := HTZ.out
            go_region_held3 (fun u => C5 u (w.heap.size + 1) ((C : Nat) : Int) x y d0 e) (first | with_reducible exact HSC.out | with_reducible exact c5_drew HSC.out | with_reducible exact HC7.out | with_reducible exact c5_drew HC7.out | with_reducible exact c5_set HC7.out hn1 _ _ _ _ _ | with_reducible exact c5_drew (c5_set HC7.out hn1 _ _ _ _ _)) (first | (go_at_call 41; refine (HPT2.out _ ?_).mono ?_; (first | with_reducible exact HTE.out | with_reducible exact HTE.out.below (Below.refl _ _).drew); rintro r w7 ⟨rfl, hb7⟩; have HB7 := Hid.mk' hb7; have HZ7 := Hid.mk' (HTZ.out.below (bel_of_drew hb7)); have HC7 := Hid.mk' (c5_below HSC.out (bel_of_drew hb7) HLT.out); obtain ⟨⟨r0, r1, r2, r3, r4⟩, rz⟩ := HZ7.out; clear hb7))
            go_wp2
            refine bodyPost_ret (v := .tuple #[.agg #[.int .i64 ((C : Nat) : Int), .int .i64 x, .int .i64 y, .int .i64 d0, .int .i64 e], .bool true]) (by simp [results, Tryd.results46, go_sem, *]) rfl (HPF.out _ ?_)
            first | exact bel_s5 (bel_next HBE.out (bel_of_drew HB7.out)) (Nat.le_refl _) _ _ _ _ _ | exact (bel_s5 (bel_next HBE.out (bel_of_drew HB7.out)) (Nat.le_refl _) _ _ _ _ _).drew
          · have HPF := Hid.mk' (HPY.out _ _ _ _ _ _ HIF.out)
            rw [decide_eq_false q] at HPF
            have q1 : (S == s) = false := beq_eq_false_iff_ne.2 q
            clear HIF q HIS HNM HNC HPN HPY HCC HMM
            obtain ⟨⟨r0, r1, r2, r3, r4⟩, rz⟩ := HTZ.out
            go_region_held3 (fun u => C5 u (w.heap.size + 1) ((C : Nat) : Int) x y d0 e) (first | with_reducible exact HSC.out | with_reducible exact c5_drew HSC.out | with_reducible exact HC7.out | with_reducible exact c5_drew HC7.out | with_reducible exact c5_set HC7.out hn1 _ _ _ _ _ | with_reducible exact c5_drew (c5_set HC7.out hn1 _ _ _ _ _)) (first | (go_at_call 41; refine (HPT2.out _ ?_).mono ?_; (first | with_reducible exact HTE.out | with_reducible exact HTE.out.below (Below.refl _ _).drew); rintro r w7 ⟨rfl, hb7⟩; have HB7 := Hid.mk' hb7; have HZ7 := Hid.mk' (HTZ.out.below (bel_of_drew hb7)); have HC7 := Hid.mk' (c5_below HSC.out (bel_of_drew hb7) HLT.out); obtain ⟨⟨r0, r1, r2, r3, r4⟩, rz⟩ := HZ7.out; clear hb7))
            go_wp2
            refine bodyPost_ret (v := .tuple #[.agg #[.int .i64 ((C : Nat) : Int), .int .i64 x, .int .i64 y, .int .i64 d0, .int .i64 e], .bool false]) (by simp [results, Tryd.results46, go_sem, *]) rfl (HPF.out _ ?_)
            first | exact bel_s5 (bel_next HBE.out (bel_of_drew HB7.out)) (Nat.le_refl _) _ _ _ _ _ | exact (bel_s5 (bel_next HBE.out (bel_of_drew HB7.out)) (Nat.le_refl _) _ _ _ _ _).drew
    · have HNZ := Hid.mk' hv
      clear hv HAB
      have HBW := Hid.mk' HR2.out.1
      obtain ⟨⟨r0, r1, r2, r3, r4⟩, rz⟩ := HR2.out.2.1
      have HPF := Hid.mk' (HPN.out (HNC.out HNZ.out))
      have HBE := Hid.mk' HR2.out.1
      clear HNC HNM HIS HPN HPY
      go_wp2
      refine bodyPost_ret (v := .tuple #[.agg #[.int .i64 0, .int .i64 0, .int .i64 0, .int .i64 0, .int .i64 0], .bool false]) (by simp [results, Tryd.results46, go_sem, *]) rfl (HPF.out _ ?_)
      first | exact HBE.out | exact bel_s5 HBE.out (Nat.le_refl _) _ _ _ _ _ | exact (bel_s5 HBW.out (Nat.le_refl _) _ _ _ _ _).alloc (bel_s5 HBW.out (Nat.le_refl _) _ _ _ _ _).size _
end Go.Proofs.YtnfgiplgkobnlaaDoor
