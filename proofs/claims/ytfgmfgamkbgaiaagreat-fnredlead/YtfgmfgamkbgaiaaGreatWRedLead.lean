/-
  The walk of FnRedLead: whatever the code, it comes out true, and nothing that was there is turned.
-/
import Derived.Test.YtfgmfgamkbgaiaaGreatDrawRA
import Derived.Test.YtfgmfgamkbgaiaaGreatGbh
import Derived.Test.YtfgmfgamkbgaiaaGreatFreeI
import Derived.Test.YtfgmfgamkbgaiaaGreatGba
namespace Go.Proofs.YtfgmfgamkbgaiaaGreat
open Go.RowKit
set_option linter.unusedVariables false
theorem cmp_le {o : Int} {a b : M} (ho : 1 ≤ o ∧ o ≤ 3) (ha : a.ok = true) (hb : b.ok = true) (h : rkW o a ≤ rkW o b) : M.cmp o a b ≤ 0 := by
  unfold M.cmp
  rw [if_pos ⟨ho, ha, hb⟩, rkW_ord ho ha hb]
  unfold c3
  split
  · omega
  · split <;> omega
theorem red_nil {o : Int} {n : Nat} {L : Nat → List T} {S : Dv} (h : redAll o [] n (lN L) (fN L) = some S) : S = dvOf [] := by
  have := (redAll_some h).2.2.2
  rw [dvRun_done (show (dvOf []).p.length = 0 from rfl)] at this
  cases this; rfl
theorem ldB_ne {o : Int} {L : List T} (ho : 1 ≤ o ∧ o ≤ 3) (hL : okL L = true) (h : L ≠ []) : ldB o L = true := ldB_iff.2 ⟨ho, hL, h⟩
theorem lead_fact {o : Int} {p : List T} {n : Nat} {L : Nat → List T} {S : Dv} (h : redAll o p n (lN L) (fN L) = some S) {i : Nat} (hi : i < n) {mm : M} {mk : Bool} (hm : M.mul (ldT o (S.q i)).m (ldT o (L i)).m = (mm, mk)) {cc : Int} (hc : M.cmp o mm (ldT o p).m = cc) (hb : ldB o (S.q i) = true) : ldB o p = true ∧ cc ≤ 0 := by
  obtain ⟨ho, hp, hl, _⟩ := redAll_some h
  have hp0 : p ≠ [] := fun e => by
    subst e
    rw [red_nil h] at hb
    exact absurd hb (by rw [show (dvOf []).q i = [] from rfl, ld_nil]; simp)
  have hP := ldB_ne ho hp hp0
  obtain ⟨p1, p2⟩ := ld_top hP
  obtain ⟨q1, _⟩ := ld_top hb
  have hLi := (lstOk_all hl).2 i hi
  have e := ldL_is (o := o) ho hLi.2 hLi.1
  obtain ⟨h1, h2⟩ := (red_lead h p2).2 i hi _ q1
  have e' : ldL o (L i) = ldT o (L i) := e
  rw [e'] at h1 h2
  have g1 := ((okL_falls (ldB_iff.1 hb).2.1).2.2 _ q1).1
  have hLne : L i ≠ [] := fun z => hLi.1 (by show (L i).length = 0; rw [z]; rfl)
  have g2 := ((okL_falls hLi.2).2.2 _ (ld_top (ldB_ne ho hLi.2 hLne)).1).1
  have em : mm = (ldT o (S.q i)).m.sum (ldT o (L i)).m := by
    unfold M.mul at hm
    rw [if_pos ⟨g1, g2, h1⟩] at hm
    exact (congrArg Prod.fst hm).symm
  subst em
  exact ⟨hP, by rw [← hc]; exact cmp_le ho h1 ((okL_falls hp).2.2 _ p1).1 h2⟩
theorem lead_rest {o : Int} {p : List T} {n : Nat} {L : Nat → List T} {S : Dv} (h : redAll o p n (lN L) (fN L) = some S) {cc : Int} (hc : M.cmp o (ldT o S.r).m (ldT o p).m = cc) (hb : ldB o S.r = true) : ldB o p = true ∧ cc ≤ 0 := by
  obtain ⟨ho, hp, hl, _⟩ := redAll_some h
  have hp0 : p ≠ [] := fun e => by
    subst e
    rw [red_nil h] at hb
    exact absurd hb (by rw [show (dvOf []).r = [] from rfl, ld_nil]; simp)
  have hP := ldB_ne ho hp hp0
  obtain ⟨p1, p2⟩ := ld_top hP
  obtain ⟨q1, _⟩ := ld_top hb
  have h2 := (red_lead h p2).1 _ q1
  exact ⟨hP, by rw [← hc]; exact cmp_le ho ((okL_falls (ldB_iff.1 hb).2.1).2.2 _ q1).1 ((okL_falls hp).2.2 _ p1).1 h2⟩
set_option maxRecDepth 100000 in
set_option maxHeartbeats 8000000 in
theorem walk_FnRedLead (w : World) (a0 : Option Addr) (len0 cap0 : Nat) (s0 : Src w a0 len0 cap0) :
    Calls Tryz.prog 4 #[.slice a0 len0 cap0] w fun e w' => e = .returned (.bool true) ∧ Below w.heap.size w w' := by
  by_cases c0 : (1048576 : Int) < (len0 : Int)
  · go_enter Tryz.func4, Tryz.ntmps4
    go_wp2
    go_ret
    exact ⟨rfl, Below.refl _ _⟩
  go_enter Tryz.func4, Tryz.ntmps4
  go_wp2_with fail
  refine (drawRedAll w a0 len0 cap0 s0).mono ?_
  rintro e wd ⟨o, pa, pc, p, la0, n, lc0, ad0, cp0, L, rfl, hP, hG, hlp, hln, hbd⟩
  have HP0 := Hid.mk' hP
  have HG0 := Hid.mk' hG
  have Z0 := Hid.mk' hbd
  clear hP hG hbd s0
  have hn5 : (n : Int) ≤ 5 := by omega
  have hp5 : (p.length : Int) ≤ 5 := by omega
  obtain ⟨t, ht1⟩ : ∃ t, ldT o p = t := ⟨_, rfl⟩
  obtain ⟨sm, ht2⟩ : ∃ k, ldB o p = k := ⟨_, rfl⟩
  have HLD := fun (W : World) (h : RL W pa pc p) => ldI_L o h
  rw [ht1, ht2] at HLD
  have HT1 := Hid.mk' ht1
  have HT2 := Hid.mk' ht2
  have HL := Hid.mk' HLD
  clear HLD ht1 ht2
  obtain ⟨R, hR⟩ : ∃ R, redAll o p n (lN L) (fN L) = R := ⟨_, rfl⟩
  rcases R with _ | S
  · have HR := Hid.mk' hR
    clear hR
    go_wp2_with fail
    refine (redI_no HP0.out HG0.out HR.out).mono ?_
    rintro e w1 ⟨qa2, qc3, ad4, cp5, la6, lc7, rfl, b8, hq9, hl10⟩
    have H11 := Hid.mk' (HP0.out.below b8)
    clear HP0
    have H12 := Hid.mk' (HG0.out.below b8)
    clear HG0
    have Z13 := Hid.mk' (bel_next Z0.out b8)
    clear Z0
    have H14 : Hid (RL w1 la6 lc7 []) := hl10
    clear hl10
    have H15 : Hid (RdS w1 qa2 0 qc3 ad4 (lN (fun _ => [])) cp5 (fN (fun _ => []))) := hq9
    clear hq9
    clear b8
    go_wp2_with fail
    refine (redS_no H11.out H12.out HR.out).mono ?_
    rintro e w16 ⟨qa17, qc18, ad19, cp20, la21, lc22, rfl, b23, hq24, hl25⟩
    have H26 := Hid.mk' (H11.out.below b23)
    clear H11
    have H27 := Hid.mk' (H12.out.below b23)
    clear H12
    have H28 := Hid.mk' (H14.out.below b23)
    clear H14
    have H29 := Hid.mk' (H15.out.below b23)
    clear H15
    have Z30 := Hid.mk' (bel_next Z13.out b23)
    clear Z13
    have H31 : Hid (RL w16 la21 lc22 []) := hl25
    clear hl25
    have H32 : Hid (RdS w16 qa17 0 qc18 ad19 (lN (fun _ => [])) cp20 (fN (fun _ => []))) := hq24
    clear hq24
    clear b23
    go_wp2_with fail
    refine (heListT _ _ _ _ _ _ _ _ _ _ _ _ _ H29.out H32.out).mono ?_
    rw [lsq_same]
    rintro e w33 ⟨rfl, b34⟩
    have H35 := Hid.mk' (H26.out.below b34)
    clear H26
    have H36 := Hid.mk' (H27.out.below b34)
    clear H27
    have H37 := Hid.mk' (H28.out.below b34)
    clear H28
    have H38 := Hid.mk' (H29.out.below b34)
    clear H29
    have H39 := Hid.mk' (H31.out.below b34)
    clear H31
    have H40 := Hid.mk' (H32.out.below b34)
    clear H32
    have Z41 := Hid.mk' (bel_next Z30.out b34)
    clear Z30
    clear b34
    go_wp2_with fail
    refine (he_L H37.out H39.out).mono ?_
    rw [sq_same]
    rintro e w42 ⟨rfl, b43⟩
    have H44 := Hid.mk' (H35.out.below b43)
    clear H35
    have H45 := Hid.mk' (H36.out.below b43)
    clear H36
    have H46 := Hid.mk' (H37.out.below b43)
    clear H37
    have H47 := Hid.mk' (H38.out.below b43)
    clear H38
    have H48 := Hid.mk' (H39.out.below b43)
    clear H39
    have H49 := Hid.mk' (H40.out.below b43)
    clear H40
    have Z50 := Hid.mk' (bel_next Z41.out b43)
    clear Z41
    clear b43
    clear H47
    clear H49
    clear H48
    clear H45
    go_wp2_with fail
    refine (HL.out _ H44.out).mono ?_
    rintro e w50 ⟨rfl, b50⟩
    have hbb := bel_next b50 (bel_one w50 (.cells #[.int .i64 t.c, .int .i64 t.m.x, .int .i64 t.m.y, .int .i64 t.m.d, .int .i64 t.m.e] 40))
    have T51 := Hid.mk' (C5.box w50 40 t)
    clear b50
    have H52 := Hid.mk' (H44.out.below hbb)
    clear H44
    have H53 := Hid.mk' (H46.out.below hbb)
    clear H46
    have Z54 := Hid.mk' (bel_next Z50.out hbb)
    clear Z50
    clear hbb
    go_wp2
    generalize (w50.alloc (.cells #[.int .i64 t.c, .int .i64 t.m.x, .int .i64 t.m.y, .int .i64 t.m.d, .int .i64 t.m.e] 40)) = w51 at *
    go_loopw [14] (fun v wr => v = .int .i64 0 ∧ wr = w51) (fun _ _ => 0)
    case atStart => exact ⟨rfl, rfl⟩
    case round =>
      obtain ⟨rfl, rfl⟩ := hrel
      obtain ⟨rt, hr1⟩ : ∃ t, ldT o [] = t := ⟨_, rfl⟩
      obtain ⟨rk, hr2⟩ : ∃ k, ldB o [] = k := ⟨_, rfl⟩
      have HRD := fun (W : World) (a : Option Addr) (c : Nat) (h : RL W a c []) => ldI_L o h
      rw [hr1, hr2] at HRD
      obtain ⟨cc, hcc⟩ : ∃ cc, M.cmp o rt.m t.m = cc := ⟨_, rfl⟩
      have hr3 : rk = false := hr2.symm.trans (ld_nil o)
      have HRL := Hid.mk' HRD
      have HCC := Hid.mk' hcc
      clear HRD hr1 hr2 hcc
      go_wp2_with fail
      refine (HRL.out _ _ _ H53.out).mono ?_
      rintro e w60 ⟨rfl, b60⟩
      subst hr3
      have B60 := Hid.mk' (bel_next (bel_next Z54.out b60) (bel_one w60 (.cells #[.int .i64 rt.c, .int .i64 rt.m.x, .int .i64 rt.m.y, .int .i64 rt.m.d, .int .i64 rt.m.e] 40)))
      clear b60
      go_wp2_with fail
      generalize (w60.alloc (.cells #[.int .i64 rt.c, .int .i64 rt.m.x, .int .i64 rt.m.y, .int .i64 rt.m.d, .int .i64 rt.m.e] 40)) = w61 at *
      refine (heOk_L _).mono ?_
      rintro e w62 ⟨rfl, b62⟩
      have B62 := Hid.mk' (bel_next B60.out b62)
      clear b62 B60
      go_wp2
      go_ret
      exact ⟨rfl, B62.out⟩
  · have HR := Hid.mk' hR
    clear hR
    go_wp2_with fail
    refine (redI_yes HP0.out HG0.out HR.out).mono ?_
    rintro e w55 ⟨qa56, qc57, ad58, cp59, la60, lc61, rfl, b62, hq63, hl64⟩
    have H65 := Hid.mk' (HP0.out.below b62)
    clear HP0
    have H66 := Hid.mk' (HG0.out.below b62)
    clear HG0
    have Z67 := Hid.mk' (bel_next Z0.out b62)
    clear Z0
    have H68 : Hid (RL w55 la60 lc61 S.r) := hl64
    clear hl64
    have H69 : Hid (RdS w55 qa56 n qc57 ad58 (lN S.q) cp59 (fN S.q)) := hq63
    clear hq63
    clear b62
    go_wp2_with fail
    refine (redS_yes H65.out H66.out HR.out).mono ?_
    rintro e w70 ⟨qa71, qc72, ad73, cp74, la75, lc76, rfl, b77, hq78, hl79⟩
    have H80 := Hid.mk' (H65.out.below b77)
    clear H65
    have H81 := Hid.mk' (H66.out.below b77)
    clear H66
    have H82 := Hid.mk' (H68.out.below b77)
    clear H68
    have H83 := Hid.mk' (H69.out.below b77)
    clear H69
    have Z84 := Hid.mk' (bel_next Z67.out b77)
    clear Z67
    have H85 : Hid (RL w70 la75 lc76 S.r) := hl79
    clear hl79
    have H86 : Hid (RdS w70 qa71 n qc72 ad73 (lN S.q) cp74 (fN S.q)) := hq78
    clear hq78
    clear b77
    go_wp2_with fail
    refine (heListT _ _ _ _ _ _ _ _ _ _ _ _ _ H83.out H86.out).mono ?_
    rw [lsq_same]
    rintro e w87 ⟨rfl, b88⟩
    have H89 := Hid.mk' (H80.out.below b88)
    clear H80
    have H90 := Hid.mk' (H81.out.below b88)
    clear H81
    have H91 := Hid.mk' (H82.out.below b88)
    clear H82
    have H92 := Hid.mk' (H83.out.below b88)
    clear H83
    have H93 := Hid.mk' (H85.out.below b88)
    clear H85
    have H94 := Hid.mk' (H86.out.below b88)
    clear H86
    have Z95 := Hid.mk' (bel_next Z84.out b88)
    clear Z84
    clear b88
    go_wp2_with fail
    refine (he_L H91.out H93.out).mono ?_
    rw [sq_same]
    rintro e w96 ⟨rfl, b97⟩
    have H98 := Hid.mk' (H89.out.below b97)
    clear H89
    have H99 := Hid.mk' (H90.out.below b97)
    clear H90
    have H100 := Hid.mk' (H91.out.below b97)
    clear H91
    have H101 := Hid.mk' (H92.out.below b97)
    clear H92
    have H102 := Hid.mk' (H93.out.below b97)
    clear H93
    have H103 := Hid.mk' (H94.out.below b97)
    clear H94
    have Z104 := Hid.mk' (bel_next Z95.out b97)
    clear Z95
    clear b97
    clear H103
    clear H102
    go_wp2_with fail
    refine (HL.out _ H98.out).mono ?_
    rintro e w50 ⟨rfl, b50⟩
    have hbb := bel_next b50 (bel_one w50 (.cells #[.int .i64 t.c, .int .i64 t.m.x, .int .i64 t.m.y, .int .i64 t.m.d, .int .i64 t.m.e] 40))
    have T105 := Hid.mk' (C5.box w50 40 t)
    clear b50
    have H106 := Hid.mk' (H98.out.below hbb)
    clear H98
    have H107 := Hid.mk' (H99.out.below hbb)
    clear H99
    have H108 := Hid.mk' (H100.out.below hbb)
    clear H100
    have H109 := Hid.mk' (H101.out.below hbb)
    clear H101
    have Z110 := Hid.mk' (bel_next Z104.out hbb)
    clear Z104
    clear hbb
    go_wp2
    generalize (w50.alloc (.cells #[.int .i64 t.c, .int .i64 t.m.x, .int .i64 t.m.y, .int .i64 t.m.d, .int .i64 t.m.e] 40)) = w51 at *
    go_loopw [14] (fun v wr => ∃ i : Nat, i ≤ n ∧ v = .int .i64 (i : Int) ∧ Below w51.heap.size w51 wr) (fun v _ => n - (intOf v).toNat)
    case atStart => exact ⟨0, Nat.zero_le _, rfl, Below.refl _ _⟩
    case round =>
      obtain ⟨i, hi, rfl, hBel⟩ := hrel
      by_cases hlt : i < n
      · have hil : (i : Int) < (n : Int) := by omega
        have HBel := Hid.mk' hBel
        have hQ := H109.out.below hBel
        have hG := H107.out.below hBel
        have HT := Hid.mk' (T105.out.below hBel)
        obtain ⟨ql, hql⟩ : ∃ ql, S.q i = ql := ⟨_, rfl⟩
        obtain ⟨gl, hgl⟩ : ∃ gl, L i = gl := ⟨_, rfl⟩
        have RQ : Hid (RL wr (ad58 i) (cp59 i) ql) := by rw [← hql]; exact hQ.2.2.2 i hlt
        have RG : Hid (RL wr (ad0 i) (cp0 i) gl) := by rw [← hgl]; exact hG.2.2.2 i hlt
        rcases hQ.2.2.1 with h0 | ⟨b1, o1, rfl, hlt1, hc1⟩
        · omega
        rcases hG.2.2.1 with h0 | ⟨b2, o2, rfl, hlt2, hc2⟩
        · omega
        have k1 : wr.cell? ⟨b1, o1 + i, none⟩ = some (.slice (ad58 i) ql.length (cp59 i)) := by rw [← hql]; exact hc1 i hlt
        have k2 : wr.cell? ⟨b2, o2 + i, none⟩ = some (.slice (ad0 i) gl.length (cp0 i)) := by rw [← hgl]; exact hc2 i hlt
        obtain ⟨qt, hqt⟩ : ∃ t, ldT o ql = t := ⟨_, rfl⟩
        obtain ⟨qk, hqk⟩ : ∃ k, ldB o ql = k := ⟨_, rfl⟩
        have Dqt := fun (W : World) (a : Option Addr) (c : Nat) (h : RL W a c ql) => ldI_L o h
        rw [hqt, hqk] at Dqt
        have Eqt := Hid.mk' Dqt
        obtain ⟨gt, hgt⟩ : ∃ t, ldT o gl = t := ⟨_, rfl⟩
        obtain ⟨gk, hgk⟩ : ∃ k, ldB o gl = k := ⟨_, rfl⟩
        have Dgt := fun (W : World) (a : Option Addr) (c : Nat) (h : RL W a c gl) => ldI_L o h
        rw [hgt, hgk] at Dgt
        have Egt := Hid.mk' Dgt
        obtain ⟨mm, mk, hmm⟩ : ∃ mm mk, M.mul qt.m gt.m = (mm, mk) := ⟨_, _, rfl⟩
        obtain ⟨cc, hcc⟩ : ∃ cc, M.cmp o mm t.m = cc := ⟨_, rfl⟩
        have HK : Hid (qk = true → sm = true ∧ cc ≤ 0) := fun e => by
          have := lead_fact HR.out hlt (mm := mm) (mk := mk) (cc := cc) (by rw [hql, hgl, hqt, hgt]; exact hmm) (by rw [HT1.out]; exact hcc) (by rw [hql, hqk]; exact e)
          rw [HT2.out] at this
          exact this
        have HMM := Hid.mk' hmm
        have HCC := Hid.mk' hcc
        clear hQ hG hc1 hc2 hql hgl hqt hqk hgt hgk Dqt Dgt hmm hcc hBel
        go_wp2_with fail
        refine (Eqt.out _ _ _ RQ.out).mono ?_
        rintro e v1 ⟨rfl, d1⟩
        have e1 := bel_one v1 (.cells #[.int .i64 qt.c, .int .i64 qt.m.x, .int .i64 qt.m.y, .int .i64 qt.m.d, .int .i64 qt.m.e] 40)
        have RG2 := Hid.mk' ((RG.out.below d1).below e1)
        have S1 := Hid.mk' (C5.box v1 40 qt)
        have U1 := Hid.mk' (bel_next (bel_next HBel.out d1) e1)
        have T1 := Hid.mk' ((HT.out.below d1).below e1)
        have k3 : v1.cell? ⟨b2, o2 + i, none⟩ = some (.slice (ad0 i) gl.length (cp0 i)) := (d1.cell (p := ⟨b2, o2 + i, none⟩) hlt2).trans k2
        have hlt3 : b2 < v1.heap.size := Nat.lt_of_lt_of_le hlt2 d1.size
        clear d1 e1 k1 k2 hlt1 hlt2 RQ RG HT HBel
        go_wp2_with fail
        clear k3 hlt3
        generalize (v1.alloc (.cells #[.int .i64 qt.c, .int .i64 qt.m.x, .int .i64 qt.m.y, .int .i64 qt.m.d, .int .i64 qt.m.e] 40)) = v2 at *
        refine (Egt.out _ _ _ RG2.out).mono ?_
        rintro e v3 ⟨rfl, d3⟩
        have e3 := bel_one v3 (.cells #[.int .i64 gt.c, .int .i64 gt.m.x, .int .i64 gt.m.y, .int .i64 gt.m.d, .int .i64 gt.m.e] 40)
        have U3 := Hid.mk' (bel_next (bel_next U1.out d3) e3)
        have T3 := Hid.mk' ((T1.out.below d3).below e3)
        obtain ⟨r0, r1, r2, r3, r4⟩ := S1.out.below d3
        have hl3 : v1.heap.size < v3.heap.size := World.block_lt_of_cell? v3 _ r0
        have hmm := HMM.out
        clear d3 e3 U1 T1 S1 RG2 HMM
        go_wp2_with fail
        clear r0 r1 r2 r3 r4 hl3
        generalize (v3.alloc (.cells #[.int .i64 gt.c, .int .i64 gt.m.x, .int .i64 gt.m.y, .int .i64 gt.m.d, .int .i64 gt.m.e] 40)) = v4 at *
        refine (monMulI_of hmm _).mono ?_
        rintro e v5 ⟨rfl, d5⟩
        have e5 := bel_one v5 (.cells #[.int .i64 mm.x, .int .i64 mm.y, .int .i64 mm.d, .int .i64 mm.e] 38)
        have U5 := Hid.mk' (bel_next (bel_next U3.out d5) e5)
        cases qk
        · clear d5 e5 U3 T3 hmm HK HCC
          go_wp2
          go_roundw
          case rel => exact ⟨i + 1, by omega, by go_num, U5.out⟩
          case measure => simp [intOf]; omega
        · obtain ⟨hsm, hle⟩ := HK.out rfl
          subst hsm
          have hng : ¬ 0 < cc := by omega
          obtain ⟨r0, r1, r2, r3, r4⟩ := T3.out.below d5
          have hl5 : _ < v5.heap.size := World.block_lt_of_cell? v5 _ r0
          have hcc := HCC.out
          clear d5 e5 U3 T3 hmm HK HCC
          go_wp2_with fail
          clear r0 r1 r2 r3 r4 hl5
          generalize (v5.alloc (.cells #[.int .i64 mm.x, .int .i64 mm.y, .int .i64 mm.d, .int .i64 mm.e] 38)) = v6 at *
          refine (monCmpI_of hcc _).mono ?_
          rintro e v7 ⟨rfl, d7⟩
          have U7 := Hid.mk' (bel_next U5.out d7)
          clear d7 U5 hcc
          go_wp2
          go_roundw
          case rel => exact ⟨i + 1, by omega, by go_num, U7.out⟩
          case measure => simp [intOf]; omega
      · have hnl : ¬ (i : Int) < (n : Int) := by omega
        clear H109
        clear H107
        clear H106
        have H111 := Hid.mk' (H108.out.below hBel)
        clear H108
        have X112 := Hid.mk' (T105.out.below hBel)
        clear T105
        have Z113 := Hid.mk' (bel_next Z110.out hBel)
        clear Z110
        clear hBel
        obtain ⟨rt, hr1⟩ : ∃ t, ldT o S.r = t := ⟨_, rfl⟩
        obtain ⟨rk, hr2⟩ : ∃ k, ldB o S.r = k := ⟨_, rfl⟩
        have HRD := fun (W : World) (a : Option Addr) (c : Nat) (h : RL W a c S.r) => ldI_L o h
        rw [hr1, hr2] at HRD
        obtain ⟨cc, hcc⟩ : ∃ cc, M.cmp o rt.m t.m = cc := ⟨_, rfl⟩
        have HRK : Hid (rk = true → sm = true ∧ cc ≤ 0) := fun e => by
          have := lead_rest HR.out (cc := cc) (by rw [hr1, HT1.out]; exact hcc) (hr2.trans e)
          rw [HT2.out] at this
          exact this
        have HRL := Hid.mk' HRD
        have HCC := Hid.mk' hcc
        clear HRD hr1 hr2 hcc
        go_wp2_with fail
        refine (HRL.out _ _ _ H111.out).mono ?_
        rintro e w60 ⟨rfl, b60⟩
        cases rk
        · have B60 := Hid.mk' (bel_next (bel_next Z113.out b60) (bel_one w60 (.cells #[.int .i64 rt.c, .int .i64 rt.m.x, .int .i64 rt.m.y, .int .i64 rt.m.d, .int .i64 rt.m.e] 40)))
          clear b60
          go_wp2_with fail
          generalize (w60.alloc (.cells #[.int .i64 rt.c, .int .i64 rt.m.x, .int .i64 rt.m.y, .int .i64 rt.m.d, .int .i64 rt.m.e] 40)) = w61 at *
          refine (heOk_L _).mono ?_
          rintro e w62 ⟨rfl, b62⟩
          have B62 := Hid.mk' (bel_next B60.out b62)
          clear b62 B60
          go_wp2
          go_ret
          exact ⟨rfl, B62.out⟩
        · obtain ⟨hsm, hle⟩ := HRK.out rfl
          subst hsm
          have B60 := Hid.mk' (bel_next (bel_next Z113.out b60) (bel_one w60 (.cells #[.int .i64 rt.c, .int .i64 rt.m.x, .int .i64 rt.m.y, .int .i64 rt.m.d, .int .i64 rt.m.e] 40)))
          obtain ⟨r0, r1, r2, r3, r4⟩ := X112.out.below b60
          have hl60 : _ < w60.heap.size := World.block_lt_of_cell? w60 _ r0
          have hcc := HCC.out
          clear b60
          go_wp2_with fail
          clear r0 r1 r2 r3 r4 hl60
          generalize (w60.alloc (.cells #[.int .i64 rt.c, .int .i64 rt.m.x, .int .i64 rt.m.y, .int .i64 rt.m.d, .int .i64 rt.m.e] 40)) = w61 at *
          refine (monCmpI_of hcc _).mono ?_
          rintro e w62 ⟨rfl, b62⟩
          have B62 := Hid.mk' (bel_next B60.out b62)
          clear b62 B60 hcc
          go_wp2_with fail
          refine (heOk_L _).mono ?_
          rintro e w63 ⟨rfl, b63⟩
          have B63 := Hid.mk' (bel_next B62.out b63)
          clear b63 B62
          go_wp2
          go_ret
          exact ⟨rfl, B63.out⟩
end Go.Proofs.YtfgmfgamkbgaiaaGreat
