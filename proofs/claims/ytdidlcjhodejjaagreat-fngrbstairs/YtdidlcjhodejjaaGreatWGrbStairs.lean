/-
  The walk of FnGrbStairs: whatever the code, it comes out true, and nothing that was there is turned.
-/
import Derived.Test.YtdidlcjhodejjaaGreatScc
import Derived.Test.YtdidlcjhodejjaaGreatScd
import Derived.Test.YtdidlcjhodejjaaGreatSbw
import Derived.Test.YtdidlcjhodejjaaGreatSbv
import Derived.Test.YtdidlcjhodejjaaGreatSaq
import Derived.Test.YtdidlcjhodejjaaGreatSba
namespace Go.Proofs.YtdidlcjhodejjaaGreat
open Go.RowKit Go.Deep Go.Joins
set_option linter.unusedVariables false

def GstD (w : World) (e : Ending) (w' : World) : Prop := ∃ (o : Int) (a : Option Addr) (n c : Nat) (ad : Nat → Option Addr) (cp : Nat → Nat) (L : Nat → List T), e = .returned (.tuple #[.int .i64 o, .slice a n c]) ∧ RdS w' a n c ad (lN L) cp (fN L) ∧ n ≤ 12 ∧ Below w.heap.size w w'
set_option maxRecDepth 100000 in
set_option maxHeartbeats 4000000 in
theorem drawGrbSt (w : World) (a : Option Addr) (len cap : Nat) (h : Src w a len cap) :
    Calls Tryz.prog 20 #[.slice a len cap] w (GstD w) := by
  go_enter Tryz.func20, Tryz.ntmps20
  go_wp2_with fail
  refine (open_any _ _ _ _ h).mono ?_
  rintro e w1 ⟨rfl, hR1, b1⟩
  have hl1 := hR1.lt
  clear h
  go_wp2_with fail
  refine (base_any w1 _ _ hR1 (by omega)).mono ?_
  rintro e w2 ⟨o, la, n, lc, lad, lcp, L, q2, rfl, hr2, hn12, hq2, hR2, s2⟩
  have b2 := s2.below b1 (Nat.le_refl _) (by omega)
  have HL2 := Hid.mk' hr2
  have HB2 := Hid.mk' b2
  clear hR1 s2 b1 hr2 b2 hR2
  go_wp2
  refine bodyPost_ret (v := .tuple #[.int .i64 o, .slice la n lc]) (by simp [results, Tryz.results20, go_sem, *]) rfl ?_
  exact ⟨o, la, n, lc, lad, lcp, L, rfl, HL2.out.1, hn12, HB2.out⟩
theorem st_good {o : Int} {n : Nat} {L : Nat → List T} (h : (1 ≤ o ∧ o ≤ 3) ∧ lstOk n (lN L) (fN L) = true) : (stairs o n (lN L) (fN L)).length = n ∧ ∀ i, i < n → lfm (stairs o n (lN L) (fN L)) i = (ldL o (L i)).m := by
  have e : stairs o n (lN L) (fN L) = stL o (lN L) (fN L) n := if_pos h
  rw [e]
  refine ⟨stL_len _ _ _ _, fun i hi => ?_⟩
  have key : ∀ n i, i < n → lfm (stL o (lN L) (fN L) n) i = (ldAt o (lN L) (fN L) i).m := fun n => by
    induction n with
    | zero => intro i hi; omega
    | succ n ih =>
      intro i hi
      have hl := stL_len o (lN L) (fN L) n
      unfold stL lfm
      by_cases e : i = n
      · subst e
        rw [List.getD_eq_getElem?_getD, List.getElem?_append_right (by omega), hl]
        simp
      · have := ih i (by omega)
        unfold lfm at this
        rw [List.getD_eq_getElem?_getD] at this ⊢
        rw [List.getElem?_append_left (by omega)]
        exact this
  exact key n i hi
theorem st_bad {o : Int} {n : Nat} {L : Nat → List T} (h : ¬ ((1 ≤ o ∧ o ≤ 3) ∧ lstOk n (lN L) (fN L) = true)) : stairs o n (lN L) (fN L) = [] := if_neg h
/-- what GrbStairs hands back. -/
theorem stI_L {w : World} {o : Int} {a : Option Addr} {n cap : Nat} {ad : Nat → Option Addr} {cp : Nat → Nat} {L : Nat → List T} (h : RdS w a n cap ad (lN L) cp (fN L)) {ST : List M} (hS : stairs o n (lN L) (fN L) = ST) : Calls Tryz.prog 21 #[.int .i64 o, .slice a n cap] w fun r w' => ∃ sa sc, r = .returned (.slice sa ST.length sc) ∧ Below w.heap.size w w' ∧ RdM w' sa ST.length sc (lfm ST) := by
  refine (grbStairsI w o a n cap ad (lN L) cp (fN L) h).mono ?_
  rintro r w' ⟨v, rfl, hb, ho⟩
  have hl := stairs_len o n (lN L) (fN L)
  rw [hS] at ho hl
  obtain ⟨sa, sc, rfl, hO⟩ := outM_of_owns ho (by omega)
  exact ⟨sa, sc, rfl, hb, hO.1⟩
theorem stS_L {w : World} {o : Int} {a : Option Addr} {n cap : Nat} {ad : Nat → Option Addr} {cp : Nat → Nat} {L : Nat → List T} (h : RdS w a n cap ad (lN L) cp (fN L)) {ST : List M} (hS : stairs o n (lN L) (fN L) = ST) : Calls Tryz.prog 22 #[.int .i64 o, .slice a n cap] w fun r w' => ∃ sa sc, r = .returned (.slice sa ST.length sc) ∧ Below w.heap.size w w' ∧ RdM w' sa ST.length sc (lfm ST) := by
  refine (grbStairsS w o a n cap ad (lN L) cp (fN L) h).mono ?_
  rintro r w' ⟨v, rfl, hb, ho⟩
  have hl := stairs_len o n (lN L) (fN L)
  rw [hS] at ho hl
  obtain ⟨sa, sc, rfl, hO⟩ := outM_of_owns ho (by omega)
  exact ⟨sa, sc, rfl, hb, hO.1⟩
theorem rds_emp {w : World} {a : Option Addr} {cap : Nat} {L : Nat → List T} : RdS w a 0 cap (fun _ => none) (lN L) (fun _ => 0) (fN L) :=
  ⟨Nat.zero_le _, Nat.zero_le _, .inl rfl, fun i hi => absurd hi (Nat.not_lt_zero _)⟩
set_option maxRecDepth 100000 in
set_option maxHeartbeats 8000000 in
theorem walk_FnGrbStairs (w : World) (a0 : Option Addr) (len0 cap0 : Nat) (s0 : Src w a0 len0 cap0) :
    Calls Tryz.prog 6 #[.slice a0 len0 cap0] w fun e w' => e = .returned (.bool true) ∧ Below w.heap.size w w' := by
  by_cases c0 : (1048576 : Int) < (len0 : Int)
  · go_enter Tryz.func6, Tryz.ntmps6
    go_wp2
    go_ret
    exact ⟨rfl, Below.refl _ _⟩
  go_enter Tryz.func6, Tryz.ntmps6
  go_wp2_with fail
  refine (drawGrbSt _ _ _ _ s0).mono ?_
  rintro e w1 ⟨o, a, n, c, ad, cp, L, rfl, hr, hn, b1⟩
  have HR := Hid.mk' hr
  have HB := Hid.mk' b1
  have hnI : (n : Int) ≤ 12 := by omega
  clear s0 hr b1
  obtain ⟨ST, hST⟩ : ∃ ST, stairs o n (lN L) (fN L) = ST := ⟨_, rfl⟩
  have HST := Hid.mk' hST
  clear hST
  go_wp2_with fail
  refine (stI_L HR.out HST.out).mono ?_
  rintro e w2 ⟨sa, sc, rfl, hb2, hs2⟩
  have HB2 := Hid.mk' (bel_next HB.out hb2)
  have HR2 := Hid.mk' (HR.out.below hb2)
  have HS2 := Hid.mk' hs2
  clear hb2 hs2 HR HB
  go_wp2_with fail
  refine (stS_L HR2.out HST.out).mono ?_
  rintro e w3 ⟨ta, tc, rfl, hb3, ht3⟩
  have HB3 := Hid.mk' (bel_next HB2.out hb3)
  have HR3 := Hid.mk' (HR2.out.below hb3)
  have HS3 := Hid.mk' (HS2.out.below hb3)
  have HT3 := Hid.mk' ht3
  clear hb3 ht3 HR2 HB2 HS2
  by_cases hg : (1 ≤ o ∧ o ≤ 3) ∧ lstOk n (lN L) (fN L) = true
  rotate_left
  · have e0 : ST = [] := by rw [← HST.out]; exact st_bad hg
    subst e0
    have hGL : grbLeast o n L = none := if_neg hg
    have HC := Hid.mk' (grbLeastI w3 o a n c ad cp L HR3.out)
    rw [hGL] at HC
    go_wp2
    go_loopw [7] (fun v wr => v = .int .i64 0 ∧ wr = w3) (fun _ _ => 0)
    case atStart => exact ⟨rfl, rfl⟩
    case round =>
      obtain ⟨rfl, rfl⟩ := hrel
      go_wp2_with fail
      refine HC.out.mono ?_
      rintro e w4 ⟨hb4, hh⟩
      rcases hh with ⟨l, qa, qc, ad', cp', Rb, B, q, _⟩ | ⟨_, rfl⟩
      · cases q
      have HB4 := Hid.mk' (bel_next HB3.out hb4)
      have HR4 := Hid.mk' (HR3.out.below hb4)
      obtain ⟨ST2, hST2⟩ : ∃ ST2, stairs o 0 (lN L) (fN L) = ST2 := ⟨_, rfl⟩
      have hl2 : ST2 = [] := by
        rw [← hST2]
        unfold stairs
        split <;> rfl
      subst hl2
      have HST2 := Hid.mk' hST2
      clear hb4 hST2 hGL
      go_wp2_with fail
      refine (stI_L (L := L) rds_emp HST2.out).mono ?_
      rintro e w5 ⟨ua, uc, rfl, hb5, _⟩
      have HB5 := Hid.mk' (bel_next HB4.out hb5)
      have HR5 := Hid.mk' (HR4.out.below hb5)
      clear hb5
      go_wp2
      go_loopw [13] (fun v w' => v = .int .i64 0 ∧ w' = w5) (fun _ _ => 0)
      case atStart => exact ⟨rfl, rfl⟩
      case round =>
        obtain ⟨rfl, rfl⟩ := hrel
        by_cases hn0 : n = 0
        · subst hn0
          go_wp2_with fail
          refine (heOk_L _).mono ?_
          rintro e w6 ⟨rfl, hb6⟩
          have HB6 := Hid.mk' (bel_next HB5.out hb6)
          clear hb6
          go_wp2
          go_ret
          exact ⟨rfl, HB6.out⟩
        · have hnz : ((0 : Int) == (n : Int)) = false := by rw [beq_eq_false_iff_ne]; omega
          have hnz2 : (n : Int) ≠ 0 := by omega
          have hnz3 : ¬ (0 : Int) = (n : Int) := by omega
          cases hl : lstOk n (lN L) (fN L)
          · go_wp2_with fail
            refine (lstOkS _ a n c ad (lN L) cp (fN L) HR5.out).mono ?_
            rw [hl]
            rintro e w6 ⟨rfl, hb6⟩
            have HB6 := Hid.mk' (bel_next HB5.out hb6)
            clear hb6
            go_wp2_with fail
            refine (heOk_L _).mono ?_
            rintro e w7 ⟨rfl, hb7⟩
            have HB7 := Hid.mk' (bel_next HB6.out hb7)
            clear hb7
            go_wp2
            go_ret
            exact ⟨rfl, HB7.out⟩
          · have ho : o < 1 ∨ (1 ≤ o ∧ 3 < o) := by
              rcases Classical.em (1 ≤ o ∧ o ≤ 3) with q | q
              · exact absurd ⟨q, hl⟩ hg
              · omega
            clear hg
            rcases ho with q | ⟨q, q'⟩
            all_goals
              go_wp2_with fail
              refine (lstOkS _ a n c ad (lN L) cp (fN L) HR5.out).mono ?_
              rw [hl]
              rintro e w6 ⟨rfl, hb6⟩
              have HB6 := Hid.mk' (bel_next HB5.out hb6)
              clear hb6
              go_wp2_with fail
              refine (heOk_L _).mono ?_
              rintro e w7 ⟨rfl, hb7⟩
              have HB7 := Hid.mk' (bel_next HB6.out hb7)
              clear hb7
              go_wp2
              go_ret
              exact ⟨rfl, HB7.out⟩
  · obtain ⟨hlen, hat⟩ := st_good hg
    rw [HST.out] at hlen hat
    rw [hlen] at HS3 HT3 ⊢
    have HAT := Hid.mk' hat
    have HLO := Hid.mk' (lstOk_all hg.2).2
    clear hat hlen
    go_wp2
    go_loopw [7] (fun v wr => ∃ i : Nat, i ≤ n ∧ v = .int .i64 (i : Int) ∧ Below w3.heap.size w3 wr) (fun v _ => n - (intOf v).toNat)
    case atStart => exact ⟨0, Nat.zero_le _, rfl, Below.refl _ _⟩
    case round =>
      obtain ⟨i, hi, rfl, hB⟩ := hrel
      have HBr := Hid.mk' hB
      by_cases hlt : i < n
      · have hil : (i : Int) < (n : Int) := by omega
        obtain ⟨b1, off1, ea, hb1, hc1⟩ := (HR3.out.below hB).2.2.1.resolve_left (by omega)
        obtain ⟨l, hlen⟩ : ∃ l, (L i).length = l := ⟨_, rfl⟩
        have kc : wr.cell? ⟨b1, off1 + i, none⟩ = some (.slice (ad i) l (cp i)) := by rw [← hlen]; exact hc1 i hlt
        obtain ⟨hk0, hpk⟩ := HLO.out i hlt
        have e1 : leadOk o (L i).length (lf (L i)) = true := ldB_iff.2 ⟨hg.1, hpk, fun e => hk0 (by show (L i).length = 0; rw [e]; rfl)⟩
        have t1 : leadT o (L i).length (lf (L i)) = ldL o (L i) := leadT_yes e1
        have hat := HAT.out i hlt
        obtain ⟨t, ht⟩ : ∃ t, ldL o (L i) = t := ⟨_, rfl⟩
        rw [ht] at hat t1
        have hcall := polLeadI wr o (ad i) (L i).length (cp i) (lf (L i)) ((HR3.out.below hB).2.2.2 i hlt)
        rw [t1, e1, hlen] at hcall
        have HCL := Hid.mk' hcall
        obtain ⟨sb, so, esa, hsb, hsc⟩ := (HS3.out.below hB).2.2.resolve_left (by omega)
        obtain ⟨tb, to, eta, htb, htc⟩ := (HT3.out.below hB).2.2.resolve_left (by omega)
        have HSC := Hid.mk' (hsc i hlt)
        have HTC := Hid.mk' (htc i hlt)
        rw [hat] at HSC HTC
        subst ea esa eta
        clear hB hc1 hk0 hpk e1 t1 hcall hsc htc hat hlen ht
        go_wp2_with fail
        refine HCL.out.mono ?_
        rintro r w4 ⟨rfl, hb4⟩
        have bx := bel_one w4 (.cells #[.int .i64 t.c, .int .i64 t.m.x, .int .i64 t.m.y, .int .i64 t.m.d, .int .i64 t.m.e] 42)
        have HB4 := Hid.mk' (bel_next (bel_next HBr.out hb4) bx)
        obtain ⟨y0, y1, y2, y3, y4⟩ := C5.box w4 42 t
        obtain ⟨p0, p1, p2, p3⟩ := ((HSC.out.below hb4 hsb).below bx (Nat.lt_of_lt_of_le hsb hb4.size))
        obtain ⟨q0, q1, q2, q3⟩ := ((HTC.out.below hb4 htb).below bx (Nat.lt_of_lt_of_le htb hb4.size))
        clear hb4 bx HCL kc
        go_wp2_with fail
        generalize (w4.alloc (.cells #[.int .i64 t.c, .int .i64 t.m.x, .int .i64 t.m.y, .int .i64 t.m.d, .int .i64 t.m.e] 42)) = w5 at HB4 y0 y1 y2 y3 y4 p0 p1 p2 p3 q0 q1 q2 q3 ⊢
        go_quiet (fail)
        go_wp2
        go_roundw
        case rel => exact ⟨i + 1, by omega, by go_num, below_drewN HB4.out _⟩
        case measure => simp [intOf]; omega
      · have hil : ¬ (i : Int) < (n : Int) := by omega
        have hie : i = n := by omega
        subst hie
        have HR4 := Hid.mk' (HR3.out.below hB)
        have HB4 := Hid.mk' (bel_next HB3.out hB)
        clear hB
        have hnn : ((i : Int) == (i : Int)) = true := by simp
        cases hGL : grbLeast o i L with
        | none =>
          have HC4 := Hid.mk' (grbLeastI wr o a i c ad cp L HR4.out)
          rw [hGL] at HC4
          go_wp2_with fail
          refine HC4.out.mono ?_
          rintro e w4 ⟨hb4, hh⟩
          rcases hh with ⟨l, qa, qc, ad', cp', Rb, B, q, _⟩ | ⟨_, rfl⟩
          · cases q
          have HB5 := Hid.mk' (bel_next HB4.out hb4)
          obtain ⟨ST2, hST2⟩ : ∃ ST2, stairs o 0 (lN L) (fN L) = ST2 := ⟨_, rfl⟩
          have hl2 : ST2 = [] := by
            rw [← hST2]
            unfold stairs
            split <;> rfl
          subst hl2
          have HST2 := Hid.mk' hST2
          clear hb4 hST2 hGL
          go_wp2_with fail
          refine (stI_L (L := L) rds_emp HST2.out).mono ?_
          rintro e w5 ⟨ua, uc, rfl, hb5, _⟩
          have HB6 := Hid.mk' (bel_next HB5.out hb5)
          clear hb5
          go_wp2
          go_loopw [13] (fun v w' => v = .int .i64 0 ∧ w' = w5) (fun _ _ => 0)
          case atStart => exact ⟨rfl, rfl⟩
          case round =>
            obtain ⟨rfl, rfl⟩ := hrel
            go_wp2_with fail
            refine (heOk_L _).mono ?_
            rintro e w7 ⟨rfl, hb7⟩
            have HB7 := Hid.mk' (bel_next HB6.out hb7)
            clear hb7
            go_wp2
            go_ret
            exact ⟨rfl, HB7.out⟩
        | some l =>
          have hLs := grbLeast_least hGL
          have HLs := Hid.mk' hLs
          have hl12 := hLs.le
          have hg2 : (1 ≤ o ∧ o ≤ 3) ∧ lstOk l.length (lN (Lof l)) (fN (Lof l)) = true := ⟨hg.1, okA_lst hLs.ok hLs.le⟩
          obtain ⟨hlen2, hat2⟩ := st_good hg2
          obtain ⟨ST2, hST2⟩ : ∃ ST2, stairs o l.length (lN (Lof l)) (fN (Lof l)) = ST2 := ⟨_, rfl⟩
          rw [hST2] at hlen2 hat2
          have HST2 := Hid.mk' hST2
          have HAT2 := Hid.mk' hat2
          have HC4 := Hid.mk' (grbLeastI wr o a i c ad cp L HR4.out)
          rw [hGL] at HC4
          obtain ⟨N, hN⟩ : ∃ N, l.length = N := ⟨_, rfl⟩
          have HN := Hid.mk' hN
          rw [hN] at hlen2 hl12
          have hNI : (N : Int) ≤ 12 := by omega
          have HLN2 := Hid.mk' hlen2
          clear hg2 hlen2 hat2 hST2 hLs hN hGL
          go_wp2_with fail
          refine HC4.out.mono ?_
          rintro e w4 ⟨hb4, hh⟩
          rcases hh with ⟨l', qa, qc, ad', cp', Rb, B, q, rfl, hO⟩ | ⟨q, _⟩
          rotate_left
          · cases q
          cases q
          have HB5 := Hid.mk' (bel_next HB4.out hb4)
          have HX5 := Hid.mk' hO.rd
          clear hb4 hO HC4
          go_wp2_with fail
          refine (stI_L HX5.out HST2.out).mono ?_
          rw [HLN2.out]
          rintro e w5 ⟨ua, uc, rfl, hb5, hu5⟩
          have HB6 := Hid.mk' (bel_next HB5.out hb5)
          have HU := Hid.mk' hu5
          clear hb5 hu5
          go_wp2
          go_loopw [13] (fun v w' => ∃ k : Nat, k ≤ N ∧ v = .int .i64 (k : Int) ∧ Below w5.heap.size w5 w') (fun v _ => N - (intOf v).toNat)
          case atStart => exact ⟨0, Nat.zero_le _, rfl, Below.refl _ _⟩
          case round =>
            obtain ⟨k, hk, rfl, hBk⟩ := hrel
            have HBk := Hid.mk' hBk
            by_cases hkN : k < N
            · have hkI : (k : Int) < (N : Int) := by omega
              obtain ⟨wo, hwo⟩ : ∃ x, x = wr := ⟨_, rfl⟩
              clear hBk
              go_wp2
              go_loopw [14] (fun v w' => ∃ m : Nat, m ≤ N ∧ v = .int .i64 (m : Int) ∧ Below w5.heap.size w5 w') (fun v _ => N - (intOf v).toNat)
              case atStart => exact ⟨0, Nat.zero_le _, rfl, HBk.out⟩
              case round =>
                obtain ⟨m, hm, rfl, hBm⟩ := hrel
                have HBm := Hid.mk' hBm
                by_cases hmN : m < N
                · have hmI : (m : Int) < (N : Int) := by omega
                  by_cases hkm : k = m
                  · subst hkm
                    have hne : ((k : Int) != (k : Int)) = false := by simp
                    have ne := Ext.there wr
                    clear hBm
                    go_wp2_with fail
                    refine wp_region_ext (by kernel_rfl) (by kernel_rfl) ?_
                    repeat (go_big_quiet_step (fail))
                    refine wpQuiet_nil ?_
                    rintro _ ⟨v, rfl⟩
                    have HV := Hid.mk' (bel_next HBm.out v.2)
                    clear ne
                    go_wp2
                    go_roundw
                    case rel => exact ⟨k + 1, by omega, by go_num, HV.out⟩
                    case measure => simp [intOf]; omega
                  · have hne : ((k : Int) != (m : Int)) = true := by simp; omega
                    have hne2 : ¬ (k : Int) = (m : Int) := by omega
                    have hne3 : ¬ k = m := hkm
                    obtain ⟨ub, uo, eu, hub, huc⟩ := (HU.out.below hBm).2.2.resolve_left (by omega)
                    obtain ⟨A, hA⟩ : ∃ A, (ldL o (Lof l k)).m = A := ⟨_, rfl⟩
                    obtain ⟨C, hC⟩ : ∃ C, (ldL o (Lof l m)).m = C := ⟨_, rfl⟩
                    have hAe : lfm ST2 k = A := by rw [HAT2.out k (by rw [HN.out]; exact hkN), hA]
                    have hCe : lfm ST2 m = C := by rw [HAT2.out m (by rw [HN.out]; exact hmN), hC]
                    have ka := huc k hkN
                    have kb := huc m hmN
                    rw [hAe] at ka
                    rw [hCe] at kb
                    obtain ⟨a0', a1', a2', a3'⟩ := ka
                    obtain ⟨b0', b1', b2', b3'⟩ := kb
                    have hdv : M.dvd A C = false := by
                      rw [← hA, ← hC]
                      exact HLs.out.anti k m (by rw [HN.out]; exact hkN) (by rw [HN.out]; exact hmN) hkm
                    have hcall : ∀ u : Ext wr, Calls Tryz.prog 24 #[.agg #[.int .i64 A.x, .int .i64 A.y, .int .i64 A.d, .int .i64 A.e], .agg #[.int .i64 C.x, .int .i64 C.y, .int .i64 C.d, .int .i64 C.e]] u.1 fun r w' => r = .returned (.bool false) ∧ Below u.1.heap.size u.1 w' := fun u => monDividesI_of hdv u.1
                    have ne := Ext.there wr
                    have s0 : ∀ u : Ext wr, u.1.cell? ⟨ub, uo + k * 4, none⟩ = some (.int .i64 A.x) := fun u => (u.cell hub).trans a0'
                    have s1 : ∀ u : Ext wr, u.1.cell? ⟨ub, uo + k * 4 + 1, none⟩ = some (.int .i64 A.y) := fun u => (u.cell hub).trans a1'
                    have s2 : ∀ u : Ext wr, u.1.cell? ⟨ub, uo + k * 4 + 2, none⟩ = some (.int .i64 A.d) := fun u => (u.cell hub).trans a2'
                    have s3 : ∀ u : Ext wr, u.1.cell? ⟨ub, uo + k * 4 + 3, none⟩ = some (.int .i64 A.e) := fun u => (u.cell hub).trans a3'
                    have t0 : ∀ u : Ext wr, u.1.cell? ⟨ub, uo + m * 4, none⟩ = some (.int .i64 C.x) := fun u => (u.cell hub).trans b0'
                    have t1 : ∀ u : Ext wr, u.1.cell? ⟨ub, uo + m * 4 + 1, none⟩ = some (.int .i64 C.y) := fun u => (u.cell hub).trans b1'
                    have t2 : ∀ u : Ext wr, u.1.cell? ⟨ub, uo + m * 4 + 2, none⟩ = some (.int .i64 C.d) := fun u => (u.cell hub).trans b2'
                    have t3 : ∀ u : Ext wr, u.1.cell? ⟨ub, uo + m * 4 + 3, none⟩ = some (.int .i64 C.e) := fun u => (u.cell hub).trans b3'
                    subst eu
                    clear hBm huc hA hC hAe hCe a0' a1' a2' a3' b0' b1' b2' b3' hdv
                    go_wp2_with fail
                    refine wp_region_ext (by kernel_rfl) (by kernel_rfl) ?_
                    repeat (go_big_quiet_step (first | (go_at_call 24; exact ext_grows (hcall _)) | fail))
                    refine wpQuiet_nil ?_
                    rintro _ ⟨v, rfl⟩
                    have HV := Hid.mk' (bel_next HBm.out v.2)
                    clear ne s0 s1 s2 s3 t0 t1 t2 t3 hcall
                    go_wp2
                    go_roundw
                    case rel => exact ⟨m + 1, by omega, by go_num, HV.out⟩
                    case measure => simp [intOf]; omega
                · have hmI : ¬ (m : Int) < (N : Int) := by omega
                  clear hBm
                  go_wp2
                  go_roundw
                  case rel => exact ⟨k + 1, by omega, by go_num, HBm.out⟩
                  case measure => simp [intOf]; omega
            · have hkI : ¬ (k : Int) < (N : Int) := by omega
              clear hBk
              go_wp2_with fail
              refine (heOk_L _).mono ?_
              rintro e w7 ⟨rfl, hb7⟩
              have HB7 := Hid.mk' (bel_next (bel_next HB6.out HBk.out) hb7)
              clear hb7
              go_wp2
              go_ret
              exact ⟨rfl, HB7.out⟩
end Go.Proofs.YtdidlcjhodejjaaGreat
