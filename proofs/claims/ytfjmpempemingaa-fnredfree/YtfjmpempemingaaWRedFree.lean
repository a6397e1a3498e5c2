/-
  The walk of FnRedFree: whatever the code, it comes out true, and nothing that was there is turned.
-/
import Derived.Test.YtfjmpempemingaaDrawRF
import Derived.Test.YtfjmpempemingaaGaq
import Derived.Test.YtfjmpempemingaaGal
import Derived.Test.YtfjmpempemingaaGaj
import Derived.Test.YtfjmpempemingaaFrX
namespace Go.Proofs.Ytfjmpempemingaa
open Go.RowKit
set_option linter.unusedVariables false
set_option maxRecDepth 100000 in
set_option maxHeartbeats 8000000 in
theorem walk_FnRedFree (w : World) (a0 : Option Addr) (len0 cap0 : Nat) (s0 : Src w a0 len0 cap0) :
    Calls Try.prog 3 #[.slice a0 len0 cap0] w fun e w' => e = .returned (.bool true) ∧ Below w.heap.size w w' := by
  by_cases c0 : (1048576 : Int) < (len0 : Int)
  · go_enter Try.func3, Try.ntmps3
    go_wp2
    go_ret
    exact ⟨rfl, Below.refl _ _⟩
  go_enter Try.func3, Try.ntmps3
  go_wp2_with fail
  refine (drawRedFree w a0 len0 cap0 s0).mono ?_
  rintro e wd ⟨o, pa, pc, p, la0, n, lc0, ad0, cp0, L, rfl, hP, hG, hln, hbd⟩
  have hpl : (p.length : Int) ≤ 140737488351232 := by have := hP.2.1; omega
  have HP0 := Hid.mk' hP
  have HG0 := Hid.mk' hG
  have Z0 := Hid.mk' hbd
  clear hP hG hbd s0
  have hn5 : (n : Int) ≤ 5 := by omega
  obtain ⟨FR, hFR⟩ : ∃ F, redFree o p.length (lf p) n (lN L) (fN L) = F := ⟨_, rfl⟩
  have HFR := Hid.mk' hFR
  clear hFR
  go_wp2_with fail
  refine (freeI_S o HP0.out HG0.out).mono ?_
  rw [HFR.out]
  rintro e w1 ⟨rfl, b2⟩
  have H3 := Hid.mk' (HP0.out.below b2)
  clear HP0
  have H4 := Hid.mk' (HG0.out.below b2)
  clear HG0
  have Z5 := Hid.mk' (bel_next Z0.out b2)
  clear Z0
  clear b2
  go_wp2_with fail
  refine (redFreeS _ o _ _ _ (lf p) H3.out _ _ _ _ _ _ _ H4.out).mono ?_
  rw [HFR.out]
  rintro e ws ⟨rfl, hbs⟩
  have H6 := Hid.mk' (H3.out.below hbs)
  clear H3
  have H7 := Hid.mk' (H4.out.below hbs)
  clear H4
  have Z8 := Hid.mk' (bel_next Z5.out hbs)
  clear Z5
  clear hbs
  have hff : (FR == FR) = true := by simp
  go_wp2_with fail
  refine (grbStairsI _ o _ _ _ _ _ _ _ H7.out).mono ?_
  rintro e wt ⟨v, rfl, hbt, hot⟩
  obtain ⟨ST, hST⟩ : ∃ S, stairs o n (lN L) (fN L) = S := ⟨_, rfl⟩
  rw [hST] at hot
  have hsl : ST.length ≤ 12 := hST ▸ stairs_len o n (lN L) (fN L)
  have hsl2 : (ST.length : Int) ≤ 12 := by omega
  obtain ⟨sa, sc, rfl, hOt⟩ := outM_of_owns hot (by omega)
  have HST := Hid.mk' hST
  have HSR : Hid (RdM wt sa ST.length sc (lfm ST)) := hOt.1
  clear hST hot hOt
  have H9 := Hid.mk' (H6.out.below hbt)
  clear H6
  have H10 := Hid.mk' (H7.out.below hbt)
  clear H7
  have Z11 := Hid.mk' (bel_next Z8.out hbt)
  clear Z8
  clear hbt
  go_wp2
  go_loopw [7, 9] (fun sv iv wr => ∃ i : Nat, i ≤ p.length ∧ iv = .int .i64 (i : Int) ∧ sv = .bool (smI ST p i) ∧ Below wt.heap.size wt wr) (fun _ iv _ => p.length - (intOf iv).toNat)
  case atStart => exact ⟨0, Nat.zero_le _, rfl, rfl, Below.refl _ _⟩
  case round =>
    obtain ⟨i, hi, rfl, rfl, hBel⟩ := hrel
    by_cases hlt : i < p.length
    · have hil : (i : Int) < (p.length : Int) := by omega
      have HBel := Hid.mk' hBel
      clear hBel
      go_wp2
      go_loopw [7, 10] (fun sv kv wq => ∃ k : Nat, k ≤ ST.length ∧ kv = .int .i64 (k : Int) ∧ sv = .bool (smI ST p i || smK ST (lf p i).m k) ∧ Below wt.heap.size wt wq) (fun _ kv _ => ST.length - (intOf kv).toNat)
      case atStart => exact ⟨0, Nat.zero_le _, rfl, by rw [smK, Bool.or_false], HBel.out⟩
      case round =>
        obtain ⟨k, hk, rfl, rfl, hBel⟩ := hrel
        have HB := Hid.mk' hBel
        by_cases hlt2 : k < ST.length
        · have hkl : (k : Int) < (ST.length : Int) := by omega
          cases hs : (smI ST p i || smK ST (lf p i).m k)
          · obtain ⟨dv, hdv⟩ : ∃ b, M.dvd (lfm ST k) (lf p i).m = b := ⟨_, rfl⟩
            have HN : Hid ((smI ST p i || smK ST (lf p i).m (k + 1)) = dv) := by show (smI ST p i || (smK ST (lf p i).m k || M.dvd (lfm ST k) (lf p i).m)) = dv; rw [← Bool.or_assoc, hs, hdv]; simp
            rcases HSR.out.2.2 with h0 | ⟨b, off, rfl, hblt, hcl⟩
            · omega
            rcases H9.out.2.2 with h0 | ⟨b2, off2, rfl, hblt2, hcl2⟩
            · omega
            have hbr : b < wr.heap.size := Nat.lt_of_lt_of_le hblt hBel.size
            have hbr2 : b2 < wr.heap.size := Nat.lt_of_lt_of_le hblt2 hBel.size
            have ne := Ext.there wr
            have hck := (hcl k hlt2).below hBel hblt
            have hck2 := (hcl2 i hlt).below hBel hblt2
            have s0 : ∀ u : Ext wr, u.1.cell? ⟨b, off + k * 4, none⟩ = some (.int .i64 (lfm ST k).x) := fun u => (u.cell hbr).trans hck.1
            have s1 : ∀ u : Ext wr, u.1.cell? ⟨b, off + k * 4 + 1, none⟩ = some (.int .i64 (lfm ST k).y) := fun u => (u.cell hbr).trans hck.2.1
            have s2 : ∀ u : Ext wr, u.1.cell? ⟨b, off + k * 4 + 2, none⟩ = some (.int .i64 (lfm ST k).d) := fun u => (u.cell hbr).trans hck.2.2.1
            have s3 : ∀ u : Ext wr, u.1.cell? ⟨b, off + k * 4 + 3, none⟩ = some (.int .i64 (lfm ST k).e) := fun u => (u.cell hbr).trans hck.2.2.2
            have t0 : ∀ u : Ext wr, u.1.cell? ⟨b2, off2 + i * 5 + 1, none⟩ = some (.int .i64 (lf p i).m.x) := fun u => (u.cell hbr2).trans hck2.2.1
            have t1 : ∀ u : Ext wr, u.1.cell? ⟨b2, off2 + i * 5 + 2, none⟩ = some (.int .i64 (lf p i).m.y) := fun u => (u.cell hbr2).trans hck2.2.2.1
            have t2 : ∀ u : Ext wr, u.1.cell? ⟨b2, off2 + i * 5 + 3, none⟩ = some (.int .i64 (lf p i).m.d) := fun u => (u.cell hbr2).trans hck2.2.2.2.1
            have t3 : ∀ u : Ext wr, u.1.cell? ⟨b2, off2 + i * 5 + 4, none⟩ = some (.int .i64 (lf p i).m.e) := fun u => (u.cell hbr2).trans hck2.2.2.2.2
            clear hck hck2 hcl hcl2 hBel
            go_wp2_with fail
            refine wp_region_ext (by kernel_rfl) (by kernel_rfl) ?_
            repeat (go_big_quiet_step (first | (go_at_call 9; exact ext_grows (dvdI_of hdv _))))
            refine wpQuiet_nil ?_
            rintro _ ⟨u, rfl⟩
            go_wp2
            go_roundw
            case rel => exact ⟨k + 1, by omega, by go_num, by rw [HN.out], HB.out.trans (u.2.mono HB.out.size)⟩
            case measure => simp [intOf]; omega
          · have HN : Hid ((smI ST p i || smK ST (lf p i).m (k + 1)) = true) := by show (smI ST p i || (smK ST (lf p i).m k || M.dvd (lfm ST k) (lf p i).m)) = true; rw [← Bool.or_assoc, hs]; rfl
            clear hBel
            have ne := Ext.there wr
            go_wp2_with fail
            refine wp_region_ext (by kernel_rfl) (by kernel_rfl) ?_
            repeat (go_big_quiet_step (fail))
            refine wpQuiet_nil ?_
            rintro _ ⟨u, rfl⟩
            go_wp2
            go_roundw
            case rel => exact ⟨k + 1, by omega, by go_num, by rw [HN.out], HB.out.trans (u.2.mono HB.out.size)⟩
            case measure => simp [intOf]; omega
        · have hkl : ¬ (k : Int) < (ST.length : Int) := by omega
          obtain rfl : k = ST.length := by omega
          clear hBel
          go_wp2
          go_roundw
          case rel => exact ⟨i + 1, by omega, by go_num, rfl, HB.out⟩
          case measure => simp [intOf]; omega
    · have hil : ¬ (i : Int) < (p.length : Int) := by omega
      obtain rfl : i = p.length := by omega
      have HD := Hid.mk' (free_some (o := o) (p := p) (n := n) (ln := lN L) (f := fN L) HST.out)
      clear HSR
      have H12 := Hid.mk' (H9.out.below hBel)
      clear H9
      have H13 := Hid.mk' (H10.out.below hBel)
      clear H10
      have Z14 := Hid.mk' (bel_next Z11.out hBel)
      clear Z11
      clear hBel
      cases hpo : okL p
      · go_wp2_with fail
        refine (okS_L H12.out).mono ?_
        rw [hpo]
        rintro e w15 ⟨rfl, b16⟩
        have H17 := Hid.mk' (H12.out.below b16)
        clear H12
        have H18 := Hid.mk' (H13.out.below b16)
        clear H13
        have Z19 := Hid.mk' (bel_next Z14.out b16)
        clear Z14
        clear b16
        obtain rfl : FR = false := HFR.out.symm.trans (decide_eq_false (fun hh => by have := hh.2.1; rw [show polOk p.length (lf p) = false from hpo] at this; cases this))
        go_wp2_with fail
        refine (heOk_L _ ).mono ?_
        rintro e w20 ⟨rfl, b21⟩
        have H22 := Hid.mk' (H17.out.below b21)
        clear H17
        have H23 := Hid.mk' (H18.out.below b21)
        clear H18
        have Z24 := Hid.mk' (bel_next Z19.out b21)
        clear Z19
        clear b21
        go_wp2
        go_ret
        exact ⟨rfl, Z24.out⟩
      · go_wp2_with fail
        refine (okS_L H12.out).mono ?_
        rw [hpo]
        rintro e w25 ⟨rfl, b26⟩
        have H27 := Hid.mk' (H12.out.below b26)
        clear H12
        have H28 := Hid.mk' (H13.out.below b26)
        clear H13
        have Z29 := Hid.mk' (bel_next Z14.out b26)
        clear Z14
        clear b26
        cases hls : lstOk n (lN L) (fN L)
        · go_wp2_with fail
          refine (lstOkS _ _ _ _ _ _ _ _ H28.out).mono ?_
          rw [hls]
          rintro e wl ⟨rfl, hbl⟩
          have H30 := Hid.mk' (H27.out.below hbl)
          clear H27
          have H31 := Hid.mk' (H28.out.below hbl)
          clear H28
          have Z32 := Hid.mk' (bel_next Z29.out hbl)
          clear Z29
          clear hbl
          obtain rfl : FR = false := HFR.out.symm.trans (decide_eq_false (fun hh => by have := hh.2.2.1; rw [hls] at this; cases this))
          go_wp2_with fail
          refine (heOk_L _ ).mono ?_
          rintro e w33 ⟨rfl, b34⟩
          have H35 := Hid.mk' (H30.out.below b34)
          clear H30
          have H36 := Hid.mk' (H31.out.below b34)
          clear H31
          have Z37 := Hid.mk' (bel_next Z32.out b34)
          clear Z32
          clear b34
          go_wp2
          go_ret
          exact ⟨rfl, Z37.out⟩
        · go_wp2_with fail
          refine (lstOkS _ _ _ _ _ _ _ _ H28.out).mono ?_
          rw [hls]
          rintro e wl ⟨rfl, hbl⟩
          have H38 := Hid.mk' (H27.out.below hbl)
          clear H27
          have H39 := Hid.mk' (H28.out.below hbl)
          clear H28
          have Z40 := Hid.mk' (bel_next Z29.out hbl)
          clear Z29
          clear hbl
          rcases (show o < 1 ∨ (¬ o < 1 ∧ 3 < o) ∨ (1 ≤ o ∧ o ≤ 3) by omega) with ho | ⟨ho, ho2⟩ | ho
          · obtain rfl : FR = false := HFR.out.symm.trans (decide_eq_false (fun hh => by have := hh.1; omega))
            go_wp2_with fail
            refine (heOk_L _ ).mono ?_
            rintro e w41 ⟨rfl, b42⟩
            have H43 := Hid.mk' (H38.out.below b42)
            clear H38
            have H44 := Hid.mk' (H39.out.below b42)
            clear H39
            have Z45 := Hid.mk' (bel_next Z40.out b42)
            clear Z40
            clear b42
            go_wp2
            go_ret
            exact ⟨rfl, Z45.out⟩
          · obtain rfl : FR = false := HFR.out.symm.trans (decide_eq_false (fun hh => by have := hh.1; omega))
            go_wp2_with fail
            refine (heOk_L _ ).mono ?_
            rintro e w46 ⟨rfl, b47⟩
            have H48 := Hid.mk' (H38.out.below b47)
            clear H38
            have H49 := Hid.mk' (H39.out.below b47)
            clear H39
            have Z50 := Hid.mk' (bel_next Z40.out b47)
            clear Z40
            clear b47
            go_wp2
            go_ret
            exact ⟨rfl, Z50.out⟩
          · have o1 : ¬ o < 1 := by omega
            have o2 : ¬ 3 < o := by omega
            obtain rfl : FR = !smI ST p p.length := HFR.out.symm.trans (HD.out ⟨by omega, by omega⟩ hpo hls)
            obtain ⟨sb, hsb⟩ : ∃ b, smI ST p p.length = b := ⟨_, rfl⟩
            rw [hsb]
            cases sb
            · clear hff HFR HD
              go_wp2_with fail
              refine (heOk_L _ ).mono ?_
              rintro e w51 ⟨rfl, b52⟩
              have H53 := Hid.mk' (H38.out.below b52)
              clear H38
              have H54 := Hid.mk' (H39.out.below b52)
              clear H39
              have Z55 := Hid.mk' (bel_next Z40.out b52)
              clear Z40
              clear b52
              go_wp2
              go_ret
              exact ⟨rfl, Z55.out⟩
            · clear hff HFR HD
              go_wp2_with fail
              refine (heOk_L _ ).mono ?_
              rintro e w56 ⟨rfl, b57⟩
              have H58 := Hid.mk' (H38.out.below b57)
              clear H38
              have H59 := Hid.mk' (H39.out.below b57)
              clear H39
              have Z60 := Hid.mk' (bel_next Z40.out b57)
              clear Z40
              clear b57
              go_wp2
              go_ret
              exact ⟨rfl, Z60.out⟩
end Go.Proofs.Ytfjmpempemingaa
