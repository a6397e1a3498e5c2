/-
  The walk of FnGrbOk: whatever the code, it comes out true, and nothing that was there is turned.
-/
import Derived.Test.YtmlaedpamobmhaaGreatDrawOk
import Derived.Test.YtmlaedpamobmhaaGreatGbL
import Derived.Test.YtmlaedpamobmhaaGreatGkI
import Derived.Test.YtmlaedpamobmhaaGreatGba
import Derived.Test.YtmlaedpamobmhaaGreatGay
import Derived.Test.YtmlaedpamobmhaaGreatGbm
namespace Go.Proofs.YtmlaedpamobmhaaGreat
open Go.RowKit
set_option linter.unusedVariables false

/-- nothing is left of the first pairs. -/
def okTo (o : Int) (n : Nat) (L : Nat → List T) (k i : Nat) : Bool := decide ((∀ k', k' < k → ∀ i', i' < k' → prK o n L i' k' = 2) ∧ ∀ i', i' < i → prK o n L i' k = 2)
theorem okTo_start (o : Int) (n : Nat) (L : Nat → List T) : okTo o n L 1 0 = true := decide_eq_true ⟨fun k' h1 i' h2 => by omega, fun i' h => by omega⟩
theorem okTo_step {o : Int} {n : Nat} {L : Nat → List T} {k i : Nat} {b : Bool} (h : b = decide (prK o n L i k = 2)) : (okTo o n L k i && b) = okTo o n L k (i + 1) := by
  subst h
  unfold okTo
  rw [← Bool.decide_and]
  refine decide_eq_decide.2 ⟨fun ⟨⟨h1, h2⟩, h3⟩ => ⟨h1, fun i' hi' => ?_⟩, fun ⟨h1, h2⟩ => ⟨⟨h1, fun i' hi' => h2 i' (by omega)⟩, h2 i (by omega)⟩⟩
  by_cases e : i' = i
  · rw [e]; exact h3
  · exact h2 i' (by omega)
theorem okTo_next (o : Int) (n : Nat) (L : Nat → List T) (k : Nat) : okTo o n L k k = okTo o n L (k + 1) 0 := by
  unfold okTo
  refine decide_eq_decide.2 ⟨fun ⟨h1, h2⟩ => ⟨fun k' hk' i' hi' => ?_, fun i' h => by omega⟩, fun ⟨h1, h2⟩ => ⟨fun k' hk' => h1 k' (by omega), h1 k (by omega)⟩⟩
  by_cases e : k' = k
  · rw [e] at hi' ⊢; exact h2 i' hi'
  · exact h1 k' (by omega) i' hi'
theorem okTo_end {o : Int} {n k : Nat} {L : Nat → List T} (ho : 1 ≤ o ∧ o ≤ 3) (hl : lstOk n (lN L) (fN L) = true) (hk : k = n ∨ (k = 1 ∧ n = 0)) : okTo o n L k 0 = grbOk o n L := by
  unfold okTo grbOk
  refine decide_eq_decide.2 ⟨fun ⟨h1, h2⟩ => ⟨ho, hl, fun k' hk' i' hi' => h1 k' (by omega) i' hi'⟩, fun ⟨_, _, h⟩ => ⟨fun k' hk' i' hi' => ?_, fun i' h => by omega⟩⟩
  exact h k' (by omega) i' hi'
theorem grbOk_no {o : Int} {n : Nat} {L : Nat → List T} (h : ¬ ((1 ≤ o ∧ o ≤ 3) ∧ lstOk n (lN L) (fN L) = true)) : grbOk o n L = false := decide_eq_false fun hh => h ⟨hh.1, hh.2.1⟩
theorem grbOk_one {o : Int} {n m : Nat} {L : Nat → List T} (ho : 1 ≤ o ∧ o ≤ 3) (hl : lstOk n (lN L) (fN L) = true) (hm : m ≤ n) (h1 : m ≤ 1) : grbOk o m L = true := by
  have h := lstOk_all hl
  exact decide_eq_true ⟨ho, decide_eq_true ⟨by omega, fun i hi => h.2 i (by omega)⟩, fun k hk i hi => by omega⟩
theorem rds_take {w : World} {a : Option Addr} {n c m : Nat} {ad : Nat → Option Addr} {cp : Nat → Nat} {L : Nat → List T} (h : RdS w a n c ad (lN L) cp (fN L)) (hm : m ≤ n) : RdS w a m c ad (lN L) cp (fN L) := by
  obtain ⟨h1, h2, h3, h4⟩ := h
  refine ⟨by omega, by omega, ?_, fun i hi => h4 i (by omega)⟩
  rcases h3 with h0 | ⟨b, off, e, hlt, hc⟩
  · exact .inl (by omega)
  · exact .inr ⟨b, off, e, hlt, fun i hi => hc i (by omega)⟩
theorem sprI_L2 {w : World} (o : Int) {a b : Option Addr} {ca cb : Nat} {A B : List T} (ha : RL w a ca A) (hb : RL w b cb B) : Calls Tryz.prog 22 #[.int .i64 o, .slice a A.length ca, .slice b B.length cb] w (Two2 w (sprPoly o (lf A) A.length (lf B) B.length)) :=
  (sprPolyI w o a b A.length ca B.length cb (lf A) (lf B) ha hb).mono fun _ _ h => two_out h
abbrev C2k (p1 o1 p2 o2 : Nat) (v1 v2 : Value) (u : World) : Prop := u.cell? ⟨p1, o1, none⟩ = some v1 ∧ u.cell? ⟨p2, o2, none⟩ = some v2
set_option maxRecDepth 100000 in
set_option maxHeartbeats 8000000 in
theorem walk_FnGrbOk (w : World) (a0 : Option Addr) (len0 cap0 : Nat) (s0 : Src w a0 len0 cap0) :
    Calls Tryz.prog 6 #[.slice a0 len0 cap0] w fun e w' => e = .returned (.bool true) ∧ Below w.heap.size w w' := by
  by_cases c0 : (1048576 : Int) < (len0 : Int)
  · go_enter Tryz.func6, Tryz.ntmps6
    go_wp2
    go_ret
    exact ⟨rfl, Below.refl _ _⟩
  go_enter Tryz.func6, Tryz.ntmps6
  go_wp2_with fail
  refine (drawGrbOk w a0 len0 cap0 s0).mono ?_
  rintro e wd ⟨o, la0, n, lc0, ad0, cp0, L, rfl, hG, hln, hbd⟩
  have HG0 := Hid.mk' hG
  have Z0 := Hid.mk' hbd
  clear hG hbd s0
  have hn5 : (n : Int) ≤ 12 := by omega
  obtain ⟨gk, hgk⟩ : ∃ b, grbOk o n L = b := ⟨_, rfl⟩
  have HGK := Hid.mk' (hgk)
  clear hgk
  obtain ⟨lk, hlk⟩ : ∃ b, lstOk n (lN L) (fN L) = b := ⟨_, rfl⟩
  have HLK := Hid.mk' (hlk)
  clear hlk
  go_wp2_with fail
  refine (grbOkI _ o _ n _ _ _ L HG0.out).mono ?_
  rw [HGK.out]
  rintro e w1 ⟨rfl, b2⟩
  have H3 := Hid.mk' (HG0.out.below b2)
  clear HG0
  have Z4 := Hid.mk' (bel_next Z0.out b2)
  clear Z0
  clear b2
  go_wp2_with fail
  refine (grbOkS _ o _ n _ _ _ L H3.out).mono ?_
  rw [HGK.out]
  rintro e w5 ⟨rfl, b6⟩
  have H7 := Hid.mk' (H3.out.below b6)
  clear H3
  have Z8 := Hid.mk' (bel_next Z4.out b6)
  clear Z4
  clear b6
  have hgg : (gk != gk) = false := by simp
  go_wp2_with fail
  refine (lstOkS _ _ _ _ _ _ _ _ H7.out).mono ?_
  rw [HLK.out]
  rintro e w9 ⟨rfl, b10⟩
  have H11 := Hid.mk' (H7.out.below b10)
  clear H7
  have Z12 := Hid.mk' (bel_next Z8.out b10)
  clear Z8
  clear b10
  cases lk
  · have hgf : gk = false := by rw [← HGK.out]; exact grbOk_no (by rw [HLK.out]; simp)
    subst hgf
    go_wp2_with fail
    refine (heOk_L _ ).mono ?_
    rintro e w13 ⟨rfl, b14⟩
    have H15 := Hid.mk' (H11.out.below b14)
    clear H11
    have Z16 := Hid.mk' (bel_next Z12.out b14)
    clear Z12
    clear b14
    go_wp2
    go_ret
    exact ⟨rfl, Z16.out⟩
  · by_cases o1 : o < 1
    · have hgf : gk = false := by rw [← HGK.out]; exact grbOk_no (fun h => by omega)
      subst hgf
      go_wp2_with fail
      refine (heOk_L _ ).mono ?_
      rintro e w17 ⟨rfl, b18⟩
      have H19 := Hid.mk' (H11.out.below b18)
      clear H11
      have Z20 := Hid.mk' (bel_next Z12.out b18)
      clear Z12
      clear b18
      go_wp2
      go_ret
      exact ⟨rfl, Z20.out⟩
    · by_cases o3 : (3 : Int) < o
      · have hgf : gk = false := by rw [← HGK.out]; exact grbOk_no (fun h => by omega)
        subst hgf
        go_wp2_with fail
        refine (heOk_L _ ).mono ?_
        rintro e w21 ⟨rfl, b22⟩
        have H23 := Hid.mk' (H11.out.below b22)
        clear H11
        have Z24 := Hid.mk' (bel_next Z12.out b22)
        clear Z12
        clear b22
        go_wp2
        go_ret
        exact ⟨rfl, Z24.out⟩
      · have ho : 1 ≤ o ∧ o ≤ 3 := by omega
        have HO := Hid.mk' (ho)
        clear ho
        by_cases hn0 : n = 0
        · go_wp2
          go_loopw [6, 7] (fun va vk wr => va = .bool true ∧ vk = .int .i64 1 ∧ Below w9.heap.size w9 wr) (fun _ _ _ => 0)
          case atStart => exact ⟨rfl, rfl, Below.refl _ _⟩
          case round =>
            obtain ⟨rfl, rfl, hBel⟩ := hrel
            have hn1 : ¬ (1 : Int) < (n : Int) := by omega
            have hgt : gk = true := by rw [← HGK.out]; exact grbOk_one HO.out HLK.out (Nat.le_refl _) (by omega)
            subst hgt
            have H25 := Hid.mk' (H11.out.below hBel)
            clear H11
            have Z26 := Hid.mk' (bel_next Z12.out hBel)
            clear Z12
            clear hBel
            subst hn0
            have HG9 := Hid.mk' (rds_take H25.out (m := 0) (by omega))
            have hg1 : grbOk o 0 L = true := grbOk_one HO.out HLK.out (Nat.le_refl _) (by omega)
            have HG1 := Hid.mk' (hg1)
            clear hg1
            go_wp2_with fail
            refine (grbOkI _ o _ 0 _ _ _ L HG9.out).mono ?_
            rw [HG1.out]
            rintro e w99 ⟨rfl, hb99⟩
            have H27 := Hid.mk' (H25.out.below hb99)
            clear H25
            have Z28 := Hid.mk' (bel_next Z26.out hb99)
            clear Z26
            clear hb99
            go_wp2
            go_ret
            exact ⟨rfl, Z28.out⟩
        · obtain ⟨lb, off, rfl, hlb, hcl⟩ := H11.out.2.2.1.resolve_left hn0
          have HCL := Hid.mk' hcl
          clear hcl
          go_wp2
          go_loopw [6, 7] (fun va vk wr => ∃ k : Nat, 1 ≤ k ∧ k ≤ n ∧ va = .bool (okTo o n L k 0) ∧ vk = .int .i64 (k : Int) ∧ Below w9.heap.size w9 wr) (fun _ vk _ => n - (intOf vk).toNat)
          case atStart => exact ⟨1, Nat.le_refl _, by omega, by rw [okTo_start], rfl, Below.refl _ _⟩
          case round =>
            obtain ⟨k, hk1, hk2, rfl, rfl, hBel⟩ := hrel
            have HBk := Hid.mk' hBel
            by_cases hlt : k < n
            · have hkl : (k : Int) < (n : Int) := by omega
              clear hBel
              go_wp2
              go_loopw [6, 8] (fun va vi wi => ∃ i : Nat, i ≤ k ∧ va = .bool (okTo o n L k i) ∧ vi = .int .i64 (i : Int) ∧ Below w9.heap.size w9 wi) (fun _ vi _ => k - (intOf vi).toNat)
              case atStart => exact ⟨0, Nat.zero_le _, rfl, rfl, HBk.out⟩
              case round =>
                obtain ⟨i, hi, rfl, rfl, hBi⟩ := hrel
                have HBi := Hid.mk' hBi
                by_cases hik : i < k
                · have hil : (i : Int) < (k : Int) := by omega
                  have hin : (i : Int) < (n : Int) := by omega
                  have hbd : lb < wr.heap.size := Nat.lt_of_lt_of_le hlb hBi.size
                  obtain ⟨A, hA⟩ : ∃ A, L i = A := ⟨_, rfl⟩
                  obtain ⟨Bk, hBk⟩ : ∃ A, L k = A := ⟨_, rfl⟩
                  have hBd := bel_next hBi ((Below.refl _ wr).drew)
                  have hS : C2k lb (off + i) lb (off + k) (.slice (ad0 i) A.length (cp0 i)) (.slice (ad0 k) Bk.length (cp0 k)) wr.drew := ⟨(hBd.cell (p := ⟨lb, off + i, none⟩) hlb).trans (by rw [← hA]; exact HCL.out i (by omega)), (hBd.cell (p := ⟨lb, off + k, none⟩) hlb).trans (by rw [← hBk]; exact HCL.out k hlt)⟩
                  have RA : Hid (RL wr.drew (ad0 i) (cp0 i) A) := by rw [← hA]; exact (H11.out.2.2.2 i (by omega)).below hBd
                  have RB : Hid (RL wr.drew (ad0 k) (cp0 k) Bk) := by rw [← hBk]; exact (H11.out.2.2.2 k hlt).below hBd
                  obtain ⟨s, sb, hsp⟩ : ∃ s sb, sprPoly o (lf A) A.length (lf Bk) Bk.length = (s, sb) := ⟨_, _, rfl⟩
                  have hc := sprI_L2 (w := wr.drew) o RA.out RB.out
                  rw [hsp] at hc
                  have HC := Hid.mk' hc
                  have hsp' : sprPoly o (lf (L i)) (L i).length (lf (L k)) (L k).length = (s, sb) := by rw [hA, hBk]; exact hsp
                  have HSP := Hid.mk' hsp'
                  have HBd := Hid.mk' hBd
                  have HS := Hid.mk' hS
                  clear hS hc hsp hsp' hA hBk hBi hBd
                  go_wp2_with fail
                  have hS := HS.out
                  go_region_held3 (fun u => u.cell? ⟨lb, off + i, none⟩ = some (.slice (ad0 i) A.length (cp0 i)) ∧ u.cell? ⟨lb, off + k, none⟩ = some (.slice (ad0 k) Bk.length (cp0 k))) (first | with_reducible exact hS | with_reducible exact C2g.below hS b5) (first | (go_at_call 22; refine HC.out.mono ?_; rintro e w5 ⟨za, zc, rfl, b5, hz⟩))
                  have HZ5 : Hid (RL w5 za zc s) := hz
                  have HB5 := Hid.mk' (bel_next HBd.out b5)
                  have HG5 := Hid.mk' (H11.out.below HB5.out)
                  obtain ⟨okb, hokb⟩ : ∃ b, okTo o n L k i = b := ⟨_, rfl⟩
                  have HOKB := Hid.mk' hokb
                  rw [hokb]
                  clear hS b5 hz HC RA RB HS hokb
                  obtain ⟨R, hR⟩ : ∃ R, redAll o s n (lN L) (fN L) = R := ⟨_, rfl⟩
                  have HR := Hid.mk' hR
                  clear hR
                  rcases R with _ | S
                  · have HP2 : Hid (false = decide (prK o n L i k = 2)) := by
                      refine (decide_eq_false ?_).symm
                      cases sb
                      · rw [prK_no HSP.out]; omega
                      · rw [prK_none HSP.out HR.out]; omega
                    go_wp2_with fail
                    refine (redI_no HZ5.out HG5.out HR.out).mono ?_
                    rintro e w6 ⟨qa6, qc6, ad6, cp6, la6, lc6, rfl, hb6, _, _⟩
                    have HB6 := Hid.mk' (bel_next HB5.out hb6)
                    clear hb6
                    have HNX := Hid.mk' (okTo_step (o := o) (n := n) (L := L) HP2.out)
                    rw [HOKB.out] at HNX
                    cases okb
                    · cases sb
                      · go_wp2
                        go_roundw
                        case rel => exact ⟨i + 1, by omega, by rw [← HNX.out]; rfl, by go_num, HB6.out⟩
                        case measure => simp [intOf]; omega
                      · go_wp2
                        go_roundw
                        case rel => exact ⟨i + 1, by omega, by rw [← HNX.out]; rfl, by go_num, HB6.out⟩
                        case measure => simp [intOf]; omega
                    · cases sb
                      · go_wp2
                        go_roundw
                        case rel => exact ⟨i + 1, by omega, by rw [← HNX.out]; rfl, by go_num, HB6.out⟩
                        case measure => simp [intOf]; omega
                      · go_wp2
                        go_roundw
                        case rel => exact ⟨i + 1, by omega, by rw [← HNX.out]; rfl, by go_num, HB6.out⟩
                        case measure => simp [intOf]; omega
                  · obtain ⟨z0, hz0⟩ : ∃ b, ((S.r.length : Int) == 0) = b := ⟨_, rfl⟩
                    have HP2 : Hid ((sb && z0) = decide (prK o n L i k = 2)) := by
                      cases sb
                      · rw [prK_no HSP.out]; rfl
                      · rw [prK_some HSP.out HR.out, ← hz0]
                        by_cases e : S.r.length = 0
                        · rw [if_pos e, e]; rfl
                        · rw [if_neg e]
                          have : ((S.r.length : Int) == 0) = false := beq_eq_false_iff_ne.2 (by omega)
                          rw [this]; rfl
                    have hs300 : (S.r.length : Int) ≤ 300 := by have := (redAll_ok HR.out).1.r.2; omega
                    go_wp2_with fail
                    refine (redI_yes HZ5.out HG5.out HR.out).mono ?_
                    rintro e w6 ⟨qa6, qc6, ad6, cp6, la6, lc6, rfl, hb6, _, _⟩
                    have HB6 := Hid.mk' (bel_next HB5.out hb6)
                    clear hb6
                    have HNX := Hid.mk' (okTo_step (o := o) (n := n) (L := L) HP2.out)
                    rw [HOKB.out] at HNX
                    cases okb
                    · cases sb
                      · go_wp2
                        go_roundw
                        case rel => exact ⟨i + 1, by omega, by rw [← HNX.out]; rfl, by go_num, HB6.out⟩
                        case measure => simp [intOf]; omega
                      · go_wp2
                        go_roundw
                        case rel => exact ⟨i + 1, by omega, by rw [← HNX.out]; rfl, by go_num, HB6.out⟩
                        case measure => simp [intOf]; omega
                    · cases sb
                      · go_wp2
                        go_roundw
                        case rel => exact ⟨i + 1, by omega, by rw [← HNX.out]; rfl, by go_num, HB6.out⟩
                        case measure => simp [intOf]; omega
                      · go_wp2
                        go_roundw
                        case rel => exact ⟨i + 1, by omega, by rw [← HNX.out]; rfl, by go_num, HB6.out⟩
                        case measure => simp [intOf]; omega
                · have hie : i = k := by omega
                  subst hie
                  have hnl : ¬ (i : Int) < (i : Int) := by omega
                  go_wp2
                  go_roundw
                  case rel => exact ⟨i + 1, by omega, by omega, by rw [okTo_next], by go_num, HBi.out⟩
                  case measure => simp [intOf]; omega
            · have hkn : k = n := by omega
              subst hkn
              have hkl : ¬ (k : Int) < (k : Int) := by omega
              have hoe : okTo o k L k 0 = gk := (okTo_end HO.out HLK.out (.inl rfl)).trans HGK.out
              rw [hoe]
              clear hoe
              have hgq : (gk == gk) = true := by simp
              have H29 := Hid.mk' (H11.out.below hBel)
              clear H11
              have Z30 := Hid.mk' (bel_next Z12.out hBel)
              clear Z12
              clear hBel
              have HG9 := Hid.mk' (rds_take H29.out (m := 1) (by omega))
              have hg1 : grbOk o 1 L = true := grbOk_one HO.out HLK.out (by omega) (by omega)
              have HG1 := Hid.mk' (hg1)
              clear hg1
              have hmin : min (1 : Int) (k : Int) = 1 := by omega
              have hmin2 : ¬ (k : Int) < 1 := by omega
              have hcapk : k ≤ lc0 := H29.out.1
              go_wp2_with fail
              refine (grbOkI _ o _ 1 _ _ _ L HG9.out).mono ?_
              rw [HG1.out]
              rintro e w99 ⟨rfl, hb99⟩
              have H31 := Hid.mk' (H29.out.below hb99)
              clear H29
              have Z32 := Hid.mk' (bel_next Z30.out hb99)
              clear Z30
              clear hb99
              go_wp2
              go_ret
              exact ⟨rfl, Z32.out⟩
end Go.Proofs.YtmlaedpamobmhaaGreat
