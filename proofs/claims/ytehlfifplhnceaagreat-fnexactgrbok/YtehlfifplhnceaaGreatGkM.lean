/-
  Whether operators are a basis: pair by pair; the model's GrbOk.
-/
import Derived.Test.YtehlfifplhnceaaGreatGbf
import Derived.Test.YtehlfifplhnceaaGreatSprW
import Derived.Test.YtehlfifplhnceaaGreatGbk
import Derived.Test.YtehlfifplhnceaaGreatHeLst
namespace Go.Proofs.YtehlfifplhnceaaGreat
open Go.RowKit Go.Deep Go.Joins
set_option linter.unusedVariables false

/-- what is left of a pair: 0: too much; 1: something; 2: nothing. -/
def prK (o : Int) (n : Nat) (L : Nat → List T) (i k : Nat) : Nat :=
  match sprPoly o (lf (L i)) (L i).length (lf (L k)) (L k).length with
  | (s, true) => (match redAll o s n (lN L) (fN L) with
    | some S => if S.r.length = 0 then 2 else 1
    | none => 0)
  | (_, false) => 0
def grbOk (o : Int) (n : Nat) (L : Nat → List T) : Bool := decide ((1 ≤ o ∧ o ≤ 3) ∧ lstOk n (lN L) (fN L) = true ∧ ∀ k, k < n → ∀ i, i < k → prK o n L i k = 2)
theorem prK_no {o : Int} {n : Nat} {L : Nat → List T} {i k : Nat} {s : List T} (h : sprPoly o (lf (L i)) (L i).length (lf (L k)) (L k).length = (s, false)) : prK o n L i k = 0 := by unfold prK; rw [h]
theorem prK_none {o : Int} {n : Nat} {L : Nat → List T} {i k : Nat} {s : List T} (h : sprPoly o (lf (L i)) (L i).length (lf (L k)) (L k).length = (s, true)) (hr : redAll o s n (lN L) (fN L) = none) : prK o n L i k = 0 := by unfold prK; rw [h]; simp only [hr]
theorem prK_some {o : Int} {n : Nat} {L : Nat → List T} {i k : Nat} {s : List T} {S : Dv} (h : sprPoly o (lf (L i)) (L i).length (lf (L k)) (L k).length = (s, true)) (hr : redAll o s n (lN L) (fN L) = some S) : prK o n L i k = if S.r.length = 0 then 2 else 1 := by unfold prK; rw [h]; simp only [hr]
theorem redAll_is {o : Int} {p : List T} {n : Nat} {L : Nat → List T} (ho : 1 ≤ o ∧ o ≤ 3) (hp : okL p = true) (hl : lstOk n (lN L) (fN L) = true) : redAll o p n (lN L) (fN L) = dvRun o n (lN L) (fN L) 300 (dvOf p) := if_pos ⟨ho, hp, hl⟩
theorem grbOk_bad {o : Int} {n : Nat} {L : Nat → List T} {i k : Nat} (hk : k < n) (hi : i < k) (h : prK o n L i k ≠ 2) : grbOk o n L = false := decide_eq_false (fun hh => h (hh.2.2 k hk i hi))
theorem sprS_L2 {w : World} (o : Int) {a b : Option Addr} {ca cb : Nat} {A B : List T} (ha : RL w a ca A) (hb : RL w b cb B) : Calls Tryz.prog 29 #[.int .i64 o, .slice a A.length ca, .slice b B.length cb] w (Two2 w (sprPoly o (lf A) A.length (lf B) B.length)) :=
  (sprPolyS w o a b A.length ca B.length cb (lf A) (lf B) ha hb).mono fun _ _ h => two_owns (sprPoly_len _ _ _ _ _) h
abbrev C2g (p1 o1 p2 o2 : Nat) (v1 v2 : Value) (u : World) : Prop := u.cell? ⟨p1, o1, none⟩ = some v1 ∧ u.cell? ⟨p2, o2, none⟩ = some v2
theorem C2g.below {p1 o1 p2 o2 : Nat} {v1 v2 : Value} {u u' : World} (h : C2g p1 o1 p2 o2 v1 v2 u) (hb : Below u.heap.size u u') : C2g p1 o1 p2 o2 v1 v2 u' :=
  ⟨(hb.cell (p := ⟨p1, o1, none⟩) (World.block_lt_of_cell? u _ h.1)).trans h.1, (hb.cell (p := ⟨p2, o2, none⟩) (World.block_lt_of_cell? u _ h.2)).trans h.2⟩
set_option maxRecDepth 100000 in
set_option maxHeartbeats 8000000 in
theorem grbOkS (w : World) (o : Int) (a : Option Addr) (n cap : Nat) (ad : Nat → Option Addr) (cp : Nat → Nat) (L : Nat → List T) (h : RdS w a n cap ad (lN L) cp (fN L)) :
    Calls Tryz.prog 9 #[.int .i64 o, .slice a n cap] w (Val w (.bool (grbOk o n L))) := by
  have q1 : (n : Int) ≤ 140737488351232 := by have := h.2.1; omega
  obtain ⟨r, hr⟩ : ∃ r, grbOk o n L = r := ⟨_, rfl⟩
  rw [hr]
  have HR := Hid.mk' hr
  have HH := Hid.mk' h
  clear h hr
  unfold Val
  by_cases ho : 1 ≤ o ∧ o ≤ 3
  · obtain ⟨o1, o2⟩ := ho
    cases hl : lstOk n (lN L) (fN L)
    · have hrf : r = false := by rw [← HR.out]; exact decide_eq_false (fun hh => by rw [hl] at hh; exact absurd hh.2.1 (by simp))
      subst hrf
      go_enter Tryz.func9, Tryz.ntmps9
      go_wp2_with (go_at_call 27; refine (inS_in _ _ _ _ (by omega) (by omega)).mono ?_; rintro r w' ⟨rfl, hw'⟩; obtain rfl := hw'.symm; clear hw')
      refine (lstOkS _ _ _ _ _ _ _ _ HH.out).mono ?_
      rw [hl]
      rintro r w2 ⟨rfl, hb2⟩
      have HB2 := Hid.mk' hb2
      clear hb2
      go_wp2
      go_ret
      exact ⟨rfl, HB2.out⟩
    · have n12 := (lstOk_all hl).1
      have hn12 : (n : Int) ≤ 12 := by omega
      have HL := Hid.mk' hl
      go_enter Tryz.func9, Tryz.ntmps9
      go_wp2_with (go_at_call 27; refine (inS_in _ _ _ _ (by omega) (by omega)).mono ?_; rintro r w' ⟨rfl, hw'⟩; obtain rfl := hw'.symm; clear hw')
      refine (lstOkS _ _ _ _ _ _ _ _ HH.out).mono ?_
      rw [hl]
      rintro r0 w2 ⟨rfl, hb2⟩
      have HB2 := Hid.mk' hb2
      clear hb2 hl
      go_wp2
      go_loopw [5] (fun v wr => ∃ k : Nat, 1 ≤ k ∧ (k ≤ n ∨ k = 1) ∧ v = .int .i64 (k : Int) ∧ Below w.heap.size w wr ∧ ∀ k', k' < k → k' < n → ∀ i, i < k' → prK o n L i k' = 2) (fun v _ => n - (intOf v).toNat)
      case atStart => exact ⟨1, Nat.le_refl _, .inr rfl, rfl, HB2.out, fun k' h1 h2 i hi => by omega⟩
      case round =>
        obtain ⟨k, hk1, hk2, rfl, hB, hJ⟩ := hrel
        have HJ := Hid.mk' hJ
        have HB := Hid.mk' hB
        clear hJ
        by_cases hlt : k < n
        · have hkl : (k : Int) < (n : Int) := by omega
          go_wp2
          go_loopw [6] (fun v wr => ∃ i : Nat, i ≤ k ∧ v = .int .i64 (i : Int) ∧ Below w.heap.size w wr ∧ ∀ i', i' < i → prK o n L i' k = 2) (fun v _ => k - (intOf v).toNat)
          case atStart => exact ⟨0, Nat.zero_le _, rfl, HB.out, fun i hi => by omega⟩
          case round =>
            obtain ⟨i, hi, rfl, hBi, hI⟩ := hrel
            have HI := Hid.mk' hI
            have HBi := Hid.mk' hBi
            clear hI
            by_cases hik : i < k
            · have hil : (i : Int) < (k : Int) := by omega
              have hin : (i : Int) < (n : Int) := by omega
              rcases HH.out.2.2.1 with h0 | ⟨b, off, rfl, hblt, hcl⟩
              · omega
              have dr : Below wr.heap.size wr wr.drew := (Below.refl _ _).drew
              have hBd := bel_next hBi dr
              have hbd : b < wr.heap.size := Nat.lt_of_lt_of_le hblt hBi.size
              obtain ⟨A, hA⟩ : ∃ A, L i = A := ⟨_, rfl⟩
              obtain ⟨Bk, hBk⟩ : ∃ A, L k = A := ⟨_, rfl⟩
              have hS : C2g b (off + i) b (off + k) (.slice (ad i) A.length (cp i)) (.slice (ad k) Bk.length (cp k)) wr.drew := ⟨(hBd.cell (p := ⟨b, off + i, none⟩) hblt).trans (by rw [← hA]; exact hcl i (by omega)), (hBd.cell (p := ⟨b, off + k, none⟩) hblt).trans (by rw [← hBk]; exact hcl k hlt)⟩
              have RA : Hid (RL wr.drew (ad i) (cp i) A) := by rw [← hA]; exact (HH.out.2.2.2 i (by omega)).below hBd
              have RB : Hid (RL wr.drew (ad k) (cp k) Bk) := by rw [← hBk]; exact (HH.out.2.2.2 k hlt).below hBd
              have HS := Hid.mk' hS
              have HBd := Hid.mk' hBd
              obtain ⟨s, sb, hsp⟩ : ∃ s sb, sprPoly o (lf A) A.length (lf Bk) Bk.length = (s, sb) := ⟨_, _, rfl⟩
              have hc := sprS_L2 (w := wr.drew) o RA.out RB.out
              rw [hsp] at hc
              have HC := Hid.mk' hc
              have hsp' : sprPoly o (lf (L i)) (L i).length (lf (L k)) (L k).length = (s, sb) := by rw [hA, hBk]; exact hsp
              have HSP := Hid.mk' hsp'
              clear hcl hS hc hsp hsp' hA hBk hBi hBd dr
              cases sb
              · have hrf : r = false := by rw [← HR.out]; exact grbOk_bad hlt hik (by rw [prK_no HSP.out]; omega)
                subst hrf
                go_wp2_with fail
                have hS := HS.out
                go_region_held3 (fun u => u.cell? ⟨b, off + i, none⟩ = some (.slice (ad i) A.length (cp i)) ∧ u.cell? ⟨b, off + k, none⟩ = some (.slice (ad k) Bk.length (cp k))) (first | with_reducible exact hS | with_reducible exact C2g.below hS b5) (first | (go_at_call 29; refine HC.out.mono ?_; rintro e w5 ⟨za, zc, rfl, b5, hz⟩))
                have HB5 := Hid.mk' (bel_next HBd.out b5)
                clear hS b5 hz
                go_wp2
                go_ret
                exact ⟨rfl, HB5.out⟩
              · have hso := spr_ok HSP.out
                have HSO := Hid.mk' hso
                clear hso
                go_wp2_with fail
                have hS := HS.out
                go_region_held3 (fun u => u.cell? ⟨b, off + i, none⟩ = some (.slice (ad i) A.length (cp i)) ∧ u.cell? ⟨b, off + k, none⟩ = some (.slice (ad k) Bk.length (cp k))) (first | with_reducible exact hS | with_reducible exact C2g.below hS b5) (first | (go_at_call 29; refine HC.out.mono ?_; rintro e w5 ⟨za, zc, rfl, b5, hz⟩))
                have HB5 := Hid.mk' (bel_next HBd.out b5)
                have HZ5 := Hid.mk' hz
                have HH5 := Hid.mk' (HH.out.below HB5.out)
                clear hS b5 hz HC RA RB
                go_wp2_with fail
                refine (l7AllS w5 o za zc s _ n cap ad (lN L) cp (fN L) HZ5.out HH5.out o1 o2 HSO.out HL.out).mono ?_
                rw [← redAll_is ⟨o1, o2⟩ HSO.out HL.out]
                obtain ⟨R, hR⟩ : ∃ R, redAll o s n (lN L) (fN L) = R := ⟨_, rfl⟩
                rw [hR]
                have HRR := Hid.mk' hR
                clear hR
                rintro e w6 ⟨b6, hh⟩
                have HB6 := Hid.mk' (bel_next HB5.out b6)
                clear b6
                rcases hh with ⟨S, qa, qc, ad', cp', ra, rc, rfl, rfl, r1, r2⟩ | ⟨rfl, qa, qc, ra, rc, rfl⟩
                · clear r1 r2
                  have hpk := prK_some HSP.out HRR.out
                  by_cases hz : S.r.length = 0
                  · rw [if_pos hz] at hpk
                    have HPK := Hid.mk' hpk
                    have hz0 : ¬ (0 : Int) < (S.r.length : Int) := by omega
                    clear hpk hz
                    go_wp2
                    go_roundw
                    case rel => exact ⟨i + 1, by omega, by go_num, HB6.out, fun i' hi' => by
                      by_cases e : i' = i
                      · rw [e]; exact HPK.out
                      · exact HI.out i' (by omega)⟩
                    case measure => simp [intOf]; omega
                  · rw [if_neg hz] at hpk
                    have hrf : r = false := by rw [← HR.out]; exact grbOk_bad hlt hik (by rw [hpk]; omega)
                    subst hrf
                    have hz0 : (0 : Int) < (S.r.length : Int) := by omega
                    clear hpk hz
                    go_wp2
                    go_ret
                    exact ⟨rfl, HB6.out⟩
                · have hrf : r = false := by rw [← HR.out]; exact grbOk_bad hlt hik (by rw [prK_none HSP.out HRR.out]; omega)
                  subst hrf
                  go_wp2
                  go_ret
                  exact ⟨rfl, HB6.out⟩
            · have hie : i = k := by omega
              subst hie
              have hnl : ¬ (i : Int) < (i : Int) := by omega
              go_wp2
              go_roundw
              case rel => exact ⟨i + 1, by omega, by omega, by go_num, HBi.out, fun k' h1 h2 i' hi' => by
                by_cases e : k' = i
                · subst e; exact HI.out i' hi'
                · exact HJ.out k' (by omega) h2 i' hi'⟩
              case measure => simp [intOf]; omega
        · have hnl : ¬ (k : Int) < (n : Int) := by omega
          have hrt : r = true := by rw [← HR.out]; exact decide_eq_true ⟨⟨o1, o2⟩, HL.out, fun k' hk' i hi => HJ.out k' (by omega) hk' i hi⟩
          subst hrt
          go_wp2
          go_ret
          exact ⟨rfl, HB.out⟩
  · have ho' : o < 1 ∨ (1 ≤ o ∧ 3 < o) := by omega
    have hrf : r = false := by rw [← HR.out]; exact decide_eq_false (fun hh => ho hh.1)
    subst hrf
    clear ho
    go_enter Tryz.func9, Tryz.ntmps9
    go_wp2_with (go_at_call 27; refine (inS_out _ _ _ _ ho').mono ?_; rintro r w' ⟨rfl, hw'⟩; obtain rfl := hw'.symm; clear hw')
    go_ret
    exact ⟨rfl, Below.refl _ _⟩
end Go.Proofs.YtehlfifplhnceaaGreat
