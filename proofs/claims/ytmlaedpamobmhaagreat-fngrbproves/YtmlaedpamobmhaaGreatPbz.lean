/-
  How the rows' readings of lists of operators are opened.
  Bases: how they are counted, copied and held against each other.
  Whether a basis is made of those that were given as it says: the program and the model.
-/
import Derived.Test.YtmlaedpamobmhaaGreatPba
import Derived.ProofKit
import Derived.Deep.Slices
import Derived.Lib.SmallJoins
import Derived.Test.YtmlaedpamobmhaaGreatPbr
import Derived.Test.YtmlaedpamobmhaaGreatPbh
namespace Go.Proofs.YtmlaedpamobmhaaGreat
open Go.RowKit Go.Deep Go.Joins
set_option linter.unusedVariables false

end Go.Proofs.YtmlaedpamobmhaaGreat
namespace Go.Proofs.YtmlaedpamobmhaaGreat
open Go.RowKit Go.Deep Go.Joins
set_option linter.unusedVariables false

end Go.Proofs.YtmlaedpamobmhaaGreat
namespace Go.Proofs.YtmlaedpamobmhaaGreat
open Go.RowKit Go.Deep Go.Joins
set_option linter.unusedVariables false

theorem redSum_len2 {n1 : Nat} {ln1 : Nat → Nat} {f1 : Nat → Nat → T} {n2 : Nat} {ln2 : Nat → Nat} {f2 : Nat → Nat → T} : (redSum n1 ln1 f1 n2 ln2 f2).1.length ≤ 400 := by
  have key : ∀ i, (mulO (sumPr ln1 f1 ln2 f2 i)).1.length ≤ 400 := fun i => by
    cases i with
    | zero => exact Nat.zero_le _
    | succ i =>
      cases h : sumPr ln1 f1 ln2 f2 i with
      | none => rw [sumPr_none h 1]; exact Nat.zero_le _
      | some K =>
        rw [sumPr_step h]
        unfold stepS
        split
        · split
          · exact polAdd_len _ _ _ _
          · exact Nat.zero_le _
        · exact Nat.zero_le _
  unfold redSum
  split
  · exact key _
  · exact Nat.zero_le _
/-- the i-th operator is the sum of what its proof says. -/
def gpAt (ln : Nat → Nat) (f : Nat → Nat → T) (N : Nat → Nat) (L : Nat → Nat → Nat) (F : Nat → Nat → Nat → T) (n2 : Nat) (ln2 : Nat → Nat) (f2 : Nat → Nat → T) (i : Nat) : Bool :=
  (redSum (N i) (L i) (F i) n2 ln2 f2).2 && termsEq (redSum (N i) (L i) (F i) n2 ln2 f2).1.length (lf (redSum (N i) (L i) (F i) n2 ln2 f2).1) (ln i) (f i)
def grbProves (nb : Nat) (ln : Nat → Nat) (f : Nat → Nat → T) (np : Nat) (N : Nat → Nat) (L : Nat → Nat → Nat) (F : Nat → Nat → Nat → T) (n2 : Nat) (ln2 : Nat → Nat) (f2 : Nat → Nat → T) : Bool :=
  lstOk nb ln f && (lstOk n2 ln2 f2 && (decide (np = nb) && decide (∀ i, i < nb → gpAt ln f N L F n2 ln2 f2 i = true)))
set_option maxRecDepth 100000 in
set_option maxHeartbeats 4000000 in
theorem grbProvesI (la : Option Addr) (nb lc : Nat) (ad : Nat → Option Addr) (ln cp : Nat → Nat) (f : Nat → Nat → T) (pa : Option Addr) (np pc : Nat) (A : Nat → Option Addr) (C : Nat → Nat) (AD : Nat → Nat → Option Addr) (CP : Nat → Nat → Nat) (N : Nat → Nat) (L : Nat → Nat → Nat) (F : Nat → Nat → Nat → T) (d : Bool) (a2 : Option Addr) (n2 c2 : Nat) (ad2 : Nat → Option Addr) (ln2 cp2 : Nat → Nat) (f2 : Nat → Nat → T) (w : World) (h1 : RdS w la nb lc ad ln cp f) (h2 : Rd3 w pa np pc A C AD CP N L F) (h3 : RdS w a2 n2 c2 ad2 ln2 cp2 f2) :
    Calls Tryz.prog 25 #[.agg #[.slice la nb lc, .slice pa np pc, .bool d], .slice a2 n2 c2] w fun r w' => r = .returned (.bool (grbProves nb ln f np N L F n2 ln2 f2)) ∧ Below w.heap.size w w' := by
  have q1 : (nb : Int) ≤ 140737488351232 := by have := h1.2.1; omega
  have q2 : (np : Int) ≤ 140737488351232 := by have := h2.2.1; omega
  have q3 : (n2 : Int) ≤ 140737488351232 := by have := h3.2.1; omega
  have HB0 := Hid.mk' (bel_one w (.cells #[.slice la nb lc, .slice pa np pc, .bool d] 28))
  have R1 := Hid.mk' (h1.below HB0.out)
  have R2 := Hid.mk' (h2.below HB0.out)
  have R3 := Hid.mk' (h3.below HB0.out)
  clear h1 h2 h3
  unfold grbProves
  cases e1 : lstOk nb ln f
  · rw [Bool.false_and]
    go_enter Tryz.func25, Tryz.ntmps25
    go_wp2_with fail
    refine (lstOkI _ _ _ _ _ _ _ _ R1.out).mono ?_
    rw [e1]
    rintro r w1 ⟨rfl, hb1⟩
    have HB1 := Hid.mk' (bel_next HB0.out hb1)
    clear hb1
    go_wp2
    go_ret
    exact ⟨rfl, HB1.out⟩
  cases e2 : lstOk n2 ln2 f2
  · rw [Bool.false_and, Bool.and_false]
    go_enter Tryz.func25, Tryz.ntmps25
    go_wp2_with fail
    refine (lstOkI _ _ _ _ _ _ _ _ R1.out).mono ?_
    rw [e1]
    rintro r w1 ⟨rfl, hb1⟩
    have HB1 := Hid.mk' (bel_next HB0.out hb1)
    have R31 := Hid.mk' (R3.out.below hb1)
    clear hb1
    go_wp2_with fail
    refine (lstOkI _ _ _ _ _ _ _ _ R31.out).mono ?_
    rw [e2]
    rintro r w2 ⟨rfl, hb2⟩
    have HB2 := Hid.mk' (bel_next HB1.out hb2)
    clear hb2
    go_wp2
    go_ret
    exact ⟨rfl, HB2.out⟩
  by_cases e3 : np ≠ nb
  · rw [decide_eq_false e3, Bool.false_and, Bool.and_false, Bool.and_false]
    have hne : ((np : Int) != (nb : Int)) = true := by simp; omega
    go_enter Tryz.func25, Tryz.ntmps25
    go_wp2_with fail
    refine (lstOkI _ _ _ _ _ _ _ _ R1.out).mono ?_
    rw [e1]
    rintro r w1 ⟨rfl, hb1⟩
    have HB1 := Hid.mk' (bel_next HB0.out hb1)
    have R31 := Hid.mk' (R3.out.below hb1)
    have x0 : w1.cell? ⟨w.heap.size, 0, none⟩ = some (.slice la nb lc) := (hb1.cell (p := ⟨w.heap.size, 0, none⟩) (by simp)).trans (by rw [World.cell?_alloc_at _ _ _ _ rfl]; rfl)
    have x1 : w1.cell? ⟨w.heap.size, 1, none⟩ = some (.slice pa np pc) := (hb1.cell (p := ⟨w.heap.size, 1, none⟩) (by simp)).trans (by rw [World.cell?_alloc_at _ _ _ _ rfl]; rfl)
    have hl1 : w.heap.size < w1.heap.size := World.block_lt_of_cell? w1 _ x0
    clear hb1
    go_wp2_with fail
    refine (lstOkI _ _ _ _ _ _ _ _ R31.out).mono ?_
    rw [e2]
    rintro r w2 ⟨rfl, hb2⟩
    have HB2 := Hid.mk' (bel_next HB1.out hb2)
    have y0 : w2.cell? ⟨w.heap.size, 0, none⟩ = some (.slice la nb lc) := (hb2.cell (p := ⟨w.heap.size, 0, none⟩) hl1).trans x0
    have y1 : w2.cell? ⟨w.heap.size, 1, none⟩ = some (.slice pa np pc) := (hb2.cell (p := ⟨w.heap.size, 1, none⟩) hl1).trans x1
    clear hb2 x0 x1 e3
    go_wp2
    go_ret
    exact ⟨rfl, HB2.out⟩
  have e3 : np = nb := by omega
  subst e3
  have hnn : ((np : Int) != (np : Int)) = false := by simp
  rw [decide_eq_true (rfl : np = np), Bool.true_and, Bool.true_and, Bool.true_and]
  have hb12 : np ≤ 12 := (of_decide_eq_true e1 : _ ∧ _).1
  go_enter Tryz.func25, Tryz.ntmps25
  go_wp2_with fail
  refine (lstOkI _ _ _ _ _ _ _ _ R1.out).mono ?_
  rw [e1]
  rintro r w1 ⟨rfl, hb1⟩
  have HB1 := Hid.mk' (bel_next HB0.out hb1)
  have R11 := Hid.mk' (R1.out.below hb1)
  have R21 := Hid.mk' (R2.out.below hb1)
  have R31 := Hid.mk' (R3.out.below hb1)
  have x0 : w1.cell? ⟨w.heap.size, 0, none⟩ = some (.slice la np lc) := (hb1.cell (p := ⟨w.heap.size, 0, none⟩) (by simp)).trans (by rw [World.cell?_alloc_at _ _ _ _ rfl]; rfl)
  have x1 : w1.cell? ⟨w.heap.size, 1, none⟩ = some (.slice pa np pc) := (hb1.cell (p := ⟨w.heap.size, 1, none⟩) (by simp)).trans (by rw [World.cell?_alloc_at _ _ _ _ rfl]; rfl)
  have hl1 : w.heap.size < w1.heap.size := World.block_lt_of_cell? w1 _ x0
  clear hb1 R1 R2 R3 HB0 e1
  go_wp2_with fail
  refine (lstOkI _ _ _ _ _ _ _ _ R31.out).mono ?_
  rw [e2]
  rintro r w2 ⟨rfl, hb2⟩
  have HB2 := Hid.mk' (bel_next HB1.out hb2)
  have R12 := Hid.mk' (R11.out.below hb2)
  have R22 := Hid.mk' (R21.out.below hb2)
  have R32 := Hid.mk' (R31.out.below hb2)
  have y0 : w2.cell? ⟨w.heap.size, 0, none⟩ = some (.slice la np lc) := (hb2.cell (p := ⟨w.heap.size, 0, none⟩) hl1).trans x0
  have y1 : w2.cell? ⟨w.heap.size, 1, none⟩ = some (.slice pa np pc) := (hb2.cell (p := ⟨w.heap.size, 1, none⟩) hl1).trans x1
  have hl2 : w.heap.size < w2.heap.size := World.block_lt_of_cell? w2 _ y0
  clear hb2 x0 x1 R11 R21 R31 HB1 e2 hl1
  go_wp2
  go_loopw [30] (fun v wr => ∃ i : Nat, i ≤ np ∧ v = .int .i64 (i : Int) ∧ Below w2.heap.size w2 wr ∧ ∀ j, j < i → gpAt ln f N L F n2 ln2 f2 j = true) (fun v _ => np - (intOf v).toNat)
  case atStart => exact ⟨0, Nat.zero_le _, rfl, Below.refl _ _, fun j hj => by omega⟩
  case round =>
    obtain ⟨i, hi, rfl, hB, hJ⟩ := hrel
    have HJ := Hid.mk' hJ
    have HB := Hid.mk' hB
    have z0 : wr.cell? ⟨w.heap.size, 0, none⟩ = some (.slice la np lc) := (hB.cell (p := ⟨w.heap.size, 0, none⟩) hl2).trans y0
    have z1 : wr.cell? ⟨w.heap.size, 1, none⟩ = some (.slice pa np pc) := (hB.cell (p := ⟨w.heap.size, 1, none⟩) hl2).trans y1
    clear hJ
    by_cases hlt : i < np
    · have hil : (i : Int) < (np : Int) := by omega
      rcases (R12.out.below hB).2.2.1 with h0 | ⟨b, off, rfl, hblt, hcl⟩
      · omega
      rcases (R22.out.below hB).2.2.1 with h0 | ⟨bp, offp, rfl, hblt', hcl'⟩
      · omega
      have g0 := hcl i hlt
      have g1 := hcl' i hlt
      have RK := Hid.mk' ((R12.out.below hB).2.2.2 i hlt)
      have RP := Hid.mk' ((R22.out.below hB).2.2.2 i hlt)
      have RL := Hid.mk' (R32.out.below hB)
      have hc := redSumI wr (A i) (N i) (C i) (AD i) (L i) (CP i) (F i) RP.out a2 n2 c2 ad2 ln2 cp2 f2 RL.out
      have hgp : gpAt ln f N L F n2 ln2 f2 i = ((redSum (N i) (L i) (F i) n2 ln2 f2).2 && termsEq (redSum (N i) (L i) (F i) n2 ln2 f2).1.length (lf (redSum (N i) (L i) (F i) n2 ln2 f2).1) (ln i) (f i)) := rfl
      have hlen : (redSum (N i) (L i) (F i) n2 ln2 f2).1.length ≤ 400 := redSum_len2
      obtain ⟨K, ok, hK⟩ : ∃ K ok, redSum (N i) (L i) (F i) n2 ln2 f2 = (K, ok) := ⟨_, _, rfl⟩
      rw [hK] at hc hgp hlen
      dsimp only at hc hgp hlen
      have HGP := Hid.mk' hgp
      have hbp : bp < wr.heap.size := hblt'
      clear hcl hcl' hK hgp hB
      cases ok
      · have HF : Hid (decide (∀ i, i < np → gpAt ln f N L F n2 ln2 f2 i = true) = false) := decide_eq_false fun h => by
          have := h i hlt
          rw [HGP.out] at this
          cases this
        go_wp2_with fail
        refine hc.mono ?_
        rintro r w3 ⟨sa, sc, rfl, hb3, hout⟩
        have HB3 := Hid.mk' (bel_next HB.out hb3)
        clear hb3
        go_wp2
        go_ret
        exact ⟨by rw [HF.out]; rfl, bel_next HB2.out HB3.out⟩
      · have hgp2 : gpAt ln f N L F n2 ln2 f2 i = termsEq K.length (lf K) (ln i) (f i) := by rw [HGP.out, Bool.true_and]
        go_wp2_with fail
        refine hc.mono ?_
        rintro r w3 ⟨sa, sc, rfl, hb3, hout⟩
        have HB3 := Hid.mk' (bel_next HB.out hb3)
        have RK3 := Hid.mk' (RK.out.below hb3)
        have HK3 := Hid.mk' hout.1
        have u0 : w3.cell? ⟨w.heap.size, 0, none⟩ = some (.slice (some ⟨b, off, none⟩) np lc) := (hb3.cell (p := ⟨w.heap.size, 0, none⟩) (World.block_lt_of_cell? wr _ z0)).trans z0
        have u1 : w3.cell? ⟨b, off + i, none⟩ = some (.slice (ad i) (ln i) (cp i)) := (hb3.cell (p := ⟨b, off + i, none⟩) hblt).trans g0
        clear hb3 hout
        cases ht : termsEq K.length (lf K) (ln i) (f i)
        · have HF : Hid (decide (∀ i, i < np → gpAt ln f N L F n2 ln2 f2 i = true) = false) := decide_eq_false fun h => by
            have := h i hlt
            rw [hgp2, ht] at this
            cases this
          go_wp2_with fail
          refine (polSameI _ _ _ _ _ _ _ (lf K) (f i) HK3.out RK3.out).mono ?_
          rw [ht]
          rintro r w4 ⟨rfl, hb4⟩
          have HB4 := Hid.mk' (bel_next HB3.out hb4)
          clear hb4
          go_wp2
          go_ret
          exact ⟨by rw [HF.out]; rfl, bel_next HB2.out HB4.out⟩
        · have HG2 := Hid.mk' (hgp2.trans ht)
          go_wp2_with fail
          refine (polSameI _ _ _ _ _ _ _ (lf K) (f i) HK3.out RK3.out).mono ?_
          rw [ht]
          rintro r w4 ⟨rfl, hb4⟩
          have HB4 := Hid.mk' (bel_next HB3.out hb4)
          clear hb4 u0 u1 z0 z1 g0 g1
          go_wp2
          go_roundw
          case rel => exact ⟨i + 1, by omega, by go_num, HB4.out, fun j hj => by
            by_cases e : j = i
            · rw [e]; exact HG2.out
            · exact HJ.out j (by omega)⟩
          case measure => simp [intOf]; omega
    · have hnl : ¬ (i : Int) < (np : Int) := by omega
      have hie : i = np := by omega
      subst hie
      have HT : Hid (decide (∀ j, j < i → gpAt ln f N L F n2 ln2 f2 j = true) = true) := decide_eq_true HJ.out
      go_wp2
      go_ret
      exact ⟨by rw [HT.out]; rfl, bel_next HB2.out HB.out⟩
set_option maxRecDepth 100000 in
set_option maxHeartbeats 4000000 in
theorem grbProvesS (la : Option Addr) (nb lc : Nat) (ad : Nat → Option Addr) (ln cp : Nat → Nat) (f : Nat → Nat → T) (pa : Option Addr) (np pc : Nat) (A : Nat → Option Addr) (C : Nat → Nat) (AD : Nat → Nat → Option Addr) (CP : Nat → Nat → Nat) (N : Nat → Nat) (L : Nat → Nat → Nat) (F : Nat → Nat → Nat → T) (d : Bool) (a2 : Option Addr) (n2 c2 : Nat) (ad2 : Nat → Option Addr) (ln2 cp2 : Nat → Nat) (f2 : Nat → Nat → T) (w : World) (h1 : RdS w la nb lc ad ln cp f) (h2 : Rd3 w pa np pc A C AD CP N L F) (h3 : RdS w a2 n2 c2 ad2 ln2 cp2 f2) :
    Calls Tryz.prog 26 #[.agg #[.slice la nb lc, .slice pa np pc, .bool d], .slice a2 n2 c2] w fun r w' => r = .returned (.bool (grbProves nb ln f np N L F n2 ln2 f2)) ∧ Below w.heap.size w w' := by
  have q1 : (nb : Int) ≤ 140737488351232 := by have := h1.2.1; omega
  have q2 : (np : Int) ≤ 140737488351232 := by have := h2.2.1; omega
  have q3 : (n2 : Int) ≤ 140737488351232 := by have := h3.2.1; omega
  have HB0 := Hid.mk' (bel_one w (.cells #[.slice la nb lc, .slice pa np pc, .bool d] 28))
  have R1 := Hid.mk' (h1.below HB0.out)
  have R2 := Hid.mk' (h2.below HB0.out)
  have R3 := Hid.mk' (h3.below HB0.out)
  clear h1 h2 h3
  unfold grbProves
  cases e1 : lstOk nb ln f
  · rw [Bool.false_and]
    go_enter Tryz.func26, Tryz.ntmps26
    go_wp2_with fail
    refine (lstOkS _ _ _ _ _ _ _ _ R1.out).mono ?_
    rw [e1]
    rintro r w1 ⟨rfl, hb1⟩
    have HB1 := Hid.mk' (bel_next HB0.out hb1)
    clear hb1
    go_wp2
    go_ret
    exact ⟨rfl, HB1.out⟩
  cases e2 : lstOk n2 ln2 f2
  · rw [Bool.false_and, Bool.and_false]
    go_enter Tryz.func26, Tryz.ntmps26
    go_wp2_with fail
    refine (lstOkS _ _ _ _ _ _ _ _ R1.out).mono ?_
    rw [e1]
    rintro r w1 ⟨rfl, hb1⟩
    have HB1 := Hid.mk' (bel_next HB0.out hb1)
    have R31 := Hid.mk' (R3.out.below hb1)
    clear hb1
    go_wp2_with fail
    refine (lstOkS _ _ _ _ _ _ _ _ R31.out).mono ?_
    rw [e2]
    rintro r w2 ⟨rfl, hb2⟩
    have HB2 := Hid.mk' (bel_next HB1.out hb2)
    clear hb2
    go_wp2
    go_ret
    exact ⟨rfl, HB2.out⟩
  by_cases e3 : np ≠ nb
  · rw [decide_eq_false e3, Bool.false_and, Bool.and_false, Bool.and_false]
    have hne : ((np : Int) != (nb : Int)) = true := by simp; omega
    go_enter Tryz.func26, Tryz.ntmps26
    go_wp2_with fail
    refine (lstOkS _ _ _ _ _ _ _ _ R1.out).mono ?_
    rw [e1]
    rintro r w1 ⟨rfl, hb1⟩
    have HB1 := Hid.mk' (bel_next HB0.out hb1)
    have R31 := Hid.mk' (R3.out.below hb1)
    have x0 : w1.cell? ⟨w.heap.size, 0, none⟩ = some (.slice la nb lc) := (hb1.cell (p := ⟨w.heap.size, 0, none⟩) (by simp)).trans (by rw [World.cell?_alloc_at _ _ _ _ rfl]; rfl)
    have x1 : w1.cell? ⟨w.heap.size, 1, none⟩ = some (.slice pa np pc) := (hb1.cell (p := ⟨w.heap.size, 1, none⟩) (by simp)).trans (by rw [World.cell?_alloc_at _ _ _ _ rfl]; rfl)
    have hl1 : w.heap.size < w1.heap.size := World.block_lt_of_cell? w1 _ x0
    clear hb1
    go_wp2_with fail
    refine (lstOkS _ _ _ _ _ _ _ _ R31.out).mono ?_
    rw [e2]
    rintro r w2 ⟨rfl, hb2⟩
    have HB2 := Hid.mk' (bel_next HB1.out hb2)
    have y0 : w2.cell? ⟨w.heap.size, 0, none⟩ = some (.slice la nb lc) := (hb2.cell (p := ⟨w.heap.size, 0, none⟩) hl1).trans x0
    have y1 : w2.cell? ⟨w.heap.size, 1, none⟩ = some (.slice pa np pc) := (hb2.cell (p := ⟨w.heap.size, 1, none⟩) hl1).trans x1
    clear hb2 x0 x1 e3
    go_wp2
    go_ret
    exact ⟨rfl, HB2.out⟩
  have e3 : np = nb := by omega
  subst e3
  have hnn : ((np : Int) != (np : Int)) = false := by simp
  rw [decide_eq_true (rfl : np = np), Bool.true_and, Bool.true_and, Bool.true_and]
  have hb12 : np ≤ 12 := (of_decide_eq_true e1 : _ ∧ _).1
  go_enter Tryz.func26, Tryz.ntmps26
  go_wp2_with fail
  refine (lstOkS _ _ _ _ _ _ _ _ R1.out).mono ?_
  rw [e1]
  rintro r w1 ⟨rfl, hb1⟩
  have HB1 := Hid.mk' (bel_next HB0.out hb1)
  have R11 := Hid.mk' (R1.out.below hb1)
  have R21 := Hid.mk' (R2.out.below hb1)
  have R31 := Hid.mk' (R3.out.below hb1)
  have x0 : w1.cell? ⟨w.heap.size, 0, none⟩ = some (.slice la np lc) := (hb1.cell (p := ⟨w.heap.size, 0, none⟩) (by simp)).trans (by rw [World.cell?_alloc_at _ _ _ _ rfl]; rfl)
  have x1 : w1.cell? ⟨w.heap.size, 1, none⟩ = some (.slice pa np pc) := (hb1.cell (p := ⟨w.heap.size, 1, none⟩) (by simp)).trans (by rw [World.cell?_alloc_at _ _ _ _ rfl]; rfl)
  have hl1 : w.heap.size < w1.heap.size := World.block_lt_of_cell? w1 _ x0
  clear hb1 R1 R2 R3 HB0 e1
  go_wp2_with fail
  refine (lstOkS _ _ _ _ _ _ _ _ R31.out).mono ?_
  rw [e2]
  rintro r w2 ⟨rfl, hb2⟩
  have HB2 := Hid.mk' (bel_next HB1.out hb2)
  have R12 := Hid.mk' (R11.out.below hb2)
  have R22 := Hid.mk' (R21.out.below hb2)
  have R32 := Hid.mk' (R31.out.below hb2)
  have y0 : w2.cell? ⟨w.heap.size, 0, none⟩ = some (.slice la np lc) := (hb2.cell (p := ⟨w.heap.size, 0, none⟩) hl1).trans x0
  have y1 : w2.cell? ⟨w.heap.size, 1, none⟩ = some (.slice pa np pc) := (hb2.cell (p := ⟨w.heap.size, 1, none⟩) hl1).trans x1
  have hl2 : w.heap.size < w2.heap.size := World.block_lt_of_cell? w2 _ y0
  clear hb2 x0 x1 R11 R21 R31 HB1 e2 hl1
  go_wp2
  go_loopw [5] (fun v wr => ∃ i : Nat, i ≤ np ∧ v = .int .i64 (i : Int) ∧ Below w2.heap.size w2 wr ∧ ∀ j, j < i → gpAt ln f N L F n2 ln2 f2 j = true) (fun v _ => np - (intOf v).toNat)
  case atStart => exact ⟨0, Nat.zero_le _, rfl, Below.refl _ _, fun j hj => by omega⟩
  case round =>
    obtain ⟨i, hi, rfl, hB, hJ⟩ := hrel
    have HJ := Hid.mk' hJ
    have HB := Hid.mk' hB
    have z0 : wr.cell? ⟨w.heap.size, 0, none⟩ = some (.slice la np lc) := (hB.cell (p := ⟨w.heap.size, 0, none⟩) hl2).trans y0
    have z1 : wr.cell? ⟨w.heap.size, 1, none⟩ = some (.slice pa np pc) := (hB.cell (p := ⟨w.heap.size, 1, none⟩) hl2).trans y1
    clear hJ
    by_cases hlt : i < np
    · have hil : (i : Int) < (np : Int) := by omega
      rcases (R12.out.below hB).2.2.1 with h0 | ⟨b, off, rfl, hblt, hcl⟩
      · omega
      rcases (R22.out.below hB).2.2.1 with h0 | ⟨bp, offp, rfl, hblt', hcl'⟩
      · omega
      have g0 := hcl i hlt
      have g1 := hcl' i hlt
      have RK := Hid.mk' ((R12.out.below hB).2.2.2 i hlt)
      have RP := Hid.mk' ((R22.out.below hB).2.2.2 i hlt)
      have RL := Hid.mk' (R32.out.below hB)
      have hc := redSumS wr (A i) (N i) (C i) (AD i) (L i) (CP i) (F i) RP.out a2 n2 c2 ad2 ln2 cp2 f2 RL.out
      have hgp : gpAt ln f N L F n2 ln2 f2 i = ((redSum (N i) (L i) (F i) n2 ln2 f2).2 && termsEq (redSum (N i) (L i) (F i) n2 ln2 f2).1.length (lf (redSum (N i) (L i) (F i) n2 ln2 f2).1) (ln i) (f i)) := rfl
      have hlen : (redSum (N i) (L i) (F i) n2 ln2 f2).1.length ≤ 400 := redSum_len2
      obtain ⟨K, ok, hK⟩ : ∃ K ok, redSum (N i) (L i) (F i) n2 ln2 f2 = (K, ok) := ⟨_, _, rfl⟩
      rw [hK] at hc hgp hlen
      dsimp only at hc hgp hlen
      have HGP := Hid.mk' hgp
      have hbp : bp < wr.heap.size := hblt'
      clear hcl hcl' hK hgp hB
      cases ok
      · have HF : Hid (decide (∀ i, i < np → gpAt ln f N L F n2 ln2 f2 i = true) = false) := decide_eq_false fun h => by
          have := h i hlt
          rw [HGP.out] at this
          cases this
        go_wp2_with fail
        refine hc.mono ?_
        rintro r w3 ⟨sv, rfl, hb3, hown⟩
        have HB3 := Hid.mk' (bel_next HB.out hb3)
        clear hb3
        go_wp2
        go_ret
        exact ⟨by rw [HF.out]; rfl, bel_next HB2.out HB3.out⟩
      · have hgp2 : gpAt ln f N L F n2 ln2 f2 i = termsEq K.length (lf K) (ln i) (f i) := by rw [HGP.out, Bool.true_and]
        go_wp2_with fail
        refine hc.mono ?_
        rintro r w3 ⟨sv, rfl, hb3, hown⟩
        obtain ⟨sa, sc, rfl, hout⟩ := out_of_owns hown (by omega)
        clear hown
        have HB3 := Hid.mk' (bel_next HB.out hb3)
        have RK3 := Hid.mk' (RK.out.below hb3)
        have HK3 := Hid.mk' hout.1
        have u0 : w3.cell? ⟨w.heap.size, 0, none⟩ = some (.slice (some ⟨b, off, none⟩) np lc) := (hb3.cell (p := ⟨w.heap.size, 0, none⟩) (World.block_lt_of_cell? wr _ z0)).trans z0
        have u1 : w3.cell? ⟨b, off + i, none⟩ = some (.slice (ad i) (ln i) (cp i)) := (hb3.cell (p := ⟨b, off + i, none⟩) hblt).trans g0
        clear hb3 hout
        cases ht : termsEq K.length (lf K) (ln i) (f i)
        · have HF : Hid (decide (∀ i, i < np → gpAt ln f N L F n2 ln2 f2 i = true) = false) := decide_eq_false fun h => by
            have := h i hlt
            rw [hgp2, ht] at this
            cases this
          go_wp2_with fail
          refine (polSameS _ _ _ _ _ _ _ (lf K) (f i) HK3.out RK3.out).mono ?_
          rw [ht]
          rintro r w4 ⟨rfl, hb4⟩
          have HB4 := Hid.mk' (bel_next HB3.out hb4)
          clear hb4
          go_wp2
          go_ret
          exact ⟨by rw [HF.out]; rfl, bel_next HB2.out HB4.out⟩
        · have HG2 := Hid.mk' (hgp2.trans ht)
          go_wp2_with fail
          refine (polSameS _ _ _ _ _ _ _ (lf K) (f i) HK3.out RK3.out).mono ?_
          rw [ht]
          rintro r w4 ⟨rfl, hb4⟩
          have HB4 := Hid.mk' (bel_next HB3.out hb4)
          clear hb4 u0 u1 z0 z1 g0 g1
          go_wp2
          go_roundw
          case rel => exact ⟨i + 1, by omega, by go_num, HB4.out, fun j hj => by
            by_cases e : j = i
            · rw [e]; exact HG2.out
            · exact HJ.out j (by omega)⟩
          case measure => simp [intOf]; omega
    · have hnl : ¬ (i : Int) < (np : Int) := by omega
      have hie : i = np := by omega
      subst hie
      have HT : Hid (decide (∀ j, j < i → gpAt ln f N L F n2 ln2 f2 j = true) = true) := decide_eq_true HJ.out
      go_wp2
      go_ret
      exact ⟨by rw [HT.out]; rfl, bel_next HB2.out HB.out⟩
end Go.Proofs.YtmlaedpamobmhaaGreat
