/-
  Lists of operators as lists; whether two are the same (laws.heList).
-/
import Derived.Test.YtfgmfgamkbgaiaaGreatDvX
import Derived.Test.YtfgmfgamkbgaiaaGreatGaq
namespace Go.Proofs.YtfgmfgamkbgaiaaGreat
open Go.RowKit Go.Deep Go.Joins
set_option linter.unusedVariables false

theorem rds_lists {w : World} {a : Option Addr} {n c : Nat} {ad : Nat → Option Addr} {ln cp : Nat → Nat} {f : Nat → Nat → T} (h : RdS w a n c ad ln cp f) : ∃ L : Nat → List T, ln = lN L ∧ RdS w a n c ad (lN L) cp (fN L) := by
  have e : ln = lN (fun i => (List.range (ln i)).map (f i)) := funext fun i => by simp
  refine ⟨fun i => (List.range (ln i)).map (f i), e, ?_⟩
  rw [← e]
  refine ⟨h.1, h.2.1, h.2.2.1, fun i hi => rd_congr (h.2.2.2 i hi) (fun j hj => ?_)⟩
  show f i j = lf ((List.range (ln i)).map (f i)) j
  rw [lf_eq (by simpa using hj)]
  simp
def lsq (n : Nat) (L : Nat → List T) (n' : Nat) (L' : Nat → List T) : Bool := decide (n = n' ∧ ∀ i, i < n → sq (L i) (L' i) = true)
theorem lsq_same (n : Nat) (L : Nat → List T) : lsq n L n L = true := decide_eq_true ⟨rfl, fun i _ => sq_same (L i)⟩
theorem lsq_iff {n : Nat} {L : Nat → List T} {n' : Nat} {L' : Nat → List T} : lsq n L n' L' = true ↔ n = n' ∧ ∀ i, i < n → L i = L' i := by
  unfold lsq
  rw [decide_eq_true_iff]
  exact ⟨fun h => ⟨h.1, fun i hi => sq_iff.1 (h.2 i hi)⟩, fun h => ⟨h.1, fun i hi => sq_iff.2 (h.2 i hi)⟩⟩
theorem lsq_no {n : Nat} {L : Nat → List T} {n' : Nat} {L' : Nat → List T} (h : ¬ (n = n' ∧ ∀ i, i < n → L i = L' i)) : lsq n L n' L' = false := by
  cases e : lsq n L n' L'
  · rfl
  · exact absurd (lsq_iff.1 e) h
set_option maxRecDepth 100000 in
set_option maxHeartbeats 4000000 in
theorem heListT (w : World) (a a' : Option Addr) (n cap n' cap' : Nat) (ad ad' : Nat → Option Addr) (cp cp' : Nat → Nat) (L L' : Nat → List T) (h : RdS w a n cap ad (lN L) cp (fN L)) (h' : RdS w a' n' cap' ad' (lN L') cp' (fN L')) :
    Calls Tryz.prog 10 #[.slice a n cap, .slice a' n' cap'] w (Val w (.bool (lsq n L n' L'))) := by
  have hn : (n : Int) ≤ 140737488351232 := by have := h.2.1; omega
  have hn' : (n' : Int) ≤ 140737488351232 := by have := h'.2.1; omega
  obtain ⟨r, hr⟩ : ∃ r, lsq n L n' L' = r := ⟨_, rfl⟩
  rw [hr]
  have HR := Hid.mk' hr
  have HH := Hid.mk' h
  have HH' := Hid.mk' h'
  clear h h' hr
  unfold Val
  by_cases hnn : n = n'
  · subst hnn
    have hne : ((n : Int) != (n : Int)) = false := by simp
    go_enter Tryz.func10, Tryz.ntmps10
    go_wp2
    go_loopw [5] (fun v wr => ∃ i : Nat, i ≤ n ∧ v = .int .i64 (i : Int) ∧ Below w.heap.size w wr ∧ ∀ j, j < i → L j = L' j) (fun v _ => n - (intOf v).toNat)
    case atStart => exact ⟨0, Nat.zero_le _, rfl, Below.refl _ _, fun j hj => by omega⟩
    case round =>
      obtain ⟨i, hi, rfl, hB, hJ⟩ := hrel
      have HJ := Hid.mk' hJ
      clear hJ
      by_cases hlt : i < n
      · rcases HH.out.2.2.1 with h0 | ⟨b, off, rfl, hblt, hcl⟩
        · omega
        rcases HH'.out.2.2.1 with h0 | ⟨b', off', rfl, hblt', hcl'⟩
        · omega
        have hil : (i : Int) < (n : Int) := by omega
        have hbr : b < wr.heap.size := Nat.lt_of_lt_of_le hblt hB.size
        have hbr' : b' < wr.heap.size := Nat.lt_of_lt_of_le hblt' hB.size
        have ne := Ext.there wr
        obtain ⟨l, hl⟩ : ∃ l, (L i).length = l := ⟨_, rfl⟩
        obtain ⟨l', hl'⟩ : ∃ l', (L' i).length = l' := ⟨_, rfl⟩
        have g0 : wr.cell? ⟨b, off + i, none⟩ = some (.slice (ad i) l (cp i)) := (hB.cell (p := ⟨b, off + i, none⟩) hblt).trans (by rw [← hl]; exact hcl i hlt)
        have g1 : wr.cell? ⟨b', off' + i, none⟩ = some (.slice (ad' i) l' (cp' i)) := (hB.cell (p := ⟨b', off' + i, none⟩) hblt').trans (by rw [← hl']; exact hcl' i hlt)
        have s0 : ∀ u : Ext wr, u.1.cell? ⟨b, off + i, none⟩ = some (.slice (ad i) l (cp i)) := fun u => (u.cell hbr).trans g0
        have s1 : ∀ u : Ext wr, u.1.cell? ⟨b', off' + i, none⟩ = some (.slice (ad' i) l' (cp' i)) := fun u => (u.cell hbr').trans g1
        have HK := Hid.mk' ((HH.out.2.2.2 i hlt).below hB)
        have HK' := Hid.mk' ((HH'.out.2.2.2 i hlt).below hB)
        have HB := Hid.mk' hB
        obtain ⟨q, hq⟩ : ∃ q, sq (L i) (L' i) = q := ⟨_, rfl⟩
        have HQ := Hid.mk' hq
        have hcall : ∀ u : Ext wr, Calls Tryz.prog 11 #[.slice (ad i) l (cp i), .slice (ad' i) l' (cp' i)] u.1 fun r w' => r = .returned (.bool q) ∧ Below u.1.heap.size u.1 w' := fun u => by
          have := he_L (w := u.1) (a := ad i) (ca := cp i) (L := L i) (b := ad' i) (cb := cp' i) (K := L' i) (HK.out.below u.2) (HK'.out.below u.2)
          rw [hq, hl, hl'] at this
          exact this
        clear hcl hcl' hB g0 g1 hq hl hl'
        go_wp2_with fail
        refine wp_region_ext (by kernel_rfl) (by kernel_rfl) ?_
        repeat (go_big_quiet_step (first | (go_at_call 11; exact ext_grows (hcall _)) | fail))
        refine wpQuiet_nil ?_
        rintro _ ⟨v, rfl⟩
        have HV := Hid.mk' v.2
        clear s0 s1 ne hcall
        cases q
        · have hr : r = false := by
            rw [← HR.out]
            refine lsq_no (fun hh => ?_)
            have h1 := HQ.out
            rw [hh.2 i hlt, sq_same] at h1
            cases h1
          subst hr
          go_wp2
          go_ret
          exact ⟨rfl, bel_next HB.out HV.out⟩
        · have he := sq_iff.1 HQ.out
          have HE := Hid.mk' he
          clear he
          go_wp2
          go_roundw
          case rel => exact ⟨i + 1, by omega, by go_num, bel_next HB.out HV.out, fun j hj => by
            by_cases e : j = i
            · rw [e]; exact HE.out
            · exact HJ.out j (by omega)⟩
          case measure => simp [intOf]; omega
      · have hnl : ¬ (i : Int) < (n : Int) := by omega
        have hr : r = true := by
          rw [← HR.out]
          exact lsq_iff.2 ⟨rfl, fun j hj => HJ.out j (by omega)⟩
        subst hr
        go_wp2
        go_ret
        exact ⟨rfl, hB⟩
  · have hne : ((n : Int) != (n' : Int)) = true := by simp; omega
    have hr : r = false := by
      rw [← HR.out]
      exact lsq_no (fun hh => hnn hh.1)
    subst hr
    go_enter Tryz.func10, Tryz.ntmps10
    go_wp2
    go_ret
    exact ⟨rfl, Below.refl _ _⟩
end Go.Proofs.YtfgmfgamkbgaiaaGreat
