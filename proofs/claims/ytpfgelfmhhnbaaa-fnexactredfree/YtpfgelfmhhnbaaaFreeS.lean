/-
  Whether an operator is free of others: the model.
-/
import Derived.Test.YtpfgelfmhhnbaaaFreeM
namespace Go.Proofs.Ytpfgelfmhhnbaaa
open Go.RowKit Go.Deep Go.Joins
set_option linter.unusedVariables false

theorem lstOk_all {n : Nat} {ln : Nat → Nat} {f : Nat → Nat → T} (h : lstOk n ln f = true) : n ≤ 12 ∧ ∀ i, i < n → ln i ≠ 0 ∧ polOk (ln i) (f i) = true := of_decide_eq_true h
set_option maxRecDepth 100000 in
set_option maxHeartbeats 4000000 in
theorem redFreeS (w : World) (o : Int) (pa : Option Addr) (np pc : Nat) (p : Nat → T) (hp : Rd w pa np pc p) (a : Option Addr) (n cap : Nat) (ad : Nat → Option Addr) (ln cp : Nat → Nat) (f : Nat → Nat → T) (h : RdS w a n cap ad ln cp f) :
    Calls Try.prog 14 #[.int .i64 o, .slice pa np pc, .slice a n cap] w fun r w' => r = .returned (.bool (redFree o np p n ln f)) ∧ Below w.heap.size w w' := by
  have hnp : (np : Int) ≤ 140737488351232 := by have := hp.2.1; omega
  have HP := Hid.mk' hp
  have HH := Hid.mk' h
  clear hp h
  by_cases ho : 1 ≤ o ∧ o ≤ 3
  · obtain ⟨ho1, ho2⟩ := ho
    cases hop : polOk np p
    · have e : redFree o np p n ln f = false := decide_eq_false (fun hh => by have := hh.2.1; rw [hop] at this; cases this)
      rw [e]
      go_enter Try.func14, Try.ntmps14
      go_wp2_with fail
      refine (inS_in o 1 3 _ ho1 ho2).mono ?_
      rintro e w' ⟨rfl, hw'⟩
      obtain rfl := hw'.symm
      clear hw'
      go_wp2_with fail
      refine (polOkS _ _ _ _ p HP.out).mono ?_
      rw [hop]
      rintro r w1 ⟨rfl, hb⟩
      have HB1 := Hid.mk' hb
      clear hb
      go_wp2
      go_ret
      exact ⟨rfl, HB1.out⟩
    · cases hls : lstOk n ln f
      · have e : redFree o np p n ln f = false := decide_eq_false (fun hh => by have := hh.2.2.1; rw [hls] at this; cases this)
        rw [e]
        go_enter Try.func14, Try.ntmps14
        go_wp2_with fail
        refine (inS_in o 1 3 _ ho1 ho2).mono ?_
        rintro e w' ⟨rfl, hw'⟩
        obtain rfl := hw'.symm
        clear hw'
        go_wp2_with fail
        refine (polOkS _ _ _ _ p HP.out).mono ?_
        rw [hop]
        rintro r w1 ⟨rfl, hb⟩
        have HB1 := Hid.mk' hb
        have HH1 := Hid.mk' (HH.out.below hb)
        clear hb
        go_wp2_with fail
        refine (lstOkS _ _ _ _ _ _ _ _ HH1.out).mono ?_
        rw [hls]
        rintro r w2 ⟨rfl, hb2⟩
        have HB2 := Hid.mk' (bel_next HB1.out hb2)
        clear hb2
        go_wp2
        go_ret
        exact ⟨rfl, HB2.out⟩
      · have hall := lstOk_all hls
        have HA := Hid.mk' hall.2
        clear hall
        go_enter Try.func14, Try.ntmps14
        go_wp2_with fail
        refine (inS_in o 1 3 _ ho1 ho2).mono ?_
        rintro e w' ⟨rfl, hw'⟩
        obtain rfl := hw'.symm
        clear hw'
        go_wp2_with fail
        refine (polOkS _ _ _ _ p HP.out).mono ?_
        rw [hop]
        rintro r w1 ⟨rfl, hb⟩
        have HB1 := Hid.mk' hb
        have HH1 := Hid.mk' (HH.out.below hb)
        clear hb
        go_wp2_with fail
        refine (lstOkS _ _ _ _ _ _ _ _ HH1.out).mono ?_
        rw [hls]
        rintro r w2 ⟨rfl, hb2⟩
        have HB2 := Hid.mk' (bel_next HB1.out hb2)
        clear hb2 HH1 HB1
        go_wp2
        go_loopw [7] (fun v wr => ∃ k : Nat, k ≤ np ∧ v = .int .i64 (k : Int) ∧ Below w.heap.size w wr ∧ ∀ j, j < k → ∀ i, i < n → M.dvd (ldAt o ln f i).m (p j).m = false) (fun v _ => np - (intOf v).toNat)
        case atStart => exact ⟨0, Nat.zero_le _, rfl, HB2.out, fun j hj => by omega⟩
        case round =>
          obtain ⟨k, hk, rfl, hB, hJ⟩ := hrel
          have HJ := Hid.mk' hJ
          have HB := Hid.mk' hB
          clear hJ
          by_cases hlt : k < np
          · have hkl : (k : Int) < (np : Int) := by omega
            have hri := HP.out.below hB
            rcases hri.2.2 with h0 | ⟨b, off, hpe, hblt, hcl⟩
            · omega
            obtain ⟨g0, g1, g2, g3, g4⟩ := hcl k hlt
            have HR := Hid.mk' (HH.out.below hB)
            subst hpe
            clear hcl hri hB
            by_cases hfr : ∀ i, i < n → M.dvd (ldAt o ln f i).m (p k).m = false
            · have HF := Hid.mk' hfr
              clear hfr
              go_wp2_with fail
              refine (l7FindS _ o _ _ _ _ _ _ _ (p k).m HR.out HA.out).mono ?_
              rintro e w4 ⟨z, rfl, hb4, hz1, hz2⟩
              have hz := hz1 HF.out
              subst hz
              have HB4 := Hid.mk' (bel_next HB.out hb4)
              clear hb4 hz1 hz2 g0 g1 g2 g3 g4
              go_wp2
              go_roundw
              case rel => exact ⟨k + 1, by omega, by go_num, HB4.out, fun j hj => by
                by_cases e : j = k
                · rw [e]; exact HF.out
                · exact HJ.out j (by omega)⟩
              case measure => simp [intOf]; omega
            · have HE : Hid (redFree o np p n ln f = false) := decide_eq_false (fun hh => hfr (hh.2.2.2 k hlt))
              have hex : ∃ i, i < n ∧ M.dvd (ldAt o ln f i).m (p k).m = true := Classical.byContradiction (fun hc => hfr (fun i hi => by
                cases hd : M.dvd (ldAt o ln f i).m (p k).m
                · rfl
                · exact absurd ⟨i, hi, hd⟩ hc))
              have HX := Hid.mk' hex
              clear hfr hex
              go_wp2_with fail
              refine (l7FindS _ o _ _ _ _ _ _ _ (p k).m HR.out HA.out).mono ?_
              rintro e w4 ⟨z, rfl, hb4, hz1, hz2⟩
              have hz : 0 ≤ z := by
                obtain ⟨i, hi, hd⟩ := HX.out
                exact hz2 i hi hd
              have HB4 := Hid.mk' (bel_next HB.out hb4)
              clear hb4 hz1 hz2 g0 g1 g2 g3 g4
              go_wp2
              go_ret
              exact ⟨congrArg (fun z => Ending.returned (Value.bool z)) HE.out.symm, HB4.out⟩
          · have hnl : ¬ (k : Int) < (np : Int) := by omega
            have hie : k = np := by omega
            subst hie
            have HE : Hid (redFree o k p n ln f = true) := decide_eq_true ⟨⟨ho1, ho2⟩, hop, hls, HJ.out⟩
            go_wp2
            go_ret
            exact ⟨congrArg (fun z => Ending.returned (Value.bool z)) HE.out.symm, HB.out⟩
  · have e : redFree o np p n ln f = false := decide_eq_false (fun hh => ho hh.1)
    have hout : o < 1 ∨ (1 ≤ o ∧ 3 < o) := by omega
    rw [e]
    clear ho
    go_enter Try.func14, Try.ntmps14
    go_wp2_with fail
    refine (inS_out o 1 3 _ hout).mono ?_
    rintro e w' ⟨rfl, hw'⟩
    obtain rfl := hw'.symm
    clear hw'
    go_wp2
    go_ret
    exact ⟨rfl, Below.refl _ _⟩
end Go.Proofs.Ytpfgelfmhhnbaaa
