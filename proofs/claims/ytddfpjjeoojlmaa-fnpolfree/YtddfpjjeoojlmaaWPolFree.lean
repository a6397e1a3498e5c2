/-
  The walk of FnPolFree: whatever the code, it comes out true, and nothing that was there is turned.
-/
import Derived.Test.YtddfpjjeoojlmaaFormD
import Derived.Test.YtddfpjjeoojlmaaGat
import Derived.Test.YtddfpjjeoojlmaaGau
namespace Go.Proofs.Ytddfpjjeoojlmaa
open Go.RowKit
set_option linter.unusedVariables false
set_option maxRecDepth 100000 in
set_option maxHeartbeats 8000000 in
theorem walk_FnPolFree (w : World) (a0 : Option Addr) (len0 cap0 : Nat) (s0 : Src w a0 len0 cap0) (a1 : Option Addr) (len1 cap1 : Nat) (s1 : Src w a1 len1 cap1) :
    Calls Try.prog 7 #[.slice a0 len0 cap0, .slice a1 len1 cap1] w fun e w' => e = .returned (.bool true) ∧ Below w.heap.size w w' := by
  by_cases c0 : (1048576 : Int) < (len0 : Int)
  · go_enter Try.func7, Try.ntmps7
    go_wp2
    go_ret
    exact ⟨rfl, Below.refl _ _⟩
  by_cases c1 : (1048576 : Int) < (len1 : Int)
  · go_enter Try.func7, Try.ntmps7
    go_wp2
    go_ret
    exact ⟨rfl, Below.refl _ _⟩
  go_enter Try.func7, Try.ntmps7
  go_wp2_with fail
  refine (drawPolFree w a0 len0 cap0 s0).mono ?_
  rintro e wd ⟨da, dca, A, rfl, hA, hlA, hbd⟩
  have HA0 := Hid.mk' hA
  have Z0 := Hid.mk' hbd
  have S1 := Hid.mk' (s1.below hbd)
  clear hA hbd s0 s1
  go_wp2_with fail
  refine (drawPolFree wd a1 len1 cap1 S1.out).mono ?_
  rintro e we ⟨db, dcb, B, rfl, hB, hlB, hbe⟩
  have HB0 := Hid.mk' hB
  clear hB S1
  have H1 := Hid.mk' (HA0.out.below hbe)
  clear HA0
  have Z2 := Hid.mk' (bel_next Z0.out hbe)
  clear Z0
  clear hbe
  have hn1 : (freeL A != freeL A) = false := by simp
  have hn2 : (moL slp A != moL slp A) = false := by simp
  go_wp2_with fail
  refine (freeI_L H1.out).mono ?_
  rintro e w3 ⟨rfl, b4⟩
  have H5 := Hid.mk' (H1.out.below b4)
  clear H1
  have H6 := Hid.mk' (HB0.out.below b4)
  clear HB0
  have Z7 := Hid.mk' (bel_next Z2.out b4)
  clear Z2
  clear b4
  go_wp2_with fail
  refine (freeS_L H5.out).mono ?_
  rintro e w8 ⟨rfl, b9⟩
  have H10 := Hid.mk' (H5.out.below b9)
  clear H5
  have H11 := Hid.mk' (H6.out.below b9)
  clear H6
  have Z12 := Hid.mk' (bel_next Z7.out b9)
  clear Z7
  clear b9
  go_wp2_with fail
  refine (ordI_L H10.out).mono ?_
  rintro e w13 ⟨rfl, b14⟩
  have H15 := Hid.mk' (H10.out.below b14)
  clear H10
  have H16 := Hid.mk' (H11.out.below b14)
  clear H11
  have Z17 := Hid.mk' (bel_next Z12.out b14)
  clear Z12
  clear b14
  go_wp2_with fail
  refine (ordS_L H15.out).mono ?_
  rintro e w18 ⟨rfl, b19⟩
  have H20 := Hid.mk' (H15.out.below b19)
  clear H15
  have H21 := Hid.mk' (H16.out.below b19)
  clear H16
  have Z22 := Hid.mk' (bel_next Z17.out b19)
  clear Z17
  clear b19
  cases oA : okL A
  · have hf := free_ok oA
    rw [hf]
    go_wp2_with fail
    refine (okS_L H20.out).mono ?_
    rw [oA]
    rintro e w23 ⟨rfl, b24⟩
    have H25 := Hid.mk' (H20.out.below b24)
    clear H20
    have H26 := Hid.mk' (H21.out.below b24)
    clear H21
    have Z27 := Hid.mk' (bel_next Z22.out b24)
    clear Z22
    clear b24
    go_wp2_with fail
    refine (heOk_L _ ).mono ?_
    rintro e w28 ⟨rfl, b29⟩
    have H30 := Hid.mk' (H25.out.below b29)
    clear H25
    have H31 := Hid.mk' (H26.out.below b29)
    clear H26
    have Z32 := Hid.mk' (bel_next Z27.out b29)
    clear Z27
    clear b29
    go_wp2
    go_ret
    exact ⟨rfl, Z32.out⟩
  · go_wp2_with fail
    refine (okS_L H20.out).mono ?_
    rw [oA]
    rintro e w33 ⟨rfl, b34⟩
    have H35 := Hid.mk' (H20.out.below b34)
    clear H20
    have H36 := Hid.mk' (H21.out.below b34)
    clear H21
    have Z37 := Hid.mk' (bel_next Z22.out b34)
    clear Z22
    clear b34
    have hfi := free_iff oA
    cases fA : freeL A
    · have hm : ¬ moL slp A < 1 := fun h => by rw [hfi.2 h] at fA; cases fA
      have hmd : decide (moL slp A < 1) = false := decide_eq_false hm
      clear hfi hm hn1 hn2
      rcases addV_case A B with h | ⟨_, oB, hl, h⟩
      · go_wp2_with fail
        refine (addI_L H35.out H36.out).mono ?_
        rw [h]
        rintro e w38 ⟨a39, c40, rfl, b41, r42⟩
        have H43 := Hid.mk' (H35.out.below b41)
        clear H35
        have H44 := Hid.mk' (H36.out.below b41)
        clear H36
        have Z45 := Hid.mk' (bel_next Z37.out b41)
        clear Z37
        have H46 : Hid (RL w38 a39 c40 []) := r42
        clear r42
        clear b41
        go_wp2_with fail
        refine (ordI_L H43.out).mono ?_
        rintro e w47 ⟨rfl, b48⟩
        have H49 := Hid.mk' (H43.out.below b48)
        clear H43
        have H50 := Hid.mk' (H44.out.below b48)
        clear H44
        have H51 := Hid.mk' (H46.out.below b48)
        clear H46
        have Z52 := Hid.mk' (bel_next Z45.out b48)
        clear Z45
        clear b48
        go_wp2_with fail
        have Z53 := Hid.mk' (bel_next Z52.out (bel_one w47 (.cells #[] 35)))
        clear Z52
        have H54 : Hid (RL (w47.alloc (.cells #[] 35)) (some ⟨w47.heap.size, 0, none⟩) 0 []) := ⟨Nat.le_refl _, by simp, .inl rfl⟩
        refine (freeI_L H54.out).mono ?_
        rw [show freeL [] = true from by decide]
        rintro e w55 ⟨rfl, b56⟩
        have Z57 := Hid.mk' (bel_next Z53.out b56)
        clear b56
        go_wp2
        go_ret
        exact ⟨rfl, Z57.out⟩
      · go_wp2_with fail
        refine (addI_L H35.out H36.out).mono ?_
        rw [h]
        rintro e w58 ⟨a59, c60, rfl, b61, r62⟩
        have H63 := Hid.mk' (H35.out.below b61)
        clear H35
        have H64 := Hid.mk' (H36.out.below b61)
        clear H36
        have Z65 := Hid.mk' (bel_next Z37.out b61)
        clear Z37
        have H66 : Hid (RL w58 a59 c60 (addL A B)) := r62
        clear r62
        clear b61
        go_wp2_with fail
        refine (ordI_L H63.out).mono ?_
        rintro e w67 ⟨rfl, b68⟩
        have H69 := Hid.mk' (H63.out.below b68)
        clear H63
        have H70 := Hid.mk' (H64.out.below b68)
        clear H64
        have H71 := Hid.mk' (H66.out.below b68)
        clear H66
        have Z72 := Hid.mk' (bel_next Z65.out b68)
        clear Z65
        clear b68
        go_wp2_with fail
        have Z73 := Hid.mk' (bel_next Z72.out (bel_one w67 (.cells #[] 35)))
        clear Z72
        have H74 : Hid (RL (w67.alloc (.cells #[] 35)) (some ⟨w67.heap.size, 0, none⟩) 0 []) := ⟨Nat.le_refl _, by simp, .inl rfl⟩
        refine (freeI_L H74.out).mono ?_
        rw [show freeL [] = true from by decide]
        rintro e w75 ⟨rfl, b76⟩
        have Z77 := Hid.mk' (bel_next Z73.out b76)
        clear b76
        go_wp2
        go_ret
        exact ⟨rfl, Z77.out⟩
    · have hm : moL slp A < 1 := hfi.1 fA
      have hmd : decide (moL slp A < 1) = true := decide_eq_true hm
      clear hfi hm hn1 hn2
      rcases addV_case A B with h | ⟨_, oB, hl, h⟩
      · go_wp2_with fail
        refine (addI_L H35.out H36.out).mono ?_
        rw [h]
        rintro e w78 ⟨a79, c80, rfl, b81, r82⟩
        have H83 := Hid.mk' (H35.out.below b81)
        clear H35
        have H84 := Hid.mk' (H36.out.below b81)
        clear H36
        have Z85 := Hid.mk' (bel_next Z37.out b81)
        clear Z37
        have H86 : Hid (RL w78 a79 c80 []) := r82
        clear r82
        clear b81
        go_wp2_with fail
        refine (ordI_L H83.out).mono ?_
        rintro e w87 ⟨rfl, b88⟩
        have H89 := Hid.mk' (H83.out.below b88)
        clear H83
        have H90 := Hid.mk' (H84.out.below b88)
        clear H84
        have H91 := Hid.mk' (H86.out.below b88)
        clear H86
        have Z92 := Hid.mk' (bel_next Z85.out b88)
        clear Z85
        clear b88
        go_wp2_with fail
        have Z93 := Hid.mk' (bel_next Z92.out (bel_one w87 (.cells #[] 35)))
        clear Z92
        have H94 : Hid (RL (w87.alloc (.cells #[] 35)) (some ⟨w87.heap.size, 0, none⟩) 0 []) := ⟨Nat.le_refl _, by simp, .inl rfl⟩
        refine (freeI_L H94.out).mono ?_
        rw [show freeL [] = true from by decide]
        rintro e w95 ⟨rfl, b96⟩
        have Z97 := Hid.mk' (bel_next Z93.out b96)
        clear b96
        go_wp2
        go_ret
        exact ⟨rfl, Z97.out⟩
      · go_wp2_with fail
        refine (addI_L H35.out H36.out).mono ?_
        rw [h]
        rintro e w98 ⟨a99, c100, rfl, b101, r102⟩
        have H103 := Hid.mk' (H35.out.below b101)
        clear H35
        have H104 := Hid.mk' (H36.out.below b101)
        clear H36
        have Z105 := Hid.mk' (bel_next Z37.out b101)
        clear Z37
        have H106 : Hid (RL w98 a99 c100 (addL A B)) := r102
        clear r102
        clear b101
        go_wp2_with fail
        refine (ordI_L H103.out).mono ?_
        rintro e w107 ⟨rfl, b108⟩
        have H109 := Hid.mk' (H103.out.below b108)
        clear H103
        have H110 := Hid.mk' (H104.out.below b108)
        clear H104
        have H111 := Hid.mk' (H106.out.below b108)
        clear H106
        have Z112 := Hid.mk' (bel_next Z105.out b108)
        clear Z105
        clear b108
        cases fB : freeL B
        · go_wp2_with fail
          refine (freeI_L H110.out).mono ?_
          rw [fB]
          rintro e w113 ⟨rfl, b114⟩
          have H115 := Hid.mk' (H109.out.below b114)
          clear H109
          have H116 := Hid.mk' (H110.out.below b114)
          clear H110
          have H117 := Hid.mk' (H111.out.below b114)
          clear H111
          have Z118 := Hid.mk' (bel_next Z112.out b114)
          clear Z112
          clear b114
          go_wp2_with fail
          have Z119 := Hid.mk' (bel_next Z118.out (bel_one w113 (.cells #[] 35)))
          clear Z118
          have H120 : Hid (RL (w113.alloc (.cells #[] 35)) (some ⟨w113.heap.size, 0, none⟩) 0 []) := ⟨Nat.le_refl _, by simp, .inl rfl⟩
          refine (freeI_L H120.out).mono ?_
          rw [show freeL [] = true from by decide]
          rintro e w121 ⟨rfl, b122⟩
          have Z123 := Hid.mk' (bel_next Z119.out b122)
          clear b122
          go_wp2
          go_ret
          exact ⟨rfl, Z123.out⟩
        · have fX := free_sum oA oB hl fA fB
          go_wp2_with fail
          refine (freeI_L H110.out).mono ?_
          rw [fB]
          rintro e w124 ⟨rfl, b125⟩
          have H126 := Hid.mk' (H109.out.below b125)
          clear H109
          have H127 := Hid.mk' (H110.out.below b125)
          clear H110
          have H128 := Hid.mk' (H111.out.below b125)
          clear H111
          have Z129 := Hid.mk' (bel_next Z112.out b125)
          clear Z112
          clear b125
          go_wp2_with fail
          refine (freeI_L H128.out).mono ?_
          rw [fX]
          rintro e w130 ⟨rfl, b131⟩
          have H132 := Hid.mk' (H126.out.below b131)
          clear H126
          have H133 := Hid.mk' (H127.out.below b131)
          clear H127
          have H134 := Hid.mk' (H128.out.below b131)
          clear H128
          have Z135 := Hid.mk' (bel_next Z129.out b131)
          clear Z129
          clear b131
          go_wp2_with fail
          have Z136 := Hid.mk' (bel_next Z135.out (bel_one w130 (.cells #[] 35)))
          clear Z135
          have H137 : Hid (RL (w130.alloc (.cells #[] 35)) (some ⟨w130.heap.size, 0, none⟩) 0 []) := ⟨Nat.le_refl _, by simp, .inl rfl⟩
          refine (freeI_L H137.out).mono ?_
          rw [show freeL [] = true from by decide]
          rintro e w138 ⟨rfl, b139⟩
          have Z140 := Hid.mk' (bel_next Z136.out b139)
          clear b139
          go_wp2
          go_ret
          exact ⟨rfl, Z140.out⟩
end Go.Proofs.Ytddfpjjeoojlmaa
