/-
  The walk of FnFilPart: whatever the code, it comes out true, and nothing that was there is turned.
-/
import Derived.Test.YtclmaenkoapppaaGaz
import Derived.Test.YtclmaenkoapppaaGba
namespace Go.Proofs.Ytclmaenkoapppaa
open Go.RowKit
set_option linter.unusedVariables false
set_option maxRecDepth 100000 in
set_option maxHeartbeats 8000000 in
theorem walk_FnFilPart (w : World) (a0 : Option Addr) (len0 cap0 : Nat) (s0 : Src w a0 len0 cap0) :
    Calls Try.prog 6 #[.slice a0 len0 cap0] w fun e w' => e = .returned (.bool true) ∧ Below w.heap.size w w' := by
  by_cases c0 : (1048576 : Int) < (len0 : Int)
  · go_enter Try.func6, Try.ntmps6
    go_wp2
    go_ret
    exact ⟨rfl, Below.refl _ _⟩
  go_enter Try.func6, Try.ntmps6
  go_wp2_with fail
  refine (drawFilPart w a0 len0 cap0 s0).mono ?_
  rintro e wd ⟨da, dca, A, n, rfl, hA, hlA, hbd⟩
  have HA0 := Hid.mk' hA
  have Z0 := Hid.mk' hbd
  clear hA hbd s0
  have hn2 : (moL dgr A != moL dgr A) = false := by simp
  cases oA : okL A
  · have e1 : partV n A = [] := partV_bad oA
    have e2 : moL dgr A = -1 := moL_bad oA
    go_wp2_with fail
    refine (partI_L n HA0.out).mono ?_
    rw [e1]
    rintro e w1 ⟨a2, c3, rfl, b4, r5⟩
    have H6 := Hid.mk' (HA0.out.below b4)
    clear HA0
    have Z7 := Hid.mk' (bel_next Z0.out b4)
    clear Z0
    have H8 : Hid (RL w1 a2 c3 []) := r5
    clear r5
    clear b4
    go_wp2_with fail
    refine (partS_L n H6.out).mono ?_
    rw [e1]
    rintro e w9 ⟨a10, c11, rfl, b12, r13⟩
    have H14 := Hid.mk' (H6.out.below b12)
    clear H6
    have H15 := Hid.mk' (H8.out.below b12)
    clear H8
    have Z16 := Hid.mk' (bel_next Z7.out b12)
    clear Z7
    have H17 : Hid (RL w9 a10 c11 []) := r13
    clear r13
    clear b12
    go_wp2_with fail
    refine (he_L H15.out H17.out).mono ?_
    rw [sq_same]
    rintro e w18 ⟨rfl, b19⟩
    have H20 := Hid.mk' (H14.out.below b19)
    clear H14
    have H21 := Hid.mk' (H15.out.below b19)
    clear H15
    have H22 := Hid.mk' (H17.out.below b19)
    clear H17
    have Z23 := Hid.mk' (bel_next Z16.out b19)
    clear Z16
    clear b19
    go_wp2_with fail
    refine (degI_L H20.out).mono ?_
    rw [e2]
    rintro e w24 ⟨rfl, b25⟩
    have H26 := Hid.mk' (H20.out.below b25)
    clear H20
    have H27 := Hid.mk' (H21.out.below b25)
    clear H21
    have H28 := Hid.mk' (H22.out.below b25)
    clear H22
    have Z29 := Hid.mk' (bel_next Z23.out b25)
    clear Z23
    clear b25
    go_wp2_with fail
    refine (degS_L H26.out).mono ?_
    rw [e2]
    rintro e w30 ⟨rfl, b31⟩
    have H32 := Hid.mk' (H26.out.below b31)
    clear H26
    have H33 := Hid.mk' (H27.out.below b31)
    clear H27
    have H34 := Hid.mk' (H28.out.below b31)
    clear H28
    have Z35 := Hid.mk' (bel_next Z29.out b31)
    clear Z29
    clear b31
    go_wp2_with fail
    refine (okS_L H32.out).mono ?_
    rw [oA]
    rintro e w36 ⟨rfl, b37⟩
    have H38 := Hid.mk' (H32.out.below b37)
    clear H32
    have H39 := Hid.mk' (H33.out.below b37)
    clear H33
    have H40 := Hid.mk' (H34.out.below b37)
    clear H34
    have Z41 := Hid.mk' (bel_next Z35.out b37)
    clear Z35
    clear b37
    go_wp2_with fail
    refine (degI_L H38.out).mono ?_
    rw [e2]
    rintro e w42 ⟨rfl, b43⟩
    have H44 := Hid.mk' (H38.out.below b43)
    clear H38
    have H45 := Hid.mk' (H39.out.below b43)
    clear H39
    have H46 := Hid.mk' (H40.out.below b43)
    clear H40
    have Z47 := Hid.mk' (bel_next Z41.out b43)
    clear Z41
    clear b43
    go_wp2_with fail
    refine (heOk_L _ ).mono ?_
    rintro e w48 ⟨rfl, b49⟩
    have H50 := Hid.mk' (H44.out.below b49)
    clear H44
    have H51 := Hid.mk' (H45.out.below b49)
    clear H45
    have H52 := Hid.mk' (H46.out.below b49)
    clear H46
    have Z53 := Hid.mk' (bel_next Z47.out b49)
    clear Z47
    clear b49
    go_wp2
    go_ret
    exact ⟨rfl, Z53.out⟩
  · have fA := (okL_falls oA).2
    have lA := (okL_falls oA).1
    have d1 := moL_low (q := dgr) oA
    have d2 := mo_high oA
    have HX0 : Hid (n < 0 → partV n A = []) := fun hn => by rw [partV_ok oA]; exact part_none oA (.inr hn)
    have HLA : Hid (lowL (moL dgr A + 1) A = A) := low_all oA
    have e9 : partV (moL dgr A + 1) A = [] := by rw [partV_ok oA]; exact part_none oA (.inl (by omega))
    have HST : Hid (∀ k : Nat, addV (lowL (k : Int) A) (partV (k : Int) A) = (lowL ((k + 1 : Nat) : Int) A, true)) := fun k => by
      have hs := low_step fA (k : Int)
      have hp : partV (k : Int) A = A.filter (fun t => dgr t.m == (k : Int)) := partV_ok oA
      have hl1 := low_len (k : Int) A
      rw [hp, addV_ok (okL_of (by omega) (low_falls fA _)) (okL_of (Nat.le_trans (List.length_filter_le _ _) lA) (falls_sub List.filter_sublist fA)) (by rw [hs]; exact Nat.le_trans (low_len _ _) lA), hs]
      rfl
    go_wp2_with fail
    refine (partI_L n HA0.out).mono ?_
    rintro e w54 ⟨a55, c56, rfl, b57, r58⟩
    have H59 := Hid.mk' (HA0.out.below b57)
    clear HA0
    have Z60 := Hid.mk' (bel_next Z0.out b57)
    clear Z0
    have H61 : Hid (RL w54 a55 c56 (partV n A)) := r58
    clear r58
    clear b57
    go_wp2_with fail
    refine (partS_L n H59.out).mono ?_
    rintro e w62 ⟨a63, c64, rfl, b65, r66⟩
    have H67 := Hid.mk' (H59.out.below b65)
    clear H59
    have H68 := Hid.mk' (H61.out.below b65)
    clear H61
    have Z69 := Hid.mk' (bel_next Z60.out b65)
    clear Z60
    have H70 : Hid (RL w62 a63 c64 (partV n A)) := r66
    clear r66
    clear b65
    go_wp2_with fail
    refine (he_L H68.out H70.out).mono ?_
    rw [sq_same]
    rintro e w71 ⟨rfl, b72⟩
    have H73 := Hid.mk' (H67.out.below b72)
    clear H67
    have H74 := Hid.mk' (H68.out.below b72)
    clear H68
    have H75 := Hid.mk' (H70.out.below b72)
    clear H70
    have Z76 := Hid.mk' (bel_next Z69.out b72)
    clear Z69
    clear b72
    go_wp2_with fail
    refine (degI_L H73.out).mono ?_
    rintro e w77 ⟨rfl, b78⟩
    have H79 := Hid.mk' (H73.out.below b78)
    clear H73
    have H80 := Hid.mk' (H74.out.below b78)
    clear H74
    have H81 := Hid.mk' (H75.out.below b78)
    clear H75
    have Z82 := Hid.mk' (bel_next Z76.out b78)
    clear Z76
    clear b78
    go_wp2_with fail
    refine (degS_L H79.out).mono ?_
    rintro e w83 ⟨rfl, b84⟩
    have H85 := Hid.mk' (H79.out.below b84)
    clear H79
    have H86 := Hid.mk' (H80.out.below b84)
    clear H80
    have H87 := Hid.mk' (H81.out.below b84)
    clear H81
    have Z88 := Hid.mk' (bel_next Z82.out b84)
    clear Z82
    clear b84
    go_wp2_with fail
    refine (okS_L H85.out).mono ?_
    rw [oA]
    rintro e w89 ⟨rfl, b90⟩
    have H91 := Hid.mk' (H85.out.below b90)
    clear H85
    have H92 := Hid.mk' (H86.out.below b90)
    clear H86
    have H93 := Hid.mk' (H87.out.below b90)
    clear H87
    have Z94 := Hid.mk' (bel_next Z88.out b90)
    clear Z88
    clear b90
    generalize hD : moL dgr A = D at *
    have HE0 : Hid (RL (w89.alloc (.cells #[] 29)) (some ⟨w89.heap.size, 0, none⟩) 0 (lowL ((0 : Nat) : Int) A)) := by
      show RL _ _ _ (lowL 0 A)
      rw [low_none fA]
      exact ⟨Nat.le_refl _, by simp, .inl rfl⟩
    have HA9 := Hid.mk' (RL.below H91.out (bel_one w89 (.cells #[] 29)))
    have HX9 := Hid.mk' (RL.below H92.out (bel_one w89 (.cells #[] 29)))
    have HB9 := Hid.mk' (bel_next Z94.out (bel_one w89 (.cells #[] 29)))
    have hlow0 : ((lowL ((0 : Nat) : Int) A).length : Int) = 0 := by show ((lowL 0 A).length : Int) = 0; rw [low_none fA]; rfl
    go_wp2
    go_loopw [6, 7] (fun v kk wr => ∃ (k : Nat) (s : Option Addr) (c : Nat), kk = .int .i64 (k : Int) ∧ (k : Int) ≤ D + 1 ∧ v = .slice s (lowL (k : Int) A).length c ∧ RL wr s c (lowL (k : Int) A) ∧ Below w.heap.size w wr ∧ RL wr da dca A ∧ RL wr a55 c56 (partV n A)) (fun _ kk _ => (D + 1 - intOf kk).toNat)
    case atStart => exact ⟨0, _, 0, rfl, by omega, by rw [show (lowL ((0 : Nat) : Int) A).length = 0 from by omega], HE0.out, HB9.out, HA9.out, HX9.out⟩
    case round =>
      obtain ⟨k, s, c, rfl, hk, rfl, kS, kB, kA, kX⟩ := hrel
      have KS := Hid.mk' kS
      have KB := Hid.mk' kB
      have KA := Hid.mk' kA
      have KX := Hid.mk' kX
      clear kS kB kA kX
      by_cases hkd : (k : Int) ≤ D
      · go_wp2_with fail
        refine (degI_L KA.out).mono ?_
        rw [hD]
        rintro e w95 ⟨rfl, b96⟩
        have H97 := Hid.mk' (KA.out.below b96)
        clear KA
        have H98 := Hid.mk' (KS.out.below b96)
        clear KS
        have H99 := Hid.mk' (KX.out.below b96)
        clear KX
        have Z100 := Hid.mk' (bel_next KB.out b96)
        clear KB
        clear b96
        have hst := HST.out k
        go_wp2_with fail
        refine (partI_L (k : Int) H97.out).mono ?_
        rintro e w101 ⟨a102, c103, rfl, b104, r105⟩
        have H106 := Hid.mk' (H97.out.below b104)
        clear H97
        have H107 := Hid.mk' (H98.out.below b104)
        clear H98
        have H108 := Hid.mk' (H99.out.below b104)
        clear H99
        have Z109 := Hid.mk' (bel_next Z100.out b104)
        clear Z100
        have H110 : Hid (RL w101 a102 c103 (partV (k : Int) A)) := r105
        clear r105
        clear b104
        go_wp2_with fail
        refine (addI_L H107.out H110.out).mono ?_
        rw [hst]
        rintro e w111 ⟨a112, c113, rfl, b114, r115⟩
        have H116 := Hid.mk' (H106.out.below b114)
        clear H106
        have H117 := Hid.mk' (H107.out.below b114)
        clear H107
        have H118 := Hid.mk' (H108.out.below b114)
        clear H108
        have H119 := Hid.mk' (H110.out.below b114)
        clear H110
        have Z120 := Hid.mk' (bel_next Z109.out b114)
        clear Z109
        have H121 : Hid (RL w111 a112 c113 (lowL ((k + 1 : Nat) : Int) A)) := r115
        clear r115
        clear b114
        go_wp2
        go_roundw
        case rel => exact ⟨k + 1, a112, c113, by go_num, by omega, rfl, H121.out, Z120.out, H116.out, H118.out⟩
        case measure => simp [intOf]; omega
      · have hk2 : ¬ (k : Int) ≤ D := hkd
        have EK : Hid (lowL (k : Int) A = A) := by show lowL (k : Int) A = A; have e := HLA.out; rw [show (k : Int) = D + 1 from by omega]; exact e
        go_wp2_with fail
        refine (degI_L KA.out).mono ?_
        rw [hD]
        rintro e w122 ⟨rfl, b123⟩
        have H124 := Hid.mk' (KA.out.below b123)
        clear KA
        have H125 := Hid.mk' (KS.out.below b123)
        clear KS
        have H126 := Hid.mk' (KX.out.below b123)
        clear KX
        have Z127 := Hid.mk' (bel_next KB.out b123)
        clear KB
        clear b123
        go_wp2_with fail
        refine (he_L H125.out H124.out).mono ?_
        rw [EK.out, sq_same]
        rintro e w128 ⟨rfl, b129⟩
        have H130 := Hid.mk' (H124.out.below b129)
        clear H124
        have H131 := Hid.mk' (H125.out.below b129)
        clear H125
        have H132 := Hid.mk' (H126.out.below b129)
        clear H126
        have Z133 := Hid.mk' (bel_next Z127.out b129)
        clear Z127
        clear b129
        go_wp2_with fail
        refine (degI_L H130.out).mono ?_
        rw [hD]
        rintro e w134 ⟨rfl, b135⟩
        have H136 := Hid.mk' (H130.out.below b135)
        clear H130
        have H137 := Hid.mk' (H131.out.below b135)
        clear H131
        have H138 := Hid.mk' (H132.out.below b135)
        clear H132
        have Z139 := Hid.mk' (bel_next Z133.out b135)
        clear Z133
        clear b135
        go_wp2_with fail
        refine (partI_L (D + 1) H136.out).mono ?_
        rw [e9]
        rintro e w140 ⟨a141, c142, rfl, b143, r144⟩
        have H145 := Hid.mk' (H136.out.below b143)
        clear H136
        have H146 := Hid.mk' (H137.out.below b143)
        clear H137
        have H147 := Hid.mk' (H138.out.below b143)
        clear H138
        have Z148 := Hid.mk' (bel_next Z139.out b143)
        clear Z139
        have H149 : Hid (RL w140 a141 c142 []) := r144
        clear r144
        clear b143
        by_cases hn : n < 0
        · have eX := HX0.out hn
          have hxl : ((partV n A).length : Int) = 0 := by rw [eX]; rfl
          go_wp2_with fail
          refine (heOk_L _ ).mono ?_
          rintro e w150 ⟨rfl, b151⟩
          have H152 := Hid.mk' (H145.out.below b151)
          clear H145
          have H153 := Hid.mk' (H146.out.below b151)
          clear H146
          have H154 := Hid.mk' (H147.out.below b151)
          clear H147
          have H155 := Hid.mk' (H149.out.below b151)
          clear H149
          have Z156 := Hid.mk' (bel_next Z148.out b151)
          clear Z148
          clear b151
          go_wp2
          go_ret
          exact ⟨rfl, Z156.out⟩
        · have hn0 : 0 ≤ n := by omega
          go_wp2_with fail
          refine (heOk_L _ ).mono ?_
          rintro e w157 ⟨rfl, b158⟩
          have H159 := Hid.mk' (H145.out.below b158)
          clear H145
          have H160 := Hid.mk' (H146.out.below b158)
          clear H146
          have H161 := Hid.mk' (H147.out.below b158)
          clear H147
          have H162 := Hid.mk' (H149.out.below b158)
          clear H149
          have Z163 := Hid.mk' (bel_next Z148.out b158)
          clear Z148
          clear b158
          go_wp2
          go_ret
          exact ⟨rfl, Z163.out⟩
end Go.Proofs.Ytclmaenkoapppaa
