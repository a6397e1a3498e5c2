/-
  The walk of FnPolOk: whatever the code, it comes out true, and nothing that was there is turned.
-/
import Derived.Test.YtclmaenkoapppaaGaz
import Derived.Test.YtclmaenkoapppaaGba
namespace Go.Proofs.Ytclmaenkoapppaa
open Go.RowKit
set_option linter.unusedVariables false
abbrev Q5 (pb o : Nat) (t : T) (u : World) : Prop := u.cell? ⟨pb, o, none⟩ = some (.int .i64 t.c) ∧ u.cell? ⟨pb, o + 1, none⟩ = some (.int .i64 t.m.x) ∧ u.cell? ⟨pb, o + 2, none⟩ = some (.int .i64 t.m.y) ∧ u.cell? ⟨pb, o + 3, none⟩ = some (.int .i64 t.m.d) ∧ u.cell? ⟨pb, o + 4, none⟩ = some (.int .i64 t.m.e)
theorem Q5.lt {pb o : Nat} {t : T} {u : World} (h : Q5 pb o t u) : pb < u.heap.size := World.block_lt_of_cell? u ⟨pb, o, none⟩ h.1
theorem Q5.below {pb o : Nat} {t : T} {u u' : World} (h : Q5 pb o t u) (hb : Below u.heap.size u u') : Q5 pb o t u' :=
  have hc : ∀ o, u'.cell? ⟨pb, o, none⟩ = u.cell? ⟨pb, o, none⟩ := fun o => World.cell?_of_block (w := u) (a := ⟨pb, o, none⟩) (hb.block pb h.lt)
  ⟨(hc _).trans h.1, (hc _).trans h.2.1, (hc _).trans h.2.2.1, (hc _).trans h.2.2.2.1, (hc _).trans h.2.2.2.2⟩
theorem polOfI_L (c x y d e : Int) (w : World) : Calls Try.prog 8 #[.int .i64 c, .agg #[.int .i64 x, .int .i64 y, .int .i64 d, .int .i64 e]] w (One1 w (polOf c ⟨x, y, d, e⟩)) :=
  (polOfI c x y d e w).mono fun _ _ h => one_owns (Nat.le_trans (polOf_falls c ⟨x, y, d, e⟩).2 (by omega)) h
set_option maxRecDepth 100000 in
set_option maxHeartbeats 8000000 in
theorem walk_FnPolOk (w : World) (a0 : Option Addr) (len0 cap0 : Nat) (s0 : Src w a0 len0 cap0) :
    Calls Try.prog 3 #[.slice a0 len0 cap0] w fun e w' => e = .returned (.bool true) ∧ Below w.heap.size w w' := by
  by_cases c0 : (1048576 : Int) < (len0 : Int)
  · go_enter Try.func3, Try.ntmps3
    go_wp2
    go_ret
    exact ⟨rfl, Below.refl _ _⟩
  go_enter Try.func3, Try.ntmps3
  go_wp2_with fail
  refine (drawPolOk w a0 len0 cap0 s0).mono ?_
  rintro e wd ⟨da, dca, A, rfl, hA, hlA, hbd⟩
  have HA0 := Hid.mk' hA
  have Z0 := Hid.mk' hbd
  clear hA hbd s0
  have HE0 : Hid (RL (wd.alloc (.cells #[] 29)) (some ⟨wd.heap.size, 0, none⟩) 0 (xk A 0)) := by
    show RL _ _ _ []
    exact ⟨Nat.le_refl _, by simp, .inl rfl⟩
  have HA9 := Hid.mk' (RL.below HA0.out (bel_one wd (.cells #[] 29)))
  have HB9 := Hid.mk' (bel_next Z0.out (bel_one wd (.cells #[] 29)))
  have HW := Hid.mk' (polOk_law A (by omega))
  have hx0 : (xk A 0).length = 0 := rfl
  go_wp2
  go_loopw [4, 5, 6] (fun v bb ii wr => ∃ (i : Nat) (s : Option Addr) (c : Nat), ii = .int .i64 (i : Int) ∧ i ≤ A.length ∧ v = .slice s (xk A i).length c ∧ bb = .bool (okb A i) ∧ RL wr s c (xk A i) ∧ Below w.heap.size w wr ∧ RL wr da dca A) (fun _ _ ii _ => A.length - (intOf ii).toNat)
  case atStart => exact ⟨0, _, 0, rfl, Nat.zero_le _, rfl, rfl, HE0.out, HB9.out, HA9.out⟩
  case round =>
    obtain ⟨i, s, c, rfl, hi, rfl, rfl, kS, kB, kA⟩ := hrel
    have KS := Hid.mk' kS
    have KB := Hid.mk' kB
    have KA := Hid.mk' kA
    clear kS kB kA
    by_cases hlt : i < A.length
    · have hil : (i : Int) < (A.length : Int) := by omega
      have hr := KA.out
      rcases hr.2.2 with h0 | ⟨pb, off, hpe, hblt, hcl⟩
      · omega
      subst hpe
      obtain ⟨g0, g1, g2, g3, g4⟩ := hcl i hlt
      clear hcl hr
      have hS0 : Q5 pb (off + i * 5) (lf A i) wr.drew := ⟨g0, g1, g2, g3, g4⟩
      clear g0 g1 g2 g3 g4
      have hst := (xk_facts A i (by omega)).2.2
      cases hob : okb A i
      · rcases polOf_case (lf A i).c (lf A i).m with hp | hp
        · have hq : polOf (lf A i).c ⟨(lf A i).m.x, (lf A i).m.y, (lf A i).m.d, (lf A i).m.e⟩ = [] := hp
          rw [hp] at hst
          have eo : okb A (i + 1) = false := by rw [okb, hob, hp]; rfl
          clear hp
          go_wp2_with fail
          go_region_held3 (fun u => u.cell? ⟨pb, off + i * 5, none⟩ = some (.int .i64 (lf A i).c) ∧ u.cell? ⟨pb, off + i * 5 + 1, none⟩ = some (.int .i64 (lf A i).m.x) ∧ u.cell? ⟨pb, off + i * 5 + 2, none⟩ = some (.int .i64 (lf A i).m.y) ∧ u.cell? ⟨pb, off + i * 5 + 3, none⟩ = some (.int .i64 (lf A i).m.d) ∧ u.cell? ⟨pb, off + i * 5 + 4, none⟩ = some (.int .i64 (lf A i).m.e)) (first | with_reducible exact hS0 | with_reducible exact Q5.below hS0 hbp) (first | (go_at_call 8; refine (polOfI_L _ _ _ _ _ _).mono ?_; rw [hq]; rintro e wp ⟨ap, cp, rfl, hbp, hrp⟩))
          have hbw : Below wr.heap.size wr wp := bel_next (Below.refl _ _).drew hbp
          clear hS0 hbp
          have H1 := Hid.mk' (KA.out.below hbw)
          clear KA
          have H2 := Hid.mk' (KS.out.below hbw)
          clear KS
          have Z3 := Hid.mk' (bel_next KB.out hbw)
          clear KB
          have H4 : Hid (RL wp ap cp []) := hrp
          clear hrp
          clear hbw
          go_wp2_with fail
          refine (addI_L H2.out H4.out).mono ?_
          rw [hst]
          rintro e w5 ⟨a6, c7, rfl, b8, r9⟩
          have H10 := Hid.mk' (H1.out.below b8)
          clear H1
          have H11 := Hid.mk' (H2.out.below b8)
          clear H2
          have H12 := Hid.mk' (H4.out.below b8)
          clear H4
          have Z13 := Hid.mk' (bel_next Z3.out b8)
          clear Z3
          have H14 : Hid (RL w5 a6 c7 (xk A (i + 1))) := r9
          clear r9
          clear b8
          go_wp2
          go_roundw
          case rel => exact ⟨i + 1, a6, c7, by go_num, by omega, rfl, by rw [eo], H14.out, Z13.out, H10.out⟩
          case measure => simp [intOf]; omega
        · obtain ⟨hp, _⟩ := hp
          have hq : polOf (lf A i).c ⟨(lf A i).m.x, (lf A i).m.y, (lf A i).m.d, (lf A i).m.e⟩ = [⟨(lf A i).c, (lf A i).m⟩] := hp
          rw [hp] at hst
          have eo : okb A (i + 1) = false := by rw [okb, hob, hp]; rfl
          clear hp
          go_wp2_with fail
          go_region_held3 (fun u => u.cell? ⟨pb, off + i * 5, none⟩ = some (.int .i64 (lf A i).c) ∧ u.cell? ⟨pb, off + i * 5 + 1, none⟩ = some (.int .i64 (lf A i).m.x) ∧ u.cell? ⟨pb, off + i * 5 + 2, none⟩ = some (.int .i64 (lf A i).m.y) ∧ u.cell? ⟨pb, off + i * 5 + 3, none⟩ = some (.int .i64 (lf A i).m.d) ∧ u.cell? ⟨pb, off + i * 5 + 4, none⟩ = some (.int .i64 (lf A i).m.e)) (first | with_reducible exact hS0 | with_reducible exact Q5.below hS0 hbp) (first | (go_at_call 8; refine (polOfI_L _ _ _ _ _ _).mono ?_; rw [hq]; rintro e wp ⟨ap, cp, rfl, hbp, hrp⟩))
          have hbw : Below wr.heap.size wr wp := bel_next (Below.refl _ _).drew hbp
          clear hS0 hbp
          have H15 := Hid.mk' (KA.out.below hbw)
          clear KA
          have H16 := Hid.mk' (KS.out.below hbw)
          clear KS
          have Z17 := Hid.mk' (bel_next KB.out hbw)
          clear KB
          have H18 : Hid (RL wp ap cp [⟨(lf A i).c, (lf A i).m⟩]) := hrp
          clear hrp
          clear hbw
          go_wp2_with fail
          refine (addI_L H16.out H18.out).mono ?_
          rw [hst]
          rintro e w19 ⟨a20, c21, rfl, b22, r23⟩
          have H24 := Hid.mk' (H15.out.below b22)
          clear H15
          have H25 := Hid.mk' (H16.out.below b22)
          clear H16
          have H26 := Hid.mk' (H18.out.below b22)
          clear H18
          have Z27 := Hid.mk' (bel_next Z17.out b22)
          clear Z17
          have H28 : Hid (RL w19 a20 c21 (xk A (i + 1))) := r23
          clear r23
          clear b22
          go_wp2
          go_roundw
          case rel => exact ⟨i + 1, a20, c21, by go_num, by omega, rfl, by rw [eo], H28.out, Z27.out, H24.out⟩
          case measure => simp [intOf]; omega
      · rcases polOf_case (lf A i).c (lf A i).m with hp | hp
        · have hq : polOf (lf A i).c ⟨(lf A i).m.x, (lf A i).m.y, (lf A i).m.d, (lf A i).m.e⟩ = [] := hp
          rw [hp] at hst
          have eo : okb A (i + 1) = false := by rw [okb, hob, hp]; rfl
          clear hp
          go_wp2_with fail
          go_region_held3 (fun u => u.cell? ⟨pb, off + i * 5, none⟩ = some (.int .i64 (lf A i).c) ∧ u.cell? ⟨pb, off + i * 5 + 1, none⟩ = some (.int .i64 (lf A i).m.x) ∧ u.cell? ⟨pb, off + i * 5 + 2, none⟩ = some (.int .i64 (lf A i).m.y) ∧ u.cell? ⟨pb, off + i * 5 + 3, none⟩ = some (.int .i64 (lf A i).m.d) ∧ u.cell? ⟨pb, off + i * 5 + 4, none⟩ = some (.int .i64 (lf A i).m.e)) (first | with_reducible exact hS0 | with_reducible exact Q5.below hS0 hbp) (first | (go_at_call 8; refine (polOfI_L _ _ _ _ _ _).mono ?_; rw [hq]; rintro e wp ⟨ap, cp, rfl, hbp, hrp⟩))
          have hbw : Below wr.heap.size wr wp := bel_next (Below.refl _ _).drew hbp
          clear hS0 hbp
          have H29 := Hid.mk' (KA.out.below hbw)
          clear KA
          have H30 := Hid.mk' (KS.out.below hbw)
          clear KS
          have Z31 := Hid.mk' (bel_next KB.out hbw)
          clear KB
          have H32 : Hid (RL wp ap cp []) := hrp
          clear hrp
          clear hbw
          go_wp2_with fail
          refine (addI_L H30.out H32.out).mono ?_
          rw [hst]
          rintro e w33 ⟨a34, c35, rfl, b36, r37⟩
          have H38 := Hid.mk' (H29.out.below b36)
          clear H29
          have H39 := Hid.mk' (H30.out.below b36)
          clear H30
          have H40 := Hid.mk' (H32.out.below b36)
          clear H32
          have Z41 := Hid.mk' (bel_next Z31.out b36)
          clear Z31
          have H42 : Hid (RL w33 a34 c35 (xk A (i + 1))) := r37
          clear r37
          clear b36
          go_wp2
          go_roundw
          case rel => exact ⟨i + 1, a34, c35, by go_num, by omega, rfl, by rw [eo], H42.out, Z41.out, H38.out⟩
          case measure => simp [intOf]; omega
        · obtain ⟨hp, _⟩ := hp
          have hq : polOf (lf A i).c ⟨(lf A i).m.x, (lf A i).m.y, (lf A i).m.d, (lf A i).m.e⟩ = [⟨(lf A i).c, (lf A i).m⟩] := hp
          rw [hp] at hst
          have eo : okb A (i + 1) = true := by rw [okb, hob, hp]; rfl
          clear hp
          go_wp2_with fail
          go_region_held3 (fun u => u.cell? ⟨pb, off + i * 5, none⟩ = some (.int .i64 (lf A i).c) ∧ u.cell? ⟨pb, off + i * 5 + 1, none⟩ = some (.int .i64 (lf A i).m.x) ∧ u.cell? ⟨pb, off + i * 5 + 2, none⟩ = some (.int .i64 (lf A i).m.y) ∧ u.cell? ⟨pb, off + i * 5 + 3, none⟩ = some (.int .i64 (lf A i).m.d) ∧ u.cell? ⟨pb, off + i * 5 + 4, none⟩ = some (.int .i64 (lf A i).m.e)) (first | with_reducible exact hS0 | with_reducible exact Q5.below hS0 hbp) (first | (go_at_call 8; refine (polOfI_L _ _ _ _ _ _).mono ?_; rw [hq]; rintro e wp ⟨ap, cp, rfl, hbp, hrp⟩))
          have hbw : Below wr.heap.size wr wp := bel_next (Below.refl _ _).drew hbp
          clear hS0 hbp
          have H43 := Hid.mk' (KA.out.below hbw)
          clear KA
          have H44 := Hid.mk' (KS.out.below hbw)
          clear KS
          have Z45 := Hid.mk' (bel_next KB.out hbw)
          clear KB
          have H46 : Hid (RL wp ap cp [⟨(lf A i).c, (lf A i).m⟩]) := hrp
          clear hrp
          clear hbw
          go_wp2_with fail
          refine (addI_L H44.out H46.out).mono ?_
          rw [hst]
          rintro e w47 ⟨a48, c49, rfl, b50, r51⟩
          have H52 := Hid.mk' (H43.out.below b50)
          clear H43
          have H53 := Hid.mk' (H44.out.below b50)
          clear H44
          have H54 := Hid.mk' (H46.out.below b50)
          clear H46
          have Z55 := Hid.mk' (bel_next Z45.out b50)
          clear Z45
          have H56 : Hid (RL w47 a48 c49 (xk A (i + 1))) := r51
          clear r51
          clear b50
          go_wp2
          go_roundw
          case rel => exact ⟨i + 1, a48, c49, by go_num, by omega, rfl, by rw [eo], H56.out, Z55.out, H52.out⟩
          case measure => simp [intOf]; omega
    · obtain rfl : i = A.length := by omega
      have hw := HW.out
      cases hob : okb A A.length
      · rw [hob] at hw
        have oA : okL A = false := by cases h : okL A <;> rw [h] at hw <;> first | rfl | cases hw
        clear hw
        go_wp2_with fail
        refine (okI_L KA.out).mono ?_
        rw [oA]
        rintro e w57 ⟨rfl, b58⟩
        have H59 := Hid.mk' (KA.out.below b58)
        clear KA
        have H60 := Hid.mk' (KS.out.below b58)
        clear KS
        have Z61 := Hid.mk' (bel_next KB.out b58)
        clear KB
        clear b58
        go_wp2_with fail
        refine (okI_L H59.out).mono ?_
        rw [oA]
        rintro e w62 ⟨rfl, b63⟩
        have H64 := Hid.mk' (H59.out.below b63)
        clear H59
        have H65 := Hid.mk' (H60.out.below b63)
        clear H60
        have Z66 := Hid.mk' (bel_next Z61.out b63)
        clear Z61
        clear b63
        go_wp2_with fail
        refine (okS_L H64.out).mono ?_
        rw [oA]
        rintro e w67 ⟨rfl, b68⟩
        have H69 := Hid.mk' (H64.out.below b68)
        clear H64
        have H70 := Hid.mk' (H65.out.below b68)
        clear H65
        have Z71 := Hid.mk' (bel_next Z66.out b68)
        clear Z66
        clear b68
        go_wp2_with fail
        refine (heOk_L _ ).mono ?_
        rintro e w72 ⟨rfl, b73⟩
        have H74 := Hid.mk' (H69.out.below b73)
        clear H69
        have H75 := Hid.mk' (H70.out.below b73)
        clear H70
        have Z76 := Hid.mk' (bel_next Z71.out b73)
        clear Z71
        clear b73
        go_wp2
        go_ret
        exact ⟨rfl, Z76.out⟩
      · rw [hob] at hw
        have hsq : sq (xk A A.length) A = okL A := by cases h : okL A <;> cases h2 : sq (xk A A.length) A <;> rw [h, h2] at hw <;> first | rfl | cases hw
        clear hw
        cases oA : okL A
        · rw [oA] at hsq
          go_wp2_with fail
          refine (okI_L KA.out).mono ?_
          rw [oA]
          rintro e w77 ⟨rfl, b78⟩
          have H79 := Hid.mk' (KA.out.below b78)
          clear KA
          have H80 := Hid.mk' (KS.out.below b78)
          clear KS
          have Z81 := Hid.mk' (bel_next KB.out b78)
          clear KB
          clear b78
          go_wp2_with fail
          refine (he_L H80.out H79.out).mono ?_
          rw [hsq]
          rintro e w82 ⟨rfl, b83⟩
          have H84 := Hid.mk' (H79.out.below b83)
          clear H79
          have H85 := Hid.mk' (H80.out.below b83)
          clear H80
          have Z86 := Hid.mk' (bel_next Z81.out b83)
          clear Z81
          clear b83
          go_wp2_with fail
          refine (okI_L H84.out).mono ?_
          rw [oA]
          rintro e w87 ⟨rfl, b88⟩
          have H89 := Hid.mk' (H84.out.below b88)
          clear H84
          have H90 := Hid.mk' (H85.out.below b88)
          clear H85
          have Z91 := Hid.mk' (bel_next Z86.out b88)
          clear Z86
          clear b88
          go_wp2_with fail
          refine (okS_L H89.out).mono ?_
          rw [oA]
          rintro e w92 ⟨rfl, b93⟩
          have H94 := Hid.mk' (H89.out.below b93)
          clear H89
          have H95 := Hid.mk' (H90.out.below b93)
          clear H90
          have Z96 := Hid.mk' (bel_next Z91.out b93)
          clear Z91
          clear b93
          go_wp2_with fail
          refine (heOk_L _ ).mono ?_
          rintro e w97 ⟨rfl, b98⟩
          have H99 := Hid.mk' (H94.out.below b98)
          clear H94
          have H100 := Hid.mk' (H95.out.below b98)
          clear H95
          have Z101 := Hid.mk' (bel_next Z96.out b98)
          clear Z96
          clear b98
          go_wp2
          go_ret
          exact ⟨rfl, Z101.out⟩
        · rw [oA] at hsq
          go_wp2_with fail
          refine (okI_L KA.out).mono ?_
          rw [oA]
          rintro e w102 ⟨rfl, b103⟩
          have H104 := Hid.mk' (KA.out.below b103)
          clear KA
          have H105 := Hid.mk' (KS.out.below b103)
          clear KS
          have Z106 := Hid.mk' (bel_next KB.out b103)
          clear KB
          clear b103
          go_wp2_with fail
          refine (he_L H105.out H104.out).mono ?_
          rw [hsq]
          rintro e w107 ⟨rfl, b108⟩
          have H109 := Hid.mk' (H104.out.below b108)
          clear H104
          have H110 := Hid.mk' (H105.out.below b108)
          clear H105
          have Z111 := Hid.mk' (bel_next Z106.out b108)
          clear Z106
          clear b108
          go_wp2_with fail
          refine (okI_L H109.out).mono ?_
          rw [oA]
          rintro e w112 ⟨rfl, b113⟩
          have H114 := Hid.mk' (H109.out.below b113)
          clear H109
          have H115 := Hid.mk' (H110.out.below b113)
          clear H110
          have Z116 := Hid.mk' (bel_next Z111.out b113)
          clear Z111
          clear b113
          go_wp2_with fail
          refine (okS_L H114.out).mono ?_
          rw [oA]
          rintro e w117 ⟨rfl, b118⟩
          have H119 := Hid.mk' (H114.out.below b118)
          clear H114
          have H120 := Hid.mk' (H115.out.below b118)
          clear H115
          have Z121 := Hid.mk' (bel_next Z116.out b118)
          clear Z116
          clear b118
          go_wp2_with fail
          refine (heOk_L _ ).mono ?_
          rintro e w122 ⟨rfl, b123⟩
          have H124 := Hid.mk' (H119.out.below b123)
          clear H119
          have H125 := Hid.mk' (H120.out.below b123)
          clear H120
          have Z126 := Hid.mk' (bel_next Z121.out b123)
          clear Z121
          clear b123
          go_wp2
          go_ret
          exact ⟨rfl, Z126.out⟩
end Go.Proofs.Ytclmaenkoapppaa
