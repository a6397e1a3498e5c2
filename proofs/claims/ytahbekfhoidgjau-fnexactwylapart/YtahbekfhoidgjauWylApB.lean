/-
  How far two operators are from commuting: the program and the model.
-/
import Derived.Test.YtahbekfhoidgjauWylPowB
namespace Go.Proofs.Ytahbekfhoidgjau
open Go.RowKit
set_option linter.unusedVariables false

def wylApart (f : Nat → T) (la : Nat) (g : Nat → T) (lb : Nat) : List T × Bool :=
  if (wylMul f la g lb).2 = true ∧ (wylMul g lb f la).2 = true then polSub (lf (wylMul f la g lb).1) (wylMul f la g lb).1.length (lf (wylMul g lb f la).1) (wylMul g lb f la).1.length else ([], false)
theorem wylApart_len (f : Nat → T) (la : Nat) (g : Nat → T) (lb : Nat) : (wylApart f la g lb).1.length ≤ 400 := by
  unfold wylApart
  split
  · exact polSub_len _ _ _ _
  · simp
set_option maxRecDepth 100000 in
set_option maxHeartbeats 4000000 in
theorem wylApartI (w : World) (a b : Option Addr) (la ca lb cb : Nat) (f g : Nat → T) (ha : Rd w a la ca f) (hb : Rd w b lb cb g) :
    Calls Try.prog 26 #[.slice a la ca, .slice b lb cb] w fun r w' => ∃ a' cap', r = .returned (.tuple #[.slice a' (wylApart f la g lb).1.length cap', .bool (wylApart f la g lb).2]) ∧ Below w.heap.size w w' ∧ Out w.heap.size w' a' cap' (wylApart f la g lb).1 := by
  have HA := Hid.mk' ha
  have HB := Hid.mk' hb
  have hc1 := wylMulI w a b la ca lb cb f g ha hb
  have hc2 := fun (w1 : World) (h1 : Rd w1 b lb cb g) (h2 : Rd w1 a la ca f) => wylMulI w1 b a lb cb la ca g f h1 h2
  have hla : (la : Int) ≤ 140737488351232 := by have := ha.2.1; omega
  have hlb : (lb : Int) ≤ 140737488351232 := by have := hb.2.1; omega
  have hl1 := wylMul_len f la g lb
  have hl2 := wylMul_len g lb f la
  clear ha hb
  unfold wylApart
  generalize wylMul f la g lb = p at *
  generalize wylMul g lb f la = q at *
  obtain ⟨X, k1⟩ := p
  obtain ⟨Y, k2⟩ := q
  dsimp only at hc1 hc2 hl1 hl2 ⊢
  have hnil : ∀ (W : World), Out w.heap.size W none 0 ([] : List T) := fun W => ⟨⟨Nat.le_refl _, by simp, .inl rfl⟩, .inl rfl, .inl rfl⟩
  cases k1
  · rw [if_neg (by simp)]
    go_enter Try.func26, Try.ntmps26
    go_wp2_with fail
    refine hc1.mono ?_
    rintro r w1 ⟨a1, c1, rfl, hb1, ho1⟩
    have HB1 := Hid.mk' hb1
    clear hb1 ho1
    go_wp2_with fail
    refine (hc2 w1 (HB.out.below HB1.out) (HA.out.below HB1.out)).mono ?_
    rintro r w2 ⟨a2, c2, rfl, hb2, ho2⟩
    have HB2 := Hid.mk' (bel_next HB1.out hb2)
    clear hb2 ho2
    go_wp2
    refine bodyPost_ret (results_tmp2 rfl _ _ _) rfl ?_
    exact ⟨none, 0, rfl, HB2.out, hnil w2⟩
  · cases k2
    · rw [if_neg (by simp)]
      go_enter Try.func26, Try.ntmps26
      go_wp2_with fail
      refine hc1.mono ?_
      rintro r w1 ⟨a1, c1, rfl, hb1, ho1⟩
      have HB1 := Hid.mk' hb1
      clear hb1 ho1
      go_wp2_with fail
      refine (hc2 w1 (HB.out.below HB1.out) (HA.out.below HB1.out)).mono ?_
      rintro r w2 ⟨a2, c2, rfl, hb2, ho2⟩
      have HB2 := Hid.mk' (bel_next HB1.out hb2)
      clear hb2 ho2
      go_wp2
      refine bodyPost_ret (results_tmp2 rfl _ _ _) rfl ?_
      exact ⟨none, 0, rfl, HB2.out, hnil w2⟩
    · rw [if_pos ⟨rfl, rfl⟩]
      go_enter Try.func26, Try.ntmps26
      go_wp2_with fail
      refine hc1.mono ?_
      rintro r w1 ⟨a1, c1, rfl, hb1, ho1⟩
      have HB1 := Hid.mk' hb1
      have HO1 := Hid.mk' ho1
      clear hb1 ho1
      go_wp2_with fail
      refine (hc2 w1 (HB.out.below HB1.out) (HA.out.below HB1.out)).mono ?_
      rintro r w2 ⟨a2, c2, rfl, hb2, ho2⟩
      have HB2 := Hid.mk' (bel_next HB1.out hb2)
      have HR1 := Hid.mk' (HO1.out.1.below hb2)
      have HR2 := Hid.mk' ho2.1
      clear hb2 ho2
      go_wp2_with (go_at_call 12; refine (polSubI _ _ _ _ _ _ _ (lf X) (lf Y) HR1.out HR2.out).mono ?_; rintro r w3 ⟨a3, c3, rfl, hb3, ho3⟩)
      refine bodyPost_ret (results_tmp2 rfl _ _ _) rfl ?_
      refine ⟨a3, c3, rfl, bel_next HB2.out hb3, ho3.1, ho3.2.1, ho3.2.2.imp id ?_⟩
      rintro ⟨g', off, e, hg⟩
      exact ⟨g', off, e, Nat.le_trans HB2.out.size hg⟩
theorem apart_ok {f g : Nat → T} {la lb : Nat} (h1 : polOk la f = true) (h2 : polOk lb g = true) {X Y : List T} (hX : mulM f g lb la = some X) (hY : mulM g f la lb = some Y) : polSub (lf X) X.length (lf Y) Y.length = if (addT (lf X) X.length (negT (lf Y) Y.length) Y.length 0 0).length ≤ 400 then (addT (lf X) X.length (negT (lf Y) Y.length) Y.length 0 0, true) else ([], false) := by
  have fX := mulM_falls (good_ok h1).2 (good_ok h2).2 la X (Nat.le_refl _) hX
  have fY := mulM_falls (good_ok h2).2 (good_ok h1).2 lb Y (Nat.le_refl _) hY
  simp [polSub, ok_falls fX (mulM_len la X hX), ok_falls fY (mulM_len lb Y hY)]
set_option maxRecDepth 100000 in
set_option maxHeartbeats 4000000 in
theorem wylApartS (w : World) (a b : Option Addr) (la ca lb cb : Nat) (f g : Nat → T) (ha : Rd w a la ca f) (hb : Rd w b lb cb g) :
    Calls Try.prog 25 #[.slice a la ca, .slice b lb cb] w fun r w' => ∃ v, r = .returned (.tuple #[v, .bool (wylApart f la g lb).2]) ∧ Below w.heap.size w w' ∧ w'.ownsRow w.heap.size 43 5 v (wylApart f la g lb).1.length (cellsL (wylApart f la g lb).1) := by
  have HA := Hid.mk' ha
  have HB := Hid.mk' hb
  clear ha hb
  cases hpa : polOk la f
  · have e1 : wylApart f la g lb = ([], false) := by simp [wylApart, wylMul, hpa]
    rw [e1]
    go_enter Try.func25, Try.ntmps25
    go_wp2_with (go_at_call 27; refine (polOkS _ _ _ _ f HA.out).mono ?_; rw [hpa]; rintro r w1 ⟨rfl, hb1⟩; have HB1 := Hid.mk' hb1; clear hb1)
    refine bodyPost_ret (results_tmp2 rfl _ _ _) rfl ?_
    exact ⟨_, rfl, HB1.out.alloc HB1.out.size _, owns_none w1 w.heap.size HB1.out.size⟩
  · cases hpb : polOk lb g
    · have e1 : wylApart f la g lb = ([], false) := by simp [wylApart, wylMul, hpb]
      rw [e1]
      go_enter Try.func25, Try.ntmps25
      go_wp2_with (first
        | (go_at_call_of 27 (Value.slice a la ca); refine (polOkS _ _ _ _ f HA.out).mono ?_; rw [hpa]; rintro r w1 ⟨rfl, hb1⟩; have HB1 := Hid.mk' hb1; clear hb1)
        | (go_at_call_of 27 (Value.slice b lb cb); refine (polOkS _ _ _ _ g (HB.out.below HB1.out)).mono ?_; rw [hpb]; rintro r w2 ⟨rfl, hb2⟩; have HB2 := Hid.mk' (bel_next HB1.out hb2); clear hb2))
      refine bodyPost_ret (results_tmp2 rfl _ _ _) rfl ?_
      exact ⟨_, rfl, HB2.out.alloc HB2.out.size _, owns_none w2 w.heap.size HB2.out.size⟩
    · obtain ⟨l1, gf⟩ := good_ok hpa
      obtain ⟨l2, gg⟩ := good_ok hpb
      have m1 : wylMul f la g lb = mulO (mulM f g lb la) := by simp [wylMul, hpa, hpb]
      have m2 : wylMul g lb f la = mulO (mulM g f la lb) := by simp [wylMul, hpa, hpb]
      have hc1 := fun (W : World) h h' => mulS4 W a b la ca lb cb f g h h' l1 l2 gf gg
      have hc2 := fun (W : World) h h' => mulS4 W b a lb cb la ca g f h h' l2 l1 gg gf
      have HPA := Hid.mk' hpa
      have HPB := Hid.mk' hpb
      unfold wylApart
      rw [m1, m2]
      cases hX : mulM f g lb la with
      | none =>
        rw [hX] at hc1
        rw [if_neg (by simp [mulO])]
        go_enter Try.func25, Try.ntmps25
        go_wp2_with (first
          | (go_at_call_of 27 (Value.slice a la ca); refine (polOkS _ _ _ _ f HA.out).mono ?_; rw [hpa]; rintro r w1 ⟨rfl, hb1⟩; have HB1 := Hid.mk' hb1; clear hb1)
          | (go_at_call_of 27 (Value.slice b lb cb); refine (polOkS _ _ _ _ g (HB.out.below HB1.out)).mono ?_; rw [hpb]; rintro r w2 ⟨rfl, hb2⟩; have HB2 := Hid.mk' (bel_next HB1.out hb2); clear hb2))
        refine (hc1 _ (HA.out.below HB2.out) (HB.out.below HB2.out)).mono ?_
        dsimp only [mulO]
        rintro r w3 ⟨v3, rfl, hb3, ho3⟩
        have HB3 := Hid.mk' (bel_next HB2.out hb3)
        clear hb3 ho3
        go_wp2_with fail
        refine (hc2 _ (HB.out.below HB3.out) (HA.out.below HB3.out)).mono ?_
        rintro r w4 ⟨v4, rfl, hb4, ho4⟩
        have HB4 := Hid.mk' (bel_next HB3.out hb4)
        clear hb4 ho4
        go_wp2
        refine bodyPost_ret (results_tmp2 rfl _ _ _) rfl ?_
        exact ⟨_, rfl, HB4.out.alloc HB4.out.size _, owns_none w4 w.heap.size HB4.out.size⟩
      | some X =>
        rw [hX] at hc1
        cases hY : mulM g f la lb with
        | none =>
          rw [hY] at hc2
          rw [if_neg (by simp [mulO])]
          go_enter Try.func25, Try.ntmps25
          go_wp2_with (first
            | (go_at_call_of 27 (Value.slice a la ca); refine (polOkS _ _ _ _ f HA.out).mono ?_; rw [hpa]; rintro r w1 ⟨rfl, hb1⟩; have HB1 := Hid.mk' hb1; clear hb1)
            | (go_at_call_of 27 (Value.slice b lb cb); refine (polOkS _ _ _ _ g (HB.out.below HB1.out)).mono ?_; rw [hpb]; rintro r w2 ⟨rfl, hb2⟩; have HB2 := Hid.mk' (bel_next HB1.out hb2); clear hb2))
          refine (hc1 _ (HA.out.below HB2.out) (HB.out.below HB2.out)).mono ?_
          dsimp only [mulO]
          rintro r w3 ⟨v3, rfl, hb3, ho3⟩
          have HB3 := Hid.mk' (bel_next HB2.out hb3)
          clear hb3 ho3
          go_wp2_with fail
          refine (hc2 _ (HB.out.below HB3.out) (HA.out.below HB3.out)).mono ?_
          dsimp only [mulO]
          rintro r w4 ⟨v4, rfl, hb4, ho4⟩
          have HB4 := Hid.mk' (bel_next HB3.out hb4)
          clear hb4 ho4
          go_wp2
          refine bodyPost_ret (results_tmp2 rfl _ _ _) rfl ?_
          exact ⟨_, rfl, HB4.out.alloc HB4.out.size _, owns_none w4 w.heap.size HB4.out.size⟩
        | some Y =>
          rw [hY] at hc2
          rw [if_pos (by simp [mulO])]
          show Calls Try.prog 25 #[.slice a la ca, .slice b lb cb] w fun r w' => ∃ v, r = .returned (.tuple #[v, .bool (polSub (lf X) X.length (lf Y) Y.length).2]) ∧ Below w.heap.size w w' ∧ w'.ownsRow w.heap.size 43 5 v (polSub (lf X) X.length (lf Y) Y.length).1.length (cellsL (polSub (lf X) X.length (lf Y) Y.length).1)
          rw [apart_ok HPA.out HPB.out hX hY]
          have fX := mulM_falls gf gg la X (Nat.le_refl _) hX
          have fY := mulM_falls gg gf lb Y (Nat.le_refl _) hY
          have lX := mulM_len la X hX
          have lY := mulM_len lb Y hY
          have nF := neg_fl (fl_lf fY)
          have hal := addT_len (lf X) X.length (negT (lf Y) Y.length) Y.length 0 0
          simp only [Nat.sub_zero] at hal
          have key : ∀ (W : World) (v : Value), Below w.heap.size w W → True := fun _ _ _ => trivial
          go_enter Try.func25, Try.ntmps25
          go_wp2_with (first
            | (go_at_call_of 27 (Value.slice a la ca); refine (polOkS _ _ _ _ f HA.out).mono ?_; rw [hpa]; rintro r w1 ⟨rfl, hb1⟩; have HB1 := Hid.mk' hb1; clear hb1)
            | (go_at_call_of 27 (Value.slice b lb cb); refine (polOkS _ _ _ _ g (HB.out.below HB1.out)).mono ?_; rw [hpb]; rintro r w2 ⟨rfl, hb2⟩; have HB2 := Hid.mk' (bel_next HB1.out hb2); clear hb2))
          refine (hc1 _ (HA.out.below HB2.out) (HB.out.below HB2.out)).mono ?_
          dsimp only [mulO]
          rintro r w3 ⟨v3, rfl, hb3, ho3⟩
          obtain ⟨a3, c3, rfl, hout3⟩ := out_of_owns ho3 (by omega)
          have HB3 := Hid.mk' (bel_next HB2.out hb3)
          have HX3 := Hid.mk' hout3.1
          clear hb3 ho3 hout3
          go_wp2_with fail
          refine (hc2 _ (HB.out.below HB3.out) (HA.out.below HB3.out)).mono ?_
          dsimp only [mulO]
          rintro r w4 ⟨v4, rfl, hb4, ho4⟩
          obtain ⟨a4, c4, rfl, hout4⟩ := out_of_owns ho4 (by omega)
          have HB4 := Hid.mk' (bel_next HB3.out hb4)
          have HX4 := Hid.mk' (HX3.out.below hb4)
          have HY4 := Hid.mk' hout4.1
          clear hb4 ho4 hout4
          go_wp2_with fail
          have hsc := l3ScaleS w4 100 a4 Y.length c4 (lf Y) HY4.out (by omega) (by omega) (by omega) ((cok_falls fY).at)
          rw [if_neg (by omega)] at hsc
          refine hsc.mono ?_
          rintro r w5 ⟨v5, rfl, hb5, ho5⟩
          have eS : (scT 100 (lf Y) Y.length).length = Y.length := scT_len _ _ _
          have ho5' : w5.ownsRow w4.heap.size 43 5 v5 (scT 100 (lf Y) Y.length).length (cellsL (scT 100 (lf Y) Y.length)) := by rw [eS]; exact ho5
          obtain ⟨a5, c5, rfl, hout5⟩ := out_of_owns ho5' (by omega)
          have hR5 : Rd w5 a5 Y.length c5 (negT (lf Y) Y.length) := by have := hout5.1; rw [eS] at this; exact this
          have HB5 := Hid.mk' (bel_next HB4.out hb5)
          have HX5 := Hid.mk' (HX4.out.below hb5)
          have HY5 := Hid.mk' hR5
          clear hb5 ho5 ho5' hout5 hR5
          rw [eS]
          have hadd := l3AddS w5 a3 a5 X.length c3 Y.length c5 (lf X) (negT (lf Y) Y.length) HX5.out HY5.out (by omega) ((cok_falls fX).at) (fun i hi => by have := nF.2 i hi; omega)
          generalize hL : addT (lf X) X.length (negT (lf Y) Y.length) Y.length 0 0 = L at *
          by_cases h4 : L.length ≤ 400
          · have h4' : (L.length : Int) ≤ 400 := by omega
            go_wp2_with (go_at_call 28; refine hadd.mono ?_; rintro r w6 ⟨v6, rfl, hb6, ho6⟩; obtain ⟨a6, c6, rfl, hout6⟩ := out_of_owns ho6 (by omega))
            all_goals (refine bodyPost_ret (results_tmp2 rfl _ _ _) rfl ?_)
            all_goals exact ⟨_, rfl, bel_next HB5.out hb6, ownsRow_low ho6 HB5.out.size⟩
          · have h4' : (400 : Int) < (L.length : Int) := by omega
            go_wp2_with (go_at_call 28; refine hadd.mono ?_; rintro r w6 ⟨v6, rfl, hb6, ho6⟩; obtain ⟨a6, c6, rfl, hout6⟩ := out_of_owns ho6 (by omega))
            all_goals (refine bodyPost_ret (results_tmp2 rfl _ _ _) rfl ?_)
            all_goals (have hB6 := bel_next HB5.out hb6)
            all_goals exact ⟨_, rfl, hB6.alloc hB6.size _, owns_none w6 w.heap.size hB6.size⟩
end Go.Proofs.Ytahbekfhoidgjau
