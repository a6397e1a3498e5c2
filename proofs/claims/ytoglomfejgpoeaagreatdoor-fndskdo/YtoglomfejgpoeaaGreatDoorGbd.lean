/-
  How far two operators are from commuting: the program and the model.
  What an operator does to a form of the times: the terms, one by one.
  More of the program's chapter 3: whether an operator has no slopes, so many times an operator.
-/
import Derived.Test.YtoglomfejgpoeaaGreatDoorGbc
import Derived.Test.YtoglomfejgpoeaaGreatDoorGbb
import Derived.Test.YtoglomfejgpoeaaGreatDoorGat
import Derived.Test.YtoglomfejgpoeaaGreatDoorGak
import Derived.Test.YtoglomfejgpoeaaGreatDoorGan
import Derived.Deep.RegionHeld3
namespace Go.Proofs.YtoglomfejgpoeaaGreatDoor
open Go.RowKit
set_option linter.unusedVariables false

def wylApart (f : Nat → T) (la : Nat) (g : Nat → T) (lb : Nat) : List T × Bool :=
  if (wylMul f la g lb).2 = true ∧ (wylMul g lb f la).2 = true then polSub (lf (wylMul f la g lb).1) (wylMul f la g lb).1.length (lf (wylMul g lb f la).1) (wylMul g lb f la).1.length else ([], false)
theorem wylApart_len (f : Nat → T) (la : Nat) (g : Nat → T) (lb : Nat) : (wylApart f la g lb).1.length ≤ 400 := by
  unfold wylApart
  split
  · exact polSub_len _ _ _ _
  · simp
set_option maxRecDepth 100000 in
set_option maxHeartbeats 4000000 in
theorem wylApartI (w : World) (a b : Option Addr) (la ca lb cb : Nat) (f g : Nat → T) (ha : Rd w a la ca f) (hb : Rd w b lb cb g) :
    Calls Tryz.prog 40 #[.slice a la ca, .slice b lb cb] w fun r w' => ∃ a' cap', r = .returned (.tuple #[.slice a' (wylApart f la g lb).1.length cap', .bool (wylApart f la g lb).2]) ∧ Below w.heap.size w w' ∧ Out w.heap.size w' a' cap' (wylApart f la g lb).1 := by
  have HA := Hid.mk' ha
  have HB := Hid.mk' hb
  have hc1 := wylMulI w a b la ca lb cb f g ha hb
  have hc2 := fun (w1 : World) (h1 : Rd w1 b lb cb g) (h2 : Rd w1 a la ca f) => wylMulI w1 b a lb cb la ca g f h1 h2
  have hla : (la : Int) ≤ 140737488351232 := by have := ha.2.1; omega
  have hlb : (lb : Int) ≤ 140737488351232 := by have := hb.2.1; omega
  have hl1 := wylMul_len f la g lb
  have hl2 := wylMul_len g lb f la
  clear ha hb
  unfold wylApart
  generalize wylMul f la g lb = p at *
  generalize wylMul g lb f la = q at *
  obtain ⟨X, k1⟩ := p
  obtain ⟨Y, k2⟩ := q
  dsimp only at hc1 hc2 hl1 hl2 ⊢
  have hnil : ∀ (W : World), Out w.heap.size W none 0 ([] : List T) := fun W => ⟨⟨Nat.le_refl _, by simp, .inl rfl⟩, .inl rfl, .inl rfl⟩
  cases k1
  · rw [if_neg (by simp)]
    go_enter Tryz.func40, Tryz.ntmps40
    go_wp2_with fail
    refine hc1.mono ?_
    rintro r w1 ⟨a1, c1, rfl, hb1, ho1⟩
    have HB1 := Hid.mk' hb1
    clear hb1 ho1
    go_wp2_with fail
    refine (hc2 w1 (HB.out.below HB1.out) (HA.out.below HB1.out)).mono ?_
    rintro r w2 ⟨a2, c2, rfl, hb2, ho2⟩
    have HB2 := Hid.mk' (bel_next HB1.out hb2)
    clear hb2 ho2
    go_wp2
    refine bodyPost_ret (results_tmp2 rfl _ _ _) rfl ?_
    exact ⟨none, 0, rfl, HB2.out, hnil w2⟩
  · cases k2
    · rw [if_neg (by simp)]
      go_enter Tryz.func40, Tryz.ntmps40
      go_wp2_with fail
      refine hc1.mono ?_
      rintro r w1 ⟨a1, c1, rfl, hb1, ho1⟩
      have HB1 := Hid.mk' hb1
      clear hb1 ho1
      go_wp2_with fail
      refine (hc2 w1 (HB.out.below HB1.out) (HA.out.below HB1.out)).mono ?_
      rintro r w2 ⟨a2, c2, rfl, hb2, ho2⟩
      have HB2 := Hid.mk' (bel_next HB1.out hb2)
      clear hb2 ho2
      go_wp2
      refine bodyPost_ret (results_tmp2 rfl _ _ _) rfl ?_
      exact ⟨none, 0, rfl, HB2.out, hnil w2⟩
    · rw [if_pos ⟨rfl, rfl⟩]
      go_enter Tryz.func40, Tryz.ntmps40
      go_wp2_with fail
      refine hc1.mono ?_
      rintro r w1 ⟨a1, c1, rfl, hb1, ho1⟩
      have HB1 := Hid.mk' hb1
      have HO1 := Hid.mk' ho1
      clear hb1 ho1
      go_wp2_with fail
      refine (hc2 w1 (HB.out.below HB1.out) (HA.out.below HB1.out)).mono ?_
      rintro r w2 ⟨a2, c2, rfl, hb2, ho2⟩
      have HB2 := Hid.mk' (bel_next HB1.out hb2)
      have HR1 := Hid.mk' (HO1.out.1.below hb2)
      have HR2 := Hid.mk' ho2.1
      clear hb2 ho2
      go_wp2_with (go_at_call 81; refine (polSubI _ _ _ _ _ _ _ (lf X) (lf Y) HR1.out HR2.out).mono ?_; rintro r w3 ⟨a3, c3, rfl, hb3, ho3⟩)
      refine bodyPost_ret (results_tmp2 rfl _ _ _) rfl ?_
      refine ⟨a3, c3, rfl, bel_next HB2.out hb3, ho3.1, ho3.2.1, ho3.2.2.imp id ?_⟩
      rintro ⟨g', off, e, hg⟩
      exact ⟨g', off, e, Nat.le_trans HB2.out.size hg⟩
theorem apart_ok {f g : Nat → T} {la lb : Nat} (h1 : polOk la f = true) (h2 : polOk lb g = true) {X Y : List T} (hX : mulM f g lb la = some X) (hY : mulM g f la lb = some Y) : polSub (lf X) X.length (lf Y) Y.length = if (addT (lf X) X.length (negT (lf Y) Y.length) Y.length 0 0).length ≤ 400 then (addT (lf X) X.length (negT (lf Y) Y.length) Y.length 0 0, true) else ([], false) := by
  have fX := mulM_falls (good_ok h1).2 (good_ok h2).2 la X (Nat.le_refl _) hX
  have fY := mulM_falls (good_ok h2).2 (good_ok h1).2 lb Y (Nat.le_refl _) hY
  simp [polSub, ok_falls fX (mulM_len la X hX), ok_falls fY (mulM_len lb Y hY)]
set_option maxRecDepth 100000 in
set_option maxHeartbeats 4000000 in
theorem wylApartS (w : World) (a b : Option Addr) (la ca lb cb : Nat) (f g : Nat → T) (ha : Rd w a la ca f) (hb : Rd w b lb cb g) :
    Calls Tryz.prog 55 #[.slice a la ca, .slice b lb cb] w fun r w' => ∃ v, r = .returned (.tuple #[v, .bool (wylApart f la g lb).2]) ∧ Below w.heap.size w w' ∧ w'.ownsRow w.heap.size 80 5 v (wylApart f la g lb).1.length (cellsL (wylApart f la g lb).1) := by
  have HA := Hid.mk' ha
  have HB := Hid.mk' hb
  clear ha hb
  cases hpa : polOk la f
  · have e1 : wylApart f la g lb = ([], false) := by simp [wylApart, wylMul, hpa]
    rw [e1]
    go_enter Tryz.func55, Tryz.ntmps55
    go_wp2_with (go_at_call 74; refine (polOkS _ _ _ _ f HA.out).mono ?_; rw [hpa]; rintro r w1 ⟨rfl, hb1⟩; have HB1 := Hid.mk' hb1; clear hb1)
    refine bodyPost_ret (results_tmp2 rfl _ _ _) rfl ?_
    exact ⟨_, rfl, HB1.out.alloc HB1.out.size _, owns_none w1 w.heap.size HB1.out.size⟩
  · cases hpb : polOk lb g
    · have e1 : wylApart f la g lb = ([], false) := by simp [wylApart, wylMul, hpb]
      rw [e1]
      go_enter Tryz.func55, Tryz.ntmps55
      go_wp2_with (first
        | (go_at_call_of 74 (Value.slice a la ca); refine (polOkS _ _ _ _ f HA.out).mono ?_; rw [hpa]; rintro r w1 ⟨rfl, hb1⟩; have HB1 := Hid.mk' hb1; clear hb1)
        | (go_at_call_of 74 (Value.slice b lb cb); refine (polOkS _ _ _ _ g (HB.out.below HB1.out)).mono ?_; rw [hpb]; rintro r w2 ⟨rfl, hb2⟩; have HB2 := Hid.mk' (bel_next HB1.out hb2); clear hb2))
      refine bodyPost_ret (results_tmp2 rfl _ _ _) rfl ?_
      exact ⟨_, rfl, HB2.out.alloc HB2.out.size _, owns_none w2 w.heap.size HB2.out.size⟩
    · obtain ⟨l1, gf⟩ := good_ok hpa
      obtain ⟨l2, gg⟩ := good_ok hpb
      have m1 : wylMul f la g lb = mulO (mulM f g lb la) := by simp [wylMul, hpa, hpb]
      have m2 : wylMul g lb f la = mulO (mulM g f la lb) := by simp [wylMul, hpa, hpb]
      have hc1 := fun (W : World) h h' => mulS4 W a b la ca lb cb f g h h' l1 l2 gf gg
      have hc2 := fun (W : World) h h' => mulS4 W b a lb cb la ca g f h h' l2 l1 gg gf
      have HPA := Hid.mk' hpa
      have HPB := Hid.mk' hpb
      unfold wylApart
      rw [m1, m2]
      cases hX : mulM f g lb la with
      | none =>
        rw [hX] at hc1
        rw [if_neg (by simp [mulO])]
        go_enter Tryz.func55, Tryz.ntmps55
        go_wp2_with (first
          | (go_at_call_of 74 (Value.slice a la ca); refine (polOkS _ _ _ _ f HA.out).mono ?_; rw [hpa]; rintro r w1 ⟨rfl, hb1⟩; have HB1 := Hid.mk' hb1; clear hb1)
          | (go_at_call_of 74 (Value.slice b lb cb); refine (polOkS _ _ _ _ g (HB.out.below HB1.out)).mono ?_; rw [hpb]; rintro r w2 ⟨rfl, hb2⟩; have HB2 := Hid.mk' (bel_next HB1.out hb2); clear hb2))
        refine (hc1 _ (HA.out.below HB2.out) (HB.out.below HB2.out)).mono ?_
        dsimp only [mulO]
        rintro r w3 ⟨v3, rfl, hb3, ho3⟩
        have HB3 := Hid.mk' (bel_next HB2.out hb3)
        clear hb3 ho3
        go_wp2_with fail
        refine (hc2 _ (HB.out.below HB3.out) (HA.out.below HB3.out)).mono ?_
        rintro r w4 ⟨v4, rfl, hb4, ho4⟩
        have HB4 := Hid.mk' (bel_next HB3.out hb4)
        clear hb4 ho4
        go_wp2
        refine bodyPost_ret (results_tmp2 rfl _ _ _) rfl ?_
        exact ⟨_, rfl, HB4.out.alloc HB4.out.size _, owns_none w4 w.heap.size HB4.out.size⟩
      | some X =>
        rw [hX] at hc1
        cases hY : mulM g f la lb with
        | none =>
          rw [hY] at hc2
          rw [if_neg (by simp [mulO])]
          go_enter Tryz.func55, Tryz.ntmps55
          go_wp2_with (first
            | (go_at_call_of 74 (Value.slice a la ca); refine (polOkS _ _ _ _ f HA.out).mono ?_; rw [hpa]; rintro r w1 ⟨rfl, hb1⟩; have HB1 := Hid.mk' hb1; clear hb1)
            | (go_at_call_of 74 (Value.slice b lb cb); refine (polOkS _ _ _ _ g (HB.out.below HB1.out)).mono ?_; rw [hpb]; rintro r w2 ⟨rfl, hb2⟩; have HB2 := Hid.mk' (bel_next HB1.out hb2); clear hb2))
          refine (hc1 _ (HA.out.below HB2.out) (HB.out.below HB2.out)).mono ?_
          dsimp only [mulO]
          rintro r w3 ⟨v3, rfl, hb3, ho3⟩
          have HB3 := Hid.mk' (bel_next HB2.out hb3)
          clear hb3 ho3
          go_wp2_with fail
          refine (hc2 _ (HB.out.below HB3.out) (HA.out.below HB3.out)).mono ?_
          dsimp only [mulO]
          rintro r w4 ⟨v4, rfl, hb4, ho4⟩
          have HB4 := Hid.mk' (bel_next HB3.out hb4)
          clear hb4 ho4
          go_wp2
          refine bodyPost_ret (results_tmp2 rfl _ _ _) rfl ?_
          exact ⟨_, rfl, HB4.out.alloc HB4.out.size _, owns_none w4 w.heap.size HB4.out.size⟩
        | some Y =>
          rw [hY] at hc2
          rw [if_pos (by simp [mulO])]
          show Calls Tryz.prog 55 #[.slice a la ca, .slice b lb cb] w fun r w' => ∃ v, r = .returned (.tuple #[v, .bool (polSub (lf X) X.length (lf Y) Y.length).2]) ∧ Below w.heap.size w w' ∧ w'.ownsRow w.heap.size 80 5 v (polSub (lf X) X.length (lf Y) Y.length).1.length (cellsL (polSub (lf X) X.length (lf Y) Y.length).1)
          rw [apart_ok HPA.out HPB.out hX hY]
          have fX := mulM_falls gf gg la X (Nat.le_refl _) hX
          have fY := mulM_falls gg gf lb Y (Nat.le_refl _) hY
          have lX := mulM_len la X hX
          have lY := mulM_len lb Y hY
          have nF := neg_fl (fl_lf fY)
          have hal := addT_len (lf X) X.length (negT (lf Y) Y.length) Y.length 0 0
          simp only [Nat.sub_zero] at hal
          have key : ∀ (W : World) (v : Value), Below w.heap.size w W → True := fun _ _ _ => trivial
          go_enter Tryz.func55, Tryz.ntmps55
          go_wp2_with (first
            | (go_at_call_of 74 (Value.slice a la ca); refine (polOkS _ _ _ _ f HA.out).mono ?_; rw [hpa]; rintro r w1 ⟨rfl, hb1⟩; have HB1 := Hid.mk' hb1; clear hb1)
            | (go_at_call_of 74 (Value.slice b lb cb); refine (polOkS _ _ _ _ g (HB.out.below HB1.out)).mono ?_; rw [hpb]; rintro r w2 ⟨rfl, hb2⟩; have HB2 := Hid.mk' (bel_next HB1.out hb2); clear hb2))
          refine (hc1 _ (HA.out.below HB2.out) (HB.out.below HB2.out)).mono ?_
          dsimp only [mulO]
          rintro r w3 ⟨v3, rfl, hb3, ho3⟩
          obtain ⟨a3, c3, rfl, hout3⟩ := out_of_owns ho3 (by omega)
          have HB3 := Hid.mk' (bel_next HB2.out hb3)
          have HX3 := Hid.mk' hout3.1
          clear hb3 ho3 hout3
          go_wp2_with fail
          refine (hc2 _ (HB.out.below HB3.out) (HA.out.below HB3.out)).mono ?_
          dsimp only [mulO]
          rintro r w4 ⟨v4, rfl, hb4, ho4⟩
          obtain ⟨a4, c4, rfl, hout4⟩ := out_of_owns ho4 (by omega)
          have HB4 := Hid.mk' (bel_next HB3.out hb4)
          have HX4 := Hid.mk' (HX3.out.below hb4)
          have HY4 := Hid.mk' hout4.1
          clear hb4 ho4 hout4
          go_wp2_with fail
          have hsc := l3ScaleS w4 100 a4 Y.length c4 (lf Y) HY4.out (by omega) (by omega) (by omega) ((cok_falls fY).at)
          rw [if_neg (by omega)] at hsc
          refine hsc.mono ?_
          rintro r w5 ⟨v5, rfl, hb5, ho5⟩
          have eS : (scT 100 (lf Y) Y.length).length = Y.length := scT_len _ _ _
          have ho5' : w5.ownsRow w4.heap.size 80 5 v5 (scT 100 (lf Y) Y.length).length (cellsL (scT 100 (lf Y) Y.length)) := by rw [eS]; exact ho5
          obtain ⟨a5, c5, rfl, hout5⟩ := out_of_owns ho5' (by omega)
          have hR5 : Rd w5 a5 Y.length c5 (negT (lf Y) Y.length) := by have := hout5.1; rw [eS] at this; exact this
          have HB5 := Hid.mk' (bel_next HB4.out hb5)
          have HX5 := Hid.mk' (HX4.out.below hb5)
          have HY5 := Hid.mk' hR5
          clear hb5 ho5 ho5' hout5 hR5
          rw [eS]
          have hadd := l3AddS w5 a3 a5 X.length c3 Y.length c5 (lf X) (negT (lf Y) Y.length) HX5.out HY5.out (by omega) ((cok_falls fX).at) (fun i hi => by have := nF.2 i hi; omega)
          generalize hL : addT (lf X) X.length (negT (lf Y) Y.length) Y.length 0 0 = L at *
          by_cases h4 : L.length ≤ 400
          · have h4' : (L.length : Int) ≤ 400 := by omega
            go_wp2_with (go_at_call 97; refine hadd.mono ?_; rintro r w6 ⟨v6, rfl, hb6, ho6⟩; obtain ⟨a6, c6, rfl, hout6⟩ := out_of_owns ho6 (by omega))
            all_goals (refine bodyPost_ret (results_tmp2 rfl _ _ _) rfl ?_)
            all_goals exact ⟨_, rfl, bel_next HB5.out hb6, ownsRow_low ho6 HB5.out.size⟩
          · have h4' : (400 : Int) < (L.length : Int) := by omega
            go_wp2_with (go_at_call 97; refine hadd.mono ?_; rintro r w6 ⟨v6, rfl, hb6, ho6⟩; obtain ⟨a6, c6, rfl, hout6⟩ := out_of_owns ho6 (by omega))
            all_goals (refine bodyPost_ret (results_tmp2 rfl _ _ _) rfl ?_)
            all_goals (have hB6 := bel_next HB5.out hb6)
            all_goals exact ⟨_, rfl, hB6.alloc hB6.size _, owns_none w6 w.heap.size hB6.size⟩
end Go.Proofs.YtoglomfejgpoeaaGreatDoor
namespace Go.Proofs.YtoglomfejgpoeaaGreatDoor
open Go.RowKit
set_option linter.unusedVariables false

/-- what a term of an operator does to one of a form. -/
def doT (a b : T) : T := ⟨fMul (fMul a.c b.c) (fMul (fFall b.m.x a.m.d) (fFall b.m.y a.m.e)), ⟨b.m.x - a.m.d + a.m.x, b.m.y - a.m.e + a.m.y, 0, 0⟩⟩
/-- a term of times alone, whatever stands in it. -/
abbrev DT : Type := { t : T // 0 ≤ t.c ∧ t.c ≤ 100 ∧ t.m.d = 0 ∧ t.m.e = 0 }
def encD (x : DT) : Array Value := #[.agg #[.int .i64 x.1.c, .int .i64 x.1.m.x, .int .i64 x.1.m.y, .int .i64 x.1.m.d, .int .i64 x.1.m.e]]
def doD (a b : T) : DT := ⟨doT a b, (fMul_bd _ _).1, (fMul_bd _ _).2, rfl, rfl⟩
def doO (a b : T) : List DT := if b.m.x < a.m.d ∨ b.m.y < a.m.e then [] else [doD a b]
def rowDo (a : T) (g : Nat → T) : Nat → List DT
  | 0 => []
  | k + 1 => rowDo a g k ++ doO a (g k)
def allDo (f g : Nat → T) (lb : Nat) : Nat → List DT
  | 0 => []
  | i + 1 => allDo f g lb i ++ rowDo (f i) g lb
theorem doO_len (a b : T) : (doO a b).length ≤ 1 := by unfold doO; split <;> simp
theorem rowDo_len (a : T) (g : Nat → T) : ∀ k, (rowDo a g k).length ≤ k
  | 0 => Nat.le_refl _
  | k + 1 => by have h1 := rowDo_len a g k; have h2 := doO_len a (g k); rw [rowDo, List.length_append]; omega
theorem allDo_len (f g : Nat → T) (lb : Nat) : ∀ i, (allDo f g lb i).length ≤ i * lb
  | 0 => Nat.zero_le _
  | i + 1 => by have h1 := allDo_len f g lb i; have h2 := rowDo_len (f i) g lb; rw [allDo, List.length_append, Nat.succ_mul]; omega
theorem rowDo_pre (a : T) (g : Nat → T) {k : Nat} : ∀ {j : Nat}, k ≤ j → rowDo a g k <+: rowDo a g j
  | 0, h => by obtain rfl : k = 0 := by omega
               exact List.prefix_refl _
  | j + 1, h => by
    by_cases e : k = j + 1
    · rw [e]
      exact List.prefix_refl _
    · exact (rowDo_pre a g (j := j) (by omega)).trans (List.prefix_append _ _)
theorem allDo_pre (f g : Nat → T) (lb : Nat) {k : Nat} : ∀ {j : Nat}, k ≤ j → allDo f g lb k <+: allDo f g lb j
  | 0, h => by obtain rfl : k = 0 := by omega
               exact List.prefix_refl _
  | j + 1, h => by
    by_cases e : k = j + 1
    · rw [e]
      exact List.prefix_refl _
    · exact (allDo_pre f g lb (j := j) (by omega)).trans (List.prefix_append _ _)
/-- those that came so far are a beginning of all. -/
theorem soFar_pre (f g : Nat → T) (lb la : Nat) {i k : Nat} (hi : i < la) (hk : k ≤ lb) : allDo f g lb i ++ rowDo (f i) g k <+: allDo f g lb la := by
  refine List.IsPrefix.trans ?_ (allDo_pre f g lb (k := i + 1) (j := la) (by omega))
  rw [allDo]
  exact (List.prefix_append_right_inj _).2 (rowDo_pre _ _ hk)
def allOk (L : List DT) : Bool := L.all (fun t => t.1.m.ok)
theorem allOk_append (L R : List DT) : allOk (L ++ R) = (allOk L && allOk R) := by simp [allOk]
theorem allOk_pre {L R : List DT} (h : L <+: R) (hL : allOk L = false) : allOk R = false := by
  obtain ⟨X, rfl⟩ := h
  rw [allOk_append, hL]; rfl
def wylDo (f : Nat → T) (la : Nat) (g : Nat → T) (lb : Nat) : List T × Bool := if polOk la f = true ∧ polFree lb g = true then (if allOk (allDo f g lb la) = true then (putAll ((allDo f g lb la).map (·.1)) [], true) else ([], false)) else ([], false)
theorem tok_do {L : List DT} (h : allOk L = true) : TOK (L.map (·.1)) := by
  intro t ht
  obtain ⟨x, hx, rfl⟩ := List.mem_map.1 ht
  have hx2 := x.2
  exact ⟨(List.all_eq_true.1 h) x hx, hx2.1, hx2.2.1⟩
theorem addAllT_other (m : M) : ∀ (xs : List T) (c : M → Int), (∀ t ∈ xs, t.m ≠ m) → addAllT c xs m = c m
  | [], c, _ => rfl
  | t :: r, c, h => by
    show addAllT (updC c t.m t.c) r m = _
    rw [addAllT_other m r _ (fun s hs => h s (List.mem_cons_of_mem _ hs)), updC_other (fun e => h t (List.mem_cons_self ..) e.symm)]
theorem coef_at_mem {L : List T} (h : Falls L) {t : T} (ht : t ∈ L) : coef L t.m = t.c := by
  induction L with
  | nil => cases ht
  | cons s r ih =>
    rw [coef]
    rcases List.mem_cons.1 ht with rfl | ht'
    · rw [if_pos (meqB_iff.2 rfl)]
    · have h1 := (List.pairwise_cons.1 h.1).1 t ht'
      rw [if_neg (fun e => by rw [meqB_iff.1 e] at h1; omega)]
      exact ih h.tail ht'
def allF : List M := (List.range 16).flatMap fun (x : Nat) => (List.range 16).map fun (y : Nat) => (⟨(x : Int), (y : Int), 0, 0⟩ : M)
theorem allF_len : allF.length = 256 := by
  unfold allF
  rw [flat_len 16 _ (fun x => by simp)]
  simp
theorem allF_mem {m : M} (h : m.ok = true) (hd : m.d = 0) (he : m.e = 0) : m ∈ allF := by
  obtain ⟨x1, x2, y1, y2, d1, d2, e1, e2⟩ := M.ok_iff.1 h
  unfold allF
  refine List.mem_flatMap.2 ⟨m.x.toNat, List.mem_range.2 (by omega), List.mem_map.2 ⟨m.y.toNat, List.mem_range.2 (by omega), ?_⟩⟩
  cases m
  simp only at x1 y1 hd he ⊢
  rw [Int.toNat_of_nonneg x1, Int.toNat_of_nonneg y1, hd, he]
theorem doL_short {L : List DT} (h : allOk L = true) : (putAll (L.map (·.1)) []).length ≤ 256 := by
  have hf := putAll_facts (L.map (·.1)) [] (tok_do h) falls_nil
  have hnd : ((putAll (L.map (·.1)) []).map (·.m)).Nodup := by
    rw [List.Nodup, List.pairwise_map]
    exact hf.1.1.imp (fun {a b} hab e => by rw [e] at hab; omega)
  haveI : DecidableEq M := fun a b => Classical.propDecidable (a = b)
  have hl := len_of_sub ((putAll (L.map (·.1)) []).map (·.m)) allF hnd (fun m hm => by
    obtain ⟨t, ht, rfl⟩ := List.mem_map.1 hm
    have hr := hf.1.2 t ht
    by_cases hx : ∃ s ∈ L.map (·.1), s.m = t.m
    · obtain ⟨s, hs, he⟩ := hx
      obtain ⟨x, _, rfl⟩ := List.mem_map.1 hs
      have hx2 := x.2
      rw [← he] at hr ⊢
      exact allF_mem hr.1 hx2.2.2.1 hx2.2.2.2
    · exfalso
      have h0 := coef_at_mem hf.1 ht
      rw [hf.2, addAllT_other t.m _ _ (fun s hs e => hx ⟨s, hs, e⟩)] at h0
      change (0 : Int) = t.c at h0
      omega)
  rw [allF_len, List.length_map] at hl
  exact hl
theorem wylDo_len (f : Nat → T) (la : Nat) (g : Nat → T) (lb : Nat) : (wylDo f la g lb).1.length ≤ 400 := by
  unfold wylDo
  split
  · split
    · rename_i h
      have := doL_short h
      show (putAll _ []).length ≤ 400
      omega
    · simp
  · simp
theorem putAll_snoc (xs : List T) (t : T) (L : List T) : putAll (xs ++ [t]) L = putT t.c t.m (putAll xs L) := by simp [putAll]
theorem addAllT_snoc (xs : List T) (t : T) (c : M → Int) : addAllT c (xs ++ [t]) = updC (addAllT c xs) t.m t.c := by simp [addAllT]
end Go.Proofs.YtoglomfejgpoeaaGreatDoor
namespace Go.Proofs.YtoglomfejgpoeaaGreatDoor
open Go.RowKit
set_option linter.unusedVariables false

theorem ownsT_nil (w : World) (lo : Nat) : w.ownsRow lo 80 5 (.slice none 0 0) 0 (cellsL []) := ⟨rfl, .inl ⟨rfl, rfl⟩⟩
theorem s5_below {w w' : World} {b : Nat} {v0 v1 v2 v3 v4 : Value} (hb : Below w.heap.size w w') (h : w.cell? ⟨b, 0, none⟩ = some v0 ∧ w.cell? ⟨b, 1, none⟩ = some v1 ∧ w.cell? ⟨b, 2, none⟩ = some v2 ∧ w.cell? ⟨b, 3, none⟩ = some v3 ∧ w.cell? ⟨b, 4, none⟩ = some v4) : w'.cell? ⟨b, 0, none⟩ = some v0 ∧ w'.cell? ⟨b, 1, none⟩ = some v1 ∧ w'.cell? ⟨b, 2, none⟩ = some v2 ∧ w'.cell? ⟨b, 3, none⟩ = some v3 ∧ w'.cell? ⟨b, 4, none⟩ = some v4 := by
  have hl : b < w.heap.size := World.block_lt_of_cell? w _ h.1
  exact ⟨(hb.cell (p := ⟨b, 0, none⟩) hl).trans h.1, (hb.cell (p := ⟨b, 1, none⟩) hl).trans h.2.1, (hb.cell (p := ⟨b, 2, none⟩) hl).trans h.2.2.1, (hb.cell (p := ⟨b, 3, none⟩) hl).trans h.2.2.2.1, (hb.cell (p := ⟨b, 4, none⟩) hl).trans h.2.2.2.2⟩
theorem s5_alloc {w : World} {o : Obj} {b : Nat} {v0 v1 v2 v3 v4 : Value} (h : w.cell? ⟨b, 0, none⟩ = some v0 ∧ w.cell? ⟨b, 1, none⟩ = some v1 ∧ w.cell? ⟨b, 2, none⟩ = some v2 ∧ w.cell? ⟨b, 3, none⟩ = some v3 ∧ w.cell? ⟨b, 4, none⟩ = some v4) : (w.alloc o).cell? ⟨b, 0, none⟩ = some v0 ∧ (w.alloc o).cell? ⟨b, 1, none⟩ = some v1 ∧ (w.alloc o).cell? ⟨b, 2, none⟩ = some v2 ∧ (w.alloc o).cell? ⟨b, 3, none⟩ = some v3 ∧ (w.alloc o).cell? ⟨b, 4, none⟩ = some v4 := s5_below ((Below.refl _ _).alloc (Nat.le_refl _) o) h
theorem s5_drew {w : World} {b : Nat} {v0 v1 v2 v3 v4 : Value} (h : w.cell? ⟨b, 0, none⟩ = some v0 ∧ w.cell? ⟨b, 1, none⟩ = some v1 ∧ w.cell? ⟨b, 2, none⟩ = some v2 ∧ w.cell? ⟨b, 3, none⟩ = some v3 ∧ w.cell? ⟨b, 4, none⟩ = some v4) : w.drew.cell? ⟨b, 0, none⟩ = some v0 ∧ w.drew.cell? ⟨b, 1, none⟩ = some v1 ∧ w.drew.cell? ⟨b, 2, none⟩ = some v2 ∧ w.drew.cell? ⟨b, 3, none⟩ = some v3 ∧ w.drew.cell? ⟨b, 4, none⟩ = some v4 := s5_below (Below.refl _ _).drew h
theorem s5_grown {w w' : World} {row : Option Nat} {b : Nat} {v0 v1 v2 v3 v4 : Value} (hg : w.grownBy w' row) (hne : some b ≠ row) (h : w.cell? ⟨b, 0, none⟩ = some v0 ∧ w.cell? ⟨b, 1, none⟩ = some v1 ∧ w.cell? ⟨b, 2, none⟩ = some v2 ∧ w.cell? ⟨b, 3, none⟩ = some v3 ∧ w.cell? ⟨b, 4, none⟩ = some v4) : w'.cell? ⟨b, 0, none⟩ = some v0 ∧ w'.cell? ⟨b, 1, none⟩ = some v1 ∧ w'.cell? ⟨b, 2, none⟩ = some v2 ∧ w'.cell? ⟨b, 3, none⟩ = some v3 ∧ w'.cell? ⟨b, 4, none⟩ = some v4 := by
  have he := hg.block b (World.block_lt_of_cell? w _ h.1) hne
  exact ⟨(World.cell?_of_block (w := w) (a := ⟨b, 0, none⟩) he).trans h.1, (World.cell?_of_block (w := w) (a := ⟨b, 1, none⟩) he).trans h.2.1, (World.cell?_of_block (w := w) (a := ⟨b, 2, none⟩) he).trans h.2.2.1, (World.cell?_of_block (w := w) (a := ⟨b, 3, none⟩) he).trans h.2.2.2.1, (World.cell?_of_block (w := w) (a := ⟨b, 4, none⟩) he).trans h.2.2.2.2⟩
set_option maxRecDepth 100000 in
set_option maxHeartbeats 4000000 in
theorem polFreeI (w : World) (a : Option Addr) (n cap : Nat) (f : Nat → T) (h : Rd w a n cap f) :
    Calls Tryz.prog 82 #[.slice a n cap] w fun r w' => r = .returned (.bool (polFree n f)) ∧ Below w.heap.size w w' := by
  have HR := Hid.mk' h
  obtain ⟨h1, h2, h3⟩ := h
  have hn : (n : Int) ≤ 140737488351232 := by omega
  have hno : Hid (∀ k, k < n → ((f k).m.d ≠ 0 ∨ (f k).m.e ≠ 0) → polFree n f = false) := fun k hk hd => by
    cases hp : polFree n f
    · rfl
    · exfalso
      simp only [polFree, Bool.and_eq_true, decide_eq_true_eq] at hp
      have h1 := hp.2 k hk
      have h2 := hp.1
      simp only [polOk, decide_eq_true_eq] at h2
      have h3 := h2.2 k hk
      simp only [okAt, Bool.and_eq_true] at h3
      have h4 := M.ok_iff.1 h3.1.2
      omega
  go_enter Tryz.func82, Tryz.ntmps82
  go_wp2
  go_loopw [7] (fun i wr => ∃ k : Nat, k ≤ n ∧ i = .int .i64 k ∧ Below w.heap.size w wr ∧ Hid (∀ j, j < k → (f j).m.d = 0 ∧ (f j).m.e = 0)) (fun i _ => n - (intOf i).toNat)
  case atStart => exact ⟨0, Nat.zero_le _, rfl, Below.refl _ _, fun j hj => absurd hj (Nat.not_lt_zero _)⟩
  case round =>
    obtain ⟨k, hk, rfl, hB, hok⟩ := hrel
    by_cases hlt : k < n
    · rcases h3 with h0 | ⟨b, off, rfl, hblt, hcl⟩
      · omega
      have hkn : (k : Int) < (n : Int) := by omega
      obtain ⟨g0, g1, g2, g3, g4⟩ := (hcl k hlt).below hB hblt
      have HB : Hid (∀ o : Obj, Below w.heap.size w (wr.alloc o)) := fun o => hB.alloc hB.size o
      clear hcl
      by_cases hd : (f k).m.d = 0
      · have hdb : ((f k).m.d != 0) = false := by simp [hd]
        by_cases he : (f k).m.e = 0
        · have heb : ((f k).m.e != 0) = false := by simp [he]
          have hok' : Hid (∀ j, j < k + 1 → (f j).m.d = 0 ∧ (f j).m.e = 0) := fun j hj => by
            by_cases hjk : j = k
            · rw [hjk]; exact ⟨hd, he⟩
            · exact hok.out j (by omega)
          clear hok hd he
          go_wp2
          go_roundw
          case rel => exact ⟨k + 1, by omega, by go_num, HB.out _, hok'⟩
          case measure => simp [intOf]; omega
        · have heb : ((f k).m.e != 0) = true := by simp [he]
          have HF : Hid (polFree n f = false) := hno.out k hlt (.inr he)
          clear hok hd he hno
          go_wp2
          go_ret
          exact ⟨by rw [HF.out]; rfl, HB.out _⟩
      · have hdb : ((f k).m.d != 0) = true := by simp [hd]
        have HF : Hid (polFree n f = false) := hno.out k hlt (.inl hd)
        clear hok hd hno
        go_wp2
        go_ret
        exact ⟨by rw [HF.out]; rfl, HB.out _⟩
    · have HE : Hid (polFree n f = polOk n f) := by
        show _ = _
        have : (∀ i, i < n → (f i).m.d + (f i).m.e ≤ 0) := fun i hi => by
          have := hok.out i (by omega)
          omega
        rw [polFree, decide_eq_true this, Bool.and_true]
      clear hok hno
      go_wp2_with fail
      refine (polOkI _ _ _ _ f (HR.out.below hB)).mono ?_
      rintro r w1 ⟨rfl, hb⟩
      have HB1 := Hid.mk' (bel_next hB hb)
      clear hb
      go_wp2
      go_ret
      exact ⟨by rw [HE.out]; rfl, HB1.out⟩
end Go.Proofs.YtoglomfejgpoeaaGreatDoor
