/-
  Two lists of operators are drawn (spec.DrawRedSum).
  A sum of products of two lists: the mathematics, and the model's RedSum.
  A sum of products of two lists: the program.
-/
import Derived.Test.YtmlaedpamobmhaaGreatPbf
import Derived.Test.YtmlaedpamobmhaaGreatPba
import Derived.Test.YtmlaedpamobmhaaGreatPay
namespace Go.Proofs.YtmlaedpamobmhaaGreat
open Go.RowKit Go.Deep Go.Joins
set_option linter.unusedVariables false

end Go.Proofs.YtmlaedpamobmhaaGreat
namespace Go.Proofs.YtmlaedpamobmhaaGreat
open Go.RowKit Go.Deep Go.Joins
set_option linter.unusedVariables false

/-- a product more. -/
def stepS (K : List T) (q : Nat → T) (lq : Nat) (l : Nat → T) (ll : Nat) : Option (List T) :=
  if (wylMul q lq l ll).2 = true then (if (addV K (wylMul q lq l ll).1).2 = true then some (addV K (wylMul q lq l ll).1).1 else none) else none
/-- the first products' sum; none, if it is too much. -/
def sumPr (ln1 : Nat → Nat) (f1 : Nat → Nat → T) (ln2 : Nat → Nat) (f2 : Nat → Nat → T) : Nat → Option (List T)
  | 0 => some []
  | i + 1 => match sumPr ln1 f1 ln2 f2 i with
    | some K => stepS K (f1 i) (ln1 i) (f2 i) (ln2 i)
    | none => none
def redSum (n1 : Nat) (ln1 : Nat → Nat) (f1 : Nat → Nat → T) (n2 : Nat) (ln2 : Nat → Nat) (f2 : Nat → Nat → T) : List T × Bool := if n1 = n2 ∧ n2 ≤ 12 then mulO (sumPr ln1 f1 ln2 f2 n2) else ([], false)
theorem step_cases {K : List T} (hK : okL K = true) (q : Nat → T) (lq : Nat) (l : Nat → T) (ll : Nat) :
    ((polOk lq q = false ∨ (polOk lq q = true ∧ polOk ll l = false)) ∧ wylMul q lq l ll = ([], false) ∧ stepS K q lq l ll = none) ∨
    (polOk lq q = true ∧ polOk ll l = true ∧ mulM q l ll lq = none ∧ wylMul q lq l ll = ([], false) ∧ stepS K q lq l ll = none) ∨
    (∃ P, polOk lq q = true ∧ polOk ll l = true ∧ mulM q l ll lq = some P ∧ wylMul q lq l ll = (P, true) ∧ okL P = true ∧ 400 < (addL K P).length ∧ addV K P = ([], false) ∧ stepS K q lq l ll = none) ∨
    (∃ P, polOk lq q = true ∧ polOk ll l = true ∧ mulM q l ll lq = some P ∧ wylMul q lq l ll = (P, true) ∧ okL P = true ∧ (addL K P).length ≤ 400 ∧ addV K P = (addL K P, true) ∧ stepS K q lq l ll = some (addL K P) ∧ okL (addL K P) = true) := by
  cases h1 : polOk lq q
  · have e : wylMul q lq l ll = ([], false) := if_neg (fun hh => by rw [h1] at hh; simp at hh)
    exact .inl ⟨.inl rfl, e, by unfold stepS; rw [e]; rfl⟩
  · cases h2 : polOk ll l
    · have e : wylMul q lq l ll = ([], false) := if_neg (fun hh => by rw [h2] at hh; simp at hh)
      exact .inl ⟨.inr ⟨rfl, rfl⟩, e, by unfold stepS; rw [e]; rfl⟩
    · have e0 : wylMul q lq l ll = mulO (mulM q l ll lq) := if_pos ⟨h1, h2⟩
      cases hm : mulM q l ll lq with
      | none =>
        have e : wylMul q lq l ll = ([], false) := by rw [e0, hm]; rfl
        exact .inr (.inl ⟨rfl, rfl, rfl, e, by unfold stepS; rw [e]; rfl⟩)
      | some P =>
        have e : wylMul q lq l ll = (P, true) := by rw [e0, hm]; rfl
        have hP : okL P = true := okL_of (mulM_len _ P hm) (mulM_falls2 (good_ok h1).2 (good_ok h2).2 _ P (Nat.le_refl _) hm)
        by_cases h4 : (addL K P).length ≤ 400
        · have ea := addV_ok hK hP h4
          refine .inr (.inr (.inr ⟨P, rfl, rfl, rfl, e, hP, h4, ea, ?_, okL_of h4 (addL_facts (okL_falls hK).2 (okL_falls hP).2).1⟩))
          unfold stepS
          rw [e]
          show (if (true = true) then (if (addV K P).2 = true then some (addV K P).1 else none) else none) = _
          rw [ea]; rfl
        · have ea : addV K P = ([], false) := if_neg (fun hh => h4 hh.2.2)
          refine .inr (.inr (.inl ⟨P, rfl, rfl, rfl, e, hP, by omega, ea, ?_⟩))
          unfold stepS
          rw [e]
          show (if (true = true) then (if (addV K P).2 = true then some (addV K P).1 else none) else none) = _
          rw [ea]; rfl
theorem sumPr_none {ln1 : Nat → Nat} {f1 : Nat → Nat → T} {ln2 : Nat → Nat} {f2 : Nat → Nat → T} {i : Nat} (h : sumPr ln1 f1 ln2 f2 i = none) : ∀ d, sumPr ln1 f1 ln2 f2 (i + d) = none
  | 0 => h
  | d + 1 => by
    show (match sumPr ln1 f1 ln2 f2 (i + d) with | some K => stepS K (f1 (i + d)) (ln1 (i + d)) (f2 (i + d)) (ln2 (i + d)) | none => none) = none
    rw [sumPr_none h d]
theorem sumPr_step {ln1 : Nat → Nat} {f1 : Nat → Nat → T} {ln2 : Nat → Nat} {f2 : Nat → Nat → T} {i : Nat} {K : List T} (h : sumPr ln1 f1 ln2 f2 i = some K) : sumPr ln1 f1 ln2 f2 (i + 1) = stepS K (f1 i) (ln1 i) (f2 i) (ln2 i) := by
  show (match sumPr ln1 f1 ln2 f2 i with | some K => stepS K (f1 i) (ln1 i) (f2 i) (ln2 i) | none => none) = _
  rw [h]
theorem redSum_bad {n1 : Nat} {ln1 : Nat → Nat} {f1 : Nat → Nat → T} {n2 : Nat} {ln2 : Nat → Nat} {f2 : Nat → Nat → T} {i : Nat} {K : List T} (hi : i < n2) (h : sumPr ln1 f1 ln2 f2 i = some K) (hs : stepS K (f1 i) (ln1 i) (f2 i) (ln2 i) = none) : redSum n1 ln1 f1 n2 ln2 f2 = ([], false) := by
  unfold redSum
  split
  · have := sumPr_none ((sumPr_step h).trans hs) (n2 - (i + 1))
    rw [show i + 1 + (n2 - (i + 1)) = n2 by omega] at this
    rw [this]; rfl
  · rfl
abbrev C2 (b1 o1 : Nat) (v1 : Value) (b2 o2 : Nat) (v2 : Value) (u : World) : Prop := u.cell? ⟨b1, o1, none⟩ = some v1 ∧ u.cell? ⟨b2, o2, none⟩ = some v2
theorem C2.below {b1 o1 b2 o2 : Nat} {v1 v2 : Value} {u u' : World} (h : C2 b1 o1 v1 b2 o2 v2 u) (hb : Below u.heap.size u u') : C2 b1 o1 v1 b2 o2 v2 u' :=
  ⟨(hb.cell (p := ⟨b1, o1, none⟩) (World.block_lt_of_cell? u _ h.1)).trans h.1, (hb.cell (p := ⟨b2, o2, none⟩) (World.block_lt_of_cell? u _ h.2)).trans h.2⟩
set_option maxRecDepth 100000 in
set_option maxHeartbeats 8000000 in
theorem redSumS (w : World) (a1 : Option Addr) (n1 c1 : Nat) (ad1 : Nat → Option Addr) (ln1 cp1 : Nat → Nat) (f1 : Nat → Nat → T) (h1 : RdS w a1 n1 c1 ad1 ln1 cp1 f1) (a2 : Option Addr) (n2 c2 : Nat) (ad2 : Nat → Option Addr) (ln2 cp2 : Nat → Nat) (f2 : Nat → Nat → T) (h2 : RdS w a2 n2 c2 ad2 ln2 cp2 f2) :
    Calls Tryz.prog 68 #[.slice a1 n1 c1, .slice a2 n2 c2] w fun r w' => ∃ v, r = .returned (.tuple #[v, .bool (redSum n1 ln1 f1 n2 ln2 f2).2]) ∧ Below w.heap.size w w' ∧ w'.ownsRow w.heap.size 54 5 v (redSum n1 ln1 f1 n2 ln2 f2).1.length (cellsL (redSum n1 ln1 f1 n2 ln2 f2).1) := by
  have q1 : (n1 : Int) ≤ 140737488351232 := by have := h1.2.1; omega
  have q2 : (n2 : Int) ≤ 140737488351232 := by have := h2.2.1; omega
  have H1 := Hid.mk' h1
  have H2 := Hid.mk' h2
  have HB0 := Hid.mk' (bel_one w (.cells #[] 54))
  have HO0 := Hid.mk' (owns_none w w.heap.size (Nat.le_refl _))
  clear h1 h2
  by_cases hn : n1 = n2 ∧ n2 ≤ 12
  · obtain ⟨hn1, hn2⟩ := hn
    have HE : Hid (redSum n1 ln1 f1 n2 ln2 f2 = mulO (sumPr ln1 f1 ln2 f2 n2)) := if_pos ⟨hn1, hn2⟩
    subst hn1
    have hne : ((n1 : Int) != (n1 : Int)) = false := by simp
    have hng : ¬ (12 : Int) < (n1 : Int) := by omega
    go_enter Tryz.func68, Tryz.ntmps68
    go_wp2
    go_loopw [6, 7] (fun v ii wr => ∃ (i : Nat) (K : List T), i ≤ n1 ∧ ii = .int .i64 (i : Int) ∧ sumPr ln1 f1 ln2 f2 i = some K ∧ okL K = true ∧ Below w.heap.size w wr ∧ wr.ownsRow w.heap.size 54 5 v K.length (cellsL K)) (fun _ ii _ => n1 - (intOf ii).toNat)
    case atStart => exact ⟨0, [], Nat.zero_le _, rfl, rfl, okL_nil, HB0.out, HO0.out⟩
    case round =>
      obtain ⟨i, K, hi, rfl, hs, hK, hB, hown⟩ := hrel
      have HS := Hid.mk' hs
      have HK := Hid.mk' hK
      have HB := Hid.mk' hB
      have HO := Hid.mk' hown
      clear hs
      by_cases hlt : i < n1
      · rcases H1.out.2.2.1 with h0 | ⟨b1, off1, rfl, hb1, hc1⟩
        · omega
        rcases H2.out.2.2.1 with h0 | ⟨b2, off2, rfl, hb2, hc2⟩
        · omega
        have hil : (i : Int) < (n1 : Int) := by omega
        have g1 : wr.cell? ⟨b1, off1 + i, none⟩ = some (.slice (ad1 i) (ln1 i) (cp1 i)) := (hB.cell (p := ⟨b1, off1 + i, none⟩) hb1).trans (hc1 i hlt)
        have g2 : wr.cell? ⟨b2, off2 + i, none⟩ = some (.slice (ad2 i) (ln2 i) (cp2 i)) := (hB.cell (p := ⟨b2, off2 + i, none⟩) hb2).trans (hc2 i hlt)
        have hS : C2 b1 (off1 + i) (.slice (ad1 i) (ln1 i) (cp1 i)) b2 (off2 + i) (.slice (ad2 i) (ln2 i) (cp2 i)) wr := ⟨g1, g2⟩
        have R1 := Hid.mk' ((H1.out.2.2.2 i hlt).below hB)
        have R2 := Hid.mk' ((H2.out.2.2.2 i hlt).below hB)
        have HC := Hid.mk' hS
        clear hc1 hc2 hB hown hS
        rcases step_cases HK.out (f1 i) (ln1 i) (f2 i) (ln2 i) with ⟨hp, _, hst⟩ | ⟨p1, p2, hm, _, hst⟩ | ⟨P, p1, p2, hm, _, hP, hl, _, hst⟩ | ⟨P, p1, p2, hm, _, hP, hl, _, hst, hok⟩
        · have HR := Hid.mk' (redSum_bad (n1 := n1) hlt HS.out hst)
          rcases hp with p1 | ⟨p1, p2⟩
          · go_wp2_with fail
            refine (polOkS _ _ _ _ (f1 i) R1.out).mono ?_
            rw [p1]
            rintro r w1 ⟨rfl, hb⟩
            have HB1 := Hid.mk' (bel_next HB.out hb)
            clear hb g1 g2
            go_wp2
            refine bodyPost_ret (results_tmp2 rfl _ _ _) rfl ?_
            rw [HR.out]
            exact ⟨_, rfl, HB1.out.alloc HB1.out.size _, owns_none w1 w.heap.size HB1.out.size⟩
          · go_wp2_with fail
            refine (polOkS _ _ _ _ (f1 i) R1.out).mono ?_
            rw [p1]
            rintro r w1 ⟨rfl, hb⟩
            have HB1 := Hid.mk' (bel_next HB.out hb)
            have HR2 := Hid.mk' (R2.out.below hb)
            obtain ⟨g1', g2'⟩ := HC.out.below hb
            clear hb g1 g2
            go_wp2_with fail
            refine (polOkS _ _ _ _ (f2 i) HR2.out).mono ?_
            rw [p2]
            rintro r w2 ⟨rfl, hb⟩
            have HB2 := Hid.mk' (bel_next HB1.out hb)
            clear hb g1' g2'
            go_wp2
            refine bodyPost_ret (results_tmp2 rfl _ _ _) rfl ?_
            rw [HR.out]
            exact ⟨_, rfl, HB2.out.alloc HB2.out.size _, owns_none w2 w.heap.size HB2.out.size⟩
        · have HR := Hid.mk' (redSum_bad (n1 := n1) hlt HS.out hst)
          have hmul : ∀ u : World, Rd u (ad1 i) (ln1 i) (cp1 i) (f1 i) → Rd u (ad2 i) (ln2 i) (cp2 i) (f2 i) → Calls Tryz.prog 94 #[.slice (ad1 i) (ln1 i) (cp1 i), .slice (ad2 i) (ln2 i) (cp2 i)] u fun r w' => ∃ v, r = .returned (.tuple #[v, .bool false]) ∧ Below u.heap.size u w' ∧ w'.ownsRow u.heap.size 54 5 v ([] : List T).length (cellsL ([] : List T)) := fun u k1 k2 => by
            have := mulS4 u (ad1 i) (ad2 i) (ln1 i) (cp1 i) (ln2 i) (cp2 i) (f1 i) (f2 i) k1 k2 (good_ok p1).1 (good_ok p2).1 (good_ok p1).2 (good_ok p2).2
            rw [hm] at this
            exact this
          have HMUL := Hid.mk' hmul
          clear hmul hm hst
          go_wp2_with fail
          refine (polOkS _ _ _ _ (f1 i) R1.out).mono ?_
          rw [p1]
          rintro r w1 ⟨rfl, hb⟩
          have HB1 := Hid.mk' (bel_next HB.out hb)
          have R11 := Hid.mk' (R1.out.below hb)
          have R21 := Hid.mk' (R2.out.below hb)
          have HO1 := Hid.mk' (owns_below HO.out hb)
          have HC1 := Hid.mk' (HC.out.below hb)
          obtain ⟨g1', g2'⟩ := HC.out.below hb
          clear hb g1 g2 HC R1 R2 HO HB
          go_wp2_with fail
          refine (polOkS _ _ _ _ (f2 i) R21.out).mono ?_
          rw [p2]
          rintro r w2 ⟨rfl, hb⟩
          have HB2 := Hid.mk' (bel_next HB1.out hb).drew
          have hS2 : C2 b1 (off1 + i) (.slice (ad1 i) (ln1 i) (cp1 i)) b2 (off2 + i) (.slice (ad2 i) (ln2 i) (cp2 i)) w2.drew := (HC1.out.below hb).below (Below.refl _ _).drew
          have hcall := HMUL.out w2.drew ((R11.out.below hb).below (Below.refl _ _).drew) ((R21.out.below hb).below (Below.refl _ _).drew)
          have HO2 := Hid.mk' (owns_below (owns_below HO1.out hb) (Below.refl _ _).drew)
          clear hb g1' g2' HMUL R11 R21 HC1 HB1 HO1
          go_wp2_with fail
          go_region_held3 (fun u => u.cell? ⟨b1, off1 + i, none⟩ = some (.slice (ad1 i) (ln1 i) (cp1 i)) ∧ u.cell? ⟨b2, off2 + i, none⟩ = some (.slice (ad2 i) (ln2 i) (cp2 i))) (first | with_reducible exact hS2 | with_reducible exact C2.below hS2 hb3) (first | (go_at_call 94; refine hcall.mono ?_; rintro e w3 ⟨v3, rfl, hb3, ho3⟩))
          have HB3 := Hid.mk' (bel_next HB2.out hb3)
          have HO3 := Hid.mk' (owns_below HO2.out hb3)
          clear hS2 hcall hb3 HO2 HB2
          clear ho3 HO3
          go_wp2
          refine bodyPost_ret (results_tmp2 rfl _ _ _) rfl ?_
          rw [HR.out]
          exact ⟨_, rfl, HB3.out.alloc HB3.out.size _, owns_none w3 w.heap.size HB3.out.size⟩
        · have HR := Hid.mk' (redSum_bad (n1 := n1) hlt HS.out hst)
          have hmul : ∀ u : World, Rd u (ad1 i) (ln1 i) (cp1 i) (f1 i) → Rd u (ad2 i) (ln2 i) (cp2 i) (f2 i) → Calls Tryz.prog 94 #[.slice (ad1 i) (ln1 i) (cp1 i), .slice (ad2 i) (ln2 i) (cp2 i)] u fun r w' => ∃ v, r = .returned (.tuple #[v, .bool true]) ∧ Below u.heap.size u w' ∧ w'.ownsRow u.heap.size 54 5 v P.length (cellsL P) := fun u k1 k2 => by
            have := mulS4 u (ad1 i) (ad2 i) (ln1 i) (cp1 i) (ln2 i) (cp2 i) (f1 i) (f2 i) k1 k2 (good_ok p1).1 (good_ok p2).1 (good_ok p1).2 (good_ok p2).2
            rw [hm] at this
            exact this
          have HMUL := Hid.mk' hmul
          clear hmul hm hst
          go_wp2_with fail
          refine (polOkS _ _ _ _ (f1 i) R1.out).mono ?_
          rw [p1]
          rintro r w1 ⟨rfl, hb⟩
          have HB1 := Hid.mk' (bel_next HB.out hb)
          have R11 := Hid.mk' (R1.out.below hb)
          have R21 := Hid.mk' (R2.out.below hb)
          have HO1 := Hid.mk' (owns_below HO.out hb)
          have HC1 := Hid.mk' (HC.out.below hb)
          obtain ⟨g1', g2'⟩ := HC.out.below hb
          clear hb g1 g2 HC R1 R2 HO HB
          go_wp2_with fail
          refine (polOkS _ _ _ _ (f2 i) R21.out).mono ?_
          rw [p2]
          rintro r w2 ⟨rfl, hb⟩
          have HB2 := Hid.mk' (bel_next HB1.out hb).drew
          have hS2 : C2 b1 (off1 + i) (.slice (ad1 i) (ln1 i) (cp1 i)) b2 (off2 + i) (.slice (ad2 i) (ln2 i) (cp2 i)) w2.drew := (HC1.out.below hb).below (Below.refl _ _).drew
          have hcall := HMUL.out w2.drew ((R11.out.below hb).below (Below.refl _ _).drew) ((R21.out.below hb).below (Below.refl _ _).drew)
          have HO2 := Hid.mk' (owns_below (owns_below HO1.out hb) (Below.refl _ _).drew)
          clear hb g1' g2' HMUL R11 R21 HC1 HB1 HO1
          go_wp2_with fail
          go_region_held3 (fun u => u.cell? ⟨b1, off1 + i, none⟩ = some (.slice (ad1 i) (ln1 i) (cp1 i)) ∧ u.cell? ⟨b2, off2 + i, none⟩ = some (.slice (ad2 i) (ln2 i) (cp2 i))) (first | with_reducible exact hS2 | with_reducible exact C2.below hS2 hb3) (first | (go_at_call 94; refine hcall.mono ?_; rintro e w3 ⟨v3, rfl, hb3, ho3⟩))
          have HB3 := Hid.mk' (bel_next HB2.out hb3)
          have HO3 := Hid.mk' (owns_below HO2.out hb3)
          clear hS2 hcall hb3 HO2 HB2
          obtain ⟨hP4, hPf⟩ := okL_falls hP
          obtain ⟨hK4, hKf⟩ := okL_falls HK.out
          obtain ⟨a3, c3, rfl, hout3⟩ := out_of_owns ho3 (by omega)
          have hO3 := HO3.out
          obtain ⟨aK, cK, rfl, houtK⟩ := out_of_owns hO3 (by omega)
          have hadd : Calls Tryz.prog 97 #[.slice aK K.length cK, .slice a3 P.length c3] w3 fun r w' => ∃ v, r = .returned v ∧ Below w3.heap.size w3 w' ∧ w'.ownsRow w3.heap.size 54 5 v (addL K P).length (cellsL (addL K P)) := l3AddS w3 aK a3 K.length cK P.length c3 (lf K) (lf P) houtK.1 hout3.1 (by omega) ((cok_falls hKf).at) ((cok_falls hPf).at)
          have HADD := Hid.mk' hadd
          clear hadd ho3 hout3 houtK hO3 HO3
          go_wp2_with fail
          refine HADD.out.mono ?_
          rintro r w4 ⟨v4, rfl, hb4, ho4⟩
          obtain ⟨a4, c4, rfl, hout4⟩ := out_of_owns ho4 (by have := addL_len K P; omega)
          have HB4 := Hid.mk' (bel_next HB3.out hb4)
          have HO4 := Hid.mk' (ownsRow_low ho4 HB3.out.size)
          clear hb4 ho4 hout4 HADD
          have h4 : (400 : Int) < ((addL K P).length : Int) := by omega
          go_wp2
          refine bodyPost_ret (results_tmp2 rfl _ _ _) rfl ?_
          rw [HR.out]
          exact ⟨_, rfl, HB4.out.alloc HB4.out.size _, owns_none w4 w.heap.size HB4.out.size⟩
        · skip
          have HN := Hid.mk' ((sumPr_step HS.out).trans hst)
          have hmul : ∀ u : World, Rd u (ad1 i) (ln1 i) (cp1 i) (f1 i) → Rd u (ad2 i) (ln2 i) (cp2 i) (f2 i) → Calls Tryz.prog 94 #[.slice (ad1 i) (ln1 i) (cp1 i), .slice (ad2 i) (ln2 i) (cp2 i)] u fun r w' => ∃ v, r = .returned (.tuple #[v, .bool true]) ∧ Below u.heap.size u w' ∧ w'.ownsRow u.heap.size 54 5 v P.length (cellsL P) := fun u k1 k2 => by
            have := mulS4 u (ad1 i) (ad2 i) (ln1 i) (cp1 i) (ln2 i) (cp2 i) (f1 i) (f2 i) k1 k2 (good_ok p1).1 (good_ok p2).1 (good_ok p1).2 (good_ok p2).2
            rw [hm] at this
            exact this
          have HMUL := Hid.mk' hmul
          clear hmul hm hst
          go_wp2_with fail
          refine (polOkS _ _ _ _ (f1 i) R1.out).mono ?_
          rw [p1]
          rintro r w1 ⟨rfl, hb⟩
          have HB1 := Hid.mk' (bel_next HB.out hb)
          have R11 := Hid.mk' (R1.out.below hb)
          have R21 := Hid.mk' (R2.out.below hb)
          have HO1 := Hid.mk' (owns_below HO.out hb)
          have HC1 := Hid.mk' (HC.out.below hb)
          obtain ⟨g1', g2'⟩ := HC.out.below hb
          clear hb g1 g2 HC R1 R2 HO HB
          go_wp2_with fail
          refine (polOkS _ _ _ _ (f2 i) R21.out).mono ?_
          rw [p2]
          rintro r w2 ⟨rfl, hb⟩
          have HB2 := Hid.mk' (bel_next HB1.out hb).drew
          have hS2 : C2 b1 (off1 + i) (.slice (ad1 i) (ln1 i) (cp1 i)) b2 (off2 + i) (.slice (ad2 i) (ln2 i) (cp2 i)) w2.drew := (HC1.out.below hb).below (Below.refl _ _).drew
          have hcall := HMUL.out w2.drew ((R11.out.below hb).below (Below.refl _ _).drew) ((R21.out.below hb).below (Below.refl _ _).drew)
          have HO2 := Hid.mk' (owns_below (owns_below HO1.out hb) (Below.refl _ _).drew)
          clear hb g1' g2' HMUL R11 R21 HC1 HB1 HO1
          go_wp2_with fail
          go_region_held3 (fun u => u.cell? ⟨b1, off1 + i, none⟩ = some (.slice (ad1 i) (ln1 i) (cp1 i)) ∧ u.cell? ⟨b2, off2 + i, none⟩ = some (.slice (ad2 i) (ln2 i) (cp2 i))) (first | with_reducible exact hS2 | with_reducible exact C2.below hS2 hb3) (first | (go_at_call 94; refine hcall.mono ?_; rintro e w3 ⟨v3, rfl, hb3, ho3⟩))
          have HB3 := Hid.mk' (bel_next HB2.out hb3)
          have HO3 := Hid.mk' (owns_below HO2.out hb3)
          clear hS2 hcall hb3 HO2 HB2
          obtain ⟨hP4, hPf⟩ := okL_falls hP
          obtain ⟨hK4, hKf⟩ := okL_falls HK.out
          obtain ⟨a3, c3, rfl, hout3⟩ := out_of_owns ho3 (by omega)
          have hO3 := HO3.out
          obtain ⟨aK, cK, rfl, houtK⟩ := out_of_owns hO3 (by omega)
          have hadd : Calls Tryz.prog 97 #[.slice aK K.length cK, .slice a3 P.length c3] w3 fun r w' => ∃ v, r = .returned v ∧ Below w3.heap.size w3 w' ∧ w'.ownsRow w3.heap.size 54 5 v (addL K P).length (cellsL (addL K P)) := l3AddS w3 aK a3 K.length cK P.length c3 (lf K) (lf P) houtK.1 hout3.1 (by omega) ((cok_falls hKf).at) ((cok_falls hPf).at)
          have HADD := Hid.mk' hadd
          clear hadd ho3 hout3 houtK hO3 HO3
          go_wp2_with fail
          refine HADD.out.mono ?_
          rintro r w4 ⟨v4, rfl, hb4, ho4⟩
          obtain ⟨a4, c4, rfl, hout4⟩ := out_of_owns ho4 (by have := addL_len K P; omega)
          have HB4 := Hid.mk' (bel_next HB3.out hb4)
          have HO4 := Hid.mk' (ownsRow_low ho4 HB3.out.size)
          clear hb4 ho4 hout4 HADD
          have h4 : ¬ (400 : Int) < ((addL K P).length : Int) := by omega
          go_wp2
          go_roundw
          case rel => exact ⟨i + 1, addL K P, by omega, by go_num, HN.out, hok, HB4.out, HO4.out⟩
          case measure => simp [intOf]; omega
      · have hnl : ¬ (i : Int) < (n1 : Int) := by omega
        have hie : i = n1 := by omega
        subst hie
        have e2 : redSum i ln1 f1 i ln2 f2 = (K, true) := by rw [HE.out, HS.out]; rfl
        have HE2 := Hid.mk' e2
        clear e2 hown
        go_wp2
        refine bodyPost_ret (results_tmp2 rfl _ _ _) rfl ?_
        rw [HE2.out]
        exact ⟨_, rfl, HB.out, HO.out⟩
  · have HE : Hid (redSum n1 ln1 f1 n2 ln2 f2 = ([], false)) := if_neg hn
    by_cases he : n1 = n2
    · subst he
      have hne : ((n1 : Int) != (n1 : Int)) = false := by simp
      have hng : (12 : Int) < (n1 : Int) := by omega
      go_enter Tryz.func68, Tryz.ntmps68
      go_wp2
      refine bodyPost_ret (results_tmp2 rfl _ _ _) rfl ?_
      rw [HE.out]
      exact ⟨_, rfl, HB0.out, HO0.out⟩
    · have hne : ((n1 : Int) != (n2 : Int)) = true := by simp; omega
      go_enter Tryz.func68, Tryz.ntmps68
      go_wp2
      refine bodyPost_ret (results_tmp2 rfl _ _ _) rfl ?_
      rw [HE.out]
      exact ⟨_, rfl, HB0.out, HO0.out⟩
end Go.Proofs.YtmlaedpamobmhaaGreat
namespace Go.Proofs.YtmlaedpamobmhaaGreat
open Go.RowKit Go.Deep Go.Joins
set_option linter.unusedVariables false

theorem Wr.set {w : World} {a : Option Addr} {n : Nat} {f : Nat → T} {lo B o : Nat} {v : Value} (h : Wr w a n f) (hf : n = 0 ∨ ∃ g off, a = some ⟨g, off, none⟩ ∧ lo ≤ g) (hB : B < lo) : Wr (w.setCell ⟨B, o, none⟩ v) a n f := by
  rcases h with h0 | ⟨g, off, N, F, rfl, hR, hN, hF⟩
  · exact .inl h0
  · rcases hf with h0 | ⟨g', off', he, hlo⟩
    · exact .inl h0
    · cases he
      have hne : g ≠ B := by omega
      exact .inr ⟨g, off, N, F, rfl, hR.of_block (Below.heap_setCell _ _ _ _ hne), hN, hF⟩
theorem rd_setOther {w : World} {a : Option Addr} {n cap g o : Nat} {f : Nat → T} {v : Value} (h : Rd w a n cap f) (hne : n = 0 ∨ ∀ b off, a = some ⟨b, off, none⟩ → b ≠ g) : Rd (w.setCell ⟨g, o, none⟩ v) a n cap f :=
  h.grown (row := some g) ⟨rfl, rfl, rfl, by simp [World.setCell], fun k _ hk => Below.heap_setCell _ _ _ _ (fun e => hk (by rw [e]))⟩ (hne.imp id (fun k b off he hb => k b off he (by cases hb; rfl)))
theorem Out.set {lo : Nat} {w : World} {a : Option Addr} {cap : Nat} {L : List T} {B o : Nat} {v : Value} (h : Out lo w a cap L) (hB : B < lo) : Out lo (w.setCell ⟨B, o, none⟩ v) a cap L :=
  ⟨rd_setOther h.1 (h.2.2.imp id (fun ⟨g, off, he, hlo⟩ b off' hb => by rw [he] at hb; cases hb; omega)), h.2.1.set h.2.2 hB, h.2.2⟩
theorem Out.nil (lo : Nat) (w : World) : Out lo w none 0 [] := ⟨⟨Nat.le_refl _, by simp, .inl rfl⟩, .inl rfl, .inl rfl⟩
theorem Out.low {lo lo' : Nat} {w : World} {a : Option Addr} {cap : Nat} {L : List T} (h : Out lo w a cap L) (hl : lo' ≤ lo) : Out lo' w a cap L := ⟨h.1, h.2.1, h.2.2.imp id (fun ⟨g, off, he, hlo⟩ => ⟨g, off, he, Nat.le_trans hl hlo⟩)⟩
/-- what holds in a round: the sum's cell, the list's cell, and its operator's. -/
abbrev C3 (bs : Nat) (vs : Value) (B1 : Nat) (v1 : Value) (b2 o2 : Nat) (v2 : Value) (u : World) : Prop := u.cell? ⟨bs, 0, none⟩ = some vs ∧ u.cell? ⟨B1, 0, none⟩ = some v1 ∧ u.cell? ⟨b2, o2, none⟩ = some v2
theorem C3.below {bs B1 b2 o2 : Nat} {vs v1 v2 : Value} {u u' : World} (h : C3 bs vs B1 v1 b2 o2 v2 u) (hb : Below u.heap.size u u') : C3 bs vs B1 v1 b2 o2 v2 u' :=
  ⟨(hb.cell (p := ⟨bs, 0, none⟩) (World.block_lt_of_cell? u _ h.1)).trans h.1, (hb.cell (p := ⟨B1, 0, none⟩) (World.block_lt_of_cell? u _ h.2.1)).trans h.2.1, (hb.cell (p := ⟨b2, o2, none⟩) (World.block_lt_of_cell? u _ h.2.2)).trans h.2.2⟩
theorem C2.set {b1 o1 b2 o2 : Nat} {v1 v2 : Value} {u : World} {B : Nat} {v : Value} (h : C2 b1 o1 v1 b2 o2 v2 u) (h1 : b1 ≠ B) (h2 : b2 ≠ B) : C2 b1 o1 v1 b2 o2 v2 (u.setCell ⟨B, 0, none⟩ v) :=
  ⟨(World.cell?_of_block (w := u) (a := ⟨b1, o1, none⟩) (Below.heap_setCell _ _ _ _ h1)).trans h.1, (World.cell?_of_block (w := u) (a := ⟨b2, o2, none⟩) (Below.heap_setCell _ _ _ _ h2)).trans h.2⟩
def SumPost (w0 : World) (S : Option (List T)) (r : Ending) (w' : World) : Prop :=
  Below w0.heap.size w0 w' ∧ ((∃ K a c, S = some K ∧ okL K = true ∧ r = .returned (.tuple #[]) ∧ w'.cell? ⟨w0.heap.size, 0, none⟩ = some (.slice a K.length c) ∧ Out (w0.heap.size + 1) w' a c K) ∨ (S = none ∧ r = .panicked [{ v := tooMuch, recovered := false }]))
theorem SumPost.no {w0 : World} {S : Option (List T)} {w' : World} (hb : Below w0.heap.size w0 w') (h : S = none) : SumPost w0 S (.panicked [{ v := tooMuch, recovered := false }]) w' := ⟨hb, .inr ⟨h, rfl⟩⟩
theorem SumPost.yes {w0 : World} {S : Option (List T)} {w' : World} {K : List T} {a : Option Addr} {c : Nat} (hb : Below w0.heap.size w0 w') (h : S = some K) (hk : okL K = true) (hc : w'.cell? ⟨w0.heap.size, 0, none⟩ = some (.slice a K.length c)) (ho : Out (w0.heap.size + 1) w' a c K) : SumPost w0 S (.returned (.tuple #[])) w' := ⟨hb, .inl ⟨K, a, c, h, hk, rfl, hc, ho⟩⟩
set_option maxRecDepth 100000 in
set_option maxHeartbeats 8000000 in
theorem sum1I (w0 W : World) (B0 B1 : Nat) (n : Nat) (a1 : Option Addr) (c1 : Nat) (ad1 : Nat → Option Addr) (ln1 cp1 : Nat → Nat) (f1 : Nat → Nat → T) (h1 : RdS w0 a1 n c1 ad1 ln1 cp1 f1) (a2 : Option Addr) (c2 : Nat) (ad2 : Nat → Option Addr) (ln2 cp2 : Nat → Nat) (f2 : Nat → Nat → T) (h2 : RdS w0 a2 n c2 ad2 ln2 cp2 f2)
    (k0 : w0.cell? ⟨B0, 0, none⟩ = some (.slice a1 n c1)) (k1 : w0.cell? ⟨B1, 0, none⟩ = some (.slice a2 n c2)) (hb : Below w0.heap.size w0 W) (hs : W.cell? ⟨w0.heap.size, 0, none⟩ = some (.slice none 0 0)) (hf : W.frozen? ⟨w0.heap.size, 0, none⟩ = false) :
    Calls Tryz.prog 47 #[.pointer (some ⟨B0, 0, none⟩), .pointer (some ⟨w0.heap.size, 0, none⟩), .pointer (some ⟨B1, 0, none⟩)] W fun r w' => SumPost w0 (sumPr ln1 f1 ln2 f2 n) r w' := by
  have qn : (n : Int) ≤ 140737488351232 := by have := h1.2.1; omega
  have H1 := Hid.mk' h1
  have H2 := Hid.mk' h2
  have HB0 := Hid.mk' hb
  have hl0 := World.block_lt_of_cell? w0 _ k0
  have hl1 := World.block_lt_of_cell? w0 _ k1
  have K1 := Hid.mk' k1
  have g0 : W.cell? ⟨B0, 0, none⟩ = some (.slice a1 n c1) := (hb.cell (p := ⟨B0, 0, none⟩) hl0).trans k0
  have HS0 := Hid.mk' hs
  have HF0 := Hid.mk' hf
  have hw1 : w0.heap.size + 1 ≤ W.heap.size := World.block_lt_of_cell? W _ hs
  clear h1 h2 k0 k1 hb hs hf
  go_enter Tryz.func47, Tryz.ntmps47
  go_wp2
  clear g0
  go_loopw [7] (fun v wr => ∃ (i : Nat) (K : List T) (a : Option Addr) (c : Nat), i ≤ n ∧ v = .int .i64 (i : Int) ∧ sumPr ln1 f1 ln2 f2 i = some K ∧ okL K = true ∧ Below w0.heap.size w0 wr ∧ wr.cell? ⟨w0.heap.size, 0, none⟩ = some (.slice a K.length c) ∧ wr.frozen? ⟨w0.heap.size, 0, none⟩ = false ∧ Out (w0.heap.size + 1) wr a c K) (fun v _ => n - (intOf v).toNat)
  case atStart => exact ⟨0, [], none, 0, Nat.zero_le _, rfl, rfl, okL_nil, HB0.out, HS0.out, HF0.out, Out.nil _ _⟩
  case round =>
    obtain ⟨i, K, a, c, hi, rfl, hs, hK, hB, hcl, hfz, hout⟩ := hrel
    have HS := Hid.mk' hs
    have HK := Hid.mk' hK
    have HB := Hid.mk' hB
    have HO := Hid.mk' hout
    have HF := Hid.mk' hfz
    have HCL := Hid.mk' hcl
    clear hs hK hout hfz
    by_cases hlt : i < n
    · rcases H1.out.2.2.1 with h0 | ⟨b1, off1, rfl, hb1, hc1⟩
      · omega
      rcases H2.out.2.2.1 with h0 | ⟨b2, off2, rfl, hb2, hc2⟩
      · omega
      have hil : (i : Int) < (n : Int) := by omega
      have g1 : wr.cell? ⟨b1, off1 + i, none⟩ = some (.slice (ad1 i) (ln1 i) (cp1 i)) := (hB.cell (p := ⟨b1, off1 + i, none⟩) hb1).trans (hc1 i hlt)
      have g2 : wr.cell? ⟨b2, off2 + i, none⟩ = some (.slice (ad2 i) (ln2 i) (cp2 i)) := (hB.cell (p := ⟨b2, off2 + i, none⟩) hb2).trans (hc2 i hlt)
      have g3 : wr.cell? ⟨B1, 0, none⟩ = some (.slice (some ⟨b2, off2, none⟩) n c2) := (hB.cell (p := ⟨B1, 0, none⟩) hl1).trans K1.out
      have hS : C3 w0.heap.size (.slice a K.length c) B1 (.slice (some ⟨b2, off2, none⟩) n c2) b2 (off2 + i) (.slice (ad2 i) (ln2 i) (cp2 i)) wr.drew := ⟨hcl, g3, g2⟩
      have R1 := Hid.mk' (((H1.out.2.2.2 i hlt).below hB).below (Below.refl _ _).drew)
      have R2 := Hid.mk' (((H2.out.2.2.2 i hlt).below hB).below (Below.refl _ _).drew)
      have HBD := Hid.mk' hB.drew
      have HOD := Hid.mk' (HO.out.below (Below.refl _ _).drew)
      have hmul := wylMulI wr.drew (ad1 i) (ad2 i) (ln1 i) (cp1 i) (ln2 i) (cp2 i) (f1 i) (f2 i) R1.out R2.out
      have HZ : Hid (∀ u v : World, Below wr.drew.heap.size wr.drew u → Below u.heap.size u v → v.frozen? ⟨w0.heap.size, 0, none⟩ = false) := fun u v q1 q2 => (q2.frozen (p := ⟨w0.heap.size, 0, none⟩) (World.block_lt_of_cell? u _ ((hS.below q1).1))).trans ((q1.frozen (p := ⟨w0.heap.size, 0, none⟩) (World.block_lt_of_cell? wr.drew _ hS.1)).trans HF.out)
      clear hc1 hc2 hB
      have hcs : (wylMul (f1 i) (ln1 i) (f2 i) (ln2 i) = ([], false) ∧ stepS K (f1 i) (ln1 i) (f2 i) (ln2 i) = none) ∨ (∃ P, wylMul (f1 i) (ln1 i) (f2 i) (ln2 i) = (P, true) ∧ addV K P = ([], false) ∧ stepS K (f1 i) (ln1 i) (f2 i) (ln2 i) = none) ∨ (∃ P, wylMul (f1 i) (ln1 i) (f2 i) (ln2 i) = (P, true) ∧ addV K P = (addL K P, true) ∧ stepS K (f1 i) (ln1 i) (f2 i) (ln2 i) = some (addL K P) ∧ okL (addL K P) = true) := by
        rcases step_cases HK.out (f1 i) (ln1 i) (f2 i) (ln2 i) with ⟨hp, hw, hst⟩ | ⟨p1, p2, hm, hw, hst⟩ | ⟨P, p1, p2, hm, hw, hP, hl, ha, hst⟩ | ⟨P, p1, p2, hm, hw, hP, hl, ha, hst, hok⟩
        · exact .inl ⟨hw, hst⟩
        · exact .inl ⟨hw, hst⟩
        · exact .inr (.inl ⟨P, hw, ha, hst⟩)
        · exact .inr (.inr ⟨P, hw, ha, hst, hok⟩)
      have HNO : Hid (stepS K (f1 i) (ln1 i) (f2 i) (ln2 i) = none → sumPr ln1 f1 ln2 f2 n = none) := fun hst => by
        have := sumPr_none ((sumPr_step HS.out).trans hst) (n - (i + 1))
        rw [show i + 1 + (n - (i + 1)) = n by omega] at this
        exact this
      rcases hcs with ⟨hw, hst⟩ | ⟨P, hw, ha, hst⟩ | ⟨P, hw, ha, hst, hok⟩
      · have HN := Hid.mk' (HNO.out hst)
        rw [hw] at hmul
        clear hw hst HNO
        have hs0 : wr.drew.cell? ⟨w0.heap.size, 0, none⟩ = some (.slice a K.length c) := hS.1
        have e2 : wr.drew.cell? ⟨B1, 0, none⟩ = some (.slice (some ⟨b2, off2, none⟩) n c2) := hS.2.1
        have e3 : wr.drew.cell? ⟨b2, off2 + i, none⟩ = some (.slice (ad2 i) (ln2 i) (cp2 i)) := hS.2.2
        have HSS := Hid.mk' hS
        clear hS
        go_wp2_with fail
        refine wp_region_any (by kernel_rfl) ?_
        (try (change wpAny _ _ _ _ _ _ _ (World.drew _)))
        refine wpAny_take (i := 1) (v := ?_) rfl (by kernel_rfl) (by kernel_rfl) (by kernel_rfl) (fun _ _ _ h => h) (Or.inl ⟨by rfl, ?_⟩) ?_
        rotate_left
        · (intro w9; go_simp) <;> with_reducible rfl
        refine wpAny_take (i := 3) (v := ?_) rfl (by kernel_rfl) (by kernel_rfl) (by kernel_rfl) (fun _ _ _ h => h) (Or.inl ⟨by rfl, ?_⟩) ?_
        rotate_left
        · (intro w9; go_simp) <;> with_reducible rfl
        refine wpAny_ready (rs := [0, 2]) (by kernel_rfl) (by simp) ?_
        refine AllReady.cons rfl (fun KK hKK => ?_) ?_
        · go_simp
          (try (refine hKK _ _ ?_; clear hKK KK))
          refine wpAny_ready (rs := [2]) (by kernel_rfl) (by simp) ?_
          refine AllReady.cons rfl (fun KK hKK => ?_) ?_
          · go_simp
            (try (refine hKK _ _ ?_; clear hKK KK))
            refine wpAny_take (i := 4) (v := ?_) rfl (by kernel_rfl) (by kernel_rfl) (by kernel_rfl) (fun _ _ _ h => h) (Or.inl ⟨by rfl, ?_⟩) ?_
            rotate_left
            · (intro w9; go_simp) <;> with_reducible rfl
            refine wpAny_ready (rs := [5]) (by kernel_rfl) (by simp) ?_
            refine AllReady.cons rfl (fun KK hKK => ?_) ?_
            · go_simp
              (try (refine hKK _ _ ?_; clear hKK KK))
              refine wpAny_ready (rs := [6]) (by kernel_rfl) (by simp) ?_
              refine AllReady.cons rfl (fun KK hKK => ?_) ?_
              · go_simp
                go_wp2_with (go_at_call 50; refine hmul.mono ?_; rintro e w1 ⟨p1a, p1c, rfl, bb1, oo1⟩; have hs1 := (HSS.out.below bb1).1)
                (try (refine hKK _ _ ?_; clear hKK KK))
                refine wpAny_take (i := 7) (v := ?_) rfl (by kernel_rfl) (by kernel_rfl) (by kernel_rfl) (fun _ _ _ h => h) (Or.inl ⟨by rfl, ?_⟩) ?_
                rotate_left
                · (intro w9; go_simp) <;> with_reducible rfl
                refine wpAny_take (i := 8) (v := ?_) rfl (by kernel_rfl) (by kernel_rfl) (by kernel_rfl) (fun _ _ _ h => h) (Or.inl ⟨by rfl, ?_⟩) ?_
                rotate_left
                · (intro w9; go_simp) <;> with_reducible rfl
                refine wpAny_ready (rs := [9]) (by kernel_rfl) (by simp) ?_
                refine AllReady.cons rfl (fun KK hKK => ?_) ?_
                · go_simp
                  go_wp2_with (go_at_call 48; refine (redNeed_no _ _).mono ?_; rintro e wn ⟨rfl, hwn⟩; obtain rfl := hwn.symm; clear hwn)
                  exact ⟨rfl, SumPost.no (bel_next HBD.out bb1) HN.out⟩
                exact AllReady.nil
              exact AllReady.nil
            exact AllReady.nil
          exact AllReady.nil
        refine AllReady.cons rfl (fun KK hKK => ?_) ?_
        · go_simp
          (try (refine hKK _ _ ?_; clear hKK KK))
          refine wpAny_take (i := 4) (v := ?_) rfl (by kernel_rfl) (by kernel_rfl) (by kernel_rfl) (fun _ _ _ h => h) (Or.inl ⟨by rfl, ?_⟩) ?_
          rotate_left
          · (intro w9; go_simp) <;> with_reducible rfl
          refine wpAny_ready (rs := [0, 5]) (by kernel_rfl) (by simp) ?_
          refine AllReady.cons rfl (fun KK hKK => ?_) ?_
          · go_simp
            (try (refine hKK _ _ ?_; clear hKK KK))
            refine wpAny_ready (rs := [5]) (by kernel_rfl) (by simp) ?_
            refine AllReady.cons rfl (fun KK hKK => ?_) ?_
            · go_simp
              (try (refine hKK _ _ ?_; clear hKK KK))
              refine wpAny_ready (rs := [6]) (by kernel_rfl) (by simp) ?_
              refine AllReady.cons rfl (fun KK hKK => ?_) ?_
              · go_simp
                go_wp2_with (go_at_call 50; refine hmul.mono ?_; rintro e w1 ⟨p1a, p1c, rfl, bb1, oo1⟩; have hs1 := (HSS.out.below bb1).1)
                (try (refine hKK _ _ ?_; clear hKK KK))
                refine wpAny_take (i := 7) (v := ?_) rfl (by kernel_rfl) (by kernel_rfl) (by kernel_rfl) (fun _ _ _ h => h) (Or.inl ⟨by rfl, ?_⟩) ?_
                rotate_left
                · (intro w9; go_simp) <;> with_reducible rfl
                refine wpAny_take (i := 8) (v := ?_) rfl (by kernel_rfl) (by kernel_rfl) (by kernel_rfl) (fun _ _ _ h => h) (Or.inl ⟨by rfl, ?_⟩) ?_
                rotate_left
                · (intro w9; go_simp) <;> with_reducible rfl
                refine wpAny_ready (rs := [9]) (by kernel_rfl) (by simp) ?_
                refine AllReady.cons rfl (fun KK hKK => ?_) ?_
                · go_simp
                  go_wp2_with (go_at_call 48; refine (redNeed_no _ _).mono ?_; rintro e wn ⟨rfl, hwn⟩; obtain rfl := hwn.symm; clear hwn)
                  exact ⟨rfl, SumPost.no (bel_next HBD.out bb1) HN.out⟩
                exact AllReady.nil
              exact AllReady.nil
            exact AllReady.nil
          refine AllReady.cons rfl (fun KK hKK => ?_) ?_
          · go_simp
            (try (refine hKK _ _ ?_; clear hKK KK))
            refine wpAny_ready (rs := [0, 6]) (by kernel_rfl) (by simp) ?_
            refine AllReady.cons rfl (fun KK hKK => ?_) ?_
            · go_simp
              (try (refine hKK _ _ ?_; clear hKK KK))
              refine wpAny_ready (rs := [6]) (by kernel_rfl) (by simp) ?_
              refine AllReady.cons rfl (fun KK hKK => ?_) ?_
              · go_simp
                go_wp2_with (go_at_call 50; refine hmul.mono ?_; rintro e w1 ⟨p1a, p1c, rfl, bb1, oo1⟩; have hs1 := (HSS.out.below bb1).1)
                (try (refine hKK _ _ ?_; clear hKK KK))
                refine wpAny_take (i := 7) (v := ?_) rfl (by kernel_rfl) (by kernel_rfl) (by kernel_rfl) (fun _ _ _ h => h) (Or.inl ⟨by rfl, ?_⟩) ?_
                rotate_left
                · (intro w9; go_simp) <;> with_reducible rfl
                refine wpAny_take (i := 8) (v := ?_) rfl (by kernel_rfl) (by kernel_rfl) (by kernel_rfl) (fun _ _ _ h => h) (Or.inl ⟨by rfl, ?_⟩) ?_
                rotate_left
                · (intro w9; go_simp) <;> with_reducible rfl
                refine wpAny_ready (rs := [9]) (by kernel_rfl) (by simp) ?_
                refine AllReady.cons rfl (fun KK hKK => ?_) ?_
                · go_simp
                  go_wp2_with (go_at_call 48; refine (redNeed_no _ _).mono ?_; rintro e wn ⟨rfl, hwn⟩; obtain rfl := hwn.symm; clear hwn)
                  exact ⟨rfl, SumPost.no (bel_next HBD.out bb1) HN.out⟩
                exact AllReady.nil
              exact AllReady.nil
            refine AllReady.cons rfl (fun KK hKK => ?_) ?_
            · go_simp
              go_wp2_with (go_at_call 50; refine hmul.mono ?_; rintro e w1 ⟨p1a, p1c, rfl, bb1, oo1⟩; have hs1 := (HSS.out.below bb1).1)
              (try (refine hKK _ _ ?_; clear hKK KK))
              refine wpAny_take (i := 7) (v := ?_) rfl (by kernel_rfl) (by kernel_rfl) (by kernel_rfl) (fun _ _ _ h => h) (Or.inl ⟨by rfl, ?_⟩) ?_
              rotate_left
              · (intro w9; go_simp) <;> with_reducible rfl
              refine wpAny_take (i := 8) (v := ?_) rfl (by kernel_rfl) (by kernel_rfl) (by kernel_rfl) (fun _ _ _ h => h) (Or.inl ⟨by rfl, ?_⟩) ?_
              rotate_left
              · (intro w9; go_simp) <;> with_reducible rfl
              refine wpAny_ready (rs := [0, 9]) (by kernel_rfl) (by simp) ?_
              refine AllReady.cons rfl (fun KK hKK => ?_) ?_
              · go_simp
                (try (refine hKK _ _ ?_; clear hKK KK))
                refine wpAny_ready (rs := [9]) (by kernel_rfl) (by simp) ?_
                refine AllReady.cons rfl (fun KK hKK => ?_) ?_
                · go_simp
                  go_wp2_with (go_at_call 48; refine (redNeed_no _ _).mono ?_; rintro e wn ⟨rfl, hwn⟩; obtain rfl := hwn.symm; clear hwn)
                  exact ⟨rfl, SumPost.no (bel_next HBD.out bb1) HN.out⟩
                exact AllReady.nil
              refine AllReady.cons rfl (fun KK hKK => ?_) ?_
              · go_simp
                go_wp2_with (go_at_call 48; refine (redNeed_no _ _).mono ?_; rintro e wn ⟨rfl, hwn⟩; obtain rfl := hwn.symm; clear hwn)
                exact ⟨rfl, SumPost.no (bel_next HBD.out bb1) HN.out⟩
              exact AllReady.nil
            exact AllReady.nil
          exact AllReady.nil
        exact AllReady.nil
      · have HN := Hid.mk' (HNO.out hst)
        rw [hw] at hmul
        clear hw hst HNO
        have hadd : ∀ (u : World) (a' : Option Addr) (c' : Nat), RL u a c K → RL u a' c' P → Calls Tryz.prog 49 #[.slice a K.length c, .slice a' P.length c'] u fun r w' => ∃ a'' c'', r = .returned (.tuple #[.slice a'' ([] : List T).length c'', .bool false]) ∧ Below u.heap.size u w' ∧ Out u.heap.size w' a'' c'' ([] : List T) := fun u a' c' q1 q2 => by
          have := polAddI u a a' K.length c P.length c' (lf K) (lf P) q1 q2
          rw [show polAdd (lf K) K.length (lf P) P.length = (([] : List T), false) from ha] at this
          exact this
        have HADD := Hid.mk' hadd
        clear hadd ha
        have hs0 : wr.drew.cell? ⟨w0.heap.size, 0, none⟩ = some (.slice a K.length c) := hS.1
        have e2 : wr.drew.cell? ⟨B1, 0, none⟩ = some (.slice (some ⟨b2, off2, none⟩) n c2) := hS.2.1
        have e3 : wr.drew.cell? ⟨b2, off2 + i, none⟩ = some (.slice (ad2 i) (ln2 i) (cp2 i)) := hS.2.2
        have HSS := Hid.mk' hS
        clear hS
        go_wp2_with fail
        refine wp_region_any (by kernel_rfl) ?_
        (try (change wpAny _ _ _ _ _ _ _ (World.drew _)))
        refine wpAny_take (i := 1) (v := ?_) rfl (by kernel_rfl) (by kernel_rfl) (by kernel_rfl) (fun _ _ _ h => h) (Or.inl ⟨by rfl, ?_⟩) ?_
        rotate_left
        · (intro w9; go_simp) <;> with_reducible rfl
        refine wpAny_take (i := 3) (v := ?_) rfl (by kernel_rfl) (by kernel_rfl) (by kernel_rfl) (fun _ _ _ h => h) (Or.inl ⟨by rfl, ?_⟩) ?_
        rotate_left
        · (intro w9; go_simp) <;> with_reducible rfl
        refine wpAny_ready (rs := [0, 2]) (by kernel_rfl) (by simp) ?_
        refine AllReady.cons rfl (fun KK hKK => ?_) ?_
        · go_simp
          (try (refine hKK _ _ ?_; clear hKK KK))
          refine wpAny_ready (rs := [2]) (by kernel_rfl) (by simp) ?_
          refine AllReady.cons rfl (fun KK hKK => ?_) ?_
          · go_simp
            (try (refine hKK _ _ ?_; clear hKK KK))
            refine wpAny_take (i := 4) (v := ?_) rfl (by kernel_rfl) (by kernel_rfl) (by kernel_rfl) (fun _ _ _ h => h) (Or.inl ⟨by rfl, ?_⟩) ?_
            rotate_left
            · (intro w9; go_simp) <;> with_reducible rfl
            refine wpAny_ready (rs := [5]) (by kernel_rfl) (by simp) ?_
            refine AllReady.cons rfl (fun KK hKK => ?_) ?_
            · go_simp
              (try (refine hKK _ _ ?_; clear hKK KK))
              refine wpAny_ready (rs := [6]) (by kernel_rfl) (by simp) ?_
              refine AllReady.cons rfl (fun KK hKK => ?_) ?_
              · go_simp
                go_wp2_with (go_at_call 50; refine hmul.mono ?_; rintro e w1 ⟨p1a, p1c, rfl, bb1, oo1⟩; have hs1 := (HSS.out.below bb1).1)
                (try (refine hKK _ _ ?_; clear hKK KK))
                refine wpAny_take (i := 7) (v := ?_) rfl (by kernel_rfl) (by kernel_rfl) (by kernel_rfl) (fun _ _ _ h => h) (Or.inl ⟨by rfl, ?_⟩) ?_
                rotate_left
                · (intro w9; go_simp) <;> with_reducible rfl
                refine wpAny_take (i := 8) (v := ?_) rfl (by kernel_rfl) (by kernel_rfl) (by kernel_rfl) (fun _ _ _ h => h) (Or.inl ⟨by rfl, ?_⟩) ?_
                rotate_left
                · (intro w9; go_simp) <;> with_reducible rfl
                refine wpAny_ready (rs := [9]) (by kernel_rfl) (by simp) ?_
                refine AllReady.cons rfl (fun KK hKK => ?_) ?_
                · go_simp
                  go_wp2_with (go_at_call 48; refine (redNeed_yes _ _).mono ?_; rintro e wn ⟨rfl, hwn⟩; obtain rfl := hwn.symm; clear hwn)
                  (try (refine hKK _ _ ?_; clear hKK KK))
                  refine wpAny_ready (rs := [10]) (by kernel_rfl) (by simp) ?_
                  refine AllReady.cons rfl (fun KK hKK => ?_) ?_
                  · go_simp
                    go_wp2_with (go_at_call 49; refine (HADD.out w1 p1a p1c (HOD.out.1.below bb1) oo1.1).mono ?_; rintro e w2 ⟨p2a, p2c, rfl, bb2, oo2⟩)
                    (try (refine hKK _ _ ?_; clear hKK KK))
                    refine wpAny_take (i := 11) (v := ?_) rfl (by kernel_rfl) (by kernel_rfl) (by kernel_rfl) (fun _ _ _ h => h) (Or.inl ⟨by rfl, ?_⟩) ?_
                    rotate_left
                    · (intro w9; go_simp) <;> with_reducible rfl
                    refine wpAny_take (i := 12) (v := ?_) rfl (by kernel_rfl) (by kernel_rfl) (by kernel_rfl) (fun _ _ _ h => h) (Or.inl ⟨by rfl, ?_⟩) ?_
                    rotate_left
                    · (intro w9; go_simp) <;> with_reducible rfl
                    refine wpAny_ready (rs := [13]) (by kernel_rfl) (by simp) ?_
                    refine AllReady.cons rfl (fun KK hKK => ?_) ?_
                    · go_simp
                      go_wp2_with (go_at_call 48; refine (redNeed_no _ _).mono ?_; rintro e wn ⟨rfl, hwn⟩; obtain rfl := hwn.symm; clear hwn)
                      exact ⟨rfl, SumPost.no (bel_next (bel_next HBD.out bb1) bb2) HN.out⟩
                    exact AllReady.nil
                  exact AllReady.nil
                exact AllReady.nil
              exact AllReady.nil
            exact AllReady.nil
          exact AllReady.nil
        refine AllReady.cons rfl (fun KK hKK => ?_) ?_
        · go_simp
          (try (refine hKK _ _ ?_; clear hKK KK))
          refine wpAny_take (i := 4) (v := ?_) rfl (by kernel_rfl) (by kernel_rfl) (by kernel_rfl) (fun _ _ _ h => h) (Or.inl ⟨by rfl, ?_⟩) ?_
          rotate_left
          · (intro w9; go_simp) <;> with_reducible rfl
          refine wpAny_ready (rs := [0, 5]) (by kernel_rfl) (by simp) ?_
          refine AllReady.cons rfl (fun KK hKK => ?_) ?_
          · go_simp
            (try (refine hKK _ _ ?_; clear hKK KK))
            refine wpAny_ready (rs := [5]) (by kernel_rfl) (by simp) ?_
            refine AllReady.cons rfl (fun KK hKK => ?_) ?_
            · go_simp
              (try (refine hKK _ _ ?_; clear hKK KK))
              refine wpAny_ready (rs := [6]) (by kernel_rfl) (by simp) ?_
              refine AllReady.cons rfl (fun KK hKK => ?_) ?_
              · go_simp
                go_wp2_with (go_at_call 50; refine hmul.mono ?_; rintro e w1 ⟨p1a, p1c, rfl, bb1, oo1⟩; have hs1 := (HSS.out.below bb1).1)
                (try (refine hKK _ _ ?_; clear hKK KK))
                refine wpAny_take (i := 7) (v := ?_) rfl (by kernel_rfl) (by kernel_rfl) (by kernel_rfl) (fun _ _ _ h => h) (Or.inl ⟨by rfl, ?_⟩) ?_
                rotate_left
                · (intro w9; go_simp) <;> with_reducible rfl
                refine wpAny_take (i := 8) (v := ?_) rfl (by kernel_rfl) (by kernel_rfl) (by kernel_rfl) (fun _ _ _ h => h) (Or.inl ⟨by rfl, ?_⟩) ?_
                rotate_left
                · (intro w9; go_simp) <;> with_reducible rfl
                refine wpAny_ready (rs := [9]) (by kernel_rfl) (by simp) ?_
                refine AllReady.cons rfl (fun KK hKK => ?_) ?_
                · go_simp
                  go_wp2_with (go_at_call 48; refine (redNeed_yes _ _).mono ?_; rintro e wn ⟨rfl, hwn⟩; obtain rfl := hwn.symm; clear hwn)
                  (try (refine hKK _ _ ?_; clear hKK KK))
                  refine wpAny_ready (rs := [10]) (by kernel_rfl) (by simp) ?_
                  refine AllReady.cons rfl (fun KK hKK => ?_) ?_
                  · go_simp
                    go_wp2_with (go_at_call 49; refine (HADD.out w1 p1a p1c (HOD.out.1.below bb1) oo1.1).mono ?_; rintro e w2 ⟨p2a, p2c, rfl, bb2, oo2⟩)
                    (try (refine hKK _ _ ?_; clear hKK KK))
                    refine wpAny_take (i := 11) (v := ?_) rfl (by kernel_rfl) (by kernel_rfl) (by kernel_rfl) (fun _ _ _ h => h) (Or.inl ⟨by rfl, ?_⟩) ?_
                    rotate_left
                    · (intro w9; go_simp) <;> with_reducible rfl
                    refine wpAny_take (i := 12) (v := ?_) rfl (by kernel_rfl) (by kernel_rfl) (by kernel_rfl) (fun _ _ _ h => h) (Or.inl ⟨by rfl, ?_⟩) ?_
                    rotate_left
                    · (intro w9; go_simp) <;> with_reducible rfl
                    refine wpAny_ready (rs := [13]) (by kernel_rfl) (by simp) ?_
                    refine AllReady.cons rfl (fun KK hKK => ?_) ?_
                    · go_simp
                      go_wp2_with (go_at_call 48; refine (redNeed_no _ _).mono ?_; rintro e wn ⟨rfl, hwn⟩; obtain rfl := hwn.symm; clear hwn)
                      exact ⟨rfl, SumPost.no (bel_next (bel_next HBD.out bb1) bb2) HN.out⟩
                    exact AllReady.nil
                  exact AllReady.nil
                exact AllReady.nil
              exact AllReady.nil
            exact AllReady.nil
          refine AllReady.cons rfl (fun KK hKK => ?_) ?_
          · go_simp
            (try (refine hKK _ _ ?_; clear hKK KK))
            refine wpAny_ready (rs := [0, 6]) (by kernel_rfl) (by simp) ?_
            refine AllReady.cons rfl (fun KK hKK => ?_) ?_
            · go_simp
              (try (refine hKK _ _ ?_; clear hKK KK))
              refine wpAny_ready (rs := [6]) (by kernel_rfl) (by simp) ?_
              refine AllReady.cons rfl (fun KK hKK => ?_) ?_
              · go_simp
                go_wp2_with (go_at_call 50; refine hmul.mono ?_; rintro e w1 ⟨p1a, p1c, rfl, bb1, oo1⟩; have hs1 := (HSS.out.below bb1).1)
                (try (refine hKK _ _ ?_; clear hKK KK))
                refine wpAny_take (i := 7) (v := ?_) rfl (by kernel_rfl) (by kernel_rfl) (by kernel_rfl) (fun _ _ _ h => h) (Or.inl ⟨by rfl, ?_⟩) ?_
                rotate_left
                · (intro w9; go_simp) <;> with_reducible rfl
                refine wpAny_take (i := 8) (v := ?_) rfl (by kernel_rfl) (by kernel_rfl) (by kernel_rfl) (fun _ _ _ h => h) (Or.inl ⟨by rfl, ?_⟩) ?_
                rotate_left
                · (intro w9; go_simp) <;> with_reducible rfl
                refine wpAny_ready (rs := [9]) (by kernel_rfl) (by simp) ?_
                refine AllReady.cons rfl (fun KK hKK => ?_) ?_
                · go_simp
                  go_wp2_with (go_at_call 48; refine (redNeed_yes _ _).mono ?_; rintro e wn ⟨rfl, hwn⟩; obtain rfl := hwn.symm; clear hwn)
                  (try (refine hKK _ _ ?_; clear hKK KK))
                  refine wpAny_ready (rs := [10]) (by kernel_rfl) (by simp) ?_
                  refine AllReady.cons rfl (fun KK hKK => ?_) ?_
                  · go_simp
                    go_wp2_with (go_at_call 49; refine (HADD.out w1 p1a p1c (HOD.out.1.below bb1) oo1.1).mono ?_; rintro e w2 ⟨p2a, p2c, rfl, bb2, oo2⟩)
                    (try (refine hKK _ _ ?_; clear hKK KK))
                    refine wpAny_take (i := 11) (v := ?_) rfl (by kernel_rfl) (by kernel_rfl) (by kernel_rfl) (fun _ _ _ h => h) (Or.inl ⟨by rfl, ?_⟩) ?_
                    rotate_left
                    · (intro w9; go_simp) <;> with_reducible rfl
                    refine wpAny_take (i := 12) (v := ?_) rfl (by kernel_rfl) (by kernel_rfl) (by kernel_rfl) (fun _ _ _ h => h) (Or.inl ⟨by rfl, ?_⟩) ?_
                    rotate_left
                    · (intro w9; go_simp) <;> with_reducible rfl
                    refine wpAny_ready (rs := [13]) (by kernel_rfl) (by simp) ?_
                    refine AllReady.cons rfl (fun KK hKK => ?_) ?_
                    · go_simp
                      go_wp2_with (go_at_call 48; refine (redNeed_no _ _).mono ?_; rintro e wn ⟨rfl, hwn⟩; obtain rfl := hwn.symm; clear hwn)
                      exact ⟨rfl, SumPost.no (bel_next (bel_next HBD.out bb1) bb2) HN.out⟩
                    exact AllReady.nil
                  exact AllReady.nil
                exact AllReady.nil
              exact AllReady.nil
            refine AllReady.cons rfl (fun KK hKK => ?_) ?_
            · go_simp
              go_wp2_with (go_at_call 50; refine hmul.mono ?_; rintro e w1 ⟨p1a, p1c, rfl, bb1, oo1⟩; have hs1 := (HSS.out.below bb1).1)
              (try (refine hKK _ _ ?_; clear hKK KK))
              refine wpAny_take (i := 7) (v := ?_) rfl (by kernel_rfl) (by kernel_rfl) (by kernel_rfl) (fun _ _ _ h => h) (Or.inl ⟨by rfl, ?_⟩) ?_
              rotate_left
              · (intro w9; go_simp) <;> with_reducible rfl
              refine wpAny_take (i := 8) (v := ?_) rfl (by kernel_rfl) (by kernel_rfl) (by kernel_rfl) (fun _ _ _ h => h) (Or.inl ⟨by rfl, ?_⟩) ?_
              rotate_left
              · (intro w9; go_simp) <;> with_reducible rfl
              refine wpAny_ready (rs := [0, 9]) (by kernel_rfl) (by simp) ?_
              refine AllReady.cons rfl (fun KK hKK => ?_) ?_
              · go_simp
                (try (refine hKK _ _ ?_; clear hKK KK))
                refine wpAny_ready (rs := [9]) (by kernel_rfl) (by simp) ?_
                refine AllReady.cons rfl (fun KK hKK => ?_) ?_
                · go_simp
                  go_wp2_with (go_at_call 48; refine (redNeed_yes _ _).mono ?_; rintro e wn ⟨rfl, hwn⟩; obtain rfl := hwn.symm; clear hwn)
                  (try (refine hKK _ _ ?_; clear hKK KK))
                  refine wpAny_ready (rs := [10]) (by kernel_rfl) (by simp) ?_
                  refine AllReady.cons rfl (fun KK hKK => ?_) ?_
                  · go_simp
                    go_wp2_with (go_at_call 49; refine (HADD.out w1 p1a p1c (HOD.out.1.below bb1) oo1.1).mono ?_; rintro e w2 ⟨p2a, p2c, rfl, bb2, oo2⟩)
                    (try (refine hKK _ _ ?_; clear hKK KK))
                    refine wpAny_take (i := 11) (v := ?_) rfl (by kernel_rfl) (by kernel_rfl) (by kernel_rfl) (fun _ _ _ h => h) (Or.inl ⟨by rfl, ?_⟩) ?_
                    rotate_left
                    · (intro w9; go_simp) <;> with_reducible rfl
                    refine wpAny_take (i := 12) (v := ?_) rfl (by kernel_rfl) (by kernel_rfl) (by kernel_rfl) (fun _ _ _ h => h) (Or.inl ⟨by rfl, ?_⟩) ?_
                    rotate_left
                    · (intro w9; go_simp) <;> with_reducible rfl
                    refine wpAny_ready (rs := [13]) (by kernel_rfl) (by simp) ?_
                    refine AllReady.cons rfl (fun KK hKK => ?_) ?_
                    · go_simp
                      go_wp2_with (go_at_call 48; refine (redNeed_no _ _).mono ?_; rintro e wn ⟨rfl, hwn⟩; obtain rfl := hwn.symm; clear hwn)
                      exact ⟨rfl, SumPost.no (bel_next (bel_next HBD.out bb1) bb2) HN.out⟩
                    exact AllReady.nil
                  exact AllReady.nil
                exact AllReady.nil
              refine AllReady.cons rfl (fun KK hKK => ?_) ?_
              · go_simp
                go_wp2_with (go_at_call 48; refine (redNeed_yes _ _).mono ?_; rintro e wn ⟨rfl, hwn⟩; obtain rfl := hwn.symm; clear hwn)
                (try (refine hKK _ _ ?_; clear hKK KK))
                refine wpAny_ready (rs := [0]) (by kernel_rfl) (by simp) ?_
                refine AllReady.cons rfl (fun KK hKK => ?_) ?_
                · go_simp
                  (try (refine hKK _ _ ?_; clear hKK KK))
                  refine wpAny_ready (rs := [10]) (by kernel_rfl) (by simp) ?_
                  refine AllReady.cons rfl (fun KK hKK => ?_) ?_
                  · go_simp
                    go_wp2_with (go_at_call 49; refine (HADD.out w1 p1a p1c (HOD.out.1.below bb1) oo1.1).mono ?_; rintro e w2 ⟨p2a, p2c, rfl, bb2, oo2⟩)
                    (try (refine hKK _ _ ?_; clear hKK KK))
                    refine wpAny_take (i := 11) (v := ?_) rfl (by kernel_rfl) (by kernel_rfl) (by kernel_rfl) (fun _ _ _ h => h) (Or.inl ⟨by rfl, ?_⟩) ?_
                    rotate_left
                    · (intro w9; go_simp) <;> with_reducible rfl
                    refine wpAny_take (i := 12) (v := ?_) rfl (by kernel_rfl) (by kernel_rfl) (by kernel_rfl) (fun _ _ _ h => h) (Or.inl ⟨by rfl, ?_⟩) ?_
                    rotate_left
                    · (intro w9; go_simp) <;> with_reducible rfl
                    refine wpAny_ready (rs := [13]) (by kernel_rfl) (by simp) ?_
                    refine AllReady.cons rfl (fun KK hKK => ?_) ?_
                    · go_simp
                      go_wp2_with (go_at_call 48; refine (redNeed_no _ _).mono ?_; rintro e wn ⟨rfl, hwn⟩; obtain rfl := hwn.symm; clear hwn)
                      exact ⟨rfl, SumPost.no (bel_next (bel_next HBD.out bb1) bb2) HN.out⟩
                    exact AllReady.nil
                  exact AllReady.nil
                exact AllReady.nil
              exact AllReady.nil
            exact AllReady.nil
          exact AllReady.nil
        exact AllReady.nil
      · have HN := Hid.mk' ((sumPr_step HS.out).trans hst)
        rw [hw] at hmul
        clear hw hst HNO
        have hadd : ∀ (u : World) (a' : Option Addr) (c' : Nat), RL u a c K → RL u a' c' P → Calls Tryz.prog 49 #[.slice a K.length c, .slice a' P.length c'] u fun r w' => ∃ a'' c'', r = .returned (.tuple #[.slice a'' (addL K P).length c'', .bool true]) ∧ Below u.heap.size u w' ∧ Out u.heap.size w' a'' c'' (addL K P) := fun u a' c' q1 q2 => by
          have := polAddI u a a' K.length c P.length c' (lf K) (lf P) q1 q2
          rw [show polAdd (lf K) K.length (lf P) P.length = ((addL K P), true) from ha] at this
          exact this
        have HADD := Hid.mk' hadd
        clear hadd ha
        have hs0 : wr.drew.cell? ⟨w0.heap.size, 0, none⟩ = some (.slice a K.length c) := hS.1
        have e2 : wr.drew.cell? ⟨B1, 0, none⟩ = some (.slice (some ⟨b2, off2, none⟩) n c2) := hS.2.1
        have e3 : wr.drew.cell? ⟨b2, off2 + i, none⟩ = some (.slice (ad2 i) (ln2 i) (cp2 i)) := hS.2.2
        have HSS := Hid.mk' hS
        clear hS
        go_wp2_with fail
        go_region_with (first
          | (go_at_call 50; refine hmul.mono ?_; rintro e w1 ⟨p1a, p1c, rfl, bb1, oo1⟩; have hs1 := (HSS.out.below bb1).1)
          | (go_at_call 49; refine (HADD.out w1 p1a p1c (HOD.out.1.below bb1) oo1.1).mono ?_; rintro e w2 ⟨p2a, p2c, rfl, bb2, oo2⟩; have hz2 := HZ.out w1 w2 bb1 bb2; have hs2 := ((HSS.out.below bb1).below bb2).1)
          | (go_at_call 48; refine (redNeed_yes _ _).mono ?_; rintro e wn ⟨rfl, hwn⟩; obtain rfl := hwn.symm; clear hwn))
        all_goals
          have HB2 := Hid.mk' (bel_next (bel_next HBD.out bb1) bb2)
          have hz1 : w0.heap.size + 1 ≤ w1.heap.size := World.block_lt_of_cell? w1 _ hs1
          have HO2 := Hid.mk' ((oo2.low hz1).set (o := 0) (v := .slice p2a (addL K P).length p2c) (Nat.lt_succ_self _))
          have HC2 : Hid ((w2.setCell ⟨w0.heap.size, 0, none⟩ (.slice p2a (addL K P).length p2c)).cell? ⟨w0.heap.size, 0, none⟩ = some (.slice p2a (addL K P).length p2c)) := by
            show _ = _
            simp [go_sem, hs2]
          have HF2 : Hid ((w2.setCell ⟨w0.heap.size, 0, none⟩ (.slice p2a (addL K P).length p2c)).frozen? ⟨w0.heap.size, 0, none⟩ = false) := by
            show _ = _
            simp [go_sem, hz2]
          go_wp2
          go_roundw
          case rel => exact ⟨i + 1, addL K P, p2a, p2c, by omega, by go_num, HN.out, hok, HB2.out.setCell (Nat.le_refl _) _, HC2.out, HF2.out, HO2.out⟩
          case measure => simp [intOf]; omega
    · have hnl : ¬ (i : Int) < (n : Int) := by omega
      have hie : i = n := by omega
      subst hie
      go_wp2
      go_end0
      exact SumPost.yes HB.out HS.out HK.out HCL.out HO.out
end Go.Proofs.YtmlaedpamobmhaaGreat
