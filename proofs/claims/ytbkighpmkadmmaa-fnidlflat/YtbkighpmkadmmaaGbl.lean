/-
  A sum of products of two lists: the mathematics, and the model's RedSum.
  What is true of a division: what is taken and what is left is all; nothing is greater; what is left is free, and is left again; so many times an operator.
  Lists of operators as lists; whether two are the same (laws.heList).
-/
import Derived.Test.YtbkighpmkadmmaaGah
import Derived.Test.YtbkighpmkadmmaaGbb
import Derived.Test.YtbkighpmkadmmaaGbf
import Derived.Test.YtbkighpmkadmmaaGbc
import Derived.Test.YtbkighpmkadmmaaGau
namespace Go.Proofs.Ytbkighpmkadmmaa
open Go.RowKit Go.Deep Go.Joins
set_option linter.unusedVariables false

/-- a product more. -/
def stepS (K : List T) (q : Nat → T) (lq : Nat) (l : Nat → T) (ll : Nat) : Option (List T) :=
  if (wylMul q lq l ll).2 = true then (if (addV K (wylMul q lq l ll).1).2 = true then some (addV K (wylMul q lq l ll).1).1 else none) else none
/-- the first products' sum; none, if it is too much. -/
def sumPr (ln1 : Nat → Nat) (f1 : Nat → Nat → T) (ln2 : Nat → Nat) (f2 : Nat → Nat → T) : Nat → Option (List T)
  | 0 => some []
  | i + 1 => match sumPr ln1 f1 ln2 f2 i with
    | some K => stepS K (f1 i) (ln1 i) (f2 i) (ln2 i)
    | none => none
def redSum (n1 : Nat) (ln1 : Nat → Nat) (f1 : Nat → Nat → T) (n2 : Nat) (ln2 : Nat → Nat) (f2 : Nat → Nat → T) : List T × Bool := if n1 = n2 ∧ n2 ≤ 12 then mulO (sumPr ln1 f1 ln2 f2 n2) else ([], false)
theorem step_cases {K : List T} (hK : okL K = true) (q : Nat → T) (lq : Nat) (l : Nat → T) (ll : Nat) :
    ((polOk lq q = false ∨ (polOk lq q = true ∧ polOk ll l = false)) ∧ wylMul q lq l ll = ([], false) ∧ stepS K q lq l ll = none) ∨
    (polOk lq q = true ∧ polOk ll l = true ∧ mulM q l ll lq = none ∧ wylMul q lq l ll = ([], false) ∧ stepS K q lq l ll = none) ∨
    (∃ P, polOk lq q = true ∧ polOk ll l = true ∧ mulM q l ll lq = some P ∧ wylMul q lq l ll = (P, true) ∧ okL P = true ∧ 400 < (addL K P).length ∧ addV K P = ([], false) ∧ stepS K q lq l ll = none) ∨
    (∃ P, polOk lq q = true ∧ polOk ll l = true ∧ mulM q l ll lq = some P ∧ wylMul q lq l ll = (P, true) ∧ okL P = true ∧ (addL K P).length ≤ 400 ∧ addV K P = (addL K P, true) ∧ stepS K q lq l ll = some (addL K P) ∧ okL (addL K P) = true) := by
  cases h1 : polOk lq q
  · have e : wylMul q lq l ll = ([], false) := if_neg (fun hh => by rw [h1] at hh; simp at hh)
    exact .inl ⟨.inl rfl, e, by unfold stepS; rw [e]; rfl⟩
  · cases h2 : polOk ll l
    · have e : wylMul q lq l ll = ([], false) := if_neg (fun hh => by rw [h2] at hh; simp at hh)
      exact .inl ⟨.inr ⟨rfl, rfl⟩, e, by unfold stepS; rw [e]; rfl⟩
    · have e0 : wylMul q lq l ll = mulO (mulM q l ll lq) := if_pos ⟨h1, h2⟩
      cases hm : mulM q l ll lq with
      | none =>
        have e : wylMul q lq l ll = ([], false) := by rw [e0, hm]; rfl
        exact .inr (.inl ⟨rfl, rfl, rfl, e, by unfold stepS; rw [e]; rfl⟩)
      | some P =>
        have e : wylMul q lq l ll = (P, true) := by rw [e0, hm]; rfl
        have hP : okL P = true := okL_of (mulM_len _ P hm) (mulM_falls2 (good_ok h1).2 (good_ok h2).2 _ P (Nat.le_refl _) hm)
        by_cases h4 : (addL K P).length ≤ 400
        · have ea := addV_ok hK hP h4
          refine .inr (.inr (.inr ⟨P, rfl, rfl, rfl, e, hP, h4, ea, ?_, okL_of h4 (addL_facts (okL_falls hK).2 (okL_falls hP).2).1⟩))
          unfold stepS
          rw [e]
          show (if (true = true) then (if (addV K P).2 = true then some (addV K P).1 else none) else none) = _
          rw [ea]; rfl
        · have ea : addV K P = ([], false) := if_neg (fun hh => h4 hh.2.2)
          refine .inr (.inr (.inl ⟨P, rfl, rfl, rfl, e, hP, by omega, ea, ?_⟩))
          unfold stepS
          rw [e]
          show (if (true = true) then (if (addV K P).2 = true then some (addV K P).1 else none) else none) = _
          rw [ea]; rfl
theorem sumPr_none {ln1 : Nat → Nat} {f1 : Nat → Nat → T} {ln2 : Nat → Nat} {f2 : Nat → Nat → T} {i : Nat} (h : sumPr ln1 f1 ln2 f2 i = none) : ∀ d, sumPr ln1 f1 ln2 f2 (i + d) = none
  | 0 => h
  | d + 1 => by
    show (match sumPr ln1 f1 ln2 f2 (i + d) with | some K => stepS K (f1 (i + d)) (ln1 (i + d)) (f2 (i + d)) (ln2 (i + d)) | none => none) = none
    rw [sumPr_none h d]
theorem sumPr_step {ln1 : Nat → Nat} {f1 : Nat → Nat → T} {ln2 : Nat → Nat} {f2 : Nat → Nat → T} {i : Nat} {K : List T} (h : sumPr ln1 f1 ln2 f2 i = some K) : sumPr ln1 f1 ln2 f2 (i + 1) = stepS K (f1 i) (ln1 i) (f2 i) (ln2 i) := by
  show (match sumPr ln1 f1 ln2 f2 i with | some K => stepS K (f1 i) (ln1 i) (f2 i) (ln2 i) | none => none) = _
  rw [h]
theorem redSum_bad {n1 : Nat} {ln1 : Nat → Nat} {f1 : Nat → Nat → T} {n2 : Nat} {ln2 : Nat → Nat} {f2 : Nat → Nat → T} {i : Nat} {K : List T} (hi : i < n2) (h : sumPr ln1 f1 ln2 f2 i = some K) (hs : stepS K (f1 i) (ln1 i) (f2 i) (ln2 i) = none) : redSum n1 ln1 f1 n2 ln2 f2 = ([], false) := by
  unfold redSum
  split
  · have := sumPr_none ((sumPr_step h).trans hs) (n2 - (i + 1))
    rw [show i + 1 + (n2 - (i + 1)) = n2 by omega] at this
    rw [this]; rfl
  · rfl
abbrev C2 (b1 o1 : Nat) (v1 : Value) (b2 o2 : Nat) (v2 : Value) (u : World) : Prop := u.cell? ⟨b1, o1, none⟩ = some v1 ∧ u.cell? ⟨b2, o2, none⟩ = some v2
theorem C2.below {b1 o1 b2 o2 : Nat} {v1 v2 : Value} {u u' : World} (h : C2 b1 o1 v1 b2 o2 v2 u) (hb : Below u.heap.size u u') : C2 b1 o1 v1 b2 o2 v2 u' :=
  ⟨(hb.cell (p := ⟨b1, o1, none⟩) (World.block_lt_of_cell? u _ h.1)).trans h.1, (hb.cell (p := ⟨b2, o2, none⟩) (World.block_lt_of_cell? u _ h.2)).trans h.2⟩
set_option maxRecDepth 100000 in
set_option maxHeartbeats 8000000 in
theorem redSumS (w : World) (a1 : Option Addr) (n1 c1 : Nat) (ad1 : Nat → Option Addr) (ln1 cp1 : Nat → Nat) (f1 : Nat → Nat → T) (h1 : RdS w a1 n1 c1 ad1 ln1 cp1 f1) (a2 : Option Addr) (n2 c2 : Nat) (ad2 : Nat → Option Addr) (ln2 cp2 : Nat → Nat) (f2 : Nat → Nat → T) (h2 : RdS w a2 n2 c2 ad2 ln2 cp2 f2) :
    Calls Try.prog 28 #[.slice a1 n1 c1, .slice a2 n2 c2] w fun r w' => ∃ v, r = .returned (.tuple #[v, .bool (redSum n1 ln1 f1 n2 ln2 f2).2]) ∧ Below w.heap.size w w' ∧ w'.ownsRow w.heap.size 33 5 v (redSum n1 ln1 f1 n2 ln2 f2).1.length (cellsL (redSum n1 ln1 f1 n2 ln2 f2).1) := by
  have q1 : (n1 : Int) ≤ 140737488351232 := by have := h1.2.1; omega
  have q2 : (n2 : Int) ≤ 140737488351232 := by have := h2.2.1; omega
  have H1 := Hid.mk' h1
  have H2 := Hid.mk' h2
  have HB0 := Hid.mk' (bel_one w (.cells #[] 33))
  have HO0 := Hid.mk' (owns_none w w.heap.size (Nat.le_refl _))
  clear h1 h2
  by_cases hn : n1 = n2 ∧ n2 ≤ 12
  · obtain ⟨hn1, hn2⟩ := hn
    have HE : Hid (redSum n1 ln1 f1 n2 ln2 f2 = mulO (sumPr ln1 f1 ln2 f2 n2)) := if_pos ⟨hn1, hn2⟩
    subst hn1
    have hne : ((n1 : Int) != (n1 : Int)) = false := by simp
    have hng : ¬ (12 : Int) < (n1 : Int) := by omega
    go_enter Try.func28, Try.ntmps28
    go_wp2
    go_loopw [6, 7] (fun v ii wr => ∃ (i : Nat) (K : List T), i ≤ n1 ∧ ii = .int .i64 (i : Int) ∧ sumPr ln1 f1 ln2 f2 i = some K ∧ okL K = true ∧ Below w.heap.size w wr ∧ wr.ownsRow w.heap.size 33 5 v K.length (cellsL K)) (fun _ ii _ => n1 - (intOf ii).toNat)
    case atStart => exact ⟨0, [], Nat.zero_le _, rfl, rfl, okL_nil, HB0.out, HO0.out⟩
    case round =>
      obtain ⟨i, K, hi, rfl, hs, hK, hB, hown⟩ := hrel
      have HS := Hid.mk' hs
      have HK := Hid.mk' hK
      have HB := Hid.mk' hB
      have HO := Hid.mk' hown
      clear hs
      by_cases hlt : i < n1
      · rcases H1.out.2.2.1 with h0 | ⟨b1, off1, rfl, hb1, hc1⟩
        · omega
        rcases H2.out.2.2.1 with h0 | ⟨b2, off2, rfl, hb2, hc2⟩
        · omega
        have hil : (i : Int) < (n1 : Int) := by omega
        have g1 : wr.cell? ⟨b1, off1 + i, none⟩ = some (.slice (ad1 i) (ln1 i) (cp1 i)) := (hB.cell (p := ⟨b1, off1 + i, none⟩) hb1).trans (hc1 i hlt)
        have g2 : wr.cell? ⟨b2, off2 + i, none⟩ = some (.slice (ad2 i) (ln2 i) (cp2 i)) := (hB.cell (p := ⟨b2, off2 + i, none⟩) hb2).trans (hc2 i hlt)
        have hS : C2 b1 (off1 + i) (.slice (ad1 i) (ln1 i) (cp1 i)) b2 (off2 + i) (.slice (ad2 i) (ln2 i) (cp2 i)) wr := ⟨g1, g2⟩
        have R1 := Hid.mk' ((H1.out.2.2.2 i hlt).below hB)
        have R2 := Hid.mk' ((H2.out.2.2.2 i hlt).below hB)
        have HC := Hid.mk' hS
        clear hc1 hc2 hB hown hS
        rcases step_cases HK.out (f1 i) (ln1 i) (f2 i) (ln2 i) with ⟨hp, _, hst⟩ | ⟨p1, p2, hm, _, hst⟩ | ⟨P, p1, p2, hm, _, hP, hl, _, hst⟩ | ⟨P, p1, p2, hm, _, hP, hl, _, hst, hok⟩
        · have HR := Hid.mk' (redSum_bad (n1 := n1) hlt HS.out hst)
          rcases hp with p1 | ⟨p1, p2⟩
          · go_wp2_with fail
            refine (polOkS _ _ _ _ (f1 i) R1.out).mono ?_
            rw [p1]
            rintro r w1 ⟨rfl, hb⟩
            have HB1 := Hid.mk' (bel_next HB.out hb)
            clear hb g1 g2
            go_wp2
            refine bodyPost_ret (results_tmp2 rfl _ _ _) rfl ?_
            rw [HR.out]
            exact ⟨_, rfl, HB1.out.alloc HB1.out.size _, owns_none w1 w.heap.size HB1.out.size⟩
          · go_wp2_with fail
            refine (polOkS _ _ _ _ (f1 i) R1.out).mono ?_
            rw [p1]
            rintro r w1 ⟨rfl, hb⟩
            have HB1 := Hid.mk' (bel_next HB.out hb)
            have HR2 := Hid.mk' (R2.out.below hb)
            obtain ⟨g1', g2'⟩ := HC.out.below hb
            clear hb g1 g2
            go_wp2_with fail
            refine (polOkS _ _ _ _ (f2 i) HR2.out).mono ?_
            rw [p2]
            rintro r w2 ⟨rfl, hb⟩
            have HB2 := Hid.mk' (bel_next HB1.out hb)
            clear hb g1' g2'
            go_wp2
            refine bodyPost_ret (results_tmp2 rfl _ _ _) rfl ?_
            rw [HR.out]
            exact ⟨_, rfl, HB2.out.alloc HB2.out.size _, owns_none w2 w.heap.size HB2.out.size⟩
        · have HR := Hid.mk' (redSum_bad (n1 := n1) hlt HS.out hst)
          have hmul : ∀ u : World, Rd u (ad1 i) (ln1 i) (cp1 i) (f1 i) → Rd u (ad2 i) (ln2 i) (cp2 i) (f2 i) → Calls Try.prog 65 #[.slice (ad1 i) (ln1 i) (cp1 i), .slice (ad2 i) (ln2 i) (cp2 i)] u fun r w' => ∃ v, r = .returned (.tuple #[v, .bool false]) ∧ Below u.heap.size u w' ∧ w'.ownsRow u.heap.size 33 5 v ([] : List T).length (cellsL ([] : List T)) := fun u k1 k2 => by
            have := mulS4 u (ad1 i) (ad2 i) (ln1 i) (cp1 i) (ln2 i) (cp2 i) (f1 i) (f2 i) k1 k2 (good_ok p1).1 (good_ok p2).1 (good_ok p1).2 (good_ok p2).2
            rw [hm] at this
            exact this
          have HMUL := Hid.mk' hmul
          clear hmul hm hst
          go_wp2_with fail
          refine (polOkS _ _ _ _ (f1 i) R1.out).mono ?_
          rw [p1]
          rintro r w1 ⟨rfl, hb⟩
          have HB1 := Hid.mk' (bel_next HB.out hb)
          have R11 := Hid.mk' (R1.out.below hb)
          have R21 := Hid.mk' (R2.out.below hb)
          have HO1 := Hid.mk' (owns_below HO.out hb)
          have HC1 := Hid.mk' (HC.out.below hb)
          obtain ⟨g1', g2'⟩ := HC.out.below hb
          clear hb g1 g2 HC R1 R2 HO HB
          go_wp2_with fail
          refine (polOkS _ _ _ _ (f2 i) R21.out).mono ?_
          rw [p2]
          rintro r w2 ⟨rfl, hb⟩
          have HB2 := Hid.mk' (bel_next HB1.out hb).drew
          have hS2 : C2 b1 (off1 + i) (.slice (ad1 i) (ln1 i) (cp1 i)) b2 (off2 + i) (.slice (ad2 i) (ln2 i) (cp2 i)) w2.drew := (HC1.out.below hb).below (Below.refl _ _).drew
          have hcall := HMUL.out w2.drew ((R11.out.below hb).below (Below.refl _ _).drew) ((R21.out.below hb).below (Below.refl _ _).drew)
          have HO2 := Hid.mk' (owns_below (owns_below HO1.out hb) (Below.refl _ _).drew)
          clear hb g1' g2' HMUL R11 R21 HC1 HB1 HO1
          go_wp2_with fail
          go_region_held3 (fun u => u.cell? ⟨b1, off1 + i, none⟩ = some (.slice (ad1 i) (ln1 i) (cp1 i)) ∧ u.cell? ⟨b2, off2 + i, none⟩ = some (.slice (ad2 i) (ln2 i) (cp2 i))) (first | with_reducible exact hS2 | with_reducible exact C2.below hS2 hb3) (first | (go_at_call 65; refine hcall.mono ?_; rintro e w3 ⟨v3, rfl, hb3, ho3⟩))
          have HB3 := Hid.mk' (bel_next HB2.out hb3)
          have HO3 := Hid.mk' (owns_below HO2.out hb3)
          clear hS2 hcall hb3 HO2 HB2
          clear ho3 HO3
          go_wp2
          refine bodyPost_ret (results_tmp2 rfl _ _ _) rfl ?_
          rw [HR.out]
          exact ⟨_, rfl, HB3.out.alloc HB3.out.size _, owns_none w3 w.heap.size HB3.out.size⟩
        · have HR := Hid.mk' (redSum_bad (n1 := n1) hlt HS.out hst)
          have hmul : ∀ u : World, Rd u (ad1 i) (ln1 i) (cp1 i) (f1 i) → Rd u (ad2 i) (ln2 i) (cp2 i) (f2 i) → Calls Try.prog 65 #[.slice (ad1 i) (ln1 i) (cp1 i), .slice (ad2 i) (ln2 i) (cp2 i)] u fun r w' => ∃ v, r = .returned (.tuple #[v, .bool true]) ∧ Below u.heap.size u w' ∧ w'.ownsRow u.heap.size 33 5 v P.length (cellsL P) := fun u k1 k2 => by
            have := mulS4 u (ad1 i) (ad2 i) (ln1 i) (cp1 i) (ln2 i) (cp2 i) (f1 i) (f2 i) k1 k2 (good_ok p1).1 (good_ok p2).1 (good_ok p1).2 (good_ok p2).2
            rw [hm] at this
            exact this
          have HMUL := Hid.mk' hmul
          clear hmul hm hst
          go_wp2_with fail
          refine (polOkS _ _ _ _ (f1 i) R1.out).mono ?_
          rw [p1]
          rintro r w1 ⟨rfl, hb⟩
          have HB1 := Hid.mk' (bel_next HB.out hb)
          have R11 := Hid.mk' (R1.out.below hb)
          have R21 := Hid.mk' (R2.out.below hb)
          have HO1 := Hid.mk' (owns_below HO.out hb)
          have HC1 := Hid.mk' (HC.out.below hb)
          obtain ⟨g1', g2'⟩ := HC.out.below hb
          clear hb g1 g2 HC R1 R2 HO HB
          go_wp2_with fail
          refine (polOkS _ _ _ _ (f2 i) R21.out).mono ?_
          rw [p2]
          rintro r w2 ⟨rfl, hb⟩
          have HB2 := Hid.mk' (bel_next HB1.out hb).drew
          have hS2 : C2 b1 (off1 + i) (.slice (ad1 i) (ln1 i) (cp1 i)) b2 (off2 + i) (.slice (ad2 i) (ln2 i) (cp2 i)) w2.drew := (HC1.out.below hb).below (Below.refl _ _).drew
          have hcall := HMUL.out w2.drew ((R11.out.below hb).below (Below.refl _ _).drew) ((R21.out.below hb).below (Below.refl _ _).drew)
          have HO2 := Hid.mk' (owns_below (owns_below HO1.out hb) (Below.refl _ _).drew)
          clear hb g1' g2' HMUL R11 R21 HC1 HB1 HO1
          go_wp2_with fail
          go_region_held3 (fun u => u.cell? ⟨b1, off1 + i, none⟩ = some (.slice (ad1 i) (ln1 i) (cp1 i)) ∧ u.cell? ⟨b2, off2 + i, none⟩ = some (.slice (ad2 i) (ln2 i) (cp2 i))) (first | with_reducible exact hS2 | with_reducible exact C2.below hS2 hb3) (first | (go_at_call 65; refine hcall.mono ?_; rintro e w3 ⟨v3, rfl, hb3, ho3⟩))
          have HB3 := Hid.mk' (bel_next HB2.out hb3)
          have HO3 := Hid.mk' (owns_below HO2.out hb3)
          clear hS2 hcall hb3 HO2 HB2
          obtain ⟨hP4, hPf⟩ := okL_falls hP
          obtain ⟨hK4, hKf⟩ := okL_falls HK.out
          obtain ⟨a3, c3, rfl, hout3⟩ := out_of_owns ho3 (by omega)
          have hO3 := HO3.out
          obtain ⟨aK, cK, rfl, houtK⟩ := out_of_owns hO3 (by omega)
          have hadd : Calls Try.prog 66 #[.slice aK K.length cK, .slice a3 P.length c3] w3 fun r w' => ∃ v, r = .returned v ∧ Below w3.heap.size w3 w' ∧ w'.ownsRow w3.heap.size 33 5 v (addL K P).length (cellsL (addL K P)) := l3AddS w3 aK a3 K.length cK P.length c3 (lf K) (lf P) houtK.1 hout3.1 (by omega) ((cok_falls hKf).at) ((cok_falls hPf).at)
          have HADD := Hid.mk' hadd
          clear hadd ho3 hout3 houtK hO3 HO3
          go_wp2_with fail
          refine HADD.out.mono ?_
          rintro r w4 ⟨v4, rfl, hb4, ho4⟩
          obtain ⟨a4, c4, rfl, hout4⟩ := out_of_owns ho4 (by have := addL_len K P; omega)
          have HB4 := Hid.mk' (bel_next HB3.out hb4)
          have HO4 := Hid.mk' (ownsRow_low ho4 HB3.out.size)
          clear hb4 ho4 hout4 HADD
          have h4 : (400 : Int) < ((addL K P).length : Int) := by omega
          go_wp2
          refine bodyPost_ret (results_tmp2 rfl _ _ _) rfl ?_
          rw [HR.out]
          exact ⟨_, rfl, HB4.out.alloc HB4.out.size _, owns_none w4 w.heap.size HB4.out.size⟩
        · skip
          have HN := Hid.mk' ((sumPr_step HS.out).trans hst)
          have hmul : ∀ u : World, Rd u (ad1 i) (ln1 i) (cp1 i) (f1 i) → Rd u (ad2 i) (ln2 i) (cp2 i) (f2 i) → Calls Try.prog 65 #[.slice (ad1 i) (ln1 i) (cp1 i), .slice (ad2 i) (ln2 i) (cp2 i)] u fun r w' => ∃ v, r = .returned (.tuple #[v, .bool true]) ∧ Below u.heap.size u w' ∧ w'.ownsRow u.heap.size 33 5 v P.length (cellsL P) := fun u k1 k2 => by
            have := mulS4 u (ad1 i) (ad2 i) (ln1 i) (cp1 i) (ln2 i) (cp2 i) (f1 i) (f2 i) k1 k2 (good_ok p1).1 (good_ok p2).1 (good_ok p1).2 (good_ok p2).2
            rw [hm] at this
            exact this
          have HMUL := Hid.mk' hmul
          clear hmul hm hst
          go_wp2_with fail
          refine (polOkS _ _ _ _ (f1 i) R1.out).mono ?_
          rw [p1]
          rintro r w1 ⟨rfl, hb⟩
          have HB1 := Hid.mk' (bel_next HB.out hb)
          have R11 := Hid.mk' (R1.out.below hb)
          have R21 := Hid.mk' (R2.out.below hb)
          have HO1 := Hid.mk' (owns_below HO.out hb)
          have HC1 := Hid.mk' (HC.out.below hb)
          obtain ⟨g1', g2'⟩ := HC.out.below hb
          clear hb g1 g2 HC R1 R2 HO HB
          go_wp2_with fail
          refine (polOkS _ _ _ _ (f2 i) R21.out).mono ?_
          rw [p2]
          rintro r w2 ⟨rfl, hb⟩
          have HB2 := Hid.mk' (bel_next HB1.out hb).drew
          have hS2 : C2 b1 (off1 + i) (.slice (ad1 i) (ln1 i) (cp1 i)) b2 (off2 + i) (.slice (ad2 i) (ln2 i) (cp2 i)) w2.drew := (HC1.out.below hb).below (Below.refl _ _).drew
          have hcall := HMUL.out w2.drew ((R11.out.below hb).below (Below.refl _ _).drew) ((R21.out.below hb).below (Below.refl _ _).drew)
          have HO2 := Hid.mk' (owns_below (owns_below HO1.out hb) (Below.refl _ _).drew)
          clear hb g1' g2' HMUL R11 R21 HC1 HB1 HO1
          go_wp2_with fail
          go_region_held3 (fun u => u.cell? ⟨b1, off1 + i, none⟩ = some (.slice (ad1 i) (ln1 i) (cp1 i)) ∧ u.cell? ⟨b2, off2 + i, none⟩ = some (.slice (ad2 i) (ln2 i) (cp2 i))) (first | with_reducible exact hS2 | with_reducible exact C2.below hS2 hb3) (first | (go_at_call 65; refine hcall.mono ?_; rintro e w3 ⟨v3, rfl, hb3, ho3⟩))
          have HB3 := Hid.mk' (bel_next HB2.out hb3)
          have HO3 := Hid.mk' (owns_below HO2.out hb3)
          clear hS2 hcall hb3 HO2 HB2
          obtain ⟨hP4, hPf⟩ := okL_falls hP
          obtain ⟨hK4, hKf⟩ := okL_falls HK.out
          obtain ⟨a3, c3, rfl, hout3⟩ := out_of_owns ho3 (by omega)
          have hO3 := HO3.out
          obtain ⟨aK, cK, rfl, houtK⟩ := out_of_owns hO3 (by omega)
          have hadd : Calls Try.prog 66 #[.slice aK K.length cK, .slice a3 P.length c3] w3 fun r w' => ∃ v, r = .returned v ∧ Below w3.heap.size w3 w' ∧ w'.ownsRow w3.heap.size 33 5 v (addL K P).length (cellsL (addL K P)) := l3AddS w3 aK a3 K.length cK P.length c3 (lf K) (lf P) houtK.1 hout3.1 (by omega) ((cok_falls hKf).at) ((cok_falls hPf).at)
          have HADD := Hid.mk' hadd
          clear hadd ho3 hout3 houtK hO3 HO3
          go_wp2_with fail
          refine HADD.out.mono ?_
          rintro r w4 ⟨v4, rfl, hb4, ho4⟩
          obtain ⟨a4, c4, rfl, hout4⟩ := out_of_owns ho4 (by have := addL_len K P; omega)
          have HB4 := Hid.mk' (bel_next HB3.out hb4)
          have HO4 := Hid.mk' (ownsRow_low ho4 HB3.out.size)
          clear hb4 ho4 hout4 HADD
          have h4 : ¬ (400 : Int) < ((addL K P).length : Int) := by omega
          go_wp2
          go_roundw
          case rel => exact ⟨i + 1, addL K P, by omega, by go_num, HN.out, hok, HB4.out, HO4.out⟩
          case measure => simp [intOf]; omega
      · have hnl : ¬ (i : Int) < (n1 : Int) := by omega
        have hie : i = n1 := by omega
        subst hie
        have e2 : redSum i ln1 f1 i ln2 f2 = (K, true) := by rw [HE.out, HS.out]; rfl
        have HE2 := Hid.mk' e2
        clear e2 hown
        go_wp2
        refine bodyPost_ret (results_tmp2 rfl _ _ _) rfl ?_
        rw [HE2.out]
        exact ⟨_, rfl, HB.out, HO.out⟩
  · have HE : Hid (redSum n1 ln1 f1 n2 ln2 f2 = ([], false)) := if_neg hn
    by_cases he : n1 = n2
    · subst he
      have hne : ((n1 : Int) != (n1 : Int)) = false := by simp
      have hng : (12 : Int) < (n1 : Int) := by omega
      go_enter Try.func28, Try.ntmps28
      go_wp2
      refine bodyPost_ret (results_tmp2 rfl _ _ _) rfl ?_
      rw [HE.out]
      exact ⟨_, rfl, HB0.out, HO0.out⟩
    · have hne : ((n1 : Int) != (n2 : Int)) = true := by simp; omega
      go_enter Try.func28, Try.ntmps28
      go_wp2
      refine bodyPost_ret (results_tmp2 rfl _ _ _) rfl ?_
      rw [HE.out]
      exact ⟨_, rfl, HB0.out, HO0.out⟩
end Go.Proofs.Ytbkighpmkadmmaa
namespace Go.Proofs.Ytbkighpmkadmmaa
open Go.RowKit Go.Deep Go.Joins
set_option linter.unusedVariables false

/-- lists of operators, by their places. -/
abbrev fN (L : Nat → List T) : Nat → Nat → T := fun i => lf (L i)
abbrev lN (L : Nat → List T) : Nat → Nat := fun i => (L i).length
theorem ldAt_L (o : Int) (L : Nat → List T) (i : Nat) : ldAt o (lN L) (fN L) i = ldL o (L i) := rfl
theorem mulM1_wm {t : T} {B Y : List T} (ht : okL [t] = true) (hB : okL B = true) (h : mulM (lf [t]) (lf B) B.length 1 = some Y) : wmV [t] B = (Y, true) := by
  unfold wmV wylMul
  rw [if_pos ⟨ht, hB⟩]
  show mulO (mulM (lf [t]) (lf B) B.length 1) = _
  rw [h]; rfl
/-- what stands in a sum. -/
theorem mem_add {A B : List T} (hA : Falls A) (hB : Falls B) {s : T} (hs : s ∈ addL A B) : (∃ a ∈ A, a.m = s.m) ∨ (∃ b ∈ B, b.m = s.m) := by
  obtain ⟨hf, hc⟩ := addL_facts hA hB
  have h1 := (mem_coefV hf hs).2
  rw [hc] at h1
  by_cases ha : coef A s.m = 0
  · by_cases hb : coef B s.m = 0
    · rw [ha, hb] at h1; exact absurd rfl h1
    · obtain ⟨b, h2, h3⟩ := List.mem_map.1 (coef_mem hb)
      exact .inr ⟨b, h2, h3⟩
  · obtain ⟨a, h2, h3⟩ := List.mem_map.1 (coef_mem ha)
    exact .inl ⟨a, h2, h3⟩
theorem mem_sc {c : Int} {A : List T} {s : T} (hs : s ∈ scL c A) : ∃ a ∈ A, a.m = s.m := by
  rw [scL_map] at hs
  obtain ⟨a, h1, rfl⟩ := List.mem_map.1 hs
  exact ⟨a, h1, rfl⟩
theorem mem_sub {A B : List T} (hA : Falls A) (hB : Falls B) {s : T} (hs : s ∈ subL A B) : (∃ a ∈ A, a.m = s.m) ∨ (∃ b ∈ B, b.m = s.m) := by
  rcases mem_add hA (scL_falls (by omega) (by omega) hB) hs with h | ⟨b, h1, h2⟩
  · exact .inl h
  · obtain ⟨a, h3, h4⟩ := mem_sc h1
    exact .inr ⟨a, h3, h4.trans h2⟩
/-- how a step goes. -/
theorem dvStep_cases {o : Int} {n : Nat} {L : Nat → List T} (hl : lstOk n (lN L) (fN L) = true) {S S' : Dv} (hp : okL S.p = true) (h0 : S.p.length ≠ 0) (hs : dvStep o n (lN L) (fN L) S = some S') :
    (∃ k Y, k < n ∧ M.dvd (ldL o (L k)).m (ldL o S.p).m = true ∧ okL [overT (ldL o S.p) (ldL o (L k))] = true ∧ wmV [overT (ldL o S.p) (ldL o (L k))] (L k) = (Y, true) ∧ (subL S.p Y).length ≤ 400 ∧ S' = ⟨subL S.p Y, updQ S.q k (addL (S.q k) [overT (ldL o S.p) (ldL o (L k))]), S.r⟩) ∨
    ((∀ i, i < n → M.dvd (ldL o (L i)).m (ldL o S.p).m = false) ∧ S' = dvLeave o S) := by
  unfold dvStep at hs
  split at hs
  · rename_i hk
    have hf := dvK_facts hk
    have hg := dvT_good hl hp h0 hk
    generalize (dvK o n (lN L) (fN L) (ldL o S.p).m).toNat = k at hs hf hg
    unfold dvTake at hs
    split at hs
    · cases hs
    · rename_i Y hY
      split at hs
      · rename_i hle
        cases hs
        have ho := one_ok hg
        exact .inl ⟨k, Y, hf.1, hf.2, ho, mulM1_wm ho ((lstOk_all hl).2 k hf.1).2 hY, hle, rfl⟩
      · cases hs
  · rename_i hk
    cases hs
    refine .inr ⟨fun i hi => ?_, rfl⟩
    cases hd : M.dvd (ldL o (L i)).m (ldL o S.p).m
    · rfl
    · exact absurd (idx_iff.2 ⟨i, hi, hd⟩) hk
/-- whatever a step keeps, a division keeps. -/
theorem dvRun_keeps {o : Int} {n : Nat} {L : Nat → List T} (hl : lstOk n (lN L) (fN L) = true) (I : Dv → Prop) (hI : ∀ u S S', DvOk u S → S.p.length ≠ 0 → I S → dvStep o n (lN L) (fN L) S = some S' → I S') :
    ∀ {v u : Nat} {S S' : Dv}, DvOk u S → I S → dvRun o n (lN L) (fN L) v S = some S' → I S'
  | 0, u, S, S', h, hi, hr => by
    unfold dvRun at hr
    split at hr
    · cases hr; exact hi
    · cases hr
  | v + 1, u, S, S', h, hi, hr => by
    by_cases h0 : S.p.length = 0
    · rw [dvRun_done h0] at hr
      cases hr
      exact hi
    · cases hs : dvStep o n (lN L) (fN L) S with
      | none => rw [dvRun_no h0 hs] at hr; cases hr
      | some S1 =>
        rw [dvRun_step h0 hs] at hr
        exact dvRun_keeps hl I hI (dvStep_ok hl h h0 hs) (hI u S S1 h h0 hi hs) hr
theorem redAll_some {o : Int} {p : List T} {n : Nat} {L : Nat → List T} {S : Dv} (h : redAll o p n (lN L) (fN L) = some S) : (1 ≤ o ∧ o ≤ 3) ∧ okL p = true ∧ lstOk n (lN L) (fN L) = true ∧ dvRun o n (lN L) (fN L) 300 (dvOf p) = some S := by
  unfold redAll at h
  split at h
  · rename_i hh
    exact ⟨hh.1, hh.2.1, hh.2.2, h⟩
  · cases h
theorem redAll_keeps {o : Int} {p : List T} {n : Nat} {L : Nat → List T} {S : Dv} (h : redAll o p n (lN L) (fN L) = some S) (I : Dv → Prop) (h0 : I (dvOf p)) (hI : ∀ u S S', DvOk u S → S.p.length ≠ 0 → I S → dvStep o n (lN L) (fN L) S = some S' → I S') : I S := by
  obtain ⟨_, h2, h3, h4⟩ := redAll_some h
  exact dvRun_keeps h3 I hI (DvOk.start h2) h0 h4
theorem redAll_ok {o : Int} {p : List T} {n : Nat} {L : Nat → List T} {S : Dv} (h : redAll o p n (lN L) (fN L) = some S) : DvOk 300 S ∧ S.p = [] := by
  obtain ⟨_, h2, h3, h4⟩ := redAll_some h
  have := dvRun_ok h3 (DvOk.start h2) h4
  exact ⟨by simpa using this.1, this.2⟩
/-! all that is taken, and what is left -/
theorem sumN_upd (F : Nat → Lq) (X : Lq) (k : Nat) : ∀ n, k < n → Lq.sumN (fun i => if i = k then Lq.sum (F i) X else F i) n = Lq.sum (Lq.sumN F n) X
  | 0, h => by omega
  | n + 1, h => by
    rw [Lq.sumN, Lq.sumN]
    by_cases e : k = n
    · subst e
      rw [if_pos rfl, Lq.sumN_congr (g := F) (fun i hi => if_neg (by omega)), Lq.sum_assoc]
    · rw [sumN_upd F X k n (by omega), if_neg (fun h => e h.symm), Lq.sum_assoc, Lq.sum_assoc, Lq.sum_comm X]
def qsum (g : Gen) (n : Nat) (L : Nat → List T) (q : Nat → List T) : Lq := Lq.sumN (fun i => Lq.mul (Rp g (q i)) (Rp g (L i))) n
theorem sumN_nils : ∀ n, Lq.sumN (fun _ => Lq.nil) n = Lq.nil
  | 0 => rfl
  | n + 1 => by rw [Lq.sumN, sumN_nils n, Lq.sum_nil]
theorem qsum_nil (g : Gen) (n : Nat) (L : Nat → List T) : qsum g n L (fun _ => []) = Lq.nil := by
  unfold qsum
  rw [Lq.sumN_congr (g := fun _ => Lq.nil) (fun i _ => by rw [Rp_nil, Lq.nil_mul]), sumN_nils]
theorem qsum_upd (g : Gen) {n : Nat} {L q : Nat → List T} {k : Nat} {t : T} (hk : k < n) (hq : Falls (q k)) (ht : okL [t] = true) : qsum g n L (updQ q k (addL (q k) [t])) = Lq.sum (qsum g n L q) (Lq.mul (Rp g [t]) (Rp g (L k))) := by
  unfold qsum
  rw [← sumN_upd _ _ k n hk]
  refine Lq.sumN_congr (fun i _ => ?_)
  unfold updQ
  split
  · rename_i e
    subst e
    rw [Rp_add g hq (okL_falls ht).2, Lq.sum_mul]
  · rfl
theorem redAll_all (g : Gen) {o : Int} {p : List T} {n : Nat} {L : Nat → List T} {S : Dv} (h : redAll o p n (lN L) (fN L) = some S) : Lq.sum (qsum g n L S.q) (Rp g S.r) = Rp g p := by
  obtain ⟨_, h2, h3, h4⟩ := redAll_some h
  have key := redAll_keeps h (fun S => Lq.sum (qsum g n L S.q) (Lq.sum (Rp g S.r) (Rp g S.p)) = Rp g p) (by
    show Lq.sum (qsum g n L (fun _ => [])) (Lq.sum (Rp g []) (Rp g p)) = _
    rw [qsum_nil, Rp_nil]
    exact Lq.ext fun u i j => by show (0 : Fq) + (0 + _) = _; grind) (fun u S S' hok h0 hI hs => by
    rw [← hI]
    rcases dvStep_cases h3 hok.p h0 hs with ⟨k, Y, hk, _, ho, hY, _, rfl⟩ | ⟨_, rfl⟩
    · show Lq.sum (qsum g n L (updQ S.q k _)) (Lq.sum (Rp g S.r) (Rp g (subL S.p Y))) = _
      rw [qsum_upd g hk (hok.q k).1 ho, Rp_sub g (okL_falls hok.p).2 (wm_falls hY), Rp_mul g hY]
      exact Lq.ext fun u i j => by
        show _ + _ + (_ + (_ + zz 100 * _)) = _ + (_ + _)
        have e : zz 100 = 100 := rfl
        rw [e]
        grind
    · show Lq.sum (qsum g n L S.q) (Lq.sum (Rp g (addL S.r [ldL o S.p])) (Rp g (subL S.p [ldL o S.p]))) = _
      have f1 := fallsOne (ldL_good (o := o) (okL_falls hok.p).2 h0)
      rw [Rp_add g hok.r.1 f1, Rp_sub g (okL_falls hok.p).2 f1]
      exact Lq.ext fun u i j => by
        show _ + (_ + _ + (_ + zz 100 * _)) = _ + (_ + _)
        have e : zz 100 = 100 := rfl
        rw [e]
        grind)
  have hp := (redAll_ok h).2
  rw [hp, Rp_nil, Lq.sum_nil] at key
  exact key
/-- a sum of products, as one map. -/
theorem sumPr_Rp (g : Gen) {L q : Nat → List T} : ∀ n K, sumPr (lN q) (fN q) (lN L) (fN L) n = some K → Rp g K = qsum g n L q ∧ okL K = true
  | 0, K, h => by cases h; exact ⟨rfl, okL_nil⟩
  | n + 1, K, h => by
    cases hs : sumPr (lN q) (fN q) (lN L) (fN L) n with
    | none => have := sumPr_none hs 1; rw [this] at h; cases h
    | some K1 =>
      rw [sumPr_step hs] at h
      obtain ⟨h1, h2⟩ := sumPr_Rp g n K1 hs
      rcases step_cases h2 (lf (q n)) (q n).length (lf (L n)) (L n).length with ⟨_, _, e⟩ | ⟨_, _, _, _, e⟩ | ⟨P, _, _, _, _, _, _, _, e⟩ | ⟨P, _, _, hm, hw, hP, hl, _, e, ho⟩
      · rw [e] at h; cases h
      · rw [e] at h; cases h
      · rw [e] at h; cases h
      · rw [e] at h
        cases h
        refine ⟨?_, ho⟩
        rw [Rp_add g (okL_falls h2).2 (okL_falls hP).2, h1, Rp_mul g (show wmV (q n) (L n) = (P, true) from hw)]
        rfl
theorem redSum_Rp (g : Gen) {L q : Nat → List T} {n : Nat} {K : List T} (h : redSum n (lN q) (fN q) n (lN L) (fN L) = (K, true)) : Rp g K = qsum g n L q ∧ okL K = true := by
  unfold redSum at h
  split at h
  · cases hs : sumPr (lN q) (fN q) (lN L) (fN L) n with
    | none => rw [hs] at h; cases h
    | some K1 =>
      rw [hs] at h
      have : K1 = K := by simpa [mulO] using h
      subst this
      exact sumPr_Rp g n K1 hs
  · cases h
/-- WHAT IS TAKEN, AND WHAT IS LEFT, IS ALL. -/
theorem red_all {o : Int} {p : List T} {n : Nat} {L : Nat → List T} {S : Dv} (h : redAll o p n (lN L) (fN L) = some S) {K A : List T} (hK : redSum n (lN S.q) (fN S.q) n (lN L) (fN L) = (K, true)) (hA : addV K S.r = (A, true)) : A = p := by
  obtain ⟨_, h2, _, _⟩ := redAll_some h
  obtain ⟨e1, ok1⟩ := redSum_Rp stdG hK
  rcases addV_case K S.r with e | ⟨_, oR, hle, e⟩
  · rw [e] at hA; cases hA
  · rw [e] at hA
    cases hA
    refine eq_of_Rp (addL_facts (okL_falls ok1).2 (okL_falls oR).2).1 (okL_falls h2).2 ?_
    rw [Rp_add stdG (okL_falls ok1).2 (okL_falls oR).2, e1, redAll_all stdG h]
/-! what is left is free -/
theorem red_free {o : Int} {p : List T} {n : Nat} {L : Nat → List T} {S : Dv} (h : redAll o p n (lN L) (fN L) = some S) : ∀ t ∈ S.r, ∀ i, i < n → M.dvd (ldL o (L i)).m t.m = false := by
  obtain ⟨_, h2, h3, h4⟩ := redAll_some h
  refine redAll_keeps h (fun S => ∀ t ∈ S.r, ∀ i, i < n → M.dvd (ldL o (L i)).m t.m = false) (fun t ht => by cases ht) (fun u S S' hok h0 hI hs => ?_)
  rcases dvStep_cases h3 hok.p h0 hs with ⟨k, Y, _, _, _, _, _, rfl⟩ | ⟨hno, rfl⟩
  · exact hI
  · intro t ht i hi
    rcases mem_add hok.r.1 (fallsOne (ldL_good (o := o) (okL_falls hok.p).2 h0)) ht with ⟨a, ha, e⟩ | ⟨b, hb, e⟩
    · rw [← e]; exact hI a ha i hi
    · rw [← e, List.mem_singleton.1 hb]; exact hno i hi
theorem redFree_left {o : Int} {p : List T} {n : Nat} {L : Nat → List T} {S : Dv} (h : redAll o p n (lN L) (fN L) = some S) : redFree o S.r.length (lf S.r) n (lN L) (fN L) = true := by
  obtain ⟨h1, h2, h3, h4⟩ := redAll_some h
  obtain ⟨hd, _⟩ := redAll_ok h
  unfold redFree
  refine decide_eq_true ⟨h1, okL_of (by have := hd.r.2; omega) hd.r.1, h3, fun k hk i hi => ?_⟩
  exact red_free h _ (lf_mem hk) i hi
/-! nothing is greater -/
theorem over_sum {t l : T} (hd : M.dvd l.m t.m = true) : (overT t l).m.sum l.m = t.m := by
  have h := sum_over hd
  unfold M.mul at h
  split at h
  · exact congrArg Prod.fst h
  · exact absurd (congrArg Prod.snd h) (by simp)
theorem prod_top {o : Int} (ho : 1 ≤ o ∧ o ≤ 3) {t : T} {B Y : List T} (hB : okL B = true) (hB0 : B.length ≠ 0) (h : wmV [t] B = (Y, true)) : ∀ s ∈ Y, rkW o s.m ≤ rkW o t.m + rkW o (ldL o B).m := fun s hs => by
  have := (lead_prod (rkW_wt o) rkW_inj h (List.mem_singleton.2 rfl) (ldL_mem (o := o) hB0) (fun a ha => by rw [List.mem_singleton.1 ha]; exact Int.le_refl _) (ldL_top ho hB hB0)).2 s hs
  rw [(rkW_wt o t.m (ldL o B).m 0 0).2] at this
  exact this
theorem red_lead {o : Int} {p : List T} {n : Nat} {L : Nat → List T} {S : Dv} (h : redAll o p n (lN L) (fN L) = some S) {N : Int} (hN : ∀ t ∈ p, rkW o t.m ≤ N) : (∀ t ∈ S.r, rkW o t.m ≤ N) ∧ ∀ i, i < n → ∀ s ∈ S.q i, (s.m.sum (ldL o (L i)).m).ok = true ∧ rkW o (s.m.sum (ldL o (L i)).m) ≤ N := by
  obtain ⟨h1, h2, h3, h4⟩ := redAll_some h
  have key := redAll_keeps h (fun S => (∀ t ∈ S.p, rkW o t.m ≤ N) ∧ (∀ t ∈ S.r, rkW o t.m ≤ N) ∧ ∀ i, i < n → ∀ s ∈ S.q i, (s.m.sum (ldL o (L i)).m).ok = true ∧ rkW o (s.m.sum (ldL o (L i)).m) ≤ N) ⟨hN, ⟨fun t ht => absurd ht (List.not_mem_nil), fun i _ s hs => absurd hs (List.not_mem_nil)⟩⟩ (fun u S S' hok h0 hI hs => by
    obtain ⟨i1, i2, i3⟩ := hI
    have hl := ldL_mem (o := o) h0
    have hg := ldL_good (o := o) (okL_falls hok.p).2 h0
    rcases dvStep_cases h3 hok.p h0 hs with ⟨k, Y, hk, hd, ho, hY, _, rfl⟩ | ⟨hno, rfl⟩
    · have hk2 := (lstOk_all h3).2 k hk
      have htop := prod_top h1 hk2.2 hk2.1 hY
      have hsum := over_sum hd
      have hw := (rkW_wt o (overT (ldL o S.p) (ldL o (L k))).m (ldL o (L k)).m 0 0).2
      rw [hsum] at hw
      refine ⟨fun t ht => ?_, i2, fun i hi s hs => ?_⟩
      · rcases mem_sub (okL_falls hok.p).2 (wm_falls hY) ht with ⟨a, ha, e⟩ | ⟨b, hb, e⟩
        · rw [← e]; exact i1 a ha
        · rw [← e]
          have := htop b hb
          have := i1 _ hl
          omega
      · change s ∈ updQ S.q k _ i at hs
        unfold updQ at hs
        split at hs
        · rename_i e
          subst e
          rcases mem_add (hok.q i).1 (okL_falls ho).2 hs with ⟨a, ha, e⟩ | ⟨b, hb, e⟩
          · rw [← e]; exact i3 i hi a ha
          · rw [← e, List.mem_singleton.1 hb, hsum]
            exact ⟨hg.1, i1 _ hl⟩
        · exact i3 i hi s hs
    · refine ⟨fun t ht => ?_, fun t ht => ?_, i3⟩
      · rcases mem_sub (okL_falls hok.p).2 (fallsOne hg) ht with ⟨a, ha, e⟩ | ⟨b, hb, e⟩
        · rw [← e]; exact i1 a ha
        · rw [← e, List.mem_singleton.1 hb]; exact i1 _ hl
      · rcases mem_add hok.r.1 (fallsOne hg) ht with ⟨a, ha, e⟩ | ⟨b, hb, e⟩
        · rw [← e]; exact i2 a ha
        · rw [← e, List.mem_singleton.1 hb]; exact i1 _ hl)
  exact ⟨key.2.1, key.2.2⟩
/-! who is free is left -/
theorem run_free {o : Int} {n : Nat} {L : Nat → List T} : ∀ (v : Nat) (S : Dv), okL S.p = true → Falls S.r → S.p.length ≤ v → (∀ t ∈ S.p, ∀ i, i < n → M.dvd (ldL o (L i)).m t.m = false) → ∃ r, dvRun o n (lN L) (fN L) v S = some ⟨[], S.q, r⟩ ∧ Falls r ∧ ∀ m, coef r m = (coef S.r m + coef S.p m) % 101
  | 0, S, hp, hr, hv, hf => by
    have h0 : S.p.length = 0 := by omega
    have e : S.p = [] := List.length_eq_zero_iff.1 h0
    refine ⟨S.r, ?_, hr, fun m => ?_⟩
    · rw [dvRun_done h0]; cases S; cases e; rfl
    · rw [e, coef_nil]; have := coef_range hr m; omega
  | v + 1, S, hp, hr, hv, hf => by
    by_cases h0 : S.p.length = 0
    · have e : S.p = [] := List.length_eq_zero_iff.1 h0
      refine ⟨S.r, ?_, hr, fun m => ?_⟩
      · rw [dvRun_done h0]; cases S; cases e; rfl
      · rw [e, coef_nil]; have := coef_range hr m; omega
    · have hl := ldL_mem (o := o) h0
      have hg := ldL_good (o := o) (okL_falls hp).2 h0
      have hst : dvStep o n (lN L) (fN L) S = some (dvLeave o S) := by
        unfold dvStep
        rw [if_neg]
        intro hk
        obtain ⟨i, hi, h1⟩ := idx_iff.1 hk
        exact absurd ((hf _ hl i hi).symm.trans h1) (by simp)
      have hlt := sub_one_len (okL_falls hp).2 hl
      have fs := subL_facts (okL_falls hp).2 (fallsOne hg)
      have fr := addL_facts hr (fallsOne hg)
      have h4 := (okL_falls hp).1
      obtain ⟨r, e1, e2, e3⟩ := run_free v (dvLeave o S) (okL_of (show (subL S.p [ldL o S.p]).length ≤ 400 by omega) fs.1) fr.1 (show (subL S.p [ldL o S.p]).length ≤ v by omega) (fun t ht i hi => by
        rcases mem_sub (okL_falls hp).2 (fallsOne hg) (show t ∈ subL S.p [ldL o S.p] from ht) with ⟨a, ha, e⟩ | ⟨b, hb, e⟩
        · rw [← e]; exact hf a ha i hi
        · rw [← e, List.mem_singleton.1 hb]; exact hf _ hl i hi)
      refine ⟨r, by rw [dvRun_step h0 hst]; exact e1, e2, fun m => ?_⟩
      rw [e3]
      show (coef (addL S.r [ldL o S.p]) m + coef (subL S.p [ldL o S.p]) m) % 101 = _
      rw [fr.2, fs.2]
      omega
theorem redAll_free {o : Int} {p : List T} {n : Nat} {L : Nat → List T} (ho : 1 ≤ o ∧ o ≤ 3) (hp : okL p = true) (hl : lstOk n (lN L) (fN L) = true) (hv : p.length ≤ 300) (hf : ∀ t ∈ p, ∀ i, i < n → M.dvd (ldL o (L i)).m t.m = false) : redAll o p n (lN L) (fN L) = some ⟨[], fun _ => [], p⟩ := by
  unfold redAll
  rw [if_pos ⟨ho, hp, hl⟩]
  obtain ⟨r, e1, e2, e3⟩ := run_free (o := o) (n := n) (L := L) 300 (dvOf p) hp falls_nil hv hf
  rw [e1]
  have : r = p := falls_one e2 (okL_falls hp).2 (fun m _ => by
    rw [e3]
    show (coef [] m + coef p m) % 101 = _
    rw [coef_nil]
    have := coef_range (okL_falls hp).2 m
    omega)
  rw [this]; rfl
theorem redAll_again {o : Int} {p : List T} {n : Nat} {L : Nat → List T} {S : Dv} (h : redAll o p n (lN L) (fN L) = some S) : redAll o S.r n (lN L) (fN L) = some ⟨[], fun _ => [], S.r⟩ := by
  obtain ⟨h1, h2, h3, h4⟩ := redAll_some h
  obtain ⟨hd, _⟩ := redAll_ok h
  exact redAll_free h1 (okL_of (by have := hd.r.2; omega) hd.r.1) h3 (by have := hd.r.2; omega) (red_free h)
/-! so many times an operator -/
def scD (c : Int) (S : Dv) : Dv := ⟨scL c S.p, fun i => scL c (S.q i), scL c S.r⟩
theorem lf_sc (c : Int) (L : List T) {i : Nat} (h : i < L.length) : lf (scL c L) i = scT1 c (lf L i) := by
  have h2 : i < (scL c L).length := by rw [scL_len]; exact h
  rw [lf_eq h2, lf_eq h]
  simp only [scL_map, List.getElem_map]
  rfl
theorem leadFrom_sc (o : Int) (f g : Nat → T) : ∀ (u i k n : Nat), i + u ≤ n → k < n → (∀ j, j < n → (f j).m = (g j).m) → leadFrom o f u i k = leadFrom o g u i k
  | 0, i, k, n, _, _, _ => rfl
  | u + 1, i, k, n, hi, hk, h => by
    simp only [leadFrom]
    rw [h i (by omega), h k hk]
    split
    · exact leadFrom_sc o f g u (i + 1) i n (by omega) (by omega) h
    · exact leadFrom_sc o f g u (i + 1) k n (by omega) hk h
theorem ldL_sc (o c : Int) {L : List T} (h0 : L.length ≠ 0) : ldL o (scL c L) = scT1 c (ldL o L) := by
  have e : leadAt o (lf (scL c L)) (scL c L).length = leadAt o (lf L) L.length := by
    rw [scL_len]
    exact leadFrom_sc o _ _ (L.length - 1) 1 0 L.length (by omega) (by omega) (fun j hj => by rw [lf_sc c L hj]; rfl)
  unfold ldL
  rw [e, lf_sc c L (leadAt_lt (by omega))]
theorem scL_one (c : Int) (t : T) : scL c [t] = [scT1 c t] := by rw [scL_map]; rfl
theorem subL_sc {c : Int} (c1 : 1 ≤ c) (c2 : c ≤ 100) {K X : List T} (hK : Falls K) (hX : Falls X) : subL (scL c K) (scL c X) = scL c (subL K X) := by
  refine falls_one (subL_facts (scL_falls c1 c2 hK) (scL_falls c1 c2 hX)).1 (scL_falls c1 c2 (subL_facts hK hX).1) (fun m _ => ?_)
  rw [(subL_facts (scL_falls c1 c2 hK) (scL_falls c1 c2 hX)).2, scL_coef, scL_coef, scL_coef, (subL_facts hK hX).2]
  have h1 : (c * ((coef K m + 100 * coef X m % 101) % 101)) % 101 = (c * coef K m + 100 * (c * coef X m)) % 101 := by
    rw [Int.mul_emod, Int.emod_emod_of_dvd _ (Int.dvd_refl 101), ← Int.mul_emod, Int.mul_add, Int.add_emod, Int.mul_emod c (100 * coef X m % 101), Int.emod_emod_of_dvd _ (Int.dvd_refl 101), ← Int.mul_emod c (100 * coef X m), ← Int.add_emod, Int.mul_left_comm]
  rw [h1]
  omega
theorem overT_sc (c : Int) (t l : T) : overT (scT1 c t) l = scT1 c (overT t l) := by
  unfold overT scT1
  simp only [T.mk.injEq, and_true]
  rw [Int.mul_emod (c * t.c % 101), Int.emod_emod_of_dvd _ (Int.dvd_refl 101), ← Int.mul_emod (c * t.c), Int.mul_emod c (t.c * fInv l.c % 101), Int.emod_emod_of_dvd _ (Int.dvd_refl 101), ← Int.mul_emod c, Int.mul_assoc]
theorem dvStep_sc {o : Int} {n : Nat} {L : Nat → List T} (hl : lstOk n (lN L) (fN L) = true) {c : Int} (c1 : 1 ≤ c) (c2 : c ≤ 100) {u : Nat} {S : Dv} (hok : DvOk u S) (h0 : S.p.length ≠ 0) : dvStep o n (lN L) (fN L) (scD c S) = (dvStep o n (lN L) (fN L) S).map (scD c) := by
  have e1 : ldL o (scD c S).p = scT1 c (ldL o S.p) := ldL_sc o c h0
  have hg := ldL_good (o := o) (okL_falls hok.p).2 h0
  unfold dvStep
  rw [e1, show (scT1 c (ldL o S.p)).m = (ldL o S.p).m from rfl]
  split
  · rename_i hk
    have hf := dvK_facts hk
    have hgt := dvT_good hl hok.p h0 hk
    generalize (dvK o n (lN L) (fN L) (ldL o S.p).m).toNat = k at hf hgt
    have e2 : dvT o (lN L) (fN L) (scD c S) k = scT1 c (dvT o (lN L) (fN L) S k) := by
      unfold dvT
      rw [e1, overT_sc]
    have hB := ((lstOk_all hl).2 k hf.1).2
    have hm := mulM_sc (f := lf [dvT o (lN L) (fN L) S k]) (f2 := lf [scT1 c (dvT o (lN L) (fN L) S k)]) c1 c2 (good_ok (show polOk 1 (lf [dvT o (lN L) (fN L) S k]) = true from one_ok hgt)).2 (good_ok hB).2 (fun i hi => by
      have : i = 0 := by omega
      subst this; rfl) 1 (Nat.le_refl _)
    unfold dvTake
    rw [e2, hm]
    cases hY : mulM (lf [dvT o (lN L) (fN L) S k]) (fN L k) (lN L k) 1 with
    | none => rfl
    | some Y =>
      have fY := okL_falls (mul1_falls hgt hB hY)
      have fp := (okL_falls hok.p).2
      show (if (subL (scL c S.p) (scL c Y)).length ≤ 400 then some _ else none) = Option.map (scD c) (if (subL S.p Y).length ≤ 400 then some _ else none)
      rw [subL_sc c1 c2 fp fY.2, scL_len]
      split
      · show some _ = some _
        congr 1
        unfold scD
        simp only [Dv.mk.injEq, and_true]
        refine ⟨subL_sc c1 c2 fp fY.2, ?_⟩
        funext i
        unfold updQ
        split
        · rename_i e
          subst e
          show addL (scL c (S.q i)) [scT1 c _] = _
          rw [← scL_one, addL_sc c1 c2 (hok.q i).1 (fallsOne hgt)]
        · rfl
      · rfl
  · show some (dvLeave o (scD c S)) = some (scD c (dvLeave o S))
    congr 1
    unfold dvLeave
    rw [e1]
    show Dv.mk (subL (scL c S.p) [scT1 c (ldL o S.p)]) (fun i => scL c (S.q i)) (addL (scL c S.r) [scT1 c (ldL o S.p)]) = Dv.mk (scL c (subL S.p [ldL o S.p])) (fun i => scL c (S.q i)) (scL c (addL S.r [ldL o S.p]))
    rw [← scL_one, subL_sc c1 c2 (okL_falls hok.p).2 (fallsOne hg), addL_sc c1 c2 hok.r.1 (fallsOne hg)]
theorem dvRun_sc {o : Int} {n : Nat} {L : Nat → List T} (hl : lstOk n (lN L) (fN L) = true) {c : Int} (c1 : 1 ≤ c) (c2 : c ≤ 100) : ∀ (v u : Nat) (S : Dv), DvOk u S → dvRun o n (lN L) (fN L) v (scD c S) = (dvRun o n (lN L) (fN L) v S).map (scD c)
  | 0, u, S, hok => by
    unfold dvRun
    rw [show (scD c S).p.length = S.p.length from scL_len c S.p]
    split <;> rfl
  | v + 1, u, S, hok => by
    by_cases h0 : S.p.length = 0
    · rw [dvRun_done h0, dvRun_done (show (scD c S).p.length = 0 by rw [show (scD c S).p.length = S.p.length from scL_len c S.p]; exact h0)]; rfl
    · have h1 : (scD c S).p.length ≠ 0 := by rw [show (scD c S).p.length = S.p.length from scL_len c S.p]; exact h0
      have hsc := dvStep_sc (o := o) hl c1 c2 hok h0
      cases hs : dvStep o n (lN L) (fN L) S with
      | none =>
        rw [hs] at hsc
        rw [dvRun_no h0 hs, dvRun_no h1 hsc]; rfl
      | some S1 =>
        rw [hs] at hsc
        rw [dvRun_step h0 hs, dvRun_step h1 hsc]
        exact dvRun_sc hl c1 c2 v (u + 1) S1 (dvStep_ok hl hok h0 hs)
theorem redAll_sc {o : Int} {p : List T} {n : Nat} {L : Nat → List T} {c : Int} (c1 : 1 ≤ c) (c2 : c ≤ 100) (hp : okL p = true) : redAll o (scL c p) n (lN L) (fN L) = (redAll o p n (lN L) (fN L)).map (scD c) := by
  have hp2 : okL (scL c p) = true := okL_of (by rw [scL_len]; exact (okL_falls hp).1) (scL_falls c1 c2 (okL_falls hp).2)
  unfold redAll
  rw [hp, hp2]
  split
  · rename_i h
    exact dvRun_sc h.2.2 c1 c2 300 0 (dvOf p) (DvOk.start hp)
  · rfl
end Go.Proofs.Ytbkighpmkadmmaa
namespace Go.Proofs.Ytbkighpmkadmmaa
open Go.RowKit Go.Deep Go.Joins
set_option linter.unusedVariables false

theorem rds_lists {w : World} {a : Option Addr} {n c : Nat} {ad : Nat → Option Addr} {ln cp : Nat → Nat} {f : Nat → Nat → T} (h : RdS w a n c ad ln cp f) : ∃ L : Nat → List T, ln = lN L ∧ RdS w a n c ad (lN L) cp (fN L) := by
  have e : ln = lN (fun i => (List.range (ln i)).map (f i)) := funext fun i => by simp
  refine ⟨fun i => (List.range (ln i)).map (f i), e, ?_⟩
  rw [← e]
  refine ⟨h.1, h.2.1, h.2.2.1, fun i hi => rd_congr (h.2.2.2 i hi) (fun j hj => ?_)⟩
  show f i j = lf ((List.range (ln i)).map (f i)) j
  rw [lf_eq (by simpa using hj)]
  simp
def lsq (n : Nat) (L : Nat → List T) (n' : Nat) (L' : Nat → List T) : Bool := decide (n = n' ∧ ∀ i, i < n → sq (L i) (L' i) = true)
theorem lsq_same (n : Nat) (L : Nat → List T) : lsq n L n L = true := decide_eq_true ⟨rfl, fun i _ => sq_same (L i)⟩
theorem lsq_iff {n : Nat} {L : Nat → List T} {n' : Nat} {L' : Nat → List T} : lsq n L n' L' = true ↔ n = n' ∧ ∀ i, i < n → L i = L' i := by
  unfold lsq
  rw [decide_eq_true_iff]
  exact ⟨fun h => ⟨h.1, fun i hi => sq_iff.1 (h.2 i hi)⟩, fun h => ⟨h.1, fun i hi => sq_iff.2 (h.2 i hi)⟩⟩
theorem lsq_no {n : Nat} {L : Nat → List T} {n' : Nat} {L' : Nat → List T} (h : ¬ (n = n' ∧ ∀ i, i < n → L i = L' i)) : lsq n L n' L' = false := by
  cases e : lsq n L n' L'
  · rfl
  · exact absurd (lsq_iff.1 e) h
set_option maxRecDepth 100000 in
set_option maxHeartbeats 4000000 in
theorem heListT (w : World) (a a' : Option Addr) (n cap n' cap' : Nat) (ad ad' : Nat → Option Addr) (cp cp' : Nat → Nat) (L L' : Nat → List T) (h : RdS w a n cap ad (lN L) cp (fN L)) (h' : RdS w a' n' cap' ad' (lN L') cp' (fN L')) :
    Calls Try.prog 11 #[.slice a n cap, .slice a' n' cap'] w (Val w (.bool (lsq n L n' L'))) := by
  have hn : (n : Int) ≤ 140737488351232 := by have := h.2.1; omega
  have hn' : (n' : Int) ≤ 140737488351232 := by have := h'.2.1; omega
  obtain ⟨r, hr⟩ : ∃ r, lsq n L n' L' = r := ⟨_, rfl⟩
  rw [hr]
  have HR := Hid.mk' hr
  have HH := Hid.mk' h
  have HH' := Hid.mk' h'
  clear h h' hr
  unfold Val
  by_cases hnn : n = n'
  · subst hnn
    have hne : ((n : Int) != (n : Int)) = false := by simp
    go_enter Try.func11, Try.ntmps11
    go_wp2
    go_loopw [5] (fun v wr => ∃ i : Nat, i ≤ n ∧ v = .int .i64 (i : Int) ∧ Below w.heap.size w wr ∧ ∀ j, j < i → L j = L' j) (fun v _ => n - (intOf v).toNat)
    case atStart => exact ⟨0, Nat.zero_le _, rfl, Below.refl _ _, fun j hj => by omega⟩
    case round =>
      obtain ⟨i, hi, rfl, hB, hJ⟩ := hrel
      have HJ := Hid.mk' hJ
      clear hJ
      by_cases hlt : i < n
      · rcases HH.out.2.2.1 with h0 | ⟨b, off, rfl, hblt, hcl⟩
        · omega
        rcases HH'.out.2.2.1 with h0 | ⟨b', off', rfl, hblt', hcl'⟩
        · omega
        have hil : (i : Int) < (n : Int) := by omega
        have hbr : b < wr.heap.size := Nat.lt_of_lt_of_le hblt hB.size
        have hbr' : b' < wr.heap.size := Nat.lt_of_lt_of_le hblt' hB.size
        have ne := Ext.there wr
        obtain ⟨l, hl⟩ : ∃ l, (L i).length = l := ⟨_, rfl⟩
        obtain ⟨l', hl'⟩ : ∃ l', (L' i).length = l' := ⟨_, rfl⟩
        have g0 : wr.cell? ⟨b, off + i, none⟩ = some (.slice (ad i) l (cp i)) := (hB.cell (p := ⟨b, off + i, none⟩) hblt).trans (by rw [← hl]; exact hcl i hlt)
        have g1 : wr.cell? ⟨b', off' + i, none⟩ = some (.slice (ad' i) l' (cp' i)) := (hB.cell (p := ⟨b', off' + i, none⟩) hblt').trans (by rw [← hl']; exact hcl' i hlt)
        have s0 : ∀ u : Ext wr, u.1.cell? ⟨b, off + i, none⟩ = some (.slice (ad i) l (cp i)) := fun u => (u.cell hbr).trans g0
        have s1 : ∀ u : Ext wr, u.1.cell? ⟨b', off' + i, none⟩ = some (.slice (ad' i) l' (cp' i)) := fun u => (u.cell hbr').trans g1
        have HK := Hid.mk' ((HH.out.2.2.2 i hlt).below hB)
        have HK' := Hid.mk' ((HH'.out.2.2.2 i hlt).below hB)
        have HB := Hid.mk' hB
        obtain ⟨q, hq⟩ : ∃ q, sq (L i) (L' i) = q := ⟨_, rfl⟩
        have HQ := Hid.mk' hq
        have hcall : ∀ u : Ext wr, Calls Try.prog 15 #[.slice (ad i) l (cp i), .slice (ad' i) l' (cp' i)] u.1 fun r w' => r = .returned (.bool q) ∧ Below u.1.heap.size u.1 w' := fun u => by
          have := he_L (w := u.1) (a := ad i) (ca := cp i) (L := L i) (b := ad' i) (cb := cp' i) (K := L' i) (HK.out.below u.2) (HK'.out.below u.2)
          rw [hq, hl, hl'] at this
          exact this
        clear hcl hcl' hB g0 g1 hq hl hl'
        go_wp2_with fail
        refine wp_region_ext (by kernel_rfl) (by kernel_rfl) ?_
        repeat (go_big_quiet_step (first | (go_at_call 15; exact ext_grows (hcall _)) | fail))
        refine wpQuiet_nil ?_
        rintro _ ⟨v, rfl⟩
        have HV := Hid.mk' v.2
        clear s0 s1 ne hcall
        cases q
        · have hr : r = false := by
            rw [← HR.out]
            refine lsq_no (fun hh => ?_)
            have h1 := HQ.out
            rw [hh.2 i hlt, sq_same] at h1
            cases h1
          subst hr
          go_wp2
          go_ret
          exact ⟨rfl, bel_next HB.out HV.out⟩
        · have he := sq_iff.1 HQ.out
          have HE := Hid.mk' he
          clear he
          go_wp2
          go_roundw
          case rel => exact ⟨i + 1, by omega, by go_num, bel_next HB.out HV.out, fun j hj => by
            by_cases e : j = i
            · rw [e]; exact HE.out
            · exact HJ.out j (by omega)⟩
          case measure => simp [intOf]; omega
      · have hnl : ¬ (i : Int) < (n : Int) := by omega
        have hr : r = true := by
          rw [← HR.out]
          exact lsq_iff.2 ⟨rfl, fun j hj => HJ.out j (by omega)⟩
        subst hr
        go_wp2
        go_ret
        exact ⟨rfl, hB⟩
  · have hne : ((n : Int) != (n' : Int)) = true := by simp; omega
    have hr : r = false := by
      rw [← HR.out]
      exact lsq_no (fun hh => hnn hh.1)
    subst hr
    go_enter Try.func11, Try.ntmps11
    go_wp2
    go_ret
    exact ⟨rfl, Below.refl _ _⟩
end Go.Proofs.Ytbkighpmkadmmaa
