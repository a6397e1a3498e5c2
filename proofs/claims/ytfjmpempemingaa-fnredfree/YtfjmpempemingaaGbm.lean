/-
  The program's RedAll.
  RedAll, of the program and of the model: one answer.
  A sum of products of two lists: the mathematics, and the model's RedSum.
-/
import Derived.Test.YtfjmpempemingaaGbl
import Derived.Test.YtfjmpempemingaaGbi
import Derived.Test.YtfjmpempemingaaGag
import Derived.Test.YtfjmpempemingaaGbf
namespace Go.Proofs.Ytfjmpempemingaa
open Go.RowKit Go.Deep Go.Joins Go.Maps
set_option linter.unusedVariables false
set_option linter.unusedSimpArgs false

end Go.Proofs.Ytfjmpempemingaa
namespace Go.Proofs.Ytfjmpempemingaa
open Go.RowKit Go.Deep Go.Joins Go.Maps
set_option linter.unusedVariables false

def resN (n : Nat) : Option Dv → Nat
  | some _ => n
  | none => 0
def resQ : Option Dv → Nat → List T
  | some S => S.q
  | none => fun _ => []
def resL : Option Dv → List T
  | some S => S.r
  | none => []
theorem res_bd {o : Int} {p : List T} {n : Nat} {ln : Nat → Nat} {f : Nat → Nat → T} : resN n (redAll o p n ln f) ≤ 12 ∧ (∀ i, (resQ (redAll o p n ln f) i).length ≤ 300) ∧ (resL (redAll o p n ln f)).length ≤ 300 := by
  unfold redAll
  split
  · rename_i h
    have n12 := (lstOk_all h.2.2).1
    cases e : dvRun o n ln f 300 (dvOf p) with
    | none => exact ⟨Nat.zero_le _, fun i => Nat.zero_le _, Nat.zero_le _⟩
    | some S =>
      obtain ⟨h1, _⟩ := dvRun_ok h.2.2 (DvOk.start h.2.1) e
      exact ⟨n12, fun i => by have := (h1.q i).2; show (S.q i).length ≤ 300; omega, by have := h1.r.2; show S.r.length ≤ 300; omega⟩
  · exact ⟨Nat.zero_le _, fun i => Nat.zero_le _, Nat.zero_le _⟩
set_option maxRecDepth 100000 in
set_option maxHeartbeats 4000000 in
theorem redAllS (w : World) (o : Int) (pa : Option Addr) (pc : Nat) (p : List T) (a : Option Addr) (n cap : Nat) (ad : Nat → Option Addr) (ln cp : Nat → Nat) (f : Nat → Nat → T) (hp : RL w pa pc p) (h : RdS w a n cap ad ln cp f) {R : Option Dv} (hR : redAll o p n ln f = R) :
    Calls Try.prog 23 #[.int .i64 o, .slice pa p.length pc, .slice a n cap] w fun r w' => ∃ qa qc ad cp ra rc, r = .returned (.tuple #[.slice qa (resN n R) qc, .slice ra (resL R).length rc, .bool R.isSome]) ∧ Below w.heap.size w w' ∧ RdS w' qa (resN n R) qc ad (fun i => (resQ R i).length) cp (fun i => lf (resQ R i)) ∧ RL w' ra rc (resL R) := by
  have q1 : (n : Int) ≤ 140737488351232 := by have := h.2.1; omega
  have q2 : (p.length : Int) ≤ 140737488351232 := by have := hp.2.1; omega
  have HP := Hid.mk' hp
  have HH := Hid.mk' h
  clear hp h
  have hfin : ∀ (W : World) (qa ra : Option Addr) (qc rc : Nat), R = none → ∃ qa' qc' ad cp ra' rc', Ending.returned (.tuple #[.slice qa 0 qc, .slice ra 0 rc, .bool false]) = .returned (.tuple #[.slice qa' (resN n R) qc', .slice ra' (resL R).length rc', .bool R.isSome]) ∧ RdS W qa' (resN n R) qc' ad (fun i => (resQ R i).length) cp (fun i => lf (resQ R i)) ∧ RL W ra' rc' (resL R) := fun W qa ra qc rc e => by
    subst e
    exact ⟨qa, qc, fun _ => none, fun _ => 0, ra, rc, rfl, ⟨Nat.zero_le _, Nat.zero_le _, .inl rfl, fun i hi => absurd hi (Nat.not_lt_zero _)⟩, ⟨Nat.zero_le _, Nat.zero_le _, .inl rfl⟩⟩
  have HFIN := Hid.mk' hfin
  clear hfin
  by_cases hok : (1 ≤ o ∧ o ≤ 3) ∧ okL p = true ∧ lstOk n ln f = true
  · have e0 : dvRun o n ln f 300 (dvOf p) = R := by rw [← hR]; exact (if_pos hok).symm
    have HE := Hid.mk' e0
    obtain ⟨⟨o1, o2⟩, h1, h2⟩ := hok
    clear e0
    have HAL := fun (W : World) (k1 : RL W pa pc p) (k2 : RdS W a n cap ad ln cp f) => l7AllS W o pa pc p a n cap ad ln cp f k1 k2 o1 o2 h1 h2
    rw [HE.out] at HAL
    have HALL := Hid.mk' HAL
    clear HAL
    go_enter Try.func23, Try.ntmps23
    go_wp2_with (go_at_call 30; refine (inS_in _ _ _ _ (by omega) (by omega)).mono ?_; rintro r w' ⟨rfl, hw'⟩; obtain rfl := hw'.symm; clear hw')
    refine (polOkS _ _ _ _ (lf p) HP.out).mono ?_
    rw [show polOk p.length (lf p) = true from h1]
    rintro r w1 ⟨rfl, hb1⟩
    have HB1 := Hid.mk' hb1
    clear hb1
    go_wp2_with fail
    refine (lstOkS _ _ _ _ _ _ _ _ (HH.out.below HB1.out)).mono ?_
    rw [h2]
    rintro r w2 ⟨rfl, hb2⟩
    have HB2 := Hid.mk' (bel_next HB1.out hb2)
    clear hb2
    go_wp2_with fail
    refine (HALL.out w2 (Rd.below HP.out HB2.out) (HH.out.below HB2.out)).mono ?_
    rintro r w3 ⟨hb3, hh⟩
    have HB3 := Hid.mk' (bel_next HB2.out hb3)
    rcases hh with ⟨S, qa, qc, ad', cp', ra, rc, e1, rfl, r1, r2⟩ | ⟨e1, qa, qc, ra, rc, rfl⟩
    · subst e1
      have HR1 := Hid.mk' r1
      have HR2 := Hid.mk' r2
      clear r1 r2 hb3
      go_wp2
      refine bodyPost_ret (results_tmp3 rfl _ _ _) rfl ?_
      exact ⟨qa, qc, ad', cp', ra, rc, rfl, HB3.out, HR1.out, HR2.out⟩
    · have HF := Hid.mk' (HFIN.out w3 qa ra qc rc e1)
      clear hb3
      go_wp2
      refine bodyPost_ret (results_tmp3 rfl _ _ _) rfl ?_
      obtain ⟨qa', qc', ad', cp', ra', rc', e2, r1, r2⟩ := HF.out
      exact ⟨qa', qc', ad', cp', ra', rc', e2, HB3.out, r1, r2⟩
  · have e0 : R = none := by rw [← hR]; exact if_neg hok
    have HF := fun (W : World) qa ra qc rc => HFIN.out W qa ra qc rc e0
    have HFF := Hid.mk' HF
    clear HF
    by_cases ho : 1 ≤ o ∧ o ≤ 3
    · obtain ⟨o1, o2⟩ := ho
      cases h1 : okL p
      · clear hok
        go_enter Try.func23, Try.ntmps23
        go_wp2_with (go_at_call 30; refine (inS_in _ _ _ _ (by omega) (by omega)).mono ?_; rintro r w' ⟨rfl, hw'⟩; obtain rfl := hw'.symm; clear hw')
        refine (polOkS _ _ _ _ (lf p) HP.out).mono ?_
        rw [show polOk p.length (lf p) = false from h1]
        rintro r w1 ⟨rfl, hb1⟩
        have HB1 := Hid.mk' hb1
        clear hb1
        go_wp2
        refine bodyPost_ret (results_tmp3 rfl _ _ _) rfl ?_
        obtain ⟨qa', qc', ad', cp', ra', rc', e2, r1, r2⟩ := HFF.out _ _ _ _ _
        exact ⟨qa', qc', ad', cp', ra', rc', e2, (HB1.out.alloc HB1.out.size _).alloc (by have := HB1.out.size; simp; omega) _, r1, r2⟩
      · have h2 : lstOk n ln f = false := by
          cases h2 : lstOk n ln f
          · rfl
          · exact absurd ⟨⟨o1, o2⟩, h1, h2⟩ hok
        clear hok
        go_enter Try.func23, Try.ntmps23
        go_wp2_with (go_at_call 30; refine (inS_in _ _ _ _ (by omega) (by omega)).mono ?_; rintro r w' ⟨rfl, hw'⟩; obtain rfl := hw'.symm; clear hw')
        refine (polOkS _ _ _ _ (lf p) HP.out).mono ?_
        rw [show polOk p.length (lf p) = true from h1]
        rintro r w1 ⟨rfl, hb1⟩
        have HB1 := Hid.mk' hb1
        clear hb1
        go_wp2_with fail
        refine (lstOkS _ _ _ _ _ _ _ _ (HH.out.below HB1.out)).mono ?_
        rw [h2]
        rintro r w2 ⟨rfl, hb2⟩
        have HB2 := Hid.mk' (bel_next HB1.out hb2)
        clear hb2
        go_wp2
        refine bodyPost_ret (results_tmp3 rfl _ _ _) rfl ?_
        obtain ⟨qa', qc', ad', cp', ra', rc', e2, r1, r2⟩ := HFF.out _ _ _ _ _
        exact ⟨qa', qc', ad', cp', ra', rc', e2, (HB2.out.alloc HB2.out.size _).alloc (by have := HB2.out.size; simp; omega) _, r1, r2⟩
    · have ho' : o < 1 ∨ (1 ≤ o ∧ 3 < o) := by omega
      clear hok ho
      go_enter Try.func23, Try.ntmps23
      go_wp2_with (go_at_call 30; refine (inS_out _ _ _ _ ho').mono ?_; rintro r w' ⟨rfl, hw'⟩; obtain rfl := hw'.symm; clear hw')
      refine bodyPost_ret (results_tmp3 rfl _ _ _) rfl ?_
      obtain ⟨qa', qc', ad', cp', ra', rc', e2, r1, r2⟩ := HFF.out _ _ _ _ _
      exact ⟨qa', qc', ad', cp', ra', rc', e2, bel_two _ _ _, r1, r2⟩
end Go.Proofs.Ytfjmpempemingaa
namespace Go.Proofs.Ytfjmpempemingaa
open Go.RowKit Go.Deep Go.Joins
set_option linter.unusedVariables false

/-- a product more. -/
def stepS (K : List T) (q : Nat → T) (lq : Nat) (l : Nat → T) (ll : Nat) : Option (List T) :=
  if (wylMul q lq l ll).2 = true then (if (addV K (wylMul q lq l ll).1).2 = true then some (addV K (wylMul q lq l ll).1).1 else none) else none
/-- the first products' sum; none, if it is too much. -/
def sumPr (ln1 : Nat → Nat) (f1 : Nat → Nat → T) (ln2 : Nat → Nat) (f2 : Nat → Nat → T) : Nat → Option (List T)
  | 0 => some []
  | i + 1 => match sumPr ln1 f1 ln2 f2 i with
    | some K => stepS K (f1 i) (ln1 i) (f2 i) (ln2 i)
    | none => none
def redSum (n1 : Nat) (ln1 : Nat → Nat) (f1 : Nat → Nat → T) (n2 : Nat) (ln2 : Nat → Nat) (f2 : Nat → Nat → T) : List T × Bool := if n1 = n2 ∧ n2 ≤ 12 then mulO (sumPr ln1 f1 ln2 f2 n2) else ([], false)
theorem step_cases {K : List T} (hK : okL K = true) (q : Nat → T) (lq : Nat) (l : Nat → T) (ll : Nat) :
    ((polOk lq q = false ∨ (polOk lq q = true ∧ polOk ll l = false)) ∧ wylMul q lq l ll = ([], false) ∧ stepS K q lq l ll = none) ∨
    (polOk lq q = true ∧ polOk ll l = true ∧ mulM q l ll lq = none ∧ wylMul q lq l ll = ([], false) ∧ stepS K q lq l ll = none) ∨
    (∃ P, polOk lq q = true ∧ polOk ll l = true ∧ mulM q l ll lq = some P ∧ wylMul q lq l ll = (P, true) ∧ okL P = true ∧ 400 < (addL K P).length ∧ addV K P = ([], false) ∧ stepS K q lq l ll = none) ∨
    (∃ P, polOk lq q = true ∧ polOk ll l = true ∧ mulM q l ll lq = some P ∧ wylMul q lq l ll = (P, true) ∧ okL P = true ∧ (addL K P).length ≤ 400 ∧ addV K P = (addL K P, true) ∧ stepS K q lq l ll = some (addL K P) ∧ okL (addL K P) = true) := by
  cases h1 : polOk lq q
  · have e : wylMul q lq l ll = ([], false) := if_neg (fun hh => by rw [h1] at hh; simp at hh)
    exact .inl ⟨.inl rfl, e, by unfold stepS; rw [e]; rfl⟩
  · cases h2 : polOk ll l
    · have e : wylMul q lq l ll = ([], false) := if_neg (fun hh => by rw [h2] at hh; simp at hh)
      exact .inl ⟨.inr ⟨rfl, rfl⟩, e, by unfold stepS; rw [e]; rfl⟩
    · have e0 : wylMul q lq l ll = mulO (mulM q l ll lq) := if_pos ⟨h1, h2⟩
      cases hm : mulM q l ll lq with
      | none =>
        have e : wylMul q lq l ll = ([], false) := by rw [e0, hm]; rfl
        exact .inr (.inl ⟨rfl, rfl, rfl, e, by unfold stepS; rw [e]; rfl⟩)
      | some P =>
        have e : wylMul q lq l ll = (P, true) := by rw [e0, hm]; rfl
        have hP : okL P = true := okL_of (mulM_len _ P hm) (mulM_falls2 (good_ok h1).2 (good_ok h2).2 _ P (Nat.le_refl _) hm)
        by_cases h4 : (addL K P).length ≤ 400
        · have ea := addV_ok hK hP h4
          refine .inr (.inr (.inr ⟨P, rfl, rfl, rfl, e, hP, h4, ea, ?_, okL_of h4 (addL_facts (okL_falls hK).2 (okL_falls hP).2).1⟩))
          unfold stepS
          rw [e]
          show (if (true = true) then (if (addV K P).2 = true then some (addV K P).1 else none) else none) = _
          rw [ea]; rfl
        · have ea : addV K P = ([], false) := if_neg (fun hh => h4 hh.2.2)
          refine .inr (.inr (.inl ⟨P, rfl, rfl, rfl, e, hP, by omega, ea, ?_⟩))
          unfold stepS
          rw [e]
          show (if (true = true) then (if (addV K P).2 = true then some (addV K P).1 else none) else none) = _
          rw [ea]; rfl
theorem sumPr_none {ln1 : Nat → Nat} {f1 : Nat → Nat → T} {ln2 : Nat → Nat} {f2 : Nat → Nat → T} {i : Nat} (h : sumPr ln1 f1 ln2 f2 i = none) : ∀ d, sumPr ln1 f1 ln2 f2 (i + d) = none
  | 0 => h
  | d + 1 => by
    show (match sumPr ln1 f1 ln2 f2 (i + d) with | some K => stepS K (f1 (i + d)) (ln1 (i + d)) (f2 (i + d)) (ln2 (i + d)) | none => none) = none
    rw [sumPr_none h d]
theorem sumPr_step {ln1 : Nat → Nat} {f1 : Nat → Nat → T} {ln2 : Nat → Nat} {f2 : Nat → Nat → T} {i : Nat} {K : List T} (h : sumPr ln1 f1 ln2 f2 i = some K) : sumPr ln1 f1 ln2 f2 (i + 1) = stepS K (f1 i) (ln1 i) (f2 i) (ln2 i) := by
  show (match sumPr ln1 f1 ln2 f2 i with | some K => stepS K (f1 i) (ln1 i) (f2 i) (ln2 i) | none => none) = _
  rw [h]
theorem redSum_bad {n1 : Nat} {ln1 : Nat → Nat} {f1 : Nat → Nat → T} {n2 : Nat} {ln2 : Nat → Nat} {f2 : Nat → Nat → T} {i : Nat} {K : List T} (hi : i < n2) (h : sumPr ln1 f1 ln2 f2 i = some K) (hs : stepS K (f1 i) (ln1 i) (f2 i) (ln2 i) = none) : redSum n1 ln1 f1 n2 ln2 f2 = ([], false) := by
  unfold redSum
  split
  · have := sumPr_none ((sumPr_step h).trans hs) (n2 - (i + 1))
    rw [show i + 1 + (n2 - (i + 1)) = n2 by omega] at this
    rw [this]; rfl
  · rfl
abbrev C2 (b1 o1 : Nat) (v1 : Value) (b2 o2 : Nat) (v2 : Value) (u : World) : Prop := u.cell? ⟨b1, o1, none⟩ = some v1 ∧ u.cell? ⟨b2, o2, none⟩ = some v2
theorem C2.below {b1 o1 b2 o2 : Nat} {v1 v2 : Value} {u u' : World} (h : C2 b1 o1 v1 b2 o2 v2 u) (hb : Below u.heap.size u u') : C2 b1 o1 v1 b2 o2 v2 u' :=
  ⟨(hb.cell (p := ⟨b1, o1, none⟩) (World.block_lt_of_cell? u _ h.1)).trans h.1, (hb.cell (p := ⟨b2, o2, none⟩) (World.block_lt_of_cell? u _ h.2)).trans h.2⟩
set_option maxRecDepth 100000 in
set_option maxHeartbeats 8000000 in
theorem redSumS (w : World) (a1 : Option Addr) (n1 c1 : Nat) (ad1 : Nat → Option Addr) (ln1 cp1 : Nat → Nat) (f1 : Nat → Nat → T) (h1 : RdS w a1 n1 c1 ad1 ln1 cp1 f1) (a2 : Option Addr) (n2 c2 : Nat) (ad2 : Nat → Option Addr) (ln2 cp2 : Nat → Nat) (f2 : Nat → Nat → T) (h2 : RdS w a2 n2 c2 ad2 ln2 cp2 f2) :
    Calls Try.prog 15 #[.slice a1 n1 c1, .slice a2 n2 c2] w fun r w' => ∃ v, r = .returned (.tuple #[v, .bool (redSum n1 ln1 f1 n2 ln2 f2).2]) ∧ Below w.heap.size w w' ∧ w'.ownsRow w.heap.size 34 5 v (redSum n1 ln1 f1 n2 ln2 f2).1.length (cellsL (redSum n1 ln1 f1 n2 ln2 f2).1) := by
  have q1 : (n1 : Int) ≤ 140737488351232 := by have := h1.2.1; omega
  have q2 : (n2 : Int) ≤ 140737488351232 := by have := h2.2.1; omega
  have H1 := Hid.mk' h1
  have H2 := Hid.mk' h2
  have HB0 := Hid.mk' (bel_one w (.cells #[] 34))
  have HO0 := Hid.mk' (owns_none w w.heap.size (Nat.le_refl _))
  clear h1 h2
  by_cases hn : n1 = n2 ∧ n2 ≤ 12
  · obtain ⟨hn1, hn2⟩ := hn
    have HE : Hid (redSum n1 ln1 f1 n2 ln2 f2 = mulO (sumPr ln1 f1 ln2 f2 n2)) := if_pos ⟨hn1, hn2⟩
    subst hn1
    have hne : ((n1 : Int) != (n1 : Int)) = false := by simp
    have hng : ¬ (12 : Int) < (n1 : Int) := by omega
    go_enter Try.func15, Try.ntmps15
    go_wp2
    go_loopw [6, 7] (fun v ii wr => ∃ (i : Nat) (K : List T), i ≤ n1 ∧ ii = .int .i64 (i : Int) ∧ sumPr ln1 f1 ln2 f2 i = some K ∧ okL K = true ∧ Below w.heap.size w wr ∧ wr.ownsRow w.heap.size 34 5 v K.length (cellsL K)) (fun _ ii _ => n1 - (intOf ii).toNat)
    case atStart => exact ⟨0, [], Nat.zero_le _, rfl, rfl, okL_nil, HB0.out, HO0.out⟩
    case round =>
      obtain ⟨i, K, hi, rfl, hs, hK, hB, hown⟩ := hrel
      have HS := Hid.mk' hs
      have HK := Hid.mk' hK
      have HB := Hid.mk' hB
      have HO := Hid.mk' hown
      clear hs
      by_cases hlt : i < n1
      · rcases H1.out.2.2.1 with h0 | ⟨b1, off1, rfl, hb1, hc1⟩
        · omega
        rcases H2.out.2.2.1 with h0 | ⟨b2, off2, rfl, hb2, hc2⟩
        · omega
        have hil : (i : Int) < (n1 : Int) := by omega
        have g1 : wr.cell? ⟨b1, off1 + i, none⟩ = some (.slice (ad1 i) (ln1 i) (cp1 i)) := (hB.cell (p := ⟨b1, off1 + i, none⟩) hb1).trans (hc1 i hlt)
        have g2 : wr.cell? ⟨b2, off2 + i, none⟩ = some (.slice (ad2 i) (ln2 i) (cp2 i)) := (hB.cell (p := ⟨b2, off2 + i, none⟩) hb2).trans (hc2 i hlt)
        have hS : C2 b1 (off1 + i) (.slice (ad1 i) (ln1 i) (cp1 i)) b2 (off2 + i) (.slice (ad2 i) (ln2 i) (cp2 i)) wr := ⟨g1, g2⟩
        have R1 := Hid.mk' ((H1.out.2.2.2 i hlt).below hB)
        have R2 := Hid.mk' ((H2.out.2.2.2 i hlt).below hB)
        have HC := Hid.mk' hS
        clear hc1 hc2 hB hown hS
        rcases step_cases HK.out (f1 i) (ln1 i) (f2 i) (ln2 i) with ⟨hp, _, hst⟩ | ⟨p1, p2, hm, _, hst⟩ | ⟨P, p1, p2, hm, _, hP, hl, _, hst⟩ | ⟨P, p1, p2, hm, _, hP, hl, _, hst, hok⟩
        · have HR := Hid.mk' (redSum_bad (n1 := n1) hlt HS.out hst)
          rcases hp with p1 | ⟨p1, p2⟩
          · go_wp2_with fail
            refine (polOkS _ _ _ _ (f1 i) R1.out).mono ?_
            rw [p1]
            rintro r w1 ⟨rfl, hb⟩
            have HB1 := Hid.mk' (bel_next HB.out hb)
            clear hb g1 g2
            go_wp2
            refine bodyPost_ret (results_tmp2 rfl _ _ _) rfl ?_
            rw [HR.out]
            exact ⟨_, rfl, HB1.out.alloc HB1.out.size _, owns_none w1 w.heap.size HB1.out.size⟩
          · go_wp2_with fail
            refine (polOkS _ _ _ _ (f1 i) R1.out).mono ?_
            rw [p1]
            rintro r w1 ⟨rfl, hb⟩
            have HB1 := Hid.mk' (bel_next HB.out hb)
            have HR2 := Hid.mk' (R2.out.below hb)
            obtain ⟨g1', g2'⟩ := HC.out.below hb
            clear hb g1 g2
            go_wp2_with fail
            refine (polOkS _ _ _ _ (f2 i) HR2.out).mono ?_
            rw [p2]
            rintro r w2 ⟨rfl, hb⟩
            have HB2 := Hid.mk' (bel_next HB1.out hb)
            clear hb g1' g2'
            go_wp2
            refine bodyPost_ret (results_tmp2 rfl _ _ _) rfl ?_
            rw [HR.out]
            exact ⟨_, rfl, HB2.out.alloc HB2.out.size _, owns_none w2 w.heap.size HB2.out.size⟩
        · have HR := Hid.mk' (redSum_bad (n1 := n1) hlt HS.out hst)
          have hmul : ∀ u : World, Rd u (ad1 i) (ln1 i) (cp1 i) (f1 i) → Rd u (ad2 i) (ln2 i) (cp2 i) (f2 i) → Calls Try.prog 40 #[.slice (ad1 i) (ln1 i) (cp1 i), .slice (ad2 i) (ln2 i) (cp2 i)] u fun r w' => ∃ v, r = .returned (.tuple #[v, .bool false]) ∧ Below u.heap.size u w' ∧ w'.ownsRow u.heap.size 34 5 v ([] : List T).length (cellsL ([] : List T)) := fun u k1 k2 => by
            have := mulS4 u (ad1 i) (ad2 i) (ln1 i) (cp1 i) (ln2 i) (cp2 i) (f1 i) (f2 i) k1 k2 (good_ok p1).1 (good_ok p2).1 (good_ok p1).2 (good_ok p2).2
            rw [hm] at this
            exact this
          have HMUL := Hid.mk' hmul
          clear hmul hm hst
          go_wp2_with fail
          refine (polOkS _ _ _ _ (f1 i) R1.out).mono ?_
          rw [p1]
          rintro r w1 ⟨rfl, hb⟩
          have HB1 := Hid.mk' (bel_next HB.out hb)
          have R11 := Hid.mk' (R1.out.below hb)
          have R21 := Hid.mk' (R2.out.below hb)
          have HO1 := Hid.mk' (owns_below HO.out hb)
          have HC1 := Hid.mk' (HC.out.below hb)
          obtain ⟨g1', g2'⟩ := HC.out.below hb
          clear hb g1 g2 HC R1 R2 HO HB
          go_wp2_with fail
          refine (polOkS _ _ _ _ (f2 i) R21.out).mono ?_
          rw [p2]
          rintro r w2 ⟨rfl, hb⟩
          have HB2 := Hid.mk' (bel_next HB1.out hb).drew
          have hS2 : C2 b1 (off1 + i) (.slice (ad1 i) (ln1 i) (cp1 i)) b2 (off2 + i) (.slice (ad2 i) (ln2 i) (cp2 i)) w2.drew := (HC1.out.below hb).below (Below.refl _ _).drew
          have hcall := HMUL.out w2.drew ((R11.out.below hb).below (Below.refl _ _).drew) ((R21.out.below hb).below (Below.refl _ _).drew)
          have HO2 := Hid.mk' (owns_below (owns_below HO1.out hb) (Below.refl _ _).drew)
          clear hb g1' g2' HMUL R11 R21 HC1 HB1 HO1
          go_wp2_with fail
          go_region_held3 (fun u => u.cell? ⟨b1, off1 + i, none⟩ = some (.slice (ad1 i) (ln1 i) (cp1 i)) ∧ u.cell? ⟨b2, off2 + i, none⟩ = some (.slice (ad2 i) (ln2 i) (cp2 i))) (first | with_reducible exact hS2 | with_reducible exact C2.below hS2 hb3) (first | (go_at_call 40; refine hcall.mono ?_; rintro e w3 ⟨v3, rfl, hb3, ho3⟩))
          have HB3 := Hid.mk' (bel_next HB2.out hb3)
          have HO3 := Hid.mk' (owns_below HO2.out hb3)
          clear hS2 hcall hb3 HO2 HB2
          clear ho3 HO3
          go_wp2
          refine bodyPost_ret (results_tmp2 rfl _ _ _) rfl ?_
          rw [HR.out]
          exact ⟨_, rfl, HB3.out.alloc HB3.out.size _, owns_none w3 w.heap.size HB3.out.size⟩
        · have HR := Hid.mk' (redSum_bad (n1 := n1) hlt HS.out hst)
          have hmul : ∀ u : World, Rd u (ad1 i) (ln1 i) (cp1 i) (f1 i) → Rd u (ad2 i) (ln2 i) (cp2 i) (f2 i) → Calls Try.prog 40 #[.slice (ad1 i) (ln1 i) (cp1 i), .slice (ad2 i) (ln2 i) (cp2 i)] u fun r w' => ∃ v, r = .returned (.tuple #[v, .bool true]) ∧ Below u.heap.size u w' ∧ w'.ownsRow u.heap.size 34 5 v P.length (cellsL P) := fun u k1 k2 => by
            have := mulS4 u (ad1 i) (ad2 i) (ln1 i) (cp1 i) (ln2 i) (cp2 i) (f1 i) (f2 i) k1 k2 (good_ok p1).1 (good_ok p2).1 (good_ok p1).2 (good_ok p2).2
            rw [hm] at this
            exact this
          have HMUL := Hid.mk' hmul
          clear hmul hm hst
          go_wp2_with fail
          refine (polOkS _ _ _ _ (f1 i) R1.out).mono ?_
          rw [p1]
          rintro r w1 ⟨rfl, hb⟩
          have HB1 := Hid.mk' (bel_next HB.out hb)
          have R11 := Hid.mk' (R1.out.below hb)
          have R21 := Hid.mk' (R2.out.below hb)
          have HO1 := Hid.mk' (owns_below HO.out hb)
          have HC1 := Hid.mk' (HC.out.below hb)
          obtain ⟨g1', g2'⟩ := HC.out.below hb
          clear hb g1 g2 HC R1 R2 HO HB
          go_wp2_with fail
          refine (polOkS _ _ _ _ (f2 i) R21.out).mono ?_
          rw [p2]
          rintro r w2 ⟨rfl, hb⟩
          have HB2 := Hid.mk' (bel_next HB1.out hb).drew
          have hS2 : C2 b1 (off1 + i) (.slice (ad1 i) (ln1 i) (cp1 i)) b2 (off2 + i) (.slice (ad2 i) (ln2 i) (cp2 i)) w2.drew := (HC1.out.below hb).below (Below.refl _ _).drew
          have hcall := HMUL.out w2.drew ((R11.out.below hb).below (Below.refl _ _).drew) ((R21.out.below hb).below (Below.refl _ _).drew)
          have HO2 := Hid.mk' (owns_below (owns_below HO1.out hb) (Below.refl _ _).drew)
          clear hb g1' g2' HMUL R11 R21 HC1 HB1 HO1
          go_wp2_with fail
          go_region_held3 (fun u => u.cell? ⟨b1, off1 + i, none⟩ = some (.slice (ad1 i) (ln1 i) (cp1 i)) ∧ u.cell? ⟨b2, off2 + i, none⟩ = some (.slice (ad2 i) (ln2 i) (cp2 i))) (first | with_reducible exact hS2 | with_reducible exact C2.below hS2 hb3) (first | (go_at_call 40; refine hcall.mono ?_; rintro e w3 ⟨v3, rfl, hb3, ho3⟩))
          have HB3 := Hid.mk' (bel_next HB2.out hb3)
          have HO3 := Hid.mk' (owns_below HO2.out hb3)
          clear hS2 hcall hb3 HO2 HB2
          obtain ⟨hP4, hPf⟩ := okL_falls hP
          obtain ⟨hK4, hKf⟩ := okL_falls HK.out
          obtain ⟨a3, c3, rfl, hout3⟩ := out_of_owns ho3 (by omega)
          have hO3 := HO3.out
          obtain ⟨aK, cK, rfl, houtK⟩ := out_of_owns hO3 (by omega)
          have hadd : Calls Try.prog 41 #[.slice aK K.length cK, .slice a3 P.length c3] w3 fun r w' => ∃ v, r = .returned v ∧ Below w3.heap.size w3 w' ∧ w'.ownsRow w3.heap.size 34 5 v (addL K P).length (cellsL (addL K P)) := l3AddS w3 aK a3 K.length cK P.length c3 (lf K) (lf P) houtK.1 hout3.1 (by omega) ((cok_falls hKf).at) ((cok_falls hPf).at)
          have HADD := Hid.mk' hadd
          clear hadd ho3 hout3 houtK hO3 HO3
          go_wp2_with fail
          refine HADD.out.mono ?_
          rintro r w4 ⟨v4, rfl, hb4, ho4⟩
          obtain ⟨a4, c4, rfl, hout4⟩ := out_of_owns ho4 (by have := addL_len K P; omega)
          have HB4 := Hid.mk' (bel_next HB3.out hb4)
          have HO4 := Hid.mk' (ownsRow_low ho4 HB3.out.size)
          clear hb4 ho4 hout4 HADD
          have h4 : (400 : Int) < ((addL K P).length : Int) := by omega
          go_wp2
          refine bodyPost_ret (results_tmp2 rfl _ _ _) rfl ?_
          rw [HR.out]
          exact ⟨_, rfl, HB4.out.alloc HB4.out.size _, owns_none w4 w.heap.size HB4.out.size⟩
        · skip
          have HN := Hid.mk' ((sumPr_step HS.out).trans hst)
          have hmul : ∀ u : World, Rd u (ad1 i) (ln1 i) (cp1 i) (f1 i) → Rd u (ad2 i) (ln2 i) (cp2 i) (f2 i) → Calls Try.prog 40 #[.slice (ad1 i) (ln1 i) (cp1 i), .slice (ad2 i) (ln2 i) (cp2 i)] u fun r w' => ∃ v, r = .returned (.tuple #[v, .bool true]) ∧ Below u.heap.size u w' ∧ w'.ownsRow u.heap.size 34 5 v P.length (cellsL P) := fun u k1 k2 => by
            have := mulS4 u (ad1 i) (ad2 i) (ln1 i) (cp1 i) (ln2 i) (cp2 i) (f1 i) (f2 i) k1 k2 (good_ok p1).1 (good_ok p2).1 (good_ok p1).2 (good_ok p2).2
            rw [hm] at this
            exact this
          have HMUL := Hid.mk' hmul
          clear hmul hm hst
          go_wp2_with fail
          refine (polOkS _ _ _ _ (f1 i) R1.out).mono ?_
          rw [p1]
          rintro r w1 ⟨rfl, hb⟩
          have HB1 := Hid.mk' (bel_next HB.out hb)
          have R11 := Hid.mk' (R1.out.below hb)
          have R21 := Hid.mk' (R2.out.below hb)
          have HO1 := Hid.mk' (owns_below HO.out hb)
          have HC1 := Hid.mk' (HC.out.below hb)
          obtain ⟨g1', g2'⟩ := HC.out.below hb
          clear hb g1 g2 HC R1 R2 HO HB
          go_wp2_with fail
          refine (polOkS _ _ _ _ (f2 i) R21.out).mono ?_
          rw [p2]
          rintro r w2 ⟨rfl, hb⟩
          have HB2 := Hid.mk' (bel_next HB1.out hb).drew
          have hS2 : C2 b1 (off1 + i) (.slice (ad1 i) (ln1 i) (cp1 i)) b2 (off2 + i) (.slice (ad2 i) (ln2 i) (cp2 i)) w2.drew := (HC1.out.below hb).below (Below.refl _ _).drew
          have hcall := HMUL.out w2.drew ((R11.out.below hb).below (Below.refl _ _).drew) ((R21.out.below hb).below (Below.refl _ _).drew)
          have HO2 := Hid.mk' (owns_below (owns_below HO1.out hb) (Below.refl _ _).drew)
          clear hb g1' g2' HMUL R11 R21 HC1 HB1 HO1
          go_wp2_with fail
          go_region_held3 (fun u => u.cell? ⟨b1, off1 + i, none⟩ = some (.slice (ad1 i) (ln1 i) (cp1 i)) ∧ u.cell? ⟨b2, off2 + i, none⟩ = some (.slice (ad2 i) (ln2 i) (cp2 i))) (first | with_reducible exact hS2 | with_reducible exact C2.below hS2 hb3) (first | (go_at_call 40; refine hcall.mono ?_; rintro e w3 ⟨v3, rfl, hb3, ho3⟩))
          have HB3 := Hid.mk' (bel_next HB2.out hb3)
          have HO3 := Hid.mk' (owns_below HO2.out hb3)
          clear hS2 hcall hb3 HO2 HB2
          obtain ⟨hP4, hPf⟩ := okL_falls hP
          obtain ⟨hK4, hKf⟩ := okL_falls HK.out
          obtain ⟨a3, c3, rfl, hout3⟩ := out_of_owns ho3 (by omega)
          have hO3 := HO3.out
          obtain ⟨aK, cK, rfl, houtK⟩ := out_of_owns hO3 (by omega)
          have hadd : Calls Try.prog 41 #[.slice aK K.length cK, .slice a3 P.length c3] w3 fun r w' => ∃ v, r = .returned v ∧ Below w3.heap.size w3 w' ∧ w'.ownsRow w3.heap.size 34 5 v (addL K P).length (cellsL (addL K P)) := l3AddS w3 aK a3 K.length cK P.length c3 (lf K) (lf P) houtK.1 hout3.1 (by omega) ((cok_falls hKf).at) ((cok_falls hPf).at)
          have HADD := Hid.mk' hadd
          clear hadd ho3 hout3 houtK hO3 HO3
          go_wp2_with fail
          refine HADD.out.mono ?_
          rintro r w4 ⟨v4, rfl, hb4, ho4⟩
          obtain ⟨a4, c4, rfl, hout4⟩ := out_of_owns ho4 (by have := addL_len K P; omega)
          have HB4 := Hid.mk' (bel_next HB3.out hb4)
          have HO4 := Hid.mk' (ownsRow_low ho4 HB3.out.size)
          clear hb4 ho4 hout4 HADD
          have h4 : ¬ (400 : Int) < ((addL K P).length : Int) := by omega
          go_wp2
          go_roundw
          case rel => exact ⟨i + 1, addL K P, by omega, by go_num, HN.out, hok, HB4.out, HO4.out⟩
          case measure => simp [intOf]; omega
      · have hnl : ¬ (i : Int) < (n1 : Int) := by omega
        have hie : i = n1 := by omega
        subst hie
        have e2 : redSum i ln1 f1 i ln2 f2 = (K, true) := by rw [HE.out, HS.out]; rfl
        have HE2 := Hid.mk' e2
        clear e2 hown
        go_wp2
        refine bodyPost_ret (results_tmp2 rfl _ _ _) rfl ?_
        rw [HE2.out]
        exact ⟨_, rfl, HB.out, HO.out⟩
  · have HE : Hid (redSum n1 ln1 f1 n2 ln2 f2 = ([], false)) := if_neg hn
    by_cases he : n1 = n2
    · subst he
      have hne : ((n1 : Int) != (n1 : Int)) = false := by simp
      have hng : (12 : Int) < (n1 : Int) := by omega
      go_enter Try.func15, Try.ntmps15
      go_wp2
      refine bodyPost_ret (results_tmp2 rfl _ _ _) rfl ?_
      rw [HE.out]
      exact ⟨_, rfl, HB0.out, HO0.out⟩
    · have hne : ((n1 : Int) != (n2 : Int)) = true := by simp; omega
      go_enter Try.func15, Try.ntmps15
      go_wp2
      refine bodyPost_ret (results_tmp2 rfl _ _ _) rfl ?_
      rw [HE.out]
      exact ⟨_, rfl, HB0.out, HO0.out⟩
end Go.Proofs.Ytfjmpempemingaa
