/-
  An order and a basis, or but some operators, are drawn (spec.l20Base); what is drawn lies apart from the reader.
  A proof, column by column: the program's way is the model's.
  A proof is made, column by column: impl.grbProof.
-/
import Derived.Test.YtmlaedpamobmhaaGreatGbo
import Derived.Test.YtmlaedpamobmhaaGreatGbt
import Derived.Test.YtmlaedpamobmhaaGreatGbq
import Derived.Test.YtmlaedpamobmhaaGreatGbk
import Derived.Test.YtmlaedpamobmhaaGreatGbf
import Derived.Test.YtmlaedpamobmhaaGreatGay
namespace Go.Proofs.YtmlaedpamobmhaaGreat
open Go.RowKit Go.Deep Go.Joins
set_option linter.unusedVariables false

theorem fr_beside {B : Nat} {w w' : World} (h : Beside B w w') : Fr (fun k => k = B) w w' := ⟨h.os, h.tape, h.output, h.size, fun k hk hn => h.block k hk hn⟩
theorem RSo.beside {B : Nat} {w w' : World} {a : Option Addr} {g c : Nat} {ad : Nat → Option Addr} {cp : Nat → Nat} {Q : Nat → List T} (h : RSo (fun b => b ≠ B) w a g c ad cp Q) (hb : Beside B w w') : RSo (fun b => b ≠ B) w' a g c ad cp Q := h.fr (fr_beside hb) (fun b hn e => hn e)
theorem RSo.below {N : Nat → Prop} {w w' : World} {a : Option Addr} {g c : Nat} {ad : Nat → Option Addr} {cp : Nat → Nat} {Q : Nat → List T} (h : RSo N w a g c ad cp Q) (hb : Below w.heap.size w w') : RSo N w' a g c ad cp Q := h.fr (P := fun _ => False) (Fr.of_below hb) (fun _ _ q => q)
/-- a drawn list lies apart from the reader. -/
theorem rso_list {w : World} {B lo lo' : Nat} {g' : Option Nat} {v : Value} {LS : List Value} (h : w.ownsRow lo 35 1 v LS.length LS) (hE : ∀ e ∈ LS, El w lo' g' e) (hl : LS.length ≤ 100) (h1 : B < lo) (h2 : B < lo') : ∃ a c ad cp L, v = .slice a LS.length c ∧ RSo (fun b => b ≠ B) w a LS.length c ad cp L := by
  have each : ∀ i, i < LS.length → ∃ t : (Option Addr × Nat) × List T, LS[i]? = some (.slice t.1.1 t.2.length t.1.2) ∧ RL w t.1.1 t.1.2 t.2 ∧ (t.2.length = 0 ∨ ∀ b off, t.1.1 = some ⟨b, off, none⟩ → b ≠ B) := fun i hi => by
    obtain ⟨a, n, c, f, e, hr, _, hb⟩ := hE (LS[i]) (List.getElem_mem hi)
    obtain ⟨X, rfl, hX⟩ := list_of hr
    exact ⟨((a, c), X), by rw [List.getElem?_eq_getElem hi, e], hX, hb.imp id (fun ⟨b, off, e1, hlo, _⟩ b' off' e2 => by rw [e1] at e2; cases e2; omega)⟩
  haveI : Inhabited ((Option Addr × Nat) × List T) := ⟨((none, 0), [])⟩
  obtain ⟨q, hq⟩ := choose_lt each
  rcases h.2 with ⟨hv, h0⟩ | ⟨b, cap, cur, hv, hlo, hg, hnc, _⟩
  · exact ⟨none, 0, fun i => (q i).1.1, fun i => (q i).1.2, fun i => (q i).2, by rw [hv, h0], ⟨by omega, by omega, .inl h0, fun i hi => (hq i hi).2.1⟩, .inl h0, fun i hi => (hq i hi).2.2⟩
  · have hr := h
    rw [hv] at hr
    refine ⟨some ⟨b, 0, none⟩, cap, fun i => (q i).1.1, fun i => (q i).1.2, fun i => (q i).2, hv, ⟨hnc, by omega, .inr ⟨b, 0, rfl, (hr.lt b rfl).2, fun i hi => ?_⟩, fun i hi => (hq i hi).2.1⟩, .inr (fun b' off' e => ?_), fun i hi => (hq i hi).2.2⟩
    · rw [Nat.zero_add, hr.cellAt i (by omega), (hq i hi).1]
    · cases e; omega
/-- so does the list of a basis that was made behind it. -/
theorem rso_base {Y : Nat → Prop} {w : World} {lo : Nat} {tvL tvP : Value} {g nL : Nat} {L : Nat → List T} {nP : Nat} {Q : Nat → Nat → List T} {LS PS : List Value} (h : BsW Y w lo tvL tvP g nL L nP Q LS PS) (hn : nL ≤ 100) {B : Nat} (hB : Y B) : ∃ a c ad cp, tvL = .slice a nL c ∧ RSo (fun b => b ≠ B) w a nL c ad cp L := by
  have each : ∀ i, i < nL → ∃ t : Option Addr × Nat, LS[i]? = some (.slice t.1 (L i).length t.2) ∧ RLo (NB Y tvL tvP) w t.1 t.2 (L i) := fun i hi => by
    obtain ⟨a, c, e, hr⟩ := h.eL i hi
    exact ⟨(a, c), e, hr⟩
  haveI : Inhabited (Option Addr × Nat) := ⟨(none, 0)⟩
  obtain ⟨q, hq⟩ := choose_lt each
  have el : ∀ i, i < nL → (L i).length = 0 ∨ ∀ b off, (q i).1 = some ⟨b, off, none⟩ → b ≠ B := fun i hi => ((hq i hi).2.2).imp id (fun k b off e q' => (k b off e).2.2 (by rw [q']; exact hB))
  rcases h.rL.2 with ⟨hv, h0⟩ | ⟨b, cap, cur, hv, hlo, hg, hnc, _⟩
  · exact ⟨none, 0, fun i => (q i).1, fun i => (q i).2, by rw [hv, h0], ⟨by omega, by omega, .inl h0, fun i hi => (hq i hi).2.1⟩, .inl h0, el⟩
  · have hr := h.rL
    rw [hv] at hr
    refine ⟨some ⟨b, 0, none⟩, cap, fun i => (q i).1, fun i => (q i).2, hv, ⟨hnc, by omega, .inr ⟨b, 0, rfl, (hr.lt b rfl).2, fun i hi => ?_⟩, fun i hi => (hq i hi).2.1⟩, .inr (fun b' off' e q' => ?_), el⟩
    · rw [Nat.zero_add, hr.cellAt i (by omega), (hq i hi).1]
    · cases e
      exact (h.nL b (by rw [hv]; rfl)).2 (by rw [q']; exact hB)
def BaseP (w : World) (B p : Nat) (e : Ending) (w' : World) : Prop := ∃ (o : Int) (a : Option Addr) (n c : Nat) (ad : Nat → Option Addr) (cp : Nat → Nat) (L : Nat → List T) (q : Nat), e = .returned (.tuple #[.int .i64 o, .slice a n c]) ∧ RSo (fun b => b ≠ B) w' a n c ad cp L ∧ n ≤ 12 ∧ q ≤ p + 1010 ∧ Rdr w' B q ∧ Beside B w w'
theorem grbMake_m {o : Int} {n : Nat} {L : Nat → List T} {fuel : Int} : (grbMake o n L fuel).1.m ≤ 12 := by
  obtain ⟨B, d, h⟩ : ∃ B d, grbMake o n L fuel = (B, d) := ⟨_, _, rfl⟩
  rw [h]
  rcases grbMake_mk h with ⟨h0, _⟩ | ⟨_, j, hm, _⟩
  · show B.m ≤ 12; omega
  · exact (lstOk_all hm.ok.l).1
set_option maxRecDepth 100000 in
set_option maxHeartbeats 4000000 in
theorem base_any (w : World) (B p : Nat) (h : Rdr w B p) (hp : p ≤ 700) :
    Calls Tryz.prog 51 #[.pointer (some ⟨B, 0, none⟩)] w (BaseP w B p) := by
  have hB := h.lt
  go_enter Tryz.func51, Tryz.ntmps51
  go_wp2_with fail
  refine (order_any w _ _ h (by omega)).mono ?_
  rintro e w2 ⟨o, rfl, hR2, s2⟩
  have hs2 := s2.size
  have HS2 := Hid.mk' s2
  clear h s2
  go_wp2_with fail
  refine (list_any w2 _ _ 2 24 hR2 (by omega) (by omega) (by omega) (by omega) (by omega)).mono ?_
  rintro e w4 ⟨v, LS, q', rfl, ho, hlen, hE, hq', hR4, s4⟩
  obtain ⟨aa, ca, ada, cpa, L, rfl, hra⟩ := rso_list (B := B) ho hE (by omega) (by omega) (by omega)
  have hs4 := s4.size
  have HS4 := Hid.mk' (HS2.out.trans s4)
  have HRA := Hid.mk' hra
  have HR4 := Hid.mk' hR4
  clear hR2 hR4 s4 hra ho hE HS2
  go_wp2_with fail
  refine (grbMakeS w4 o aa LS.length ca ada cpa L HRA.out.1 60).mono ?_
  have hm12 := grbMake_m (o := o) (n := LS.length) (L := L) (fuel := 60)
  obtain ⟨X, d, hX⟩ : ∃ X d, grbMake o LS.length L 60 = (X, d) := ⟨_, _, rfl⟩
  rw [hX] at hm12 ⊢
  rintro e w5 ⟨tvL, tvP, LS5, PS5, rfl, hb5, hk5⟩
  have hm12' : X.m ≤ 12 := hm12
  obtain ⟨la, lc, lad, lcp, rfl, hrl⟩ := rso_base hk5 (show X.m ≤ 100 by omega) (B := B) (show B < w4.heap.size by omega)
  obtain ⟨pa, pc, pA, pC, pAD, pCP, rfl, _⟩ := hk5.readP (show X.m ≤ 100 by omega)
  have hs5 := hb5.size
  have HRA5 := Hid.mk' (HRA.out.below hb5)
  have HRL5 := Hid.mk' hrl
  have HR5 := Hid.mk' (HR4.out.grown (below_grown hb5 none) (fun _ e => by cases e))
  have HS5 : Hid (Beside B w w5) := HS4.out.trans ⟨hb5.os, hb5.tape, hb5.output, hb5.size, fun k hk _ => hb5.block k hk⟩
  have hBw : B < w5.heap.size := by omega
  clear HRA HR4 HS4 hb5 hk5 hrl hX hm12
  -- the basis's box
  have bx := bel_one w5 (.cells #[.slice la X.m lc, .slice pa X.m pc, .bool d] 28)
  have HX6 := Hid.mk' (Own3.box w5 28 (.slice la X.m lc) (.slice pa X.m pc) (.bool d))
  have HR6 := Hid.mk' (HR5.out.alloc (.cells #[.slice la X.m lc, .slice pa X.m pc, .bool d] 28))
  have HRA6 := Hid.mk' (HRA5.out.below bx)
  have HRL6 := Hid.mk' (HRL5.out.below bx)
  have HS6 := Hid.mk' (HS5.out.alloc (.cells #[.slice la X.m lc, .slice pa X.m pc, .bool d] 28))
  clear HRA5 HRL5 HR5 HS5 bx
  go_wp2_with fail
  refine (pick_any _ B _ 3 HR6.out (by omega) (by omega) (by omega)).mono ?_
  rintro e w7 ⟨x, rfl, hx0, hx3, hp7⟩
  have s7 := hp7.beside
  have HR7 := Hid.mk' (hp7.rdr HR6.out)
  have HRA7 := Hid.mk' (HRA6.out.beside s7)
  have HRL7 := Hid.mk' (HRL6.out.beside s7)
  have HS7 := Hid.mk' (HS6.out.trans s7)
  obtain ⟨⟨c0, c1, c2⟩, cz⟩ := HX6.out.fr (fr_beside s7) (by omega)
  clear hp7 s7 HRA6 HRL6 HR6 HS6 HX6
  by_cases hx : 0 < x
  · cases d
    · go_wp2
      refine bodyPost_ret (v := .tuple #[.int .i64 o, .slice aa LS.length ca]) (by simp [results, Tryz.results51, go_sem, *]) rfl ?_
      exact ⟨o, aa, LS.length, ca, ada, cpa, L, _, rfl, HRA7.out, by omega, by omega, HR7.out, HS7.out⟩
    · go_wp2_with fail
      have hS : w7.drew.cell? ⟨w5.heap.size, 0, none⟩ = some (.slice la X.m lc) := c0
      go_region_held3 (fun u => u.cell? ⟨w5.heap.size, 0, none⟩ = some (.slice la X.m lc)) (with_reducible exact hS) (fail)
      go_wp2
      refine bodyPost_ret (v := .tuple #[.int .i64 o, .slice la X.m lc]) (by simp [results, Tryz.results51, go_sem, *]) rfl ?_
      exact ⟨o, la, X.m, lc, lad, lcp, X.L, _, rfl, HRL7.out.below (Below.refl _ _).drew, hm12', by omega, HR7.out.drewN 1, HS7.out.drew⟩
  · go_wp2
    refine bodyPost_ret (v := .tuple #[.int .i64 o, .slice aa LS.length ca]) (by simp [results, Tryz.results51, go_sem, *]) rfl ?_
    exact ⟨o, aa, LS.length, ca, ada, cpa, L, _, rfl, HRA7.out, by omega, by omega, HR7.out, HS7.out⟩
end Go.Proofs.YtmlaedpamobmhaaGreat
namespace Go.Proofs.YtmlaedpamobmhaaGreat
open Go.RowKit Go.Deep Go.Joins
set_option linter.unusedVariables false

/-- a row of what may be too much. -/
def rowO (f : Nat → Option (List T)) : Nat → Option (Nat → List T)
  | 0 => some (fun _ => [])
  | j + 1 => match rowO f j with
    | none => none
    | some R => match f j with
      | none => none
      | some Y => some (updL R j Y)
theorem rowO_step {f : Nat → Option (List T)} {j : Nat} {R : Nat → List T} {Y : List T} (h : rowO f j = some R) (hf : f j = some Y) : rowO f (j + 1) = some (updL R j Y) := by
  show (match rowO f j with | none => none | some R => match f j with | none => none | some Y => some (updL R j Y)) = _
  rw [h]
  show (match f j with | none => none | some Y => some (updL R j Y)) = _
  rw [hf]
theorem rowO_up {f : Nat → Option (List T)} {j : Nat} (h : rowO f j = none) : rowO f (j + 1) = none := by
  show (match rowO f j with | none => none | some R => match f j with | none => none | some Y => some (updL R j Y)) = _
  rw [h]
theorem rowO_bad {f : Nat → Option (List T)} {j : Nat} (h : f j = none) : rowO f (j + 1) = none := by
  show (match rowO f j with | none => none | some R => match f j with | none => none | some Y => some (updL R j Y)) = _
  rw [h]
  cases rowO f j <;> rfl
theorem rowO_none {f : Nat → Option (List T)} {i : Nat} (h : f i = none) : ∀ g, i < g → rowO f g = none
  | 0, hi => by omega
  | g + 1, hi => by
    by_cases e : i = g
    · subst e; exact rowO_bad h
    · exact rowO_up (rowO_none h g (by omega))
theorem rowO_get {f : Nat → Option (List T)} : ∀ g R, rowO f g = some R → ∀ i, i < g → f i = some (R i)
  | 0, R, _, i, hi => by omega
  | g + 1, R, h, i, hi => by
    cases hr : rowO f g with
    | none => rw [rowO_up hr] at h; cases h
    | some R1 =>
      cases hf : f g with
      | none => rw [rowO_bad hf] at h; cases h
      | some Y =>
        rw [rowO_step hr hf] at h
        cases h
        unfold updL
        split
        · rename_i e; rw [e]; exact hf
        · exact rowO_get g R1 hr i (by omega)
theorem rowO_congr {f f' : Nat → Option (List T)} : ∀ g, (∀ i, i < g → f i = f' i) → rowO f g = rowO f' g
  | 0, _ => rfl
  | g + 1, h => by
    show (match rowO f g with | none => none | some R => match f g with | none => none | some Y => some (updL R g Y)) = (match rowO f' g with | none => none | some R => match f' g with | none => none | some Y => some (updL R g Y))
    rw [rowO_congr g (fun i hi => h i (by omega)), h g (by omega)]
theorem lessR_row (row : Nat → List T) (q : List T) (oth : Nat → List T) : ∀ g, lessR row q oth g = rowO (fun i => lessE (row i) q (oth i)) g
  | 0 => rfl
  | g + 1 => by
    show (match lessR row q oth g with | none => none | some R => match lessE (row g) q (oth g) with | none => none | some Y => some (updL R g Y)) = _
    rw [lessR_row row q oth g]
    rfl
/-- one row behind another one. -/
theorem row_bind (f : Nat → Option (List T)) (q : List T) (oth : Nat → List T) (g : Nat) : (match rowO f g with | none => none | some R => lessR R q oth g) = rowO (fun i => (f i).bind (fun s => lessE s q (oth i))) g := by
  cases hr : rowO f g with
  | none =>
    show none = _
    have : ∃ i, i < g ∧ f i = none := by
      have key : ∀ g, (∀ i, i < g → f i ≠ none) → rowO f g ≠ none := fun g => by
        induction g with
        | zero => intro _ h; cases h
        | succ g ih =>
          intro h
          cases hg : rowO f g with
          | none => exact absurd hg (ih (fun i hi => h i (by omega)))
          | some R =>
            cases hf : f g with
            | none => exact absurd hf (h g (by omega))
            | some Y => rw [rowO_step hg hf]; simp
      by_cases e : ∃ i, i < g ∧ f i = none
      · exact e
      · exact absurd hr (key g (fun i hi q => e ⟨i, hi, q⟩))
    obtain ⟨i, hi, e⟩ := this
    exact (rowO_none (by rw [e]; rfl) g hi).symm
  | some R =>
    show lessR R q oth g = _
    rw [lessR_row]
    exact rowO_congr g fun i hi => by rw [rowO_get g R hr i hi]; rfl
/-- a column of the model's proof. -/
def colM (P : Nat → Nat → List T) (i k : Nat) (u v : T) (q : Nat → List T) (j : Nat) : Nat → Option (List T)
  | 0 => (lessE [] [negT1 u] (P i j)).bind (fun s => lessE s [v] (P k j))
  | t + 1 => (colM P i k u v q j t).bind (fun s => lessE s (q t) (P t j))
theorem madeN_row {g : Nat} {P : Nat → Nat → List T} {i k : Nat} {u v : T} {q : Nat → List T} : ∀ t, madeN g P q (made1 g P i k u v) t = rowO (fun j => colM P i k u v q j t) g
  | 0 => by
    show made1 g P i k u v = _
    have e : made1 g P i k u v = (match rowO (fun j => lessE [] [negT1 u] (P i j)) g with | none => none | some R => lessR R [v] (P k) g) := by
      unfold made1
      rw [lessR_row]
      rfl
    rw [e, row_bind]
    rfl
  | t + 1 => by
    show (match madeN g P q (made1 g P i k u v) t with | none => none | some R => lessR R (q t) (P t) g) = _
    rw [madeN_row t, row_bind]
    rfl
/-- a column of the program's proof. -/
def pc0 (F X : List T) : Option (List T) := match wmV F X with
  | (Y, true) => some Y
  | (_, false) => none
def pcS (s q X : List T) : Option (List T) := match wmV q X with
  | (Y, true) => (match subV s Y with
    | (Z, true) => some Z
    | (_, false) => none)
  | (_, false) => none
def pcN (F : List T) (P0 : Nat → List T) (qs : Nat → List T) (Q : Nat → Nat → List T) (j : Nat) : Nat → Option (List T)
  | 0 => pc0 F (P0 j)
  | t + 1 => (pcN F P0 qs Q j t).bind (fun s => pcS s (qs t) (Q t j))
theorem pcS_less {s q X : List T} (hs : okL s = true) (hq : okL q = true) (hX : okL X = true) : pcS s q X = lessE s q X := by
  unfold pcS lessE wmV wylMul
  rw [if_pos ⟨hq, hX⟩]
  cases hm : mulM (lf q) (lf X) X.length q.length with
  | none => rfl
  | some Y =>
    have oY := wm_ok (wm_mulM hq hX hm)
    show (match subV s Y with | (Z, true) => some Z | (_, false) => none) = if (subL s Y).length ≤ 400 then some (subL s Y) else none
    by_cases hl : (subL s Y).length ≤ 400
    · rw [subV_ok hs oY hl, if_pos hl]
    · rw [if_neg hl]
      rcases subV_case s Y with e | ⟨_, _, h3, _⟩
      · rw [e]
      · exact absurd h3 hl
theorem scL_back {P : List T} (h : Falls P) : subL [] (scL 100 P) = P := by
  have h1 := scL_falls (c := 100) (by omega) (by omega) h
  have h2 := subL_facts falls_nil h1
  refine falls_one h2.1 h (fun m _ => ?_)
  have r := coef_range h m
  rw [h2.2, coef_nil, scL_coef]
  omega
theorem pc0_less {u : T} {X : List T} (hu : u.m.ok = true ∧ 1 ≤ u.c ∧ u.c ≤ 100) (hX : okL X = true) : pc0 [u] X = lessE [] [negT1 u] X := by
  have ou := one_ok hu
  have en : negT1 u = scT1 100 u := by
    unfold negT1 scT1
    congr 1
    omega
  have hm := mulM_sc (f := lf [u]) (f2 := lf [negT1 u]) (la := 1) (c := 100) (by omega) (by omega) (good_ok (show polOk 1 (lf [u]) = true from ou)).2 (good_ok (show polOk X.length (lf X) = true from hX)).2 (fun i hi => by
    have e : i = 0 := by omega
    subst e
    show negT1 u = scT1 100 u
    exact en) 1 (Nat.le_refl _)
  unfold pc0 lessE wmV wylMul
  rw [if_pos ⟨ou, hX⟩]
  show (match mulO (mulM (lf [u]) (lf X) X.length 1) with | (Y, true) => some Y | (_, false) => none) = (match mulM (lf [negT1 u]) (lf X) X.length 1 with | some P => if (subL [] P).length ≤ 400 then some (subL [] P) else none | none => none)
  rw [hm]
  cases hk : mulM (lf [u]) (lf X) X.length 1 with
  | none => rfl
  | some Y =>
    have fY := mulM_falls2 (good_ok (show polOk 1 (lf [u]) = true from ou)).2 (good_ok (show polOk X.length (lf X) = true from hX)).2 1 Y (Nat.le_refl _) hk
    show some Y = if (subL [] (scL 100 Y)).length ≤ 400 then some (subL [] (scL 100 Y)) else none
    rw [scL_back fY, if_pos (mulM_len _ Y hk)]
/-- the others of a pair's proof: its second factor first. -/
def othQ (v : T) (q : Nat → List T) : Nat → List T
  | 0 => [v]
  | t + 1 => q t
def othP (P : Nat → Nat → List T) (k : Nat) : Nat → Nat → List T
  | 0 => P k
  | t + 1 => P t
theorem col_ok {P : Nat → Nat → List T} {i k m g : Nat} {u v : T} {q : Nat → List T} (hi : i < m) (hk : k < m) (hP : ∀ i, i < m → ∀ j, j < g → okL (P i j) = true) (hu : okL [negT1 u] = true) (hv : okL [v] = true) (hq : ∀ t, t < m → okL (q t) = true) {j : Nat} (hj : j < g) : ∀ t s, t ≤ m → colM P i k u v q j t = some s → okL s = true
  | 0, s, _, h => by
    change (lessE [] [negT1 u] (P i j)).bind (fun s => lessE s [v] (P k j)) = some s at h
    cases h1 : lessE [] [negT1 u] (P i j) with
    | none => rw [h1] at h; cases h
    | some s1 =>
      rw [h1] at h
      exact lessE_ok (lessE_ok okL_nil hu (hP i hi j hj) h1) hv (hP k hk j hj) h
  | t + 1, s, ht, h => by
    change (colM P i k u v q j t).bind (fun s => lessE s (q t) (P t j)) = some s at h
    cases h1 : colM P i k u v q j t with
    | none => rw [h1] at h; cases h
    | some s1 =>
      rw [h1] at h
      exact lessE_ok (col_ok hi hk hP hu hv hq hj t s1 (by omega) h1) (hq t (by omega)) (hP t (by omega) j hj) h
theorem pcN_col {P : Nat → Nat → List T} {i k m g : Nat} {u v : T} {q : Nat → List T} (hi : i < m) (hk : k < m) (hP : ∀ i, i < m → ∀ j, j < g → okL (P i j) = true) (hu : u.m.ok = true ∧ 1 ≤ u.c ∧ u.c ≤ 100) (hv : v.m.ok = true ∧ 1 ≤ v.c ∧ v.c ≤ 100) (hq : ∀ t, t < m → okL (q t) = true) {j : Nat} (hj : j < g) : ∀ t, t ≤ m → pcN [u] (P i) (othQ v q) (othP P k) j (t + 1) = colM P i k u v q j t
  | 0, _ => by
    have g1 := mod101 hu.2.1 hu.2.2
    have hn : okL [negT1 u] = true := one_ok ⟨hu.1, g1.1, g1.2⟩
    show (pc0 [u] (P i j)).bind (fun s => pcS s [v] (P k j)) = (lessE [] [negT1 u] (P i j)).bind (fun s => lessE s [v] (P k j))
    rw [pc0_less hu (hP i hi j hj)]
    cases h1 : lessE [] [negT1 u] (P i j) with
    | none => rfl
    | some s1 => exact pcS_less (lessE_ok okL_nil hn (hP i hi j hj) h1) (one_ok hv) (hP k hk j hj)
  | t + 1, ht => by
    have g1 := mod101 hu.2.1 hu.2.2
    have hn : okL [negT1 u] = true := one_ok ⟨hu.1, g1.1, g1.2⟩
    show (pcN [u] (P i) (othQ v q) (othP P k) j (t + 1)).bind (fun s => pcS s (q t) (P t j)) = (colM P i k u v q j t).bind (fun s => lessE s (q t) (P t j))
    rw [pcN_col hi hk hP hu hv hq hj t (by omega)]
    cases h1 : colM P i k u v q j t with
    | none => rfl
    | some s1 => exact pcS_less (col_ok hi hk hP hn (one_ok hv) hq hj t s1 (by omega) h1) (hq t (by omega)) (hP t (by omega) j hj)
/-- what the program makes of a pair is what the model makes. -/
theorem made_pf {P : Nat → Nat → List T} {i k m g : Nat} {u v : T} {q : Nat → List T} (hi : i < m) (hk : k < m) (hP : ∀ i, i < m → ∀ j, j < g → okL (P i j) = true) (hu : u.m.ok = true ∧ 1 ≤ u.c ∧ u.c ≤ 100) (hv : v.m.ok = true ∧ 1 ≤ v.c ∧ v.c ≤ 100) (hq : ∀ t, t < m → okL (q t) = true) : rowO (fun j => pcN [u] (P i) (othQ v q) (othP P k) j (m + 1)) g = made g P i k u v m q := by
  unfold made
  rw [madeN_row]
  exact rowO_congr g fun j hj => pcN_col hi hk hP hu hv hq hj m (Nat.le_refl _)
end Go.Proofs.YtmlaedpamobmhaaGreat
namespace Go.Proofs.YtmlaedpamobmhaaGreat
open Go.RowKit Go.Deep Go.Joins
set_option linter.unusedVariables false
set_option linter.unusedSimpArgs false

/-- parts of a proof that can be read. -/
structure Parts (w : World) (oa : Option Addr) (M oc : Nat) (qa : Nat → Option Addr) (qc : Nat → Nat) (ra : Nat → Option Addr) (rc : Nat → Nat) (rad : Nat → Nat → Option Addr) (rcp : Nat → Nat → Nat) (g : Nat) (qs : Nat → List T) (Q : Nat → Nat → List T) : Prop where
  cap : M ≤ oc
  len : M ≤ 100
  pos : M = 0 ∨ ∃ b off, oa = some ⟨b, off, none⟩ ∧ b < w.heap.size ∧ ∀ t, t < M → w.cell? ⟨b, off + t * 2, none⟩ = some (.slice (qa t) (qs t).length (qc t)) ∧ w.cell? ⟨b, off + t * 2 + 1, none⟩ = some (.slice (ra t) g (rc t))
  q : ∀ t, t < M → RL w (qa t) (qc t) (qs t)
  r : ∀ t, t < M → RdS w (ra t) g (rc t) (rad t) (lN (Q t)) (rcp t) (fN (Q t))
theorem Parts.below {w w' : World} {oa : Option Addr} {M oc : Nat} {qa : Nat → Option Addr} {qc : Nat → Nat} {ra : Nat → Option Addr} {rc : Nat → Nat} {rad : Nat → Nat → Option Addr} {rcp : Nat → Nat → Nat} {g : Nat} {qs : Nat → List T} {Q : Nat → Nat → List T} (h : Parts w oa M oc qa qc ra rc rad rcp g qs Q) (hb : Below w.heap.size w w') : Parts w' oa M oc qa qc ra rc rad rcp g qs Q :=
  ⟨h.cap, h.len, h.pos.imp id (fun ⟨b, off, e, hlt, hc⟩ => ⟨b, off, e, Nat.lt_of_lt_of_le hlt hb.size, fun t ht => ⟨(hb.cell (p := ⟨b, off + t * 2, none⟩) hlt).trans (hc t ht).1, (hb.cell (p := ⟨b, off + t * 2 + 1, none⟩) hlt).trans (hc t ht).2⟩⟩), fun t ht => (h.q t ht).below hb, fun t ht => (h.r t ht).below hb⟩
def PfP (w : World) (g : Nat) (E : Option (Nat → List T)) (r : Ending) (w' : World) : Prop :=
  Below w.heap.size w w' ∧ ((∃ R ra rc ad cp lo Rb B, E = some R ∧ r = .returned (.slice ra g rc) ∧ w.heap.size ≤ lo ∧ OutS lo w' ra g rc ad (lN R) cp (fN R) Rb B) ∨ (E = none ∧ r = .panicked [{ v := tooMuch, recovered := false }]))
abbrev S3q (u : World) (bx : Nat) (v0 v1 : Value) (rb x : Nat) (v2 : Value) : Prop := u.cell? ⟨bx, 0, none⟩ = some v0 ∧ u.cell? ⟨bx, 1, none⟩ = some v1 ∧ u.cell? ⟨rb, x, none⟩ = some v2
theorem S3q.below {u u' : World} {bx : Nat} {v0 v1 : Value} {rb x : Nat} {v2 : Value} (h : S3q u bx v0 v1 rb x v2) (hb : Below u.heap.size u u') : S3q u' bx v0 v1 rb x v2 :=
  ⟨(hb.cell (p := ⟨bx, 0, none⟩) (World.block_lt_of_cell? u _ h.1)).trans h.1, (hb.cell (p := ⟨bx, 1, none⟩) (World.block_lt_of_cell? u _ h.2.1)).trans h.2.1, (hb.cell (p := ⟨rb, x, none⟩) (World.block_lt_of_cell? u _ h.2.2)).trans h.2.2⟩
theorem C2box (w : World) (y : TypeId) (v0 v1 : Value) : (w.alloc (.cells #[v0, v1] y)).cell? ⟨w.heap.size, 0, none⟩ = some v0 ∧ (w.alloc (.cells #[v0, v1] y)).cell? ⟨w.heap.size, 1, none⟩ = some v1 := ⟨by rw [World.cell?_alloc_at _ _ _ _ rfl]; rfl, by rw [World.cell?_alloc_at _ _ _ _ rfl]; rfl⟩
theorem pcN_next {F : List T} {P0 : Nat → List T} {qs : Nat → List T} {Q : Nat → Nat → List T} {j t : Nat} {s : List T} (h : pcN F P0 qs Q j t = some s) : pcN F P0 qs Q j (t + 1) = pcS s (qs t) (Q t j) := by
  show (pcN F P0 qs Q j t).bind (fun s => pcS s (qs t) (Q t j)) = _
  rw [h]; rfl
theorem pcN_stop {F : List T} {P0 : Nat → List T} {qs : Nat → List T} {Q : Nat → Nat → List T} {j t : Nat} (h : pcN F P0 qs Q j t = none) : ∀ d, pcN F P0 qs Q j (t + d) = none
  | 0 => h
  | d + 1 => by
    show (pcN F P0 qs Q j (t + d)).bind (fun s => pcS s (qs (t + d)) (Q (t + d) j)) = none
    rw [pcN_stop h d]; rfl
theorem pcS_1 {s q X Y : List T} (h : wmV q X = (Y, false)) : pcS s q X = none := by unfold pcS; rw [h]
theorem pcS_2 {s q X Y Z : List T} (h : wmV q X = (Y, true)) (h2 : subV s Y = (Z, false)) : pcS s q X = none := by unfold pcS; rw [h]; simp only [h2]
theorem pcS_3 {s q X Y Z : List T} (h : wmV q X = (Y, true)) (h2 : subV s Y = (Z, true)) : pcS s q X = some Z := by unfold pcS; rw [h]; simp only [h2]
theorem pc0_1 {F X Y : List T} (h : wmV F X = (Y, false)) : pc0 F X = none := by unfold pc0; rw [h]
theorem pc0_2 {F X Y : List T} (h : wmV F X = (Y, true)) : pc0 F X = some Y := by unfold pc0; rw [h]
theorem wmI_O {w : World} {a b : Option Addr} {ca cb : Nat} {L K : List T} (ha : RL w a ca L) (hb : RL w b cb K) : Calls Tryz.prog 50 #[.slice a L.length ca, .slice b K.length cb] w fun r w' => ∃ a' c', r = .returned (.tuple #[.slice a' (wmV L K).1.length c', .bool (wmV L K).2]) ∧ Below w.heap.size w w' ∧ Out w.heap.size w' a' c' (wmV L K).1 := wylMulI w a b L.length ca K.length cb (lf L) (lf K) ha hb
theorem subI_O {w : World} {a b : Option Addr} {ca cb : Nat} {L K : List T} (ha : RL w a ca L) (hb : RL w b cb K) : Calls Tryz.prog 101 #[.slice a L.length ca, .slice b K.length cb] w fun r w' => ∃ a' c', r = .returned (.tuple #[.slice a' (subV L K).1.length c', .bool (subV L K).2]) ∧ Below w.heap.size w w' ∧ Out w.heap.size w' a' c' (subV L K).1 := polSubI w a b L.length ca K.length cb (lf L) (lf K) ha hb
set_option maxRecDepth 100000 in
set_option maxHeartbeats 16000000 in
theorem grbProofI (w : World) (fa : Option Addr) (fc : Nat) (F : List T) (hF : RL w fa fc F) (ia : Option Addr) (g ic : Nat) (iad : Nat → Option Addr) (icp : Nat → Nat) (P0 : Nat → List T) (hI : RdS w ia g ic iad (lN P0) icp (fN P0)) (hg : g ≤ 12) (oa : Option Addr) (M oc : Nat) (qa : Nat → Option Addr) (qc : Nat → Nat) (ra : Nat → Option Addr) (rc : Nat → Nat) (rad : Nat → Nat → Option Addr) (rcp : Nat → Nat → Nat) (qs : Nat → List T) (Q : Nat → Nat → List T) (hO : Parts w oa M oc qa qc ra rc rad rcp g qs Q) {E : Option (Nat → List T)} (hE : rowO (fun j => pcN F P0 qs Q j M) g = E) :
    Calls Tryz.prog 148 #[.agg #[.slice fa F.length fc, .slice ia g ic], .slice oa M oc] w (PfP w g E) := by
  obtain ⟨i0, hi0, hz0, hz1, hz2⟩ := info_parts infoSL
  have hgl : (g : Int) ≤ 12 := by omega
  have hMl : (M : Int) ≤ 100 := by have := hO.len; omega
  obtain ⟨w1, hw1⟩ : ∃ w1, w.alloc (.cells #[.slice fa F.length fc, .slice ia g ic] 176) = w1 := ⟨_, rfl⟩
  have b1 : Below w.heap.size w w1 := by rw [← hw1]; exact bel_one w _
  have HX1 : Hid (w1.cell? ⟨w.heap.size, 0, none⟩ = some (.slice fa F.length fc) ∧ w1.cell? ⟨w.heap.size, 1, none⟩ = some (.slice ia g ic)) := by rw [← hw1]; exact C2box w 176 _ _
  have HB1 := Hid.mk' b1
  have HF1 := Hid.mk' (hF.below b1)
  have HI1 := Hid.mk' (hI.below b1)
  have HO1 := Hid.mk' (hO.below b1)
  have HE := Hid.mk' hE
  have hs1 : w.heap.size < w1.heap.size := World.block_lt_of_cell? w1 _ HX1.out.1
  obtain ⟨k0, k1⟩ := HX1.out
  clear hF hI hO hE b1
  go_enter Tryz.func148, Tryz.ntmps148
  go_wp2
  clear hw1
  go_loopw [5, 14] (fun tv ii wr => ∃ (j : Nat) (X : Nat → List T) (ad : Nat → Option Addr) (cp B : Nat → Nat), j ≤ g ∧ ii = .int .i64 (j : Int) ∧ rowO (fun j => pcN F P0 qs Q j M) j = some X ∧ Below w1.heap.size w1 wr ∧ AnW w1.heap.size wr X j tv ad cp B) (fun _ ii _ => g - (intOf ii).toNat)
  case atStart => exact ⟨0, fun _ => [], _, _, _, Nat.zero_le _, rfl, rfl, Below.refl _ _, AnW.start (Nat.le_refl _) _⟩
  case round =>
    obtain ⟨j, X, ad, cp, B, hj, rfl, hX, hB, hA⟩ := hrel
    obtain ⟨wo, rfl⟩ : ∃ x, x = wr := ⟨_, rfl⟩
    have HX := Hid.mk' hX
    have HB := Hid.mk' hB
    have HA := Hid.mk' hA
    clear hX k0 k1
    by_cases hlt : j < g
    · have hjl : (j : Int) < (g : Int) := by omega
      have hmax : j + 1 ≤ maxLen := by unfold maxLen; omega
      obtain ⟨ib, ioff, rfl, hib, hicl⟩ := HI1.out.2.2.1.resolve_left (by omega)
      obtain ⟨PJ, hPJ⟩ : ∃ PJ, P0 j = PJ := ⟨_, rfl⟩
      have cj : wo.cell? ⟨ib, ioff + j, none⟩ = some (.slice (iad j) PJ.length (icp j)) := (hB.cell (p := ⟨ib, ioff + j, none⟩) hib).trans (by rw [← hPJ]; exact hicl j hlt)
      have c0 : wo.cell? ⟨w.heap.size, 0, none⟩ = some (.slice fa F.length fc) := (hB.cell (p := ⟨w.heap.size, 0, none⟩) hs1).trans HX1.out.1
      have RJ : Hid (RL wo (iad j) (icp j) PJ) := by rw [← hPJ]; exact (HI1.out.2.2.2 j hlt).below hB
      have RF := Hid.mk' (HF1.out.below hB)
      obtain ⟨Y, o0, hY⟩ : ∃ Y b, wmV F PJ = (Y, b) := ⟨_, _, rfl⟩
      have hc := wmI_O RF.out RJ.out
      rw [hY] at hc
      have HC := Hid.mk' hc
      have hY' : wmV F (P0 j) = (Y, o0) := by rw [hPJ]; exact hY
      have HY := Hid.mk' hY'
      have hsr : w1.heap.size ≤ wo.heap.size := hB.size
      clear hicl hPJ hY hY' hc hB hA
      go_wp2_with fail
      refine HC.out.mono ?_
      rintro e w4 ⟨ya, yc, rfl, b4, hy⟩
      have HB4 := Hid.mk' (bel_next HB.out b4)
      have HA4 := Hid.mk' (HA.out.below b4)
      have HBr4 := Hid.mk' b4
      have HY4 := Hid.mk' hy
      clear b4 hy HC cj c0
      cases o0
      · have hEn : E = none := by
          rw [← HE.out]
          refine rowO_none (i := j) ?_ g hlt
          have := pcN_stop (qs := qs) (Q := Q) (j := j) (t := 0) (pc0_1 HY.out) M
          rwa [Nat.zero_add] at this
        subst hEn
        go_wp2_with fail
        refine (redNeed_no _ _).mono ?_
        rintro e wn ⟨rfl, hwn⟩
        obtain rfl := hwn.symm
        clear hwn
        exact ⟨rfl, HB1.out.trans (HB4.out.mono (Nat.le_of_lt hs1)), .inr ⟨rfl, rfl⟩⟩
      go_wp2_with fail
      refine (redNeed_yes _ _).mono ?_
      rintro e wn ⟨rfl, hwn⟩
      obtain rfl := hwn.symm
      clear hwn
      go_wp2
      go_loopw [8, 28] (fun sv tt wi => ∃ (t : Nat) (s : List T) (sa : Option Addr) (sc : Nat), t ≤ M ∧ tt = .int .i64 (t : Int) ∧ pcN F P0 qs Q j t = some s ∧ sv = .slice sa s.length sc ∧ Below w4.heap.size w4 wi ∧ Out wo.heap.size wi sa sc s) (fun _ tt _ => M - (intOf tt).toNat)
      case atStart => exact ⟨0, Y, ya, yc, Nat.zero_le _, rfl, pc0_2 HY.out, rfl, Below.refl _ _, HY4.out⟩
      case round =>
        obtain ⟨t, s, sa, sc, ht, rfl, hs, rfl, hBi, hso⟩ := hrel
        have HS := Hid.mk' hs
        have HBi := Hid.mk' hBi
        have HSO := Hid.mk' hso
        clear hs hso
        by_cases htm : t < M
        · have htl : (t : Int) < (M : Int) := by omega
          obtain ⟨ob, off, rfl, hob, hocl⟩ := HO1.out.pos.resolve_left (by omega)
          have hB1i := bel_next HB4.out hBi
          obtain ⟨ca, cb⟩ := hocl t htm
          have d0 := (hB1i.cell (p := ⟨ob, off + t * 2, none⟩) hob).trans ca
          have d1 := (hB1i.cell (p := ⟨ob, off + t * 2 + 1, none⟩) hob).trans cb
          obtain ⟨rb, roff, era, hrb, hrcl⟩ := (HO1.out.r t htm).2.2.1.resolve_left (by omega)
          obtain ⟨QJ, hQJ⟩ : ∃ QJ, Q t j = QJ := ⟨_, rfl⟩
          have cr : wr.cell? ⟨rb, roff + j, none⟩ = some (.slice (rad t j) QJ.length (rcp t j)) := (hB1i.cell (p := ⟨rb, roff + j, none⟩) hrb).trans (by rw [← hQJ]; exact hrcl j hlt)
          rw [era] at d1
          obtain ⟨bx, hbx⟩ : ∃ bx, bx = wr.heap.size := ⟨_, rfl⟩
          have bX := bel_next (bel_one wr (.cells #[.slice (qa t) (qs t).length (qc t), .slice (some ⟨rb, roff, none⟩) g (rc t)] 176)) (Below.refl _ _).drew
          have HS0 : Hid (S3q (wr.alloc (.cells #[.slice (qa t) (qs t).length (qc t), .slice (some ⟨rb, roff, none⟩) g (rc t)] 176)).drew wr.heap.size (.slice (qa t) (qs t).length (qc t)) (.slice (some ⟨rb, roff, none⟩) g (rc t)) rb (roff + j) (.slice (rad t j) QJ.length (rcp t j))) := ⟨(C2box wr 176 _ _).1, (C2box wr 176 _ _).2, (bX.cell (p := ⟨rb, roff + j, none⟩) (World.block_lt_of_cell? wr _ cr)).trans cr⟩
          have HBX := Hid.mk' (bel_next hBi bX)
          have HB1X := Hid.mk' (bel_next hB1i bX)
          have RQ := Hid.mk' (((HO1.out.q t htm).below hB1i).below bX)
          have RR : Hid (RL (wr.alloc (.cells #[.slice (qa t) (qs t).length (qc t), .slice (some ⟨rb, roff, none⟩) g (rc t)] 176)).drew (rad t j) (rcp t j) QJ) := by rw [← hQJ]; exact (((HO1.out.r t htm).2.2.2 j hlt).below hB1i).below bX
          have HS5 : Hid (Out wo.heap.size (wr.alloc (.cells #[.slice (qa t) (qs t).length (qc t), .slice (some ⟨rb, roff, none⟩) g (rc t)] 176)).drew sa sc s) := HSO.out.below bX
          obtain ⟨Y1, o1, hY1⟩ : ∃ Y b, wmV (qs t) QJ = (Y, b) := ⟨_, _, rfl⟩
          obtain ⟨Z1, o2, hZ1⟩ : ∃ Z b, subV s Y1 = (Z, b) := ⟨_, _, rfl⟩
          have hc1 := wmI_O RQ.out RR.out
          rw [hY1] at hc1
          have HC1 := Hid.mk' hc1
          have HC2 : Hid (∀ (W : World) (ya : Option Addr) (yc : Nat), RL W sa sc s → RL W ya yc Y1 → Calls Tryz.prog 101 #[.slice sa s.length sc, .slice ya Y1.length yc] W fun r w' => ∃ a' c', r = .returned (.tuple #[.slice a' Z1.length c', .bool o2]) ∧ Below W.heap.size W w' ∧ Out W.heap.size w' a' c' Z1) := fun W ya yc h1 h2 => by
            have := subI_O h1 h2
            rw [hZ1] at this
            exact this
          have hY2 : wmV (qs t) (Q t j) = (Y1, o1) := by rw [hQJ]; exact hY1
          have HY1 := Hid.mk' hY2
          have HZ1 := Hid.mk' hZ1
          have hsx : wo.heap.size ≤ wr.heap.size := by have := HBr4.out.size; have := hBi.size; omega
          clear hrcl hocl hQJ hY1 hY2 hZ1 hc1 ca cb hB1i bX hBi cr
          subst hbx
          cases o1
          · have hEn : E = none := by
              rw [← HE.out]
              refine rowO_none (i := j) ?_ g hlt
              have := pcN_stop (t := t + 1) ((pcN_next HS.out).trans (pcS_1 HY1.out)) (M - (t + 1))
              rwa [show t + 1 + (M - (t + 1)) = M by omega] at this
            subst hEn
            go_wp2_with fail
            have hS := HS0.out
            refine wp_region_held_drew (S := (fun x => S3q x wr.heap.size (.slice (qa t) (qs t).length (qc t)) (.slice (some ⟨rb, roff, none⟩) g (rc t)) rb (roff + j) (.slice (rad t j) QJ.length (rcp t j)))) (by kernel_rfl) (hS) (fun hHeld => ?_)
            refine wpAnyH_take (i := 0) (v := ?_) rfl (by kernel_rfl) (by kernel_rfl) (by kernel_rfl) (fun _ _ _ h => h) (Or.inl ⟨by rfl, ?_⟩) (by assumption) ?_
            rotate_left
            · (intro w9 hSw; (try dsimp only at hSw); go_simp) <;> with_reducible rfl
            try simp only [Act.put, List.getElem_toArray, List.getElem_cons_succ, List.getElem_cons_zero, List.setIfInBounds_toArray, List.set_cons_zero, List.set_cons_succ]
            refine wpAnyH_take (i := 1) (v := ?_) rfl (by kernel_rfl) (by kernel_rfl) (by kernel_rfl) (fun _ _ _ h => h) (Or.inl ⟨by rfl, ?_⟩) (by assumption) ?_
            rotate_left
            · (intro w9 hSw; (try dsimp only at hSw); go_simp) <;> with_reducible rfl
            try simp only [Act.put, List.getElem_toArray, List.getElem_cons_succ, List.getElem_cons_zero, List.setIfInBounds_toArray, List.set_cons_zero, List.set_cons_succ]
            refine wpAnyH_take (i := 2) (v := ?_) rfl (by kernel_rfl) (by kernel_rfl) (by kernel_rfl) (fun _ _ _ h => h) (Or.inl ⟨by rfl, ?_⟩) (by assumption) ?_
            rotate_left
            · (intro w9 hSw; (try dsimp only at hSw); go_simp) <;> with_reducible rfl
            try simp only [Act.put, List.getElem_toArray, List.getElem_cons_succ, List.getElem_cons_zero, List.setIfInBounds_toArray, List.set_cons_zero, List.set_cons_succ]
            refine wpAnyH_take (i := 3) (v := ?_) rfl (by kernel_rfl) (by kernel_rfl) (by kernel_rfl) (fun _ _ _ h => h) (Or.inl ⟨by rfl, ?_⟩) (by assumption) ?_
            rotate_left
            · (intro w9 hSw; (try dsimp only at hSw); go_simp) <;> with_reducible rfl
            try simp only [Act.put, List.getElem_toArray, List.getElem_cons_succ, List.getElem_cons_zero, List.setIfInBounds_toArray, List.set_cons_zero, List.set_cons_succ]
            refine wpAnyH_take (i := 4) (v := ?_) rfl (by kernel_rfl) (by kernel_rfl) (by kernel_rfl) (fun _ _ _ h => h) (Or.inl ⟨by rfl, ?_⟩) (by assumption) ?_
            rotate_left
            · (intro w9 hSw; (try dsimp only at hSw); go_simp) <;> with_reducible rfl
            try simp only [Act.put, List.getElem_toArray, List.getElem_cons_succ, List.getElem_cons_zero, List.setIfInBounds_toArray, List.set_cons_zero, List.set_cons_succ]
            refine wpAnyH_take (i := 5) (v := ?_) rfl (by kernel_rfl) (by kernel_rfl) (by kernel_rfl) (fun _ _ _ h => h) (Or.inl ⟨by rfl, ?_⟩) (by assumption) ?_
            rotate_left
            · (intro w9 hSw; (try dsimp only at hSw); go_simp) <;> with_reducible rfl
            try simp only [Act.put, List.getElem_toArray, List.getElem_cons_succ, List.getElem_cons_zero, List.setIfInBounds_toArray, List.set_cons_zero, List.set_cons_succ]
            refine wpAnyH_take (i := 6) (v := ?_) rfl (by kernel_rfl) (by kernel_rfl) (by kernel_rfl) (fun _ _ _ h => h) (Or.inl ⟨by rfl, ?_⟩) (by assumption) ?_
            rotate_left
            · (intro w9 hSw; (try dsimp only at hSw); go_simp) <;> with_reducible rfl
            try simp only [Act.put, List.getElem_toArray, List.getElem_cons_succ, List.getElem_cons_zero, List.setIfInBounds_toArray, List.set_cons_zero, List.set_cons_succ]
            refine wpAnyH_take (i := 7) (v := ?_) rfl (by kernel_rfl) (by kernel_rfl) (by kernel_rfl) (fun _ _ _ h => h) (Or.inl ⟨by rfl, ?_⟩) (by assumption) ?_
            rotate_left
            · (intro w9 hSw; (try dsimp only at hSw); go_simp) <;> with_reducible rfl
            try simp only [Act.put, List.getElem_toArray, List.getElem_cons_succ, List.getElem_cons_zero, List.setIfInBounds_toArray, List.set_cons_zero, List.set_cons_succ]
            refine wpAnyH_ready (rs := [8]) (by kernel_rfl) (by simp) ?_
            refine AllReadyH.cons rfl (fun K hK => ?_) AllReadyH.nil
            go_simp
            go_wp2_with (go_at_call 50; refine HC1.out.mono ?_; rintro e w5 ⟨ya, yc, rfl, b5, hy⟩)
            refine hK.out _ _ (by exact S3q.below hS b5) (fun hHeld2 => ?_)
            clear hK K hHeld
            have hHeld := hHeld2
            clear hHeld2
            try simp only [Act.put, List.getElem_toArray, List.getElem_cons_succ, List.getElem_cons_zero, List.setIfInBounds_toArray, List.set_cons_zero, List.set_cons_succ]
            refine wpAnyH_take (i := 9) (v := ?_) rfl (by kernel_rfl) (by kernel_rfl) (by kernel_rfl) (fun _ _ _ h => h) (Or.inl ⟨by rfl, ?_⟩) (by assumption) ?_
            rotate_left
            · (intro w9 hSw; (try dsimp only at hSw); go_simp) <;> with_reducible rfl
            try simp only [Act.put, List.getElem_toArray, List.getElem_cons_succ, List.getElem_cons_zero, List.setIfInBounds_toArray, List.set_cons_zero, List.set_cons_succ]
            refine wpAnyH_take (i := 10) (v := ?_) rfl (by kernel_rfl) (by kernel_rfl) (by kernel_rfl) (fun _ _ _ h => h) (Or.inl ⟨by rfl, ?_⟩) (by assumption) ?_
            rotate_left
            · (intro w9 hSw; (try dsimp only at hSw); go_simp) <;> with_reducible rfl
            try simp only [Act.put, List.getElem_toArray, List.getElem_cons_succ, List.getElem_cons_zero, List.setIfInBounds_toArray, List.set_cons_zero, List.set_cons_succ]
            refine wpAnyH_ready (rs := [11]) (by kernel_rfl) (by simp) ?_
            refine AllReadyH.cons rfl (fun K hK => ?_) AllReadyH.nil
            go_simp
            go_wp2_with (go_at_call 48; refine (redNeed_no _ _).mono ?_; rintro e wn ⟨rfl, hwn⟩; obtain rfl := hwn.symm; clear hwn)
            exact ⟨rfl, HB1.out.trans ((bel_next HB1X.out b5).mono (Nat.le_of_lt hs1)), .inr ⟨rfl, rfl⟩⟩
          cases o2
          · have hEn : E = none := by
              rw [← HE.out]
              refine rowO_none (i := j) ?_ g hlt
              have := pcN_stop (t := t + 1) ((pcN_next HS.out).trans (pcS_2 HY1.out HZ1.out)) (M - (t + 1))
              rwa [show t + 1 + (M - (t + 1)) = M by omega] at this
            subst hEn
            go_wp2_with fail
            have hS := HS0.out
            refine wp_region_held_drew (S := (fun x => S3q x wr.heap.size (.slice (qa t) (qs t).length (qc t)) (.slice (some ⟨rb, roff, none⟩) g (rc t)) rb (roff + j) (.slice (rad t j) QJ.length (rcp t j)))) (by kernel_rfl) (hS) (fun hHeld => ?_)
            refine wpAnyH_take (i := 0) (v := ?_) rfl (by kernel_rfl) (by kernel_rfl) (by kernel_rfl) (fun _ _ _ h => h) (Or.inl ⟨by rfl, ?_⟩) (by assumption) ?_
            rotate_left
            · (intro w9 hSw; (try dsimp only at hSw); go_simp) <;> with_reducible rfl
            try simp only [Act.put, List.getElem_toArray, List.getElem_cons_succ, List.getElem_cons_zero, List.setIfInBounds_toArray, List.set_cons_zero, List.set_cons_succ]
            refine wpAnyH_take (i := 1) (v := ?_) rfl (by kernel_rfl) (by kernel_rfl) (by kernel_rfl) (fun _ _ _ h => h) (Or.inl ⟨by rfl, ?_⟩) (by assumption) ?_
            rotate_left
            · (intro w9 hSw; (try dsimp only at hSw); go_simp) <;> with_reducible rfl
            try simp only [Act.put, List.getElem_toArray, List.getElem_cons_succ, List.getElem_cons_zero, List.setIfInBounds_toArray, List.set_cons_zero, List.set_cons_succ]
            refine wpAnyH_take (i := 2) (v := ?_) rfl (by kernel_rfl) (by kernel_rfl) (by kernel_rfl) (fun _ _ _ h => h) (Or.inl ⟨by rfl, ?_⟩) (by assumption) ?_
            rotate_left
            · (intro w9 hSw; (try dsimp only at hSw); go_simp) <;> with_reducible rfl
            try simp only [Act.put, List.getElem_toArray, List.getElem_cons_succ, List.getElem_cons_zero, List.setIfInBounds_toArray, List.set_cons_zero, List.set_cons_succ]
            refine wpAnyH_take (i := 3) (v := ?_) rfl (by kernel_rfl) (by kernel_rfl) (by kernel_rfl) (fun _ _ _ h => h) (Or.inl ⟨by rfl, ?_⟩) (by assumption) ?_
            rotate_left
            · (intro w9 hSw; (try dsimp only at hSw); go_simp) <;> with_reducible rfl
            try simp only [Act.put, List.getElem_toArray, List.getElem_cons_succ, List.getElem_cons_zero, List.setIfInBounds_toArray, List.set_cons_zero, List.set_cons_succ]
            refine wpAnyH_take (i := 4) (v := ?_) rfl (by kernel_rfl) (by kernel_rfl) (by kernel_rfl) (fun _ _ _ h => h) (Or.inl ⟨by rfl, ?_⟩) (by assumption) ?_
            rotate_left
            · (intro w9 hSw; (try dsimp only at hSw); go_simp) <;> with_reducible rfl
            try simp only [Act.put, List.getElem_toArray, List.getElem_cons_succ, List.getElem_cons_zero, List.setIfInBounds_toArray, List.set_cons_zero, List.set_cons_succ]
            refine wpAnyH_take (i := 5) (v := ?_) rfl (by kernel_rfl) (by kernel_rfl) (by kernel_rfl) (fun _ _ _ h => h) (Or.inl ⟨by rfl, ?_⟩) (by assumption) ?_
            rotate_left
            · (intro w9 hSw; (try dsimp only at hSw); go_simp) <;> with_reducible rfl
            try simp only [Act.put, List.getElem_toArray, List.getElem_cons_succ, List.getElem_cons_zero, List.setIfInBounds_toArray, List.set_cons_zero, List.set_cons_succ]
            refine wpAnyH_take (i := 6) (v := ?_) rfl (by kernel_rfl) (by kernel_rfl) (by kernel_rfl) (fun _ _ _ h => h) (Or.inl ⟨by rfl, ?_⟩) (by assumption) ?_
            rotate_left
            · (intro w9 hSw; (try dsimp only at hSw); go_simp) <;> with_reducible rfl
            try simp only [Act.put, List.getElem_toArray, List.getElem_cons_succ, List.getElem_cons_zero, List.setIfInBounds_toArray, List.set_cons_zero, List.set_cons_succ]
            refine wpAnyH_take (i := 7) (v := ?_) rfl (by kernel_rfl) (by kernel_rfl) (by kernel_rfl) (fun _ _ _ h => h) (Or.inl ⟨by rfl, ?_⟩) (by assumption) ?_
            rotate_left
            · (intro w9 hSw; (try dsimp only at hSw); go_simp) <;> with_reducible rfl
            try simp only [Act.put, List.getElem_toArray, List.getElem_cons_succ, List.getElem_cons_zero, List.setIfInBounds_toArray, List.set_cons_zero, List.set_cons_succ]
            refine wpAnyH_ready (rs := [8]) (by kernel_rfl) (by simp) ?_
            refine AllReadyH.cons rfl (fun K hK => ?_) AllReadyH.nil
            go_simp
            go_wp2_with (go_at_call 50; refine HC1.out.mono ?_; rintro e w5 ⟨ya, yc, rfl, b5, hy⟩)
            refine hK.out _ _ (by exact S3q.below hS b5) (fun hHeld2 => ?_)
            clear hK K hHeld
            have hHeld := hHeld2
            clear hHeld2
            try simp only [Act.put, List.getElem_toArray, List.getElem_cons_succ, List.getElem_cons_zero, List.setIfInBounds_toArray, List.set_cons_zero, List.set_cons_succ]
            refine wpAnyH_take (i := 9) (v := ?_) rfl (by kernel_rfl) (by kernel_rfl) (by kernel_rfl) (fun _ _ _ h => h) (Or.inl ⟨by rfl, ?_⟩) (by assumption) ?_
            rotate_left
            · (intro w9 hSw; (try dsimp only at hSw); go_simp) <;> with_reducible rfl
            try simp only [Act.put, List.getElem_toArray, List.getElem_cons_succ, List.getElem_cons_zero, List.setIfInBounds_toArray, List.set_cons_zero, List.set_cons_succ]
            refine wpAnyH_take (i := 10) (v := ?_) rfl (by kernel_rfl) (by kernel_rfl) (by kernel_rfl) (fun _ _ _ h => h) (Or.inl ⟨by rfl, ?_⟩) (by assumption) ?_
            rotate_left
            · (intro w9 hSw; (try dsimp only at hSw); go_simp) <;> with_reducible rfl
            try simp only [Act.put, List.getElem_toArray, List.getElem_cons_succ, List.getElem_cons_zero, List.setIfInBounds_toArray, List.set_cons_zero, List.set_cons_succ]
            refine wpAnyH_ready (rs := [11]) (by kernel_rfl) (by simp) ?_
            refine AllReadyH.cons rfl (fun K hK => ?_) AllReadyH.nil
            go_simp
            go_wp2_with (go_at_call 48; refine (redNeed_yes _ _).mono ?_; rintro e wn ⟨rfl, hwn⟩; obtain rfl := hwn.symm; clear hwn)
            refine hK.out _ _ (by exact S3q.below hS b5) (fun hHeld2 => ?_)
            clear hK K hHeld
            have hHeld := hHeld2
            clear hHeld2
            try simp only [Act.put, List.getElem_toArray, List.getElem_cons_succ, List.getElem_cons_zero, List.setIfInBounds_toArray, List.set_cons_zero, List.set_cons_succ]
            refine wpAnyH_ready (rs := [12]) (by kernel_rfl) (by simp) ?_
            refine AllReadyH.cons rfl (fun K hK => ?_) AllReadyH.nil
            go_simp
            go_wp2_with (go_at_call 101; refine (HC2.out w5 ya yc (HS5.out.below b5).1 hy.1).mono ?_; rintro e w6 ⟨za, zc, rfl, b6, hz⟩)
            refine hK.out _ _ (by exact S3q.below (S3q.below hS b5) b6) (fun hHeld2 => ?_)
            clear hK K hHeld
            have hHeld := hHeld2
            clear hHeld2
            try simp only [Act.put, List.getElem_toArray, List.getElem_cons_succ, List.getElem_cons_zero, List.setIfInBounds_toArray, List.set_cons_zero, List.set_cons_succ]
            refine wpAnyH_take (i := 13) (v := ?_) rfl (by kernel_rfl) (by kernel_rfl) (by kernel_rfl) (fun _ _ _ h => h) (Or.inl ⟨by rfl, ?_⟩) (by assumption) ?_
            rotate_left
            · (intro w9 hSw; (try dsimp only at hSw); go_simp) <;> with_reducible rfl
            try simp only [Act.put, List.getElem_toArray, List.getElem_cons_succ, List.getElem_cons_zero, List.setIfInBounds_toArray, List.set_cons_zero, List.set_cons_succ]
            refine wpAnyH_take (i := 14) (v := ?_) rfl (by kernel_rfl) (by kernel_rfl) (by kernel_rfl) (fun _ _ _ h => h) (Or.inl ⟨by rfl, ?_⟩) (by assumption) ?_
            rotate_left
            · (intro w9 hSw; (try dsimp only at hSw); go_simp) <;> with_reducible rfl
            try simp only [Act.put, List.getElem_toArray, List.getElem_cons_succ, List.getElem_cons_zero, List.setIfInBounds_toArray, List.set_cons_zero, List.set_cons_succ]
            refine wpAnyH_ready (rs := [15]) (by kernel_rfl) (by simp) ?_
            refine AllReadyH.cons rfl (fun K hK => ?_) AllReadyH.nil
            go_simp
            go_wp2_with (go_at_call 48; refine (redNeed_no _ _).mono ?_; rintro e wn ⟨rfl, hwn⟩; obtain rfl := hwn.symm; clear hwn)
            exact ⟨rfl, HB1.out.trans ((bel_next (bel_next HB1X.out b5) b6).mono (Nat.le_of_lt hs1)), .inr ⟨rfl, rfl⟩⟩
          have HN := Hid.mk' ((pcN_next HS.out).trans (pcS_3 HY1.out HZ1.out))
          go_wp2_with fail
          have hS := HS0.out
          go_region_held3 (fun x => S3q x wr.heap.size (.slice (qa t) (qs t).length (qc t)) (.slice (some ⟨rb, roff, none⟩) g (rc t)) rb (roff + j) (.slice (rad t j) QJ.length (rcp t j))) (first | with_reducible exact hS | with_reducible exact S3q.below (S3q.below hS b5) b6 | with_reducible exact S3q.below hS b5) (first | (go_at_call 50; refine HC1.out.mono ?_; rintro e w5 ⟨ya5, yc5, rfl, b5, hy5⟩) | (go_at_call 48; refine (redNeed_yes _ _).mono ?_; rintro e wn ⟨rfl, hwn⟩; obtain rfl := hwn.symm; clear hwn) | (go_at_call 101; refine (HC2.out w5 ya5 yc5 (HS5.out.below b5).1 hy5.1).mono ?_; rintro e w6 ⟨za6, zc6, rfl, b6, hz6⟩))
          have hBx6 := bel_next (bel_next HBX.out b5) b6
          have HBX6 := Hid.mk' hBx6
          have h6 : wr.heap.size ≤ (wr.alloc (.cells #[.slice (qa t) (qs t).length (qc t), .slice (some ⟨rb, roff, none⟩) g (rc t)] 176)).drew.heap.size := by simp
          have h5 := b5.size
          have hO6 : Out wo.heap.size w6 za6 zc6 Z1 := hz6.low (by omega)
          clear h6 h5
          have HO6 := Hid.mk' hO6
          clear hS b5 b6 hy5 hz6 hBx6 hO6
          go_wp2
          go_roundw
          case rel => exact ⟨t + 1, Z1, za6, zc6, by omega, by go_num, HN.out, rfl, HBX6.out, HO6.out⟩
          case measure => simp [intOf]; omega
        · have htl : ¬ (t : Int) < (M : Int) := by omega
          have hte : t = M := by omega
          subst hte
          have HXN := Hid.mk' (rowO_step HX.out HS.out)
          have hBw : Below wo.heap.size wo wr := bel_next HBr4.out hBi
          have hAX : AnW w1.heap.size wr (updL X j s) j u5 ad cp B := (HA.out.below hBw).congr (fun i hi => (if_neg (by omega)).symm)
          have hA6X : AnW w1.heap.size wo (updL X j s) j u5 ad cp B := HA.out.congr (fun i hi => (if_neg (by omega)).symm)
          have hYj : updL X j s j = s := if_pos rfl
          have HRND : Hid (∀ (g0 cap0 : Nat) (w5 : World), w5.ownsRow w1.heap.size 35 1 (.slice (some ⟨g0, 0, none⟩) (j + 1) cap0) (j + 1) (slL ad (fun i => (updL X j s i).length) cp j ++ [.slice sa s.length sc]) → (wr.alloc (.cells #[.slice sa s.length sc] 35)).grownBy w5 u5.ownBlock → (u5.ownBlock = some g0 ∨ g0 = (wr.alloc (.cells #[.slice sa s.length sc] 35)).heap.size) → g0 < w5.heap.size → ∃ ad' cp' B', AnW w1.heap.size w5 (updL X j s) (j + 1) (.slice (some ⟨g0, 0, none⟩) (j + 1) cap0) ad' cp' B') := fun g0 cap0 w5 h1 h2 h3 h4 => by
            refine AnW.more hA6X hAX (a := sa) (c := sc) (by rw [hYj]; exact HSO.out) ?_ ?_ ?_ h4
            · rw [hYj]; exact h2
            · rw [hYj]; exact h1
            · rw [hYj]; exact h3
          have HAX := Hid.mk' hAX
          have HBW := Hid.mk' (bel_next HB4.out hBi)
          have hsw : w1.heap.size ≤ wr.heap.size := HBW.out.size
          clear hAX hA6X hYj hBw hBi
          go_wp2_with (at_builtin; refine wpList_append_lies _ rfl (.tmp 49) (.tmp 51) 23 rfl w1.heap.size 35 i0 _ 1 24 Tryz.underlying23 hi0 hz0 hz1 hz2 rfl (by omega) _ j (slL ad (fun i => (updL X j s i).length) cp j) rfl (HAX.out.row.alloc _) ⟨wr.heap.size, 0, none⟩ 1 1 [.slice sa s.length sc] rfl rfl (World.news_of_block (heap_alloc_new wr _)) (one_sl _ _ _) (by omega) hmax (by omega) (by simp; omega) _ rfl ?_; intro g1 cap1 w8 hown2 hgrow2 hat2 hlt2; have HRR := Hid.mk' (HRND.out g1 cap1 w8 hown2 hgrow2 hat2 hlt2); have HB8 := Hid.mk' ((HBW.out.alloc HBW.out.size _).grown hgrow2 (by simp; omega) (fun k e => (HAX.out.row.lt k e).1)); clear hown2 hgrow2 hat2 hlt2)
          obtain ⟨ad', cp', B', hA8⟩ := HRR.out
          go_roundw
          case rel => exact ⟨j + 1, updL X j s, ad', cp', B', by omega, by go_num, HXN.out, HB8.out, hA8⟩
          case measure => simp [intOf]; omega
    · have hjn : ¬ (j : Int) < (g : Int) := by omega
      have hje : j = g := by omega
      subst hje
      have hEs : E = some X := by rw [← HE.out]; exact HX.out
      subst hEs
      obtain ⟨qa', qc', Rb, etv, hO⟩ := HA.out.out (by omega)
      subst etv
      have HOO := Hid.mk' hO
      clear hB hA hO
      go_wp2
      go_ret
      exact ⟨HB1.out.trans (HB.out.mono (Nat.le_of_lt hs1)), .inl ⟨X, qa', qc', ad, cp, w1.heap.size, Rb, B, rfl, rfl, Nat.le_of_lt hs1, HOO.out⟩⟩
end Go.Proofs.YtmlaedpamobmhaaGreat
