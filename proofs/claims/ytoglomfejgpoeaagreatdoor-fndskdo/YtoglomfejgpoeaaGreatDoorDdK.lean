/-
  What a line makes is an operator.
-/
import Derived.Test.YtoglomfejgpoeaaGreatDoorDdM
import Derived.Test.YtoglomfejgpoeaaGreatDoorGbp
import Derived.Test.YtoglomfejgpoeaaGreatDoorGbd
import Derived.Test.YtoglomfejgpoeaaGreatDoorGbf
import Derived.Test.YtoglomfejgpoeaaGreatDoorGay
namespace Go.Proofs.YtoglomfejgpoeaaGreatDoor
open Go.RowKit
set_option linter.unusedVariables false
theorem eachM_falls {st : List T → T → Option (List T)} {f : Nat → T} {la : Nat} (hst : ∀ K t K', Falls K → (t.m.ok = true ∧ 1 ≤ t.c ∧ t.c ≤ 100) → st K t = some K' → Falls K') (hf : ∀ i, i < la → (f i).m.ok = true ∧ 1 ≤ (f i).c ∧ (f i).c ≤ 100) : ∀ i K, i ≤ la → eachM st f i = some K → Falls K
  | 0, K, _, h => by cases h; exact falls_nil
  | i + 1, K, hi, h => by
    rw [eachM] at h
    cases hr : eachM st f i with
    | none => rw [hr] at h; cases h
    | some K1 =>
      rw [hr] at h
      have h1 := eachM_falls hst hf i K1 (by omega) hr
      cases hs : st K1 (f i) with
      | none =>
        have h' : (st K1 (f i)).bind lim4 = some K := h
        rw [hs] at h'
        cases h'
      | some K2 =>
        have h' : (st K1 (f i)).bind lim4 = some K := h
        rw [hs] at h'
        have h2 : lim4 K2 = some K := h'
        unfold lim4 at h2
        split at h2
        · cases h2
          exact hst K1 (f i) _ h1 (hf i (by omega)) hs
        · cases h2
theorem mapV_okL {st : List T → T → Option (List T)} (hst : ∀ K t K', Falls K → (t.m.ok = true ∧ 1 ≤ t.c ∧ t.c ≤ 100) → st K t = some K' → Falls K') {f : Nat → T} {la : Nat} {X : List T} (h : mapV st f la = (X, true)) : okL X = true := by
  unfold mapV at h
  split at h
  · rename_i hok
    cases hm : eachM st f la with
    | none => rw [hm] at h; simp [mulO] at h
    | some K =>
      rw [hm] at h
      have e : K = X := by simpa [mulO] using h
      rw [← e]
      exact okL_of (eachM_len _ K hm) (eachM_falls hst (fun i hi => (fl_of_ok hok).2 i hi) la K (Nat.le_refl _) hm)
  · simp at h
theorem stepM_falls {K K' : List T} {a b : T} (hK : Falls K) (ha : a.m.ok = true ∧ 0 ≤ a.c ∧ a.c ≤ 100) (hb : b.m.ok = true ∧ 0 ≤ b.c ∧ b.c ≤ 100) (h : stepM K a b = some K') : Falls K' := by
  unfold stepM at h
  split at h
  · rename_i hok
    cases h
    exact (addL_facts hK (pairL_facts ⟨ha.1, hb.1, hok.1, rfl, rfl, rfl, rfl, ha.2, hb.2⟩).1).1
  · cases h
theorem round_ok {f : Nat → T} {n : Nat} {X : List T} (h : mapRound f n = (X, true)) : okL X = true :=
  mapV_okL (st := stMapRound) (fun K t K' hK ht hs => by
    have hr := sg_range t (t.m.d + t.m.e)
    have o := rnd_ok ht.1
    exact stepM_falls hK ⟨o.1, hr⟩ ⟨o.2, by show (0 : Int) ≤ 1; omega, by show (1 : Int) ≤ 100; omega⟩ hs) h
theorem back_ok {f : Nat → T} {n : Nat} {X : List T} (h : mapBack f n = (X, true)) : okL X = true :=
  mapV_okL (st := stMapBack) (fun K t K' hK ht hs => by
    have hr := sg_range t (t.m.d + t.m.e)
    have o := bck_ok ht.1
    exact stepM_falls hK ⟨o.1, hr⟩ ⟨o.2, by show (0 : Int) ≤ 1; omega, by show (1 : Int) ≤ 100; omega⟩ hs) h
theorem do_ok {f g : Nat → T} {la lb : Nat} {X : List T} (h : wylDo f la g lb = (X, true)) : okL X = true := by
  have hl := wylDo_len f la g lb
  unfold wylDo at h hl
  split at h
  · split at h
    · rename_i h1 h2
      rw [if_pos h1, if_pos h2] at hl
      cases h
      exact okL_of hl (putAll_facts _ [] (tok_do h2) falls_nil).1
    · cases h
  · cases h
theorem good_f {f : Nat → T} {n : Nat} (h : polOk n f = true) : Good f n := fun i hi => by
  have := (fl_of_ok h).2 i hi
  exact ⟨this.1, by omega, this.2.2⟩
theorem mul_ok {f g : Nat → T} {la lb : Nat} {X : List T} (h : wylMul f la g lb = (X, true)) : okL X = true := by
  unfold wylMul at h
  split at h
  · rename_i hh
    cases hm : mulM f g lb la with
    | none => rw [hm] at h; simp [mulO] at h
    | some P =>
      rw [hm] at h
      have e : P = X := by simpa [mulO] using h
      rw [← e]
      exact okL_of (mulM_len _ P hm) (mulM_falls2 (good_f hh.1) (good_f hh.2) _ P (Nat.le_refl _) hm)
  · cases h
theorem add_ok {f g : Nat → T} {la lb : Nat} {X : List T} (h : polAdd f la g lb = (X, true)) : okL X = true := by
  have hl := polAdd_len f la g lb
  unfold polAdd at h hl
  split at h
  · rename_i hh
    rw [if_pos hh] at hl
    cases h
    exact okL_of hl (polAdd_K hh.1 hh.2.1).1
  · cases h
theorem sub_ok {f g : Nat → T} {la lb : Nat} {X : List T} (h : polSub f la g lb = (X, true)) : okL X = true := by
  have hl := polSub_len f la g lb
  unfold polSub at h hl
  split at h
  · rename_i hh
    rw [if_pos hh] at hl
    cases h
    exact okL_of hl (polSub_K hh.1 hh.2.1).1
  · cases h
theorem apartV_ok {f g : Nat → T} {la lb : Nat} {X : List T} (h : wylApart f la g lb = (X, true)) : okL X = true := by
  unfold wylApart at h
  split at h
  · exact sub_ok h
  · cases h
/-- what goes to a line's slot is an operator. -/
theorem dskDo_ok {k to a b : Int} {p : List T} {m : Nat} {ln : Nat → Nat} {F : Nat → Nat → T} {X : List T} (h : dskDo k to a b p m ln F = (X, true)) : okL X = true := by
  unfold dskDo at h
  split at h
  · next hh =>
    split at h
    · cases h
      exact (whl_facts hh.2).2.2.2.2
    · repeat' split at h
      · exact add_ok h
      · exact mul_ok h
      · exact apartV_ok h
      · exact do_ok h
      · exact round_ok h
      · exact back_ok h
      · exact add_ok h
  · cases h
theorem dskDo_is {k to a b : Int} {p : List T} {m : Nat} {ln : Nat → Nat} {F : Nat → Nat → T} {X : List T} (h : dskDo k to a b p m ln F = (X, true)) : m = 6 ∧ lnT k to a b p.length (lf p) ≠ [] := by
  by_cases q : m = 6 ∧ lnT k to a b p.length (lf p) ≠ []
  · exact q
  · rw [dskDo_no q] at h; cases h
theorem dskDo_eq {k to a b : Int} {p : List T} {m : Nat} {ln : Nat → Nat} {F : Nat → Nat → T} (q : m = 6 ∧ lnT k to a b p.length (lf p) ≠ []) : dskDo k to a b p m ln F =
    if k = 1 then (p, true)
    else if k = 2 then polAdd (F a.toNat) (ln a.toNat) (F b.toNat) (ln b.toNat)
    else if k = 3 then wylMul (F a.toNat) (ln a.toNat) (F b.toNat) (ln b.toNat)
    else if k = 4 then wylApart (F a.toNat) (ln a.toNat) (F b.toNat) (ln b.toNat)
    else if k = 5 then wylDo (F a.toNat) (ln a.toNat) (F b.toNat) (ln b.toNat)
    else if k = 6 then mapRound (F a.toNat) (ln a.toNat)
    else if k = 7 then mapBack (F a.toNat) (ln a.toNat)
    else polAdd (F to.toNat) (ln to.toNat) noT 0 := if_pos q
end Go.Proofs.YtoglomfejgpoeaaGreatDoor
