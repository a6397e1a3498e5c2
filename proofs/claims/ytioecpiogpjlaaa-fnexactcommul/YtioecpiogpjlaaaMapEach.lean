/-
  Turning an operator term by term.
-/
import Derived.Test.YtioecpiogpjlaaaWylM
import Derived.Test.YtioecpiogpjlaaaPolAddI
namespace Go.Proofs.Ytioecpiogpjlaaa
open Go.RowKit Go.Maps
set_option linter.unusedVariables false

/-- what a turn makes of a sum that stands as K, and a term; Q: what is said of the world besides. -/
def Turns (g : Nat) (lb : Array Value) (st : List T → T → Option (List T)) (Q : World → Prop) : Prop :=
  ∀ (W : World) (b : Nat) (c : M → Int) (K : List T) (t : T), SumR W b 65536 c → Falls K → (∀ m, m.ok = true → coef K m = c m) → K.length ≤ 400 → (t.m.ok = true ∧ 1 ≤ t.c ∧ t.c ≤ 100) → Q W →
    Calls Try.prog g (#[.map (some b), .agg #[.int .i64 t.c, .int .i64 t.m.x, .int .i64 t.m.y, .int .i64 t.m.d, .int .i64 t.m.e]] ++ lb) W fun e w' => W.grownBy w' (some b) ∧
      ((∃ K' c', st K t = some K' ∧ e = .returned (.bool true) ∧ SumR w' b 65536 c' ∧ Falls K' ∧ ∀ m, m.ok = true → coef K' m = c' m) ∨ (st K t = none ∧ e = .returned (.bool false)))
def lim4 (K : List T) : Option (List T) := if K.length ≤ 400 then some K else none
def eachM (st : List T → T → Option (List T)) (f : Nat → T) : Nat → Option (List T)
  | 0 => some []
  | i + 1 => (eachM st f i).bind fun K => (st K (f i)).bind lim4
theorem eachM_none {st : List T → T → Option (List T)} {f : Nat → T} {i : Nat} (h : eachM st f i = none) : ∀ j, i ≤ j → eachM st f j = none := fun j hj => by
  induction j with
  | zero =>
    have e : i = 0 := by omega
    rw [e] at h
    exact h
  | succ j ih =>
    by_cases e : i = j + 1
    · rw [← e]; exact h
    · rw [eachM, ih (by omega)]; rfl
theorem eachM_len {st : List T → T → Option (List T)} {f : Nat → T} : ∀ i K, eachM st f i = some K → K.length ≤ 400
  | 0, K, h => by cases h; exact Nat.zero_le _
  | i + 1, K, h => by
    rw [eachM] at h
    cases hr : eachM st f i with
    | none => rw [hr] at h; cases h
    | some K1 =>
      rw [hr] at h
      change (st K1 (f i)).bind lim4 = some K at h
      cases hs : st K1 (f i) with
      | none => rw [hs] at h; cases h
      | some K2 =>
        rw [hs] at h
        change lim4 K2 = some K at h
        unfold lim4 at h
        split at h
        · cases h; assumption
        · cases h
def mapV (st : List T → T → Option (List T)) (f : Nat → T) (la : Nat) : List T × Bool := if polOk la f = true then mulO (eachM st f la) else ([], false)
theorem mapV_len (st : List T → T → Option (List T)) (f : Nat → T) (la : Nat) : (mapV st f la).1.length ≤ 400 := by
  unfold mapV
  split
  · cases h : eachM st f la with
    | none => simp [mulO]
    | some K => exact eachM_len la K h
  · simp
set_option maxRecDepth 100000 in
set_option maxHeartbeats 8000000 in
theorem mapEachV (w : World) (a : Option Addr) (la ca : Nat) (f : Nat → T) (g : Nat) (lb : Array Value) (st : List T → T → Option (List T)) (Q : World → Prop) (eg : ∀ args w, (callFunc g args).run Try.prog w = .ok (.enter g args) w) (hT : Turns g lb st Q) (hQ : ∀ W W' b, Q W → w.heap.size ≤ b → W.grownBy W' (some b) → Q W') (hQb : ∀ W', Q w → Below w.heap.size w W' → Q W') (hq : Q w) (ha : Rd w a la ca f) :
    Calls Try.prog 46 #[.slice a la ca, .func (.func g) #[] lb] w fun r w' => ∃ v, r = .returned (.tuple #[v, .bool (mapV st f la).2]) ∧ Below w.heap.size w w' ∧ w'.ownsRow w.heap.size 40 5 v (mapV st f la).1.length (cellsL (mapV st f la).1) := by
  have HA := Hid.mk' ha
  have HT := Hid.mk' hT
  have HQ := Hid.mk' hQ
  have HQB := Hid.mk' hQb
  have hla : (la : Int) ≤ 140737488351232 := by have := ha.2.1; omega
  clear ha hT hQ hQb
  cases hpa : polOk la f
  · have e1 : mapV st f la = ([], false) := by simp [mapV, hpa]
    rw [e1]
    go_enter Try.func46, Try.ntmps46
    go_wp2_with (go_at_call 32; refine (polOkI _ _ _ _ f HA.out).mono ?_; rw [hpa]; rintro r w1 ⟨rfl, hb1⟩; have HB1 := Hid.mk' hb1; clear hb1)
    refine bodyPost_ret (results_tmp2 rfl _ _ _) rfl ?_
    exact ⟨_, rfl, HB1.out, owns_nil w1 _⟩
  · have e2 : mapV st f la = mulO (eachM st f la) := by simp [mapV, hpa]
    rw [e2]
    clear e2
    have l1 : la ≤ 400 := by have h := hpa; simp only [polOk, decide_eq_true_eq] at h; exact h.1
    have HPA := Hid.mk' hpa
    have hmm := @run_makeMap Try.prog
    go_enter Try.func46, Try.ntmps46
    go_wp2_with (go_at_call 32; refine (polOkI _ _ _ _ f HA.out).mono ?_; rw [hpa]; rintro r w2 ⟨rfl, hb2⟩; have HB2 := Hid.mk' hb2; clear hb2)
    clear hpa
    have HRA := Hid.mk' (HA.out.below HB2.out)
    have HNA := Hid.mk' (HRA.out.apart (Nat.le_refl _))
    have hlo : w.heap.size ≤ w2.heap.size := HB2.out.size
    have HS0 := Hid.mk' ((sumNew w2).cap)
    have HG0 := Hid.mk' (World.grownBy_alloc w2 (.map #[] 0) (some w2.heap.size))
    have HQ0 := Hid.mk' (HQ.out _ _ _ (HQB.out w2 hq HB2.out) hlo HG0.out)
    generalize hw3 : w2.alloc (.map #[] 0) = w3 at *
    clear hw3 hmm
    go_loopw [15] (fun v wr => ∃ (i : Nat) (K : List T) (c : M → Int), i ≤ la ∧ v = .int .i64 (i : Int) ∧ eachM st f i = some K ∧ Falls K ∧ (∀ m, m.ok = true → coef K m = c m) ∧ SumR wr w2.heap.size 65536 c ∧ w2.grownBy wr (some w2.heap.size) ∧ Q wr) (fun v _ => la - (intOf v).toNat)
    case atStart => exact ⟨0, [], fun _ => 0, Nat.zero_le _, rfl, rfl, falls_nil, fun _ _ => rfl, HS0.out, HG0.out, HQ0.out⟩
    case round =>
      obtain ⟨i, K, c, hi, rfl, hM, hKf, hKc, hS, hg, hqr⟩ := hrel
      by_cases hlt : i < la
      · have hil : (i : Int) < (la : Int) := by omega
        have hri := HRA.out.grown hg HNA.out
        rcases hri.2.2 with h0 | ⟨pb, off, hpe, hblt, hcl⟩
        · omega
        obtain ⟨g0, g1, g2, g3, g4⟩ := hcl i hlt
        have hfi := (fl_of_ok HPA.out).2 i hlt
        have hKl := eachM_len i K hM
        have hg1 := World.grownBy_alloc wr (.cells #[.int .i64 (f i).c, .int .i64 (f i).m.x, .int .i64 (f i).m.y, .int .i64 (f i).m.d, .int .i64 (f i).m.e] 40) (some w2.heap.size)
        have hcall := HT.out (wr.alloc (.cells #[.int .i64 (f i).c, .int .i64 (f i).m.x, .int .i64 (f i).m.y, .int .i64 (f i).m.d, .int .i64 (f i).m.e] 40)) w2.heap.size c K (f i) (hS.grown (World.grownBy_alloc wr (.cells #[.int .i64 (f i).c, .int .i64 (f i).m.x, .int .i64 (f i).m.y, .int .i64 (f i).m.d, .int .i64 (f i).m.e] 40) none) (by simp)) hKf hKc hKl hfi (HQ.out _ _ _ hqr hlo hg1)
        have HC := Hid.mk' hcall
        have HS := Hid.mk' hS
        have HG := Hid.mk' (hg.trans hg1)
        have HM := Hid.mk' hM
        have HQR := Hid.mk' (HQ.out _ _ _ hqr hlo hg1)
        clear hcl hri hS hg hM hg1 hcall hqr
        subst hpe
        go_wp2_with fail
        refine HC.out.mono ?_
        rintro r w4 ⟨hg4, (⟨K', c', hst, rfl, hs4, hf4, hc4⟩ | ⟨hst, rfl⟩)⟩
        · have HS4 := Hid.mk' hs4
          have HG4 := Hid.mk' (HG.out.trans hg4)
          have HQ4 := Hid.mk' (HQ.out _ _ _ HQR.out hlo hg4)
          obtain ⟨D, ho, hcr, hat, hks⟩ := hs4
          have hsz := size_K ho hat hks hf4 hc4
          have hlen := ho.len Try.underlying49 3
          rw [hsz] at hlen
          clear ho hat hks hcr hg4 hsz
          by_cases h4 : K'.length ≤ 400
          · have h4' : (K'.length : Int) ≤ 400 := by omega
            have HST : Hid (eachM st f (i + 1) = some K') := by
              show _ = _
              rw [eachM, HM.out]
              show (st K (f i)).bind lim4 = _
              rw [hst]
              show lim4 K' = _
              exact if_pos h4
            go_wp2
            go_roundw
            case rel => exact ⟨i + 1, K', c', by omega, by go_num, HST.out, hf4, hc4, HS4.out, HG4.out, HQ4.out⟩
            case measure => simp [intOf]; omega
          · have h4' : (400 : Int) < (K'.length : Int) := by omega
            have hno : eachM st f la = none := eachM_none (i := i + 1) (by
              rw [eachM, HM.out]
              show (st K (f i)).bind lim4 = _
              rw [hst]
              show lim4 K' = _
              exact if_neg h4) la (by omega)
            go_wp2
            refine bodyPost_ret (results_tmp2 rfl _ _ _) rfl ?_
            rw [hno]
            exact ⟨_, rfl, HB2.out.grown HG4.out hlo (fun k' e => by cases e; exact hlo), owns_nil w4 _⟩
        · have hno : eachM st f la = none := eachM_none (i := i + 1) (by
            rw [eachM, HM.out]
            show (st K (f i)).bind lim4 = _
            rw [hst]
            rfl) la (by omega)
          have HG4 := Hid.mk' (HG.out.trans hg4)
          clear hg4
          go_wp2
          refine bodyPost_ret (results_tmp2 rfl _ _ _) rfl ?_
          rw [hno]
          exact ⟨_, rfl, HB2.out.grown HG4.out hlo (fun k' e => by cases e; exact hlo), owns_nil w4 _⟩
      · obtain rfl : i = la := by omega
        have hKl := eachM_len _ _ hM
        have e3 : mulO (eachM st f i) = sumL K := by rw [hM]; simp [mulO, sumL, hKl]
        go_wp2_with (go_at_call 37; refine (sumOpI _ _ _ _ hS (by omega) hKf hKc).mono ?_; rintro r w5 ⟨v, rfl, hb5, ho5⟩)
        refine bodyPost_ret (results_tmp2 rfl _ _ _) rfl ?_
        rw [e3]
        have hB4 : Below w.heap.size w wr := HB2.out.grown hg hlo (fun k' e => by cases e; exact hlo)
        exact ⟨_, rfl, hB4.trans (hb5.mono hB4.size), ownsRow_low ho5 hB4.size⟩
end Go.Proofs.Ytioecpiogpjlaaa
