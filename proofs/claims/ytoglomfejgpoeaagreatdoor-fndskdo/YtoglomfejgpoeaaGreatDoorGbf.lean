/-
  Turning an operator term by term.
  Turning an operator round, and back: the program.
  Turning an operator round, and back: the model, and what the program answers.
-/
import Derived.Test.YtoglomfejgpoeaaGreatDoorGbb
import Derived.Test.YtoglomfejgpoeaaGreatDoorGay
import Derived.Test.YtoglomfejgpoeaaGreatDoorGba
import Derived.Deep.RegionHeld3
import Derived.Test.YtoglomfejgpoeaaGreatDoorGbc
namespace Go.Proofs.YtoglomfejgpoeaaGreatDoor
open Go.RowKit Go.Maps
set_option linter.unusedVariables false

/-- what a turn makes of a sum that stands as K, and a term; Q: what is said of the world besides. -/
def Turns (g : Nat) (lb : Array Value) (st : List T → T → Option (List T)) (Q : World → Prop) : Prop :=
  ∀ (W : World) (b : Nat) (c : M → Int) (K : List T) (t : T), SumR W b 65536 c → Falls K → (∀ m, m.ok = true → coef K m = c m) → K.length ≤ 400 → (t.m.ok = true ∧ 1 ≤ t.c ∧ t.c ≤ 100) → Q W →
    Calls Tryz.prog g (#[.map (some b), .agg #[.int .i64 t.c, .int .i64 t.m.x, .int .i64 t.m.y, .int .i64 t.m.d, .int .i64 t.m.e]] ++ lb) W fun e w' => W.grownBy w' (some b) ∧
      ((∃ K' c', st K t = some K' ∧ e = .returned (.bool true) ∧ SumR w' b 65536 c' ∧ Falls K' ∧ ∀ m, m.ok = true → coef K' m = c' m) ∨ (st K t = none ∧ e = .returned (.bool false)))
def lim4 (K : List T) : Option (List T) := if K.length ≤ 400 then some K else none
def eachM (st : List T → T → Option (List T)) (f : Nat → T) : Nat → Option (List T)
  | 0 => some []
  | i + 1 => (eachM st f i).bind fun K => (st K (f i)).bind lim4
theorem eachM_none {st : List T → T → Option (List T)} {f : Nat → T} {i : Nat} (h : eachM st f i = none) : ∀ j, i ≤ j → eachM st f j = none := fun j hj => by
  induction j with
  | zero =>
    have e : i = 0 := by omega
    rw [e] at h
    exact h
  | succ j ih =>
    by_cases e : i = j + 1
    · rw [← e]; exact h
    · rw [eachM, ih (by omega)]; rfl
theorem eachM_len {st : List T → T → Option (List T)} {f : Nat → T} : ∀ i K, eachM st f i = some K → K.length ≤ 400
  | 0, K, h => by cases h; exact Nat.zero_le _
  | i + 1, K, h => by
    rw [eachM] at h
    cases hr : eachM st f i with
    | none => rw [hr] at h; cases h
    | some K1 =>
      rw [hr] at h
      change (st K1 (f i)).bind lim4 = some K at h
      cases hs : st K1 (f i) with
      | none => rw [hs] at h; cases h
      | some K2 =>
        rw [hs] at h
        change lim4 K2 = some K at h
        unfold lim4 at h
        split at h
        · cases h; assumption
        · cases h
def mapV (st : List T → T → Option (List T)) (f : Nat → T) (la : Nat) : List T × Bool := if polOk la f = true then mulO (eachM st f la) else ([], false)
theorem mapV_len (st : List T → T → Option (List T)) (f : Nat → T) (la : Nat) : (mapV st f la).1.length ≤ 400 := by
  unfold mapV
  split
  · cases h : eachM st f la with
    | none => simp [mulO]
    | some K => exact eachM_len la K h
  · simp
set_option maxRecDepth 100000 in
set_option maxHeartbeats 8000000 in
theorem mapEachV (w : World) (a : Option Addr) (la ca : Nat) (f : Nat → T) (g : Nat) (lb : Array Value) (st : List T → T → Option (List T)) (Q : World → Prop) (eg : ∀ args w, (callFunc g args).run Tryz.prog w = .ok (.enter g args) w) (hT : Turns g lb st Q) (hQ : ∀ W W' b, Q W → w.heap.size ≤ b → W.grownBy W' (some b) → Q W') (hQb : ∀ W', Q w → Below w.heap.size w W' → Q W') (hq : Q w) (ha : Rd w a la ca f) :
    Calls Tryz.prog 86 #[.slice a la ca, .func (.func g) #[] lb] w fun r w' => ∃ v, r = .returned (.tuple #[v, .bool (mapV st f la).2]) ∧ Below w.heap.size w w' ∧ w'.ownsRow w.heap.size 80 5 v (mapV st f la).1.length (cellsL (mapV st f la).1) := by
  have HA := Hid.mk' ha
  have HT := Hid.mk' hT
  have HQ := Hid.mk' hQ
  have HQB := Hid.mk' hQb
  have hla : (la : Int) ≤ 140737488351232 := by have := ha.2.1; omega
  clear ha hT hQ hQb
  cases hpa : polOk la f
  · have e1 : mapV st f la = ([], false) := by simp [mapV, hpa]
    rw [e1]
    go_enter Tryz.func86, Tryz.ntmps86
    go_wp2_with (go_at_call 44; refine (polOkI _ _ _ _ f HA.out).mono ?_; rw [hpa]; rintro r w1 ⟨rfl, hb1⟩; have HB1 := Hid.mk' hb1; clear hb1)
    refine bodyPost_ret (results_tmp2 rfl _ _ _) rfl ?_
    exact ⟨_, rfl, HB1.out, owns_nil w1 _⟩
  · have e2 : mapV st f la = mulO (eachM st f la) := by simp [mapV, hpa]
    rw [e2]
    clear e2
    have l1 : la ≤ 400 := by have h := hpa; simp only [polOk, decide_eq_true_eq] at h; exact h.1
    have HPA := Hid.mk' hpa
    have hmm := @run_makeMap Tryz.prog
    go_enter Tryz.func86, Tryz.ntmps86
    go_wp2_with (go_at_call 44; refine (polOkI _ _ _ _ f HA.out).mono ?_; rw [hpa]; rintro r w2 ⟨rfl, hb2⟩; have HB2 := Hid.mk' hb2; clear hb2)
    clear hpa
    have HRA := Hid.mk' (HA.out.below HB2.out)
    have HNA := Hid.mk' (HRA.out.apart (Nat.le_refl _))
    have hlo : w.heap.size ≤ w2.heap.size := HB2.out.size
    have HS0 := Hid.mk' ((sumNew w2).cap)
    have HG0 := Hid.mk' (World.grownBy_alloc w2 (.map #[] 0) (some w2.heap.size))
    have HQ0 := Hid.mk' (HQ.out _ _ _ (HQB.out w2 hq HB2.out) hlo HG0.out)
    generalize hw3 : w2.alloc (.map #[] 0) = w3 at *
    clear hw3 hmm
    go_loopw [15] (fun v wr => ∃ (i : Nat) (K : List T) (c : M → Int), i ≤ la ∧ v = .int .i64 (i : Int) ∧ eachM st f i = some K ∧ Falls K ∧ (∀ m, m.ok = true → coef K m = c m) ∧ SumR wr w2.heap.size 65536 c ∧ w2.grownBy wr (some w2.heap.size) ∧ Q wr) (fun v _ => la - (intOf v).toNat)
    case atStart => exact ⟨0, [], fun _ => 0, Nat.zero_le _, rfl, rfl, falls_nil, fun _ _ => rfl, HS0.out, HG0.out, HQ0.out⟩
    case round =>
      obtain ⟨i, K, c, hi, rfl, hM, hKf, hKc, hS, hg, hqr⟩ := hrel
      by_cases hlt : i < la
      · have hil : (i : Int) < (la : Int) := by omega
        have hri := HRA.out.grown hg HNA.out
        rcases hri.2.2 with h0 | ⟨pb, off, hpe, hblt, hcl⟩
        · omega
        obtain ⟨g0, g1, g2, g3, g4⟩ := hcl i hlt
        have hfi := (fl_of_ok HPA.out).2 i hlt
        have hKl := eachM_len i K hM
        have hg1 := World.grownBy_alloc wr (.cells #[.int .i64 (f i).c, .int .i64 (f i).m.x, .int .i64 (f i).m.y, .int .i64 (f i).m.d, .int .i64 (f i).m.e] 80) (some w2.heap.size)
        have hcall := HT.out (wr.alloc (.cells #[.int .i64 (f i).c, .int .i64 (f i).m.x, .int .i64 (f i).m.y, .int .i64 (f i).m.d, .int .i64 (f i).m.e] 80)) w2.heap.size c K (f i) (hS.grown (World.grownBy_alloc wr (.cells #[.int .i64 (f i).c, .int .i64 (f i).m.x, .int .i64 (f i).m.y, .int .i64 (f i).m.d, .int .i64 (f i).m.e] 80) none) (by simp)) hKf hKc hKl hfi (HQ.out _ _ _ hqr hlo hg1)
        have HC := Hid.mk' hcall
        have HS := Hid.mk' hS
        have HG := Hid.mk' (hg.trans hg1)
        have HM := Hid.mk' hM
        have HQR := Hid.mk' (HQ.out _ _ _ hqr hlo hg1)
        clear hcl hri hS hg hM hg1 hcall hqr
        subst hpe
        go_wp2_with fail
        refine HC.out.mono ?_
        rintro r w4 ⟨hg4, (⟨K', c', hst, rfl, hs4, hf4, hc4⟩ | ⟨hst, rfl⟩)⟩
        · have HS4 := Hid.mk' hs4
          have HG4 := Hid.mk' (HG.out.trans hg4)
          have HQ4 := Hid.mk' (HQ.out _ _ _ HQR.out hlo hg4)
          obtain ⟨D, ho, hcr, hat, hks⟩ := hs4
          have hsz := size_K ho hat hks hf4 hc4
          have hlen := ho.len Tryz.underlying101 3
          rw [hsz] at hlen
          clear ho hat hks hcr hg4 hsz
          by_cases h4 : K'.length ≤ 400
          · have h4' : (K'.length : Int) ≤ 400 := by omega
            have HST : Hid (eachM st f (i + 1) = some K') := by
              show _ = _
              rw [eachM, HM.out]
              show (st K (f i)).bind lim4 = _
              rw [hst]
              show lim4 K' = _
              exact if_pos h4
            go_wp2
            go_roundw
            case rel => exact ⟨i + 1, K', c', by omega, by go_num, HST.out, hf4, hc4, HS4.out, HG4.out, HQ4.out⟩
            case measure => simp [intOf]; omega
          · have h4' : (400 : Int) < (K'.length : Int) := by omega
            have hno : eachM st f la = none := eachM_none (i := i + 1) (by
              rw [eachM, HM.out]
              show (st K (f i)).bind lim4 = _
              rw [hst]
              show lim4 K' = _
              exact if_neg h4) la (by omega)
            go_wp2
            refine bodyPost_ret (results_tmp2 rfl _ _ _) rfl ?_
            rw [hno]
            exact ⟨_, rfl, HB2.out.grown HG4.out hlo (fun k' e => by cases e; exact hlo), owns_nil w4 _⟩
        · have hno : eachM st f la = none := eachM_none (i := i + 1) (by
            rw [eachM, HM.out]
            show (st K (f i)).bind lim4 = _
            rw [hst]
            rfl) la (by omega)
          have HG4 := Hid.mk' (HG.out.trans hg4)
          clear hg4
          go_wp2
          refine bodyPost_ret (results_tmp2 rfl _ _ _) rfl ?_
          rw [hno]
          exact ⟨_, rfl, HB2.out.grown HG4.out hlo (fun k' e => by cases e; exact hlo), owns_nil w4 _⟩
      · obtain rfl : i = la := by omega
        have hKl := eachM_len _ _ hM
        have e3 : mulO (eachM st f i) = sumL K := by rw [hM]; simp [mulO, sumL, hKl]
        go_wp2_with (go_at_call 80; refine (sumOpI _ _ _ _ hS (by omega) hKf hKc).mono ?_; rintro r w5 ⟨v, rfl, hb5, ho5⟩)
        refine bodyPost_ret (results_tmp2 rfl _ _ _) rfl ?_
        rw [e3]
        have hB4 : Below w.heap.size w wr := HB2.out.grown hg hlo (fun k' e => by cases e; exact hlo)
        exact ⟨_, rfl, hB4.trans (hb5.mono hB4.size), ownsRow_low ho5 hB4.size⟩
end Go.Proofs.YtoglomfejgpoeaaGreatDoor
namespace Go.Proofs.YtoglomfejgpoeaaGreatDoor
open Go.RowKit Go.Maps
set_option linter.unusedVariables false


def sgn (n : Int) : Int := if n % 2 = 0 then 1 else 100
theorem sgn_range (n : Int) : 0 ≤ sgn n ∧ sgn n ≤ 100 := by unfold sgn; split <;> omega
theorem pw_sgn : ∀ n : Nat, pw 100 n = sgn (n : Int)
  | 0 => rfl
  | n + 1 => by
    rw [pw, pw_sgn n]
    unfold sgn
    split <;> split <;> omega
/-- the number of a turned term. -/
def sg (t : T) (n : Int) : Int := t.c * sgn n % 101
theorem sg_range (t : T) (n : Int) : 0 ≤ sg t n ∧ sg t n ≤ 100 := by unfold sg; omega
theorem sg_pos {t : T} {n : Int} (h : 1 ≤ t.c) (h' : t.c ≤ 100) : 1 ≤ sg t n := by
  unfold sg sgn
  split <;> omega
/-- the cells of a term, in a box. -/
abbrev B5 (b : Nat) (t : T) (u : World) : Prop := u.cell? ⟨b, 0, none⟩ = some (.int .i64 t.c) ∧ u.cell? ⟨b, 1, none⟩ = some (.int .i64 t.m.x) ∧ u.cell? ⟨b, 2, none⟩ = some (.int .i64 t.m.y) ∧ u.cell? ⟨b, 3, none⟩ = some (.int .i64 t.m.d) ∧ u.cell? ⟨b, 4, none⟩ = some (.int .i64 t.m.e)
theorem B5.below {b : Nat} {t : T} {u u' : World} (h : B5 b t u) (hb : Below u.heap.size u u') (h2 : b < u.heap.size) : B5 b t u' :=
  ⟨(hb.cell (p := ⟨b, 0, none⟩) h2).trans h.1, (hb.cell (p := ⟨b, 1, none⟩) h2).trans h.2.1, (hb.cell (p := ⟨b, 2, none⟩) h2).trans h.2.2.1, (hb.cell (p := ⟨b, 3, none⟩) h2).trans h.2.2.2.1, (hb.cell (p := ⟨b, 4, none⟩) h2).trans h.2.2.2.2⟩
theorem B5.lt {b : Nat} {t : T} {u : World} (h : B5 b t u) : b < u.heap.size := World.block_lt_of_cell? u ⟨b, 0, none⟩ h.1
theorem B5.box (w : World) (t : T) : B5 w.heap.size t (w.alloc (.cells #[.int .i64 t.c, .int .i64 t.m.x, .int .i64 t.m.y, .int .i64 t.m.d, .int .i64 t.m.e] 80)) := by
  refine ⟨?_, ?_, ?_, ?_, ?_⟩ <;> (rw [World.cell?_alloc_at _ _ _ _ rfl]; rfl)
theorem B5.far {w : World} {b o b' o' : Nat} {v : Value} (h : b' ≠ b) : (w.setCell ⟨b, o, none⟩ v).cell? ⟨b', o', none⟩ = w.cell? ⟨b', o', none⟩ := World.cell?_of_block (w := w) (Below.heap_setCell _ _ _ _ h)
theorem B5.set {b g o : Nat} {t : T} {u : World} (h : B5 b t u) (hg : b ≠ g) (v : Value) : B5 b t (u.setCell ⟨g, o, none⟩ v) :=
  ⟨(B5.far hg).trans h.1, (B5.far hg).trans h.2.1, (B5.far hg).trans h.2.2.1, (B5.far hg).trans h.2.2.2.1, (B5.far hg).trans h.2.2.2.2⟩
theorem B5.alloc {b : Nat} {t : T} {u : World} (h : B5 b t u) (o : Obj) : B5 b t (u.alloc o) := h.below (bel_one u o) h.lt
theorem B5.set5 {b g : Nat} {t : T} {u : World} (h : B5 b t u) (hg : b ≠ g) (v0 v1 v2 v3 v4 : Value) : B5 b t (((((u.setCell ⟨g, 0, none⟩ v0).setCell ⟨g, 1, none⟩ v1).setCell ⟨g, 2, none⟩ v2).setCell ⟨g, 3, none⟩ v3).setCell ⟨g, 4, none⟩ v4) :=
  ((((h.set hg v0).set hg v1).set hg v2).set hg v3).set hg v4
set_option maxHeartbeats 1000000 in
theorem mapNumberI (t : T) (n : Int) (w : World) (h0 : 0 ≤ t.c) (h1 : t.c ≤ 100) (n0 : 0 ≤ n) (n1 : n ≤ 1000) :
    Calls Tryz.prog 88 #[.agg #[.int .i64 t.c, .int .i64 t.m.x, .int .i64 t.m.y, .int .i64 t.m.d, .int .i64 t.m.e], .int .i64 n] w fun e w' => e = .returned (.int .i64 (sg t n)) ∧ Below w.heap.size w w' := by
  have hp : ∀ u : World, Calls Tryz.prog 129 #[.int .i64 100, .int .i64 n] u fun e w' => e = .returned (.int .i64 (sgn n)) ∧ w' = u := fun u => by
    have := power 100 n u (by omega) (by omega) n0 n1
    rwa [pw_sgn, Int.toNat_of_nonneg n0] at this
  have hs := sgn_range n
  have ht : ∀ u : World, Calls Tryz.prog 128 #[.int .i64 t.c, .int .i64 (sgn n)] u fun e w' => e = .returned (.int .i64 (sg t n)) ∧ w' = u := fun u => times _ _ _ h0 h1 hs.1 hs.2
  obtain ⟨q0, q1, q2, q3, q4⟩ := B5.box w t
  have hb := bel_one w (.cells #[.int .i64 t.c, .int .i64 t.m.x, .int .i64 t.m.y, .int .i64 t.m.d, .int .i64 t.m.e] 80)
  clear hs
  go_enter Tryz.func88, Tryz.ntmps88
  go_wp2_with fail
  go_region_with (first | (go_at_call 129; refine (hp _).mono ?_; rintro e w' ⟨rfl, hw'⟩; obtain rfl := hw'.symm; clear hw') | (go_at_call 128; refine (ht _).mono ?_; rintro e w' ⟨rfl, hw'⟩; obtain rfl := hw'.symm; clear hw'))
  all_goals
    go_wp2
    go_ret
    exact ⟨rfl, hb.drew⟩
theorem l5SignS (n : Int) (w : World) (n0 : 0 ≤ n) (n1 : n ≤ 1000) :
    Calls Tryz.prog 105 #[.int .i64 n] w fun e w' => e = .returned (.int .i64 (sgn n)) ∧ w' = w := by
  have hm : n.tmod 2 = n % 2 := Int.tmod_eq_emod_of_nonneg n0
  by_cases h : n % 2 = 0
  · have hb : (n % 2 == 0) = true := by simp [h]
    have e1 : sgn n = 1 := if_pos h
    rw [e1]
    go_enter Tryz.func105, Tryz.ntmps105
    go_wp2
    go_ret
    exact ⟨rfl, rfl⟩
  · have hb : (n % 2 == 0) = false := by simp [h]
    have e1 : sgn n = 100 := if_neg h
    rw [e1]
    go_enter Tryz.func105, Tryz.ntmps105
    go_wp2
    go_ret
    exact ⟨rfl, rfl⟩
def rndA (t : T) : T := ⟨sg t (t.m.d + t.m.e), ⟨0, 0, t.m.x, t.m.y⟩⟩
def rndB (t : T) : T := ⟨1, ⟨t.m.d, t.m.e, 0, 0⟩⟩
theorem rnd_ok {t : T} (h : t.m.ok = true) : (rndA t).m.ok = true ∧ (rndB t).m.ok = true := by
  obtain ⟨x1, x2, y1, y2, d1, d2, e1, e2⟩ := M.ok_iff.1 h
  exact ⟨M.ok_iff.2 (by dsimp only [rndA]; omega), M.ok_iff.2 (by dsimp only [rndB]; omega)⟩
def stMapRound (K : List T) (t : T) : Option (List T) := stepM K (rndA t) (rndB t)
set_option maxRecDepth 100000 in
set_option maxHeartbeats 4000000 in
theorem rndTurns : Turns 87 #[] stMapRound (fun _ => True) := by
  intro W b c K t hS hK hKc hl ht _
  obtain ⟨o1, o2⟩ := rnd_ok ht.1
  have hdb := M.ok_iff.1 ht.1
  have hcr := hS.range
  have hsr := sg_range t (t.m.d + t.m.e)
  have hwr : IntKind.i64.wrap (t.m.d + t.m.e) = t.m.d + t.m.e := by rw [IntKind.wrap_i64]; omega
  have hnum : ∀ u : World, Calls Tryz.prog 88 #[.agg #[.int .i64 t.c, .int .i64 t.m.x, .int .i64 t.m.y, .int .i64 t.m.d, .int .i64 t.m.e], .int .i64 (t.m.d + t.m.e)] u fun e w' => e = .returned (.int .i64 (sg t (t.m.d + t.m.e))) ∧ Below u.heap.size u w' := fun u => mapNumberI t _ u (by omega) ht.2.2 (by omega) (by omega)
  have hbox : B5 W.heap.size t (W.alloc (.cells #[.int .i64 t.c, .int .i64 t.m.x, .int .i64 t.m.y, .int .i64 t.m.d, .int .i64 t.m.e] 80)).drew := B5.box W t
  have hB0 : Below W.heap.size W (W.alloc (.cells #[.int .i64 t.c, .int .i64 t.m.x, .int .i64 t.m.y, .int .i64 t.m.d, .int .i64 t.m.e] 80)).drew := (bel_one W (.cells #[.int .i64 t.c, .int .i64 t.m.x, .int .i64 t.m.y, .int .i64 t.m.d, .int .i64 t.m.e] 80)).drew
  have hs0 : (W.alloc (.cells #[.int .i64 t.c, .int .i64 t.m.x, .int .i64 t.m.y, .int .i64 t.m.d, .int .i64 t.m.e] 80)).drew.heap.size = W.heap.size + 1 := by simp
  show Calls Tryz.prog 87 #[.map (some b), .agg #[.int .i64 t.c, .int .i64 t.m.x, .int .i64 t.m.y, .int .i64 t.m.d, .int .i64 t.m.e]] W _
  go_enter Tryz.func87, Tryz.ntmps87
  go_wp2_with fail
  go_region_held3 (fun u => u.cell? ⟨W.heap.size, 0, none⟩ = some (.int .i64 t.c) ∧ u.cell? ⟨W.heap.size, 1, none⟩ = some (.int .i64 t.m.x) ∧ u.cell? ⟨W.heap.size, 2, none⟩ = some (.int .i64 t.m.y) ∧ u.cell? ⟨W.heap.size, 3, none⟩ = some (.int .i64 t.m.d) ∧ u.cell? ⟨W.heap.size, 4, none⟩ = some (.int .i64 t.m.e)) (first | with_reducible exact hbox | with_reducible exact B5.below (b := W.heap.size) (t := t) (by assumption) (by assumption) (B5.lt (t := t) (by assumption)) | with_reducible exact B5.alloc (b := W.heap.size) (t := t) (by assumption) _ | with_reducible exact B5.set5 (b := W.heap.size) (t := t) (by assumption) (by simp) _ _ _ _ _ | go_keep) (first | (go_at_call 88; refine (hnum _).mono ?_; rintro e w1 ⟨rfl, hb1⟩; obtain ⟨hc1, hf1⟩ := bcell hb1))
  · have hsw := hb1.size
    have hA : B5 w1.heap.size (rndA t) (w1.alloc (.cells #[.int .i64 (sg t (t.m.d + t.m.e)), .int .i64 0, .int .i64 0, .int .i64 (t.m.x), .int .i64 (t.m.y)] 80)) := B5.box w1 (rndA t)
    have hB2 : Below W.heap.size W (w1.alloc (.cells #[.int .i64 (sg t (t.m.d + t.m.e)), .int .i64 0, .int .i64 0, .int .i64 (t.m.x), .int .i64 (t.m.y)] 80)) := (bel_next hB0 hb1).alloc (by omega) _
    clear hc1 hf1 hb1 hnum hbox hB0
    generalize w1.alloc (.cells #[.int .i64 (sg t (t.m.d + t.m.e)), .int .i64 0, .int .i64 0, .int .i64 (t.m.x), .int .i64 (t.m.y)] 80) = u2 at *
    generalize w1.heap.size = G at *
    clear hs0 hsw
    have hT : B5 W.heap.size t u2 := by assumption
    have hTl := hT.lt
    have hAl := hA.lt
    have hok : ((rndA t).m.sum (rndB t).m).ok = true := M.ok_iff.2 (by dsimp only [rndA, rndB, M.sum]; omega)
    have hTwo : Two (rndA t) (rndB t) ((rndA t).m.sum (rndB t).m) := Two.of o1 o2 hok hsr ⟨show (0 : Int) ≤ 1 by decide, show (1 : Int) ≤ 100 by decide⟩
    obtain ⟨nf, nc⟩ := addL_pair hTwo hK hcr hKc
    have hB3 : Below W.heap.size W (u2.alloc (.cells #[.int .i64 1, .int .i64 (t.m.d), .int .i64 (t.m.e), .int .i64 0, .int .i64 0] 80)) := hB2.alloc (by omega) _
    have hcall := addProdI (u2.alloc (.cells #[.int .i64 1, .int .i64 (t.m.d), .int .i64 (t.m.e), .int .i64 0, .int .i64 0] 80)) b c (hS.grown (grown_of_below hB3) (by simp)) (rndA t) (rndB t) hTwo nf nc
    have HB3 := Hid.mk' hB3
    have HST : Hid (stMapRound K t = if (addL K (pairL (rndA t) (rndB t))).length ≤ 400 then some (addL K (pairL (rndA t) (rndB t))) else none) := by
      show stepM K _ _ = _
      unfold stepM
      simp [hok]
    obtain ⟨t0, t1, t2, t3, t4⟩ := hT
    obtain ⟨a0, a1, a2, a3, a4⟩ := hA
    dsimp only [rndA] at a0 a1 a2 a3 a4
    clear hB2 hB3 hS
    go_wp2_with (go_at_call 79; refine hcall.mono ?_; rintro r w6 ⟨rfl, hs6, hg6⟩; have HS6 := Hid.mk' hs6; have HG6 := Hid.mk' hg6; clear hs6 hg6)
    go_ret
    refine ⟨(below_grown HB3.out (some b)).trans HG6.out, ?_⟩
    rw [HST.out]
    by_cases h4 : (addL K (pairL (rndA t) (rndB t))).length ≤ 400
    · exact .inl ⟨_, _, if_pos h4, by rw [decide_eq_true h4]; rfl, HS6.out, nf, nc⟩
    · exact .inr ⟨if_neg h4, by rw [decide_eq_false h4]; rfl⟩
  · have hsw := hb1.size
    have hA : B5 (W.heap.size + 1) (rndA t) (((((w1.setCell ⟨W.heap.size + 1, 0, none⟩ (.int .i64 (sg t (t.m.d + t.m.e)))).setCell ⟨W.heap.size + 1, 1, none⟩ (.int .i64 0)).setCell ⟨W.heap.size + 1, 2, none⟩ (.int .i64 0)).setCell ⟨W.heap.size + 1, 3, none⟩ (.int .i64 t.m.x)).setCell ⟨W.heap.size + 1, 4, none⟩ (.int .i64 t.m.y)) := by
      refine ⟨?_, ?_, ?_, ?_, ?_⟩ <;> go_simp <;> rfl
    have hB2 : Below W.heap.size W (((((w1.setCell ⟨W.heap.size + 1, 0, none⟩ (.int .i64 (sg t (t.m.d + t.m.e)))).setCell ⟨W.heap.size + 1, 1, none⟩ (.int .i64 0)).setCell ⟨W.heap.size + 1, 2, none⟩ (.int .i64 0)).setCell ⟨W.heap.size + 1, 3, none⟩ (.int .i64 t.m.x)).setCell ⟨W.heap.size + 1, 4, none⟩ (.int .i64 t.m.y)) := ((((((bel_next (hB0.alloc (by simp) (.cells #[.int .i64 0, .int .i64 0, .int .i64 0, .int .i64 0, .int .i64 0] 80)) hb1).setCell (by simp) _).setCell (by simp) _).setCell (by simp) _).setCell (by simp) _).setCell (by simp) _)
    clear hc1 hf1 hb1 hnum hbox hB0 hs0 hsw
    generalize (((((w1.setCell ⟨W.heap.size + 1, 0, none⟩ (.int .i64 (sg t (t.m.d + t.m.e)))).setCell ⟨W.heap.size + 1, 1, none⟩ (.int .i64 0)).setCell ⟨W.heap.size + 1, 2, none⟩ (.int .i64 0)).setCell ⟨W.heap.size + 1, 3, none⟩ (.int .i64 t.m.x)).setCell ⟨W.heap.size + 1, 4, none⟩ (.int .i64 t.m.y)) = u2 at *
    have hT : B5 W.heap.size t u2 := by assumption
    generalize hG : W.heap.size + 1 = G at *
    have hTl := hT.lt
    have hAl := hA.lt
    have hok : ((rndA t).m.sum (rndB t).m).ok = true := M.ok_iff.2 (by dsimp only [rndA, rndB, M.sum]; omega)
    have hTwo : Two (rndA t) (rndB t) ((rndA t).m.sum (rndB t).m) := Two.of o1 o2 hok hsr ⟨show (0 : Int) ≤ 1 by decide, show (1 : Int) ≤ 100 by decide⟩
    obtain ⟨nf, nc⟩ := addL_pair hTwo hK hcr hKc
    have hB3 : Below W.heap.size W (u2.alloc (.cells #[.int .i64 1, .int .i64 (t.m.d), .int .i64 (t.m.e), .int .i64 0, .int .i64 0] 80)) := hB2.alloc (by omega) _
    have hcall := addProdI (u2.alloc (.cells #[.int .i64 1, .int .i64 (t.m.d), .int .i64 (t.m.e), .int .i64 0, .int .i64 0] 80)) b c (hS.grown (grown_of_below hB3) (by simp)) (rndA t) (rndB t) hTwo nf nc
    have HB3 := Hid.mk' hB3
    have HST : Hid (stMapRound K t = if (addL K (pairL (rndA t) (rndB t))).length ≤ 400 then some (addL K (pairL (rndA t) (rndB t))) else none) := by
      show stepM K _ _ = _
      unfold stepM
      simp [hok]
    obtain ⟨t0, t1, t2, t3, t4⟩ := hT
    obtain ⟨a0, a1, a2, a3, a4⟩ := hA
    dsimp only [rndA] at a0 a1 a2 a3 a4
    clear hB2 hB3 hS
    go_wp2_with (go_at_call 79; refine hcall.mono ?_; rintro r w6 ⟨rfl, hs6, hg6⟩; have HS6 := Hid.mk' hs6; have HG6 := Hid.mk' hg6; clear hs6 hg6)
    go_ret
    refine ⟨(below_grown HB3.out (some b)).trans HG6.out, ?_⟩
    rw [HST.out]
    by_cases h4 : (addL K (pairL (rndA t) (rndB t))).length ≤ 400
    · exact .inl ⟨_, _, if_pos h4, by rw [decide_eq_true h4]; rfl, HS6.out, nf, nc⟩
    · exact .inr ⟨if_neg h4, by rw [decide_eq_false h4]; rfl⟩
def bckA (t : T) : T := ⟨sg t (t.m.d + t.m.e), ⟨0, 0, t.m.d, t.m.e⟩⟩
def bckB (t : T) : T := ⟨1, ⟨t.m.x, t.m.y, 0, 0⟩⟩
theorem bck_ok {t : T} (h : t.m.ok = true) : (bckA t).m.ok = true ∧ (bckB t).m.ok = true := by
  obtain ⟨x1, x2, y1, y2, d1, d2, e1, e2⟩ := M.ok_iff.1 h
  exact ⟨M.ok_iff.2 (by dsimp only [bckA]; omega), M.ok_iff.2 (by dsimp only [bckB]; omega)⟩
def stMapBack (K : List T) (t : T) : Option (List T) := stepM K (bckA t) (bckB t)
set_option maxRecDepth 100000 in
set_option maxHeartbeats 4000000 in
theorem bckTurns : Turns 89 #[] stMapBack (fun _ => True) := by
  intro W b c K t hS hK hKc hl ht _
  obtain ⟨o1, o2⟩ := bck_ok ht.1
  have hdb := M.ok_iff.1 ht.1
  have hcr := hS.range
  have hsr := sg_range t (t.m.d + t.m.e)
  have hwr : IntKind.i64.wrap (t.m.d + t.m.e) = t.m.d + t.m.e := by rw [IntKind.wrap_i64]; omega
  have hnum : ∀ u : World, Calls Tryz.prog 88 #[.agg #[.int .i64 t.c, .int .i64 t.m.x, .int .i64 t.m.y, .int .i64 t.m.d, .int .i64 t.m.e], .int .i64 (t.m.d + t.m.e)] u fun e w' => e = .returned (.int .i64 (sg t (t.m.d + t.m.e))) ∧ Below u.heap.size u w' := fun u => mapNumberI t _ u (by omega) ht.2.2 (by omega) (by omega)
  have hbox : B5 W.heap.size t (W.alloc (.cells #[.int .i64 t.c, .int .i64 t.m.x, .int .i64 t.m.y, .int .i64 t.m.d, .int .i64 t.m.e] 80)).drew := B5.box W t
  have hB0 : Below W.heap.size W (W.alloc (.cells #[.int .i64 t.c, .int .i64 t.m.x, .int .i64 t.m.y, .int .i64 t.m.d, .int .i64 t.m.e] 80)).drew := (bel_one W (.cells #[.int .i64 t.c, .int .i64 t.m.x, .int .i64 t.m.y, .int .i64 t.m.d, .int .i64 t.m.e] 80)).drew
  have hs0 : (W.alloc (.cells #[.int .i64 t.c, .int .i64 t.m.x, .int .i64 t.m.y, .int .i64 t.m.d, .int .i64 t.m.e] 80)).drew.heap.size = W.heap.size + 1 := by simp
  show Calls Tryz.prog 89 #[.map (some b), .agg #[.int .i64 t.c, .int .i64 t.m.x, .int .i64 t.m.y, .int .i64 t.m.d, .int .i64 t.m.e]] W _
  go_enter Tryz.func89, Tryz.ntmps89
  go_wp2_with fail
  go_region_held3 (fun u => u.cell? ⟨W.heap.size, 0, none⟩ = some (.int .i64 t.c) ∧ u.cell? ⟨W.heap.size, 1, none⟩ = some (.int .i64 t.m.x) ∧ u.cell? ⟨W.heap.size, 2, none⟩ = some (.int .i64 t.m.y) ∧ u.cell? ⟨W.heap.size, 3, none⟩ = some (.int .i64 t.m.d) ∧ u.cell? ⟨W.heap.size, 4, none⟩ = some (.int .i64 t.m.e)) (first | with_reducible exact hbox | with_reducible exact B5.below (b := W.heap.size) (t := t) (by assumption) (by assumption) (B5.lt (t := t) (by assumption)) | with_reducible exact B5.alloc (b := W.heap.size) (t := t) (by assumption) _ | with_reducible exact B5.set5 (b := W.heap.size) (t := t) (by assumption) (by simp) _ _ _ _ _ | go_keep) (first | (go_at_call 88; refine (hnum _).mono ?_; rintro e w1 ⟨rfl, hb1⟩; obtain ⟨hc1, hf1⟩ := bcell hb1))
  · have hsw := hb1.size
    have hA : B5 w1.heap.size (bckA t) (w1.alloc (.cells #[.int .i64 (sg t (t.m.d + t.m.e)), .int .i64 0, .int .i64 0, .int .i64 (t.m.d), .int .i64 (t.m.e)] 80)) := B5.box w1 (bckA t)
    have hB2 : Below W.heap.size W (w1.alloc (.cells #[.int .i64 (sg t (t.m.d + t.m.e)), .int .i64 0, .int .i64 0, .int .i64 (t.m.d), .int .i64 (t.m.e)] 80)) := (bel_next hB0 hb1).alloc (by omega) _
    clear hc1 hf1 hb1 hnum hbox hB0
    generalize w1.alloc (.cells #[.int .i64 (sg t (t.m.d + t.m.e)), .int .i64 0, .int .i64 0, .int .i64 (t.m.d), .int .i64 (t.m.e)] 80) = u2 at *
    generalize w1.heap.size = G at *
    clear hs0 hsw
    have hT : B5 W.heap.size t u2 := by assumption
    have hTl := hT.lt
    have hAl := hA.lt
    have hok : ((bckA t).m.sum (bckB t).m).ok = true := M.ok_iff.2 (by dsimp only [bckA, bckB, M.sum]; omega)
    have hTwo : Two (bckA t) (bckB t) ((bckA t).m.sum (bckB t).m) := Two.of o1 o2 hok hsr ⟨show (0 : Int) ≤ 1 by decide, show (1 : Int) ≤ 100 by decide⟩
    obtain ⟨nf, nc⟩ := addL_pair hTwo hK hcr hKc
    have hB3 : Below W.heap.size W (u2.alloc (.cells #[.int .i64 1, .int .i64 (t.m.x), .int .i64 (t.m.y), .int .i64 0, .int .i64 0] 80)) := hB2.alloc (by omega) _
    have hcall := addProdI (u2.alloc (.cells #[.int .i64 1, .int .i64 (t.m.x), .int .i64 (t.m.y), .int .i64 0, .int .i64 0] 80)) b c (hS.grown (grown_of_below hB3) (by simp)) (bckA t) (bckB t) hTwo nf nc
    have HB3 := Hid.mk' hB3
    have HST : Hid (stMapBack K t = if (addL K (pairL (bckA t) (bckB t))).length ≤ 400 then some (addL K (pairL (bckA t) (bckB t))) else none) := by
      show stepM K _ _ = _
      unfold stepM
      simp [hok]
    obtain ⟨t0, t1, t2, t3, t4⟩ := hT
    obtain ⟨a0, a1, a2, a3, a4⟩ := hA
    dsimp only [bckA] at a0 a1 a2 a3 a4
    clear hB2 hB3 hS
    go_wp2_with (go_at_call 79; refine hcall.mono ?_; rintro r w6 ⟨rfl, hs6, hg6⟩; have HS6 := Hid.mk' hs6; have HG6 := Hid.mk' hg6; clear hs6 hg6)
    go_ret
    refine ⟨(below_grown HB3.out (some b)).trans HG6.out, ?_⟩
    rw [HST.out]
    by_cases h4 : (addL K (pairL (bckA t) (bckB t))).length ≤ 400
    · exact .inl ⟨_, _, if_pos h4, by rw [decide_eq_true h4]; rfl, HS6.out, nf, nc⟩
    · exact .inr ⟨if_neg h4, by rw [decide_eq_false h4]; rfl⟩
  · have hsw := hb1.size
    have hA : B5 (W.heap.size + 1) (bckA t) (((((w1.setCell ⟨W.heap.size + 1, 0, none⟩ (.int .i64 (sg t (t.m.d + t.m.e)))).setCell ⟨W.heap.size + 1, 1, none⟩ (.int .i64 0)).setCell ⟨W.heap.size + 1, 2, none⟩ (.int .i64 0)).setCell ⟨W.heap.size + 1, 3, none⟩ (.int .i64 t.m.d)).setCell ⟨W.heap.size + 1, 4, none⟩ (.int .i64 t.m.e)) := by
      refine ⟨?_, ?_, ?_, ?_, ?_⟩ <;> go_simp <;> rfl
    have hB2 : Below W.heap.size W (((((w1.setCell ⟨W.heap.size + 1, 0, none⟩ (.int .i64 (sg t (t.m.d + t.m.e)))).setCell ⟨W.heap.size + 1, 1, none⟩ (.int .i64 0)).setCell ⟨W.heap.size + 1, 2, none⟩ (.int .i64 0)).setCell ⟨W.heap.size + 1, 3, none⟩ (.int .i64 t.m.d)).setCell ⟨W.heap.size + 1, 4, none⟩ (.int .i64 t.m.e)) := ((((((bel_next (hB0.alloc (by simp) (.cells #[.int .i64 0, .int .i64 0, .int .i64 0, .int .i64 0, .int .i64 0] 80)) hb1).setCell (by simp) _).setCell (by simp) _).setCell (by simp) _).setCell (by simp) _).setCell (by simp) _)
    clear hc1 hf1 hb1 hnum hbox hB0 hs0 hsw
    generalize (((((w1.setCell ⟨W.heap.size + 1, 0, none⟩ (.int .i64 (sg t (t.m.d + t.m.e)))).setCell ⟨W.heap.size + 1, 1, none⟩ (.int .i64 0)).setCell ⟨W.heap.size + 1, 2, none⟩ (.int .i64 0)).setCell ⟨W.heap.size + 1, 3, none⟩ (.int .i64 t.m.d)).setCell ⟨W.heap.size + 1, 4, none⟩ (.int .i64 t.m.e)) = u2 at *
    have hT : B5 W.heap.size t u2 := by assumption
    generalize hG : W.heap.size + 1 = G at *
    have hTl := hT.lt
    have hAl := hA.lt
    have hok : ((bckA t).m.sum (bckB t).m).ok = true := M.ok_iff.2 (by dsimp only [bckA, bckB, M.sum]; omega)
    have hTwo : Two (bckA t) (bckB t) ((bckA t).m.sum (bckB t).m) := Two.of o1 o2 hok hsr ⟨show (0 : Int) ≤ 1 by decide, show (1 : Int) ≤ 100 by decide⟩
    obtain ⟨nf, nc⟩ := addL_pair hTwo hK hcr hKc
    have hB3 : Below W.heap.size W (u2.alloc (.cells #[.int .i64 1, .int .i64 (t.m.x), .int .i64 (t.m.y), .int .i64 0, .int .i64 0] 80)) := hB2.alloc (by omega) _
    have hcall := addProdI (u2.alloc (.cells #[.int .i64 1, .int .i64 (t.m.x), .int .i64 (t.m.y), .int .i64 0, .int .i64 0] 80)) b c (hS.grown (grown_of_below hB3) (by simp)) (bckA t) (bckB t) hTwo nf nc
    have HB3 := Hid.mk' hB3
    have HST : Hid (stMapBack K t = if (addL K (pairL (bckA t) (bckB t))).length ≤ 400 then some (addL K (pairL (bckA t) (bckB t))) else none) := by
      show stepM K _ _ = _
      unfold stepM
      simp [hok]
    obtain ⟨t0, t1, t2, t3, t4⟩ := hT
    obtain ⟨a0, a1, a2, a3, a4⟩ := hA
    dsimp only [bckA] at a0 a1 a2 a3 a4
    clear hB2 hB3 hS
    go_wp2_with (go_at_call 79; refine hcall.mono ?_; rintro r w6 ⟨rfl, hs6, hg6⟩; have HS6 := Hid.mk' hs6; have HG6 := Hid.mk' hg6; clear hs6 hg6)
    go_ret
    refine ⟨(below_grown HB3.out (some b)).trans HG6.out, ?_⟩
    rw [HST.out]
    by_cases h4 : (addL K (pairL (bckA t) (bckB t))).length ≤ 400
    · exact .inl ⟨_, _, if_pos h4, by rw [decide_eq_true h4]; rfl, HS6.out, nf, nc⟩
    · exact .inr ⟨if_neg h4, by rw [decide_eq_false h4]; rfl⟩
end Go.Proofs.YtoglomfejgpoeaaGreatDoor
namespace Go.Proofs.YtoglomfejgpoeaaGreatDoor
open Go.RowKit Go.Maps
set_option linter.unusedVariables false


set_option maxRecDepth 100000 in
set_option maxHeartbeats 4000000 in
theorem l5PutS (w : World) (lo : Nat) (v : Value) (K : List T) (a b : T) (ho : w.ownsRow lo 80 5 v K.length (cellsL K)) (hlo : lo ≤ w.heap.size) (hl : K.length ≤ 400) (hK : Falls K) (h1 : a.m.ok = true ∧ 0 ≤ a.c ∧ a.c ≤ 100) (h2 : b.m.ok = true ∧ b.c = 1) :
    Calls Tryz.prog 104 #[v, .int .i64 a.c, .agg #[.int .i64 a.m.x, .int .i64 a.m.y, .int .i64 a.m.d, .int .i64 a.m.e], .agg #[.int .i64 b.m.x, .int .i64 b.m.y, .int .i64 b.m.d, .int .i64 b.m.e]] w fun r w' => ∃ v', r = .returned (.tuple #[v', .bool (mulO (stepM K a b)).2]) ∧ Below w.heap.size w w' ∧ w'.ownsRow lo 80 5 v' (mulO (stepM K a b)).1.length (cellsL (mulO (stepM K a b)).1) := by
  obtain ⟨p, cap, rfl, hout⟩ := out_of_owns ho (by omega)
  have HR := Hid.mk' hout.1
  clear ho hout
  have h2' : b.m.ok = true ∧ 0 ≤ b.c ∧ b.c ≤ 100 := ⟨h2.1, by omega, by omega⟩
  have hm : ∀ u : World, Calls Tryz.prog 138 #[.agg #[.int .i64 a.c, .int .i64 a.m.x, .int .i64 a.m.y, .int .i64 a.m.d, .int .i64 a.m.e], .agg #[.int .i64 1, .int .i64 b.m.x, .int .i64 b.m.y, .int .i64 b.m.d, .int .i64 b.m.e]] u fun e w' => ∃ v, e = .returned (.tuple #[v, .bool (a.m.sum b.m).ok]) ∧ Below u.heap.size u w' ∧ w'.ownsRow u.heap.size 80 5 v (pairO a b).length (cellsL (pairO a b)) := fun u => by
    have := monoS u a b h1 h2'
    rwa [h2.2] at this
  have hz := Hid.mk' (bel_next (bel_one w (.cells #[.int .i64 a.m.x, .int .i64 a.m.y, .int .i64 a.m.d, .int .i64 a.m.e] 78)) (bel_one _ (.cells #[.int .i64 b.m.x, .int .i64 b.m.y, .int .i64 b.m.d, .int .i64 b.m.e] 78)))
  have hsm := pairO_small h1 h2'
  cases hok : (a.m.sum b.m).ok
  · have e1 : stepM K a b = none := if_neg (fun h => by rw [hok] at h; cases h.1)
    rw [e1]
    rw [hok] at hm
    go_enter Tryz.func104, Tryz.ntmps104
    go_wp2_with fail
    refine (hm _).mono ?_
    rintro r w1 ⟨vx, rfl, hb1, _⟩
    have HB1 := Hid.mk' (bel_next hz.out hb1)
    clear hb1
    go_wp2
    refine bodyPost_ret (results_tmp2 rfl _ _ _) rfl ?_
    exact ⟨_, rfl, HB1.out.alloc HB1.out.size _, owns_none w1 lo (Nat.le_trans hlo HB1.out.size)⟩
  · have e0 : pairO a b = pairL a b := if_pos hok
    rw [e0] at hm hsm
    rw [hok] at hm
    have hTwo : Two a b (a.m.sum b.m) := ⟨h1.1, h2.1, hok, rfl, rfl, rfl, rfl, h1.2, h2'.2⟩
    have hpf := (pairL_facts hTwo).1
    by_cases h4 : (addL K (pairL a b)).length ≤ 400
    · have e1 : stepM K a b = some (addL K (pairL a b)) := if_pos ⟨hok, h4⟩
      have h4' : ((addL K (pairL a b)).length : Int) ≤ 400 := by omega
      rw [e1]
      go_enter Tryz.func104, Tryz.ntmps104
      go_wp2_with fail
      refine (hm _).mono ?_
      rintro r w1 ⟨vx, rfl, hb1, hx⟩
      obtain ⟨px, cx, rfl, hox⟩ := out_of_owns hx (by omega)
      have HB1 := Hid.mk' (bel_next hz.out hb1)
      have HX := Hid.mk' hox.1
      clear hb1 hx hox
      go_wp2_with fail
      refine (l3AddS _ _ _ _ _ _ _ (lf K) (lf (pairL a b)) (HR.out.below HB1.out) HX.out (by omega) (cok_falls hK).at (cok_falls hpf).at).mono ?_
      rintro r w2 ⟨v2, rfl, hb2, hown⟩
      change w2.ownsRow w1.heap.size 80 5 v2 (addL K (pairL a b)).length (cellsL (addL K (pairL a b))) at hown
      obtain ⟨py, cy, rfl, _⟩ := out_of_owns hown (by omega)
      have HB2 := Hid.mk' (bel_next HB1.out hb2)
      have HO := Hid.mk' (owns_lower hown (Nat.le_trans hlo HB1.out.size))
      clear hb2 hown
      go_wp2
      refine bodyPost_ret (results_tmp2 rfl _ _ _) rfl ?_
      exact ⟨_, rfl, HB2.out, HO.out⟩
    · have e1 : stepM K a b = none := if_neg (fun h => h4 h.2)
      have h4' : (400 : Int) < ((addL K (pairL a b)).length : Int) := by omega
      have hal : (addL K (pairL a b)).length ≤ 2000 := by have := addT_len (lf K) K.length (lf (pairL a b)) (pairL a b).length 0 0; unfold addL; omega
      rw [e1]
      go_enter Tryz.func104, Tryz.ntmps104
      go_wp2_with fail
      refine (hm _).mono ?_
      rintro r w1 ⟨vx, rfl, hb1, hx⟩
      obtain ⟨px, cx, rfl, hox⟩ := out_of_owns hx (by omega)
      have HB1 := Hid.mk' (bel_next hz.out hb1)
      have HX := Hid.mk' hox.1
      clear hb1 hx hox
      go_wp2_with fail
      refine (l3AddS _ _ _ _ _ _ _ (lf K) (lf (pairL a b)) (HR.out.below HB1.out) HX.out (by omega) (cok_falls hK).at (cok_falls hpf).at).mono ?_
      rintro r w2 ⟨v2, rfl, hb2, hown⟩
      change w2.ownsRow w1.heap.size 80 5 v2 (addL K (pairL a b)).length (cellsL (addL K (pairL a b))) at hown
      obtain ⟨py, cy, rfl, _⟩ := out_of_owns hown (by omega)
      have HB2 := Hid.mk' (bel_next HB1.out hb2)
      clear hb2 hown
      go_wp2
      refine bodyPost_ret (results_tmp2 rfl _ _ _) rfl ?_
      exact ⟨_, rfl, HB2.out.alloc HB2.out.size _, owns_none w2 lo (Nat.le_trans hlo HB2.out.size)⟩

abbrev P5 (pb o b : Nat) (t : T) (u : World) : Prop := u.cell? ⟨pb, o, none⟩ = some (.int .i64 t.c) ∧ u.cell? ⟨b, 0, none⟩ = some (.int .i64 t.m.x) ∧ u.cell? ⟨b, 1, none⟩ = some (.int .i64 t.m.y) ∧ u.cell? ⟨b, 2, none⟩ = some (.int .i64 t.m.d) ∧ u.cell? ⟨b, 3, none⟩ = some (.int .i64 t.m.e)
theorem P5.below {pb o b : Nat} {t : T} {u u' : World} (h : P5 pb o b t u) (hb : Below u.heap.size u u') (h1 : pb < u.heap.size) (h2 : b < u.heap.size) : P5 pb o b t u' :=
  ⟨(hb.cell (p := ⟨pb, o, none⟩) h1).trans h.1, (hb.cell (p := ⟨b, 0, none⟩) h2).trans h.2.1, (hb.cell (p := ⟨b, 1, none⟩) h2).trans h.2.2.1, (hb.cell (p := ⟨b, 2, none⟩) h2).trans h.2.2.2.1, (hb.cell (p := ⟨b, 3, none⟩) h2).trans h.2.2.2.2⟩
def mapRound (f : Nat → T) (n : Nat) : List T × Bool := mapV stMapRound f n
theorem mapRound_len (f : Nat → T) (n : Nat) : (mapRound f n).1.length ≤ 400 := mapV_len _ _ _
set_option maxHeartbeats 1000000 in
theorem mapRoundI (w : World) (a : Option Addr) (n cap : Nat) (f : Nat → T) (ha : Rd w a n cap f) :
    Calls Tryz.prog 42 #[.slice a n cap] w fun r w' => ∃ a' cap', r = .returned (.tuple #[.slice a' (mapRound f n).1.length cap', .bool (mapRound f n).2]) ∧ Below w.heap.size w w' ∧ Out w.heap.size w' a' cap' (mapRound f n).1 := by
  have hc := mapEachV w a n cap f 87 #[] stMapRound (fun _ => True) (enters_of Tryz.func87 (by kernel_rfl) rfl) rndTurns (fun _ _ _ _ _ _ => trivial) (fun _ _ _ => trivial) trivial ha
  change Calls Tryz.prog 86 #[.slice a n cap, .func (.func 87) #[] #[]] w fun r w' => ∃ v, r = .returned (.tuple #[v, .bool (mapRound f n).2]) ∧ Below w.heap.size w w' ∧ w'.ownsRow w.heap.size 80 5 v (mapRound f n).1.length (cellsL (mapRound f n).1) at hc
  have hlen := mapRound_len f n
  generalize mapRound f n = V at hc hlen ⊢
  go_enter Tryz.func42, Tryz.ntmps42
  go_wp2_with (go_at_call 86; refine hc.mono ?_; rintro r w1 ⟨v, rfl, hb1, ho1⟩)
  refine bodyPost_ret (results_tmp2 rfl _ _ _) rfl ?_
  obtain ⟨a', cap', rfl, hout⟩ := out_of_owns ho1 (by omega)
  exact ⟨a', cap', rfl, hb1, hout⟩
set_option maxRecDepth 100000 in
set_option maxHeartbeats 16000000 in
theorem mapRoundS (w : World) (a : Option Addr) (n cap : Nat) (f : Nat → T) (h : Rd w a n cap f) :
    Calls Tryz.prog 57 #[.slice a n cap] w fun r w' => ∃ v, r = .returned (.tuple #[v, .bool (mapRound f n).2]) ∧ Below w.heap.size w w' ∧ w'.ownsRow w.heap.size 80 5 v (mapRound f n).1.length (cellsL (mapRound f n).1) := by
  have HA := Hid.mk' h
  have hn : (n : Int) ≤ 140737488351232 := by have := h.2.1; omega
  have hO0 := owns_none w w.heap.size (Nat.le_refl _)
  have hB0 := bel_one w (.cells #[] 80)
  clear h
  cases hpa : polOk n f
  · have e1 : mapRound f n = ([], false) := by simp [mapRound, mapV, hpa]
    rw [e1]
    go_enter Tryz.func57, Tryz.ntmps57
    go_wp2_with (go_at_call 74; refine (polOkS _ _ _ _ f (HA.out.below hB0)).mono ?_; rw [hpa]; rintro r w1 ⟨rfl, hb1⟩; have HB1 := Hid.mk' (bel_next hB0 hb1); have HO1 := Hid.mk' (owns_below hO0 hb1); clear hb1)
    go_loopw [4, 5, 6] (fun v ok ii wr => ok = .bool false ∧ ii = .int .i64 0 ∧ wr.ownsRow w.heap.size 80 5 v 0 (cellsL []) ∧ Below w.heap.size w wr) (fun _ _ _ _ => 0)
    case atStart => exact ⟨rfl, rfl, HO1.out, HB1.out⟩
    case round =>
      obtain ⟨rfl, rfl, hown, hbl⟩ := hrel
      by_cases h0 : n = 0
      · subst h0
        go_wp2
        refine bodyPost_ret (results_tmp2 rfl _ _ _) rfl ?_
        exact ⟨_, rfl, hbl, hown⟩
      · have hpos : (0 : Int) < (n : Int) := by omega
        go_wp2
        refine bodyPost_ret (results_tmp2 rfl _ _ _) rfl ?_
        exact ⟨_, rfl, hbl, hown⟩
  · have e1 : mapRound f n = mulO (eachM stMapRound f n) := by simp [mapRound, mapV, hpa]
    rw [e1]
    clear e1
    have l1 := (good_ok hpa).1
    have HPA := Hid.mk' hpa
    go_enter Tryz.func57, Tryz.ntmps57
    go_wp2_with (go_at_call 74; refine (polOkS _ _ _ _ f (HA.out.below hB0)).mono ?_; rw [hpa]; rintro r w1 ⟨rfl, hb1⟩; have HB1 := Hid.mk' (bel_next hB0 hb1); have HO1 := Hid.mk' (owns_below hO0 hb1); clear hb1)
    go_loopw [4, 5, 6] (fun v ok ii wr => ∃ i : Nat, i ≤ n ∧ ii = .int .i64 (i : Int) ∧ Below w.heap.size w wr ∧ ((∃ K, ok = .bool true ∧ eachM stMapRound f i = some K ∧ Falls K ∧ wr.ownsRow w.heap.size 80 5 v K.length (cellsL K)) ∨ (ok = .bool false ∧ eachM stMapRound f n = none ∧ wr.ownsRow w.heap.size 80 5 v 0 (cellsL [])))) (fun _ _ ii _ => n - (intOf ii).toNat)
    case atStart => exact ⟨0, Nat.zero_le _, rfl, HB1.out, .inl ⟨[], rfl, rfl, falls_nil, HO1.out⟩⟩
    case round =>
      obtain ⟨i, hi, rfl, hbl, hcase⟩ := hrel
      rcases hcase with ⟨K, rfl, hM, hKf, hown⟩ | ⟨rfl, hM, hown⟩
      · by_cases hlt : i < n
        · have hil : (i : Int) < (n : Int) := by omega
          have hfi := (fl_of_ok HPA.out).2 i hlt
          have hKl := eachM_len i K hM
          have HM := Hid.mk' hM
          have HOWN := Hid.mk' hown
          have HBL := Hid.mk' hbl
          clear hown hbl hM
          have hri := HA.out.below HBL.out
          rcases hri.2.2 with h0 | ⟨pb, off, hpe, hblt, hcl⟩
          · omega
          subst hpe
          obtain ⟨g0, g1, g2, g3, g4⟩ := hcl i hlt
          clear hcl hri
          have hdb := M.ok_iff.1 hfi.1
          obtain ⟨o1, o2⟩ := rnd_ok hfi.1
          have hsr := sg_range (f i) ((f i).m.d + (f i).m.e)
          have hwr : IntKind.i64.wrap ((f i).m.d + (f i).m.e) = (f i).m.d + (f i).m.e := by rw [IntKind.wrap_i64]; omega
          have hsg := sgn_range ((f i).m.d + (f i).m.e)
          have hmb := mul_bd (show 0 ≤ (f i).c by omega) hfi.2.2 hsg.1 hsg.2
          have hwm : IntKind.i64.wrap ((f i).c * sgn ((f i).m.d + (f i).m.e)) = (f i).c * sgn ((f i).m.d + (f i).m.e) := by rw [IntKind.wrap_i64]; omega
          have htm : ((f i).c * sgn ((f i).m.d + (f i).m.e)).tmod 101 = sg (f i) ((f i).m.d + (f i).m.e) := Int.tmod_eq_emod_of_nonneg hmb.1
          have hsign : ∀ u : World, Calls Tryz.prog 105 #[.int .i64 ((f i).m.d + (f i).m.e)] u fun e w' => e = .returned (.int .i64 (sgn ((f i).m.d + (f i).m.e))) ∧ w' = u := fun u => l5SignS _ u (by omega) (by omega)
          have hok : ((rndA (f i)).m.sum (rndB (f i)).m).ok = true := M.ok_iff.2 (by dsimp only [rndA, rndB, M.sum]; omega)
          have hTwo : Two (rndA (f i)) (rndB (f i)) ((rndA (f i)).m.sum (rndB (f i)).m) := Two.of o1 o2 hok hsr ⟨show (0 : Int) ≤ 1 by decide, show (1 : Int) ≤ 100 by decide⟩
          have hfK := (addL_facts hKf (pairL_facts hTwo).1).1
          clear hsg hmb hfi
          go_wp2_with fail
          have hq := M4.box wr 78 (f i).m.x (f i).m.y (f i).m.d (f i).m.e
          obtain ⟨q0, q1, q2, q3⟩ := hq
          have g5 := ((bel_one wr (.cells #[.int .i64 (f i).m.x, .int .i64 (f i).m.y, .int .i64 (f i).m.d, .int .i64 (f i).m.e] 78)).cell (p := ⟨pb, off + i * 5, none⟩) hblt).trans g0
          have HBQ := Hid.mk' (bel_next HBL.out (bel_one wr (.cells #[.int .i64 (f i).m.x, .int .i64 (f i).m.y, .int .i64 (f i).m.d, .int .i64 (f i).m.e] 78)))
          have HOQ := Hid.mk' (owns_below HOWN.out (bel_one wr (.cells #[.int .i64 (f i).m.x, .int .i64 (f i).m.y, .int .i64 (f i).m.d, .int .i64 (f i).m.e] 78)))
          have hqs : (wr.alloc (.cells #[.int .i64 (f i).m.x, .int .i64 (f i).m.y, .int .i64 (f i).m.d, .int .i64 (f i).m.e] 78)).heap.size = wr.heap.size + 1 := by simp
          clear g0 g1 g2 g3 g4
          generalize wr.alloc (.cells #[.int .i64 (f i).m.x, .int .i64 (f i).m.y, .int .i64 (f i).m.d, .int .i64 (f i).m.e] 78) = wq at hqs HBQ HOQ q0 q1 q2 q3 g5 ⊢
          have HPUT := Hid.mk' (l5PutS wq.drew w.heap.size _ K (rndA (f i)) (rndB (f i)) (owns_below HOQ.out (Below.refl _ _).drew) HBQ.out.drew.size hKl hKf ⟨o1, hsr⟩ ⟨o2, rfl⟩)
          have hpbq : pb < wq.drew.heap.size := by show pb < wq.heap.size; rw [hqs]; omega
          have hb1q : wr.heap.size < wq.drew.heap.size := by show wr.heap.size < wq.heap.size; omega
          have hS0 : P5 pb (off + i * 5) wr.heap.size (f i) wq.drew := ⟨g5, q0, q1, q2, q3⟩
          go_region_held3 (fun u => u.cell? ⟨pb, off + i * 5, none⟩ = some (.int .i64 (f i).c) ∧ u.cell? ⟨wr.heap.size, 0, none⟩ = some (.int .i64 (f i).m.x) ∧ u.cell? ⟨wr.heap.size, 1, none⟩ = some (.int .i64 (f i).m.y) ∧ u.cell? ⟨wr.heap.size, 2, none⟩ = some (.int .i64 (f i).m.d) ∧ u.cell? ⟨wr.heap.size, 3, none⟩ = some (.int .i64 (f i).m.e)) (first | with_reducible exact hS0 | with_reducible exact P5.below hS0 (by assumption) hpbq hb1q) (first | (go_at_call 105; refine (hsign _).mono ?_; rintro e w' ⟨rfl, hw'⟩; obtain rfl := hw'.symm; clear hw') | (go_at_call 104; refine HPUT.out.mono ?_; rintro e w4 ⟨v4, rfl, hb4, ho4⟩; have HB4 : Hid (Below w.heap.size w w4) := (bel_next HBQ.out.drew hb4); have HO4 := Hid.mk' ho4; clear ho4))
          all_goals
            go_wp2
            go_roundw
            case rel =>
              refine ⟨i + 1, by omega, by go_num, HB4.out, ?_⟩
              have ho5 := HO4.out
              cases hst : stepM K (rndA (f i)) (rndB (f i)) with
              | none =>
                rw [hst] at ho5
                exact .inr ⟨rfl, eachM_none (i := i + 1) (by rw [eachM, HM.out]; show (stepM K (rndA (f i)) (rndB (f i))).bind lim4 = none; rw [hst]; rfl) n (by omega), ho5⟩
              | some K' =>
                rw [hst] at ho5
                have hK' : (addL K (pairL (rndA (f i)) (rndB (f i)))).length ≤ 400 ∧ addL K (pairL (rndA (f i)) (rndB (f i))) = K' := by
                  unfold stepM at hst
                  split at hst
                  · rename_i hh; exact ⟨hh.2, Option.some.inj hst⟩
                  · cases hst
                refine .inl ⟨K', rfl, ?_, hK'.2 ▸ hfK, ho5⟩
                rw [eachM, HM.out]
                show (stepM K (rndA (f i)) (rndB (f i))).bind lim4 = _
                rw [hst]
                exact if_pos (hK'.2 ▸ hK'.1)
            case measure => simp [intOf]; omega
        · obtain rfl : i = n := by omega
          have HOWN := Hid.mk' hown
          have HBL := Hid.mk' hbl
          have HM := Hid.mk' hM
          clear hown hbl hM
          go_wp2
          refine bodyPost_ret (results_tmp2 rfl _ _ _) rfl ?_
          rw [HM.out]
          exact ⟨_, rfl, HBL.out, HOWN.out⟩
      · have HOWN := Hid.mk' hown
        have HBL := Hid.mk' hbl
        have HM := Hid.mk' hM
        clear hown hbl hM
        by_cases hlt : i < n
        · have hil : (i : Int) < (n : Int) := by omega
          go_wp2
          refine bodyPost_ret (results_tmp2 rfl _ _ _) rfl ?_
          rw [HM.out]
          exact ⟨_, rfl, HBL.out, HOWN.out⟩
        · obtain rfl : i = n := by omega
          go_wp2
          refine bodyPost_ret (results_tmp2 rfl _ _ _) rfl ?_
          rw [HM.out]
          exact ⟨_, rfl, HBL.out, HOWN.out⟩
def mapBack (f : Nat → T) (n : Nat) : List T × Bool := mapV stMapBack f n
theorem mapBack_len (f : Nat → T) (n : Nat) : (mapBack f n).1.length ≤ 400 := mapV_len _ _ _
set_option maxHeartbeats 1000000 in
theorem mapBackI (w : World) (a : Option Addr) (n cap : Nat) (f : Nat → T) (ha : Rd w a n cap f) :
    Calls Tryz.prog 43 #[.slice a n cap] w fun r w' => ∃ a' cap', r = .returned (.tuple #[.slice a' (mapBack f n).1.length cap', .bool (mapBack f n).2]) ∧ Below w.heap.size w w' ∧ Out w.heap.size w' a' cap' (mapBack f n).1 := by
  have hc := mapEachV w a n cap f 89 #[] stMapBack (fun _ => True) (enters_of Tryz.func89 (by kernel_rfl) rfl) bckTurns (fun _ _ _ _ _ _ => trivial) (fun _ _ _ => trivial) trivial ha
  change Calls Tryz.prog 86 #[.slice a n cap, .func (.func 89) #[] #[]] w fun r w' => ∃ v, r = .returned (.tuple #[v, .bool (mapBack f n).2]) ∧ Below w.heap.size w w' ∧ w'.ownsRow w.heap.size 80 5 v (mapBack f n).1.length (cellsL (mapBack f n).1) at hc
  have hlen := mapBack_len f n
  generalize mapBack f n = V at hc hlen ⊢
  go_enter Tryz.func43, Tryz.ntmps43
  go_wp2_with (go_at_call 86; refine hc.mono ?_; rintro r w1 ⟨v, rfl, hb1, ho1⟩)
  refine bodyPost_ret (results_tmp2 rfl _ _ _) rfl ?_
  obtain ⟨a', cap', rfl, hout⟩ := out_of_owns ho1 (by omega)
  exact ⟨a', cap', rfl, hb1, hout⟩
set_option maxRecDepth 100000 in
set_option maxHeartbeats 16000000 in
theorem mapBackS (w : World) (a : Option Addr) (n cap : Nat) (f : Nat → T) (h : Rd w a n cap f) :
    Calls Tryz.prog 58 #[.slice a n cap] w fun r w' => ∃ v, r = .returned (.tuple #[v, .bool (mapBack f n).2]) ∧ Below w.heap.size w w' ∧ w'.ownsRow w.heap.size 80 5 v (mapBack f n).1.length (cellsL (mapBack f n).1) := by
  have HA := Hid.mk' h
  have hn : (n : Int) ≤ 140737488351232 := by have := h.2.1; omega
  have hO0 := owns_none w w.heap.size (Nat.le_refl _)
  have hB0 := bel_one w (.cells #[] 80)
  clear h
  cases hpa : polOk n f
  · have e1 : mapBack f n = ([], false) := by simp [mapBack, mapV, hpa]
    rw [e1]
    go_enter Tryz.func58, Tryz.ntmps58
    go_wp2_with (go_at_call 74; refine (polOkS _ _ _ _ f (HA.out.below hB0)).mono ?_; rw [hpa]; rintro r w1 ⟨rfl, hb1⟩; have HB1 := Hid.mk' (bel_next hB0 hb1); have HO1 := Hid.mk' (owns_below hO0 hb1); clear hb1)
    go_loopw [4, 5, 6] (fun v ok ii wr => ok = .bool false ∧ ii = .int .i64 0 ∧ wr.ownsRow w.heap.size 80 5 v 0 (cellsL []) ∧ Below w.heap.size w wr) (fun _ _ _ _ => 0)
    case atStart => exact ⟨rfl, rfl, HO1.out, HB1.out⟩
    case round =>
      obtain ⟨rfl, rfl, hown, hbl⟩ := hrel
      by_cases h0 : n = 0
      · subst h0
        go_wp2
        refine bodyPost_ret (results_tmp2 rfl _ _ _) rfl ?_
        exact ⟨_, rfl, hbl, hown⟩
      · have hpos : (0 : Int) < (n : Int) := by omega
        go_wp2
        refine bodyPost_ret (results_tmp2 rfl _ _ _) rfl ?_
        exact ⟨_, rfl, hbl, hown⟩
  · have e1 : mapBack f n = mulO (eachM stMapBack f n) := by simp [mapBack, mapV, hpa]
    rw [e1]
    clear e1
    have l1 := (good_ok hpa).1
    have HPA := Hid.mk' hpa
    go_enter Tryz.func58, Tryz.ntmps58
    go_wp2_with (go_at_call 74; refine (polOkS _ _ _ _ f (HA.out.below hB0)).mono ?_; rw [hpa]; rintro r w1 ⟨rfl, hb1⟩; have HB1 := Hid.mk' (bel_next hB0 hb1); have HO1 := Hid.mk' (owns_below hO0 hb1); clear hb1)
    go_loopw [4, 5, 6] (fun v ok ii wr => ∃ i : Nat, i ≤ n ∧ ii = .int .i64 (i : Int) ∧ Below w.heap.size w wr ∧ ((∃ K, ok = .bool true ∧ eachM stMapBack f i = some K ∧ Falls K ∧ wr.ownsRow w.heap.size 80 5 v K.length (cellsL K)) ∨ (ok = .bool false ∧ eachM stMapBack f n = none ∧ wr.ownsRow w.heap.size 80 5 v 0 (cellsL [])))) (fun _ _ ii _ => n - (intOf ii).toNat)
    case atStart => exact ⟨0, Nat.zero_le _, rfl, HB1.out, .inl ⟨[], rfl, rfl, falls_nil, HO1.out⟩⟩
    case round =>
      obtain ⟨i, hi, rfl, hbl, hcase⟩ := hrel
      rcases hcase with ⟨K, rfl, hM, hKf, hown⟩ | ⟨rfl, hM, hown⟩
      · by_cases hlt : i < n
        · have hil : (i : Int) < (n : Int) := by omega
          have hfi := (fl_of_ok HPA.out).2 i hlt
          have hKl := eachM_len i K hM
          have HM := Hid.mk' hM
          have HOWN := Hid.mk' hown
          have HBL := Hid.mk' hbl
          clear hown hbl hM
          have hri := HA.out.below HBL.out
          rcases hri.2.2 with h0 | ⟨pb, off, hpe, hblt, hcl⟩
          · omega
          subst hpe
          obtain ⟨g0, g1, g2, g3, g4⟩ := hcl i hlt
          clear hcl hri
          have hdb := M.ok_iff.1 hfi.1
          obtain ⟨o1, o2⟩ := bck_ok hfi.1
          have hsr := sg_range (f i) ((f i).m.d + (f i).m.e)
          have hwr : IntKind.i64.wrap ((f i).m.d + (f i).m.e) = (f i).m.d + (f i).m.e := by rw [IntKind.wrap_i64]; omega
          have hsg := sgn_range ((f i).m.d + (f i).m.e)
          have hmb := mul_bd (show 0 ≤ (f i).c by omega) hfi.2.2 hsg.1 hsg.2
          have hwm : IntKind.i64.wrap ((f i).c * sgn ((f i).m.d + (f i).m.e)) = (f i).c * sgn ((f i).m.d + (f i).m.e) := by rw [IntKind.wrap_i64]; omega
          have htm : ((f i).c * sgn ((f i).m.d + (f i).m.e)).tmod 101 = sg (f i) ((f i).m.d + (f i).m.e) := Int.tmod_eq_emod_of_nonneg hmb.1
          have hsign : ∀ u : World, Calls Tryz.prog 105 #[.int .i64 ((f i).m.d + (f i).m.e)] u fun e w' => e = .returned (.int .i64 (sgn ((f i).m.d + (f i).m.e))) ∧ w' = u := fun u => l5SignS _ u (by omega) (by omega)
          have hok : ((bckA (f i)).m.sum (bckB (f i)).m).ok = true := M.ok_iff.2 (by dsimp only [bckA, bckB, M.sum]; omega)
          have hTwo : Two (bckA (f i)) (bckB (f i)) ((bckA (f i)).m.sum (bckB (f i)).m) := Two.of o1 o2 hok hsr ⟨show (0 : Int) ≤ 1 by decide, show (1 : Int) ≤ 100 by decide⟩
          have hfK := (addL_facts hKf (pairL_facts hTwo).1).1
          clear hsg hmb hfi
          go_wp2_with fail
          have hq := M4.box wr 78 (f i).m.x (f i).m.y (f i).m.d (f i).m.e
          obtain ⟨q0, q1, q2, q3⟩ := hq
          have g5 := ((bel_one wr (.cells #[.int .i64 (f i).m.x, .int .i64 (f i).m.y, .int .i64 (f i).m.d, .int .i64 (f i).m.e] 78)).cell (p := ⟨pb, off + i * 5, none⟩) hblt).trans g0
          have HBQ := Hid.mk' (bel_next HBL.out (bel_one wr (.cells #[.int .i64 (f i).m.x, .int .i64 (f i).m.y, .int .i64 (f i).m.d, .int .i64 (f i).m.e] 78)))
          have HOQ := Hid.mk' (owns_below HOWN.out (bel_one wr (.cells #[.int .i64 (f i).m.x, .int .i64 (f i).m.y, .int .i64 (f i).m.d, .int .i64 (f i).m.e] 78)))
          have hqs : (wr.alloc (.cells #[.int .i64 (f i).m.x, .int .i64 (f i).m.y, .int .i64 (f i).m.d, .int .i64 (f i).m.e] 78)).heap.size = wr.heap.size + 1 := by simp
          clear g0 g1 g2 g3 g4
          generalize wr.alloc (.cells #[.int .i64 (f i).m.x, .int .i64 (f i).m.y, .int .i64 (f i).m.d, .int .i64 (f i).m.e] 78) = wq at hqs HBQ HOQ q0 q1 q2 q3 g5 ⊢
          have HPUT := Hid.mk' (l5PutS wq.drew w.heap.size _ K (bckA (f i)) (bckB (f i)) (owns_below HOQ.out (Below.refl _ _).drew) HBQ.out.drew.size hKl hKf ⟨o1, hsr⟩ ⟨o2, rfl⟩)
          have hpbq : pb < wq.drew.heap.size := by show pb < wq.heap.size; rw [hqs]; omega
          have hb1q : wr.heap.size < wq.drew.heap.size := by show wr.heap.size < wq.heap.size; omega
          have hS0 : P5 pb (off + i * 5) wr.heap.size (f i) wq.drew := ⟨g5, q0, q1, q2, q3⟩
          go_region_held3 (fun u => u.cell? ⟨pb, off + i * 5, none⟩ = some (.int .i64 (f i).c) ∧ u.cell? ⟨wr.heap.size, 0, none⟩ = some (.int .i64 (f i).m.x) ∧ u.cell? ⟨wr.heap.size, 1, none⟩ = some (.int .i64 (f i).m.y) ∧ u.cell? ⟨wr.heap.size, 2, none⟩ = some (.int .i64 (f i).m.d) ∧ u.cell? ⟨wr.heap.size, 3, none⟩ = some (.int .i64 (f i).m.e)) (first | with_reducible exact hS0 | with_reducible exact P5.below hS0 (by assumption) hpbq hb1q) (first | (go_at_call 105; refine (hsign _).mono ?_; rintro e w' ⟨rfl, hw'⟩; obtain rfl := hw'.symm; clear hw') | (go_at_call 104; refine HPUT.out.mono ?_; rintro e w4 ⟨v4, rfl, hb4, ho4⟩; have HB4 : Hid (Below w.heap.size w w4) := (bel_next HBQ.out.drew hb4); have HO4 := Hid.mk' ho4; clear ho4))
          all_goals
            go_wp2
            go_roundw
            case rel =>
              refine ⟨i + 1, by omega, by go_num, HB4.out, ?_⟩
              have ho5 := HO4.out
              cases hst : stepM K (bckA (f i)) (bckB (f i)) with
              | none =>
                rw [hst] at ho5
                exact .inr ⟨rfl, eachM_none (i := i + 1) (by rw [eachM, HM.out]; show (stepM K (bckA (f i)) (bckB (f i))).bind lim4 = none; rw [hst]; rfl) n (by omega), ho5⟩
              | some K' =>
                rw [hst] at ho5
                have hK' : (addL K (pairL (bckA (f i)) (bckB (f i)))).length ≤ 400 ∧ addL K (pairL (bckA (f i)) (bckB (f i))) = K' := by
                  unfold stepM at hst
                  split at hst
                  · rename_i hh; exact ⟨hh.2, Option.some.inj hst⟩
                  · cases hst
                refine .inl ⟨K', rfl, ?_, hK'.2 ▸ hfK, ho5⟩
                rw [eachM, HM.out]
                show (stepM K (bckA (f i)) (bckB (f i))).bind lim4 = _
                rw [hst]
                exact if_pos (hK'.2 ▸ hK'.1)
            case measure => simp [intOf]; omega
        · obtain rfl : i = n := by omega
          have HOWN := Hid.mk' hown
          have HBL := Hid.mk' hbl
          have HM := Hid.mk' hM
          clear hown hbl hM
          go_wp2
          refine bodyPost_ret (results_tmp2 rfl _ _ _) rfl ?_
          rw [HM.out]
          exact ⟨_, rfl, HBL.out, HOWN.out⟩
      · have HOWN := Hid.mk' hown
        have HBL := Hid.mk' hbl
        have HM := Hid.mk' hM
        clear hown hbl hM
        by_cases hlt : i < n
        · have hil : (i : Int) < (n : Int) := by omega
          go_wp2
          refine bodyPost_ret (results_tmp2 rfl _ _ _) rfl ?_
          rw [HM.out]
          exact ⟨_, rfl, HBL.out, HOWN.out⟩
        · obtain rfl : i = n := by omega
          go_wp2
          refine bodyPost_ret (results_tmp2 rfl _ _ _) rfl ?_
          rw [HM.out]
          exact ⟨_, rfl, HBL.out, HOWN.out⟩
end Go.Proofs.YtoglomfejgpoeaaGreatDoor
