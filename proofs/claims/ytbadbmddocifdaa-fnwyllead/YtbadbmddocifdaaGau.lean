/-
  The product of two operators: the model's loops.
  Powers of an operator, and how far two are apart: the program and the model.
  How far two operators are from commuting: the program and the model.
-/
import Derived.Test.YtbadbmddocifdaaGat
namespace Go.Proofs.Ytbadbmddocifdaa
open Go.RowKit
set_option linter.unusedVariables false

set_option maxRecDepth 100000 in
set_option maxHeartbeats 8000000 in
theorem mulS4 (w : World) (a b : Option Addr) (la ca lb cb : Nat) (f g : Nat → T) (ha : Rd w a la ca f) (hb : Rd w b lb cb g) (l1 : la ≤ 400) (l2 : lb ≤ 400) (gf : Good f la) (gg : Good g lb) :
    Calls Try.prog 34 #[.slice a la ca, .slice b lb cb] w fun r w' => ∃ v, r = .returned (.tuple #[v, .bool (mulO (mulM f g lb la)).2]) ∧ Below w.heap.size w w' ∧ w'.ownsRow w.heap.size 41 5 v (mulO (mulM f g lb la)).1.length (cellsL (mulO (mulM f g lb la)).1) := by
  have HA := Hid.mk' ha
  have HB := Hid.mk' hb
  have HGF := Hid.mk' gf
  have HGG := Hid.mk' gg
  have hO0 := owns_none w w.heap.size (Nat.le_refl _)
  have hB0 := bel_one w (.cells #[] 41)
  clear ha hb gf gg
  go_enter Try.func34, Try.ntmps34
  go_wp2
  generalize w.alloc (.cells #[] 41) = w0 at *
  go_loopw [6, 7] (fun v ii wr => ∃ (i : Nat) (K : List T), i ≤ la ∧ ii = .int .i64 (i : Int) ∧ mulM f g lb i = some K ∧ Falls K ∧ K.length ≤ 400 ∧ wr.ownsRow w.heap.size 41 5 v K.length (cellsL K) ∧ Below w.heap.size w wr) (fun _ ii _ => la - (intOf ii).toNat)
  case atStart => exact ⟨0, [], Nat.zero_le _, rfl, rfl, falls_nil, Nat.zero_le _, hO0, hB0⟩
  case round =>
    obtain ⟨i, K, hi, rfl, hM, hKf, hKl, hown, hbl⟩ := hrel
    by_cases hlt : i < la
    · have hil : (i : Int) < (la : Int) := by omega
      have HM := Hid.mk' hM
      have HKF := Hid.mk' hKf
      have HOWN := Hid.mk' hown
      have HBL := Hid.mk' hbl
      clear hM hKf hown hbl
      go_wp2
      go_loopw [6, 8] (fun v kk wr => ∃ (k : Nat) (K' : List T), k ≤ lb ∧ kk = .int .i64 (k : Int) ∧ rowM K (f i) g k = some K' ∧ Falls K' ∧ K'.length ≤ 400 ∧ wr.ownsRow w.heap.size 41 5 v K'.length (cellsL K') ∧ Below w.heap.size w wr) (fun _ kk _ => lb - (intOf kk).toNat)
      case atStart => exact ⟨0, K, Nat.zero_le _, rfl, rfl, HKF.out, hKl, HOWN.out, HBL.out⟩
      case round =>
        obtain ⟨k, K', hk, rfl, hM', hKf', hKl', hown', hbl'⟩ := hrel
        by_cases hlt2 : k < lb
        · have hkl : (k : Int) < (lb : Int) := by omega
          have hri := HA.out.below hbl'
          have hrk := HB.out.below hbl'
          rcases hri.2.2 with h0 | ⟨pb, off, hpe, hblt, hcl⟩
          · omega
          rcases hrk.2.2 with h0 | ⟨pb2, off2, hpe2, hblt2, hcl2⟩
          · omega
          obtain ⟨g0, g1, g2, g3, g4⟩ := hcl i hlt
          obtain ⟨j0, j1, j2, j3, j4⟩ := hcl2 k hlt2
          have hfi := HGF.out i hlt
          have hgk := HGG.out k hlt2
          obtain ⟨av, cv, hv, hout⟩ := out_of_owns hown' (by omega)
          have HM' := Hid.mk' hM'
          have HKF' := Hid.mk' hKf'
          have HOUT := Hid.mk' hout
          have HBL' := Hid.mk' hbl'
          clear hM' hKf' hown' hout hcl hcl2 hri hrk hbl'
          subst hpe hpe2 hv
          go_wp2_with fail
          have hps := pairO_small hfi hgk
          have hps2 : (pairO (f i) (g k)).length * 40 ≤ 140737488351232 := by omega
          have hbr := HBL'.out.size
          go_region_with (go_at_call 55; refine (monoS _ (f i) (g k) hfi hgk).mono ?_; rintro r w5 ⟨v5, rfl, hb5, ho5⟩; obtain ⟨a5, c5, rfl, hout5⟩ := out_of_owns ho5 hps2; have HB5 := Hid.mk' ((Below.refl wr.heap.size wr).drew.trans hb5); have HOUT5 := Hid.mk' hout5; clear hb5 ho5 hout5)
          all_goals
            have hB5 : Below w.heap.size w w5 := HBL'.out.trans (HB5.out.mono HBL'.out.size)
            by_cases hok : ((f i).m.sum (g k).m).ok = true
            · have hTwo : Two (f i) (g k) ((f i).m.sum (g k).m) := ⟨hfi.1, hgk.1, hok, rfl, rfl, rfl, rfl, hfi.2, hgk.2⟩
              have epo : pairO (f i) (g k) = pairL (f i) (g k) := if_pos hok
              have hfp := (pairL_facts hTwo).1
              have hfa := (addL_facts HKF'.out hfp).1
              have hR5 : Rd w5 av K'.length cv (lf K') := HOUT.out.1.below (HB5.out)
              have hX5 := HOUT5.out.1
              rw [epo] at hX5 hps
              rw [epo, hok]
              have hadd := l3AddS w5 av a5 K'.length cv (pairL (f i) (g k)).length c5 (lf K') (lf (pairL (f i) (g k))) hR5 hX5 (by omega) ((cok_falls HKF'.out).at) ((cok_falls hfp).at)
              have eA : addT (lf K') K'.length (lf (pairL (f i) (g k))) (pairL (f i) (g k)).length 0 0 = addL K' (pairL (f i) (g k)) := rfl
              rw [eA] at hadd
              have hal : (addL K' (pairL (f i) (g k))).length ≤ K'.length + (pairL (f i) (g k)).length := by have := addT_len (lf K') K'.length (lf (pairL (f i) (g k))) (pairL (f i) (g k)).length 0 0; simp only [Nat.sub_zero] at this; exact this
              by_cases h4 : (addL K' (pairL (f i) (g k))).length ≤ 400
              · have hstep : rowM K (f i) g (k + 1) = some (addL K' (pairL (f i) (g k))) := by rw [rowM, HM'.out]; show stepM _ _ _ = _; unfold stepM; rw [if_pos ⟨hok, h4⟩]
                have HST := Hid.mk' hstep
                have h4' : ((addL K' (pairL (f i) (g k))).length : Int) ≤ 400 := by omega
                clear hstep
                generalize hL : addL K' (pairL (f i) (g k)) = L at *
                go_wp2_with (go_at_call 43; refine hadd.mono ?_; rintro r w6 ⟨v6, rfl, hb6, ho6⟩; obtain ⟨a6, c6, rfl, hout6⟩ := out_of_owns ho6 (by omega); have HB6 := Hid.mk' hb6; have HO6 := Hid.mk' ho6; clear hb6 ho6 hout6)
                go_roundw
                case rel => exact ⟨k + 1, L, by omega, by go_num, HST.out, hfa, h4, ownsRow_low HO6.out hB5.size, hB5.trans (HB6.out.mono hB5.size)⟩
                case measure => simp [intOf]; omega
              · have hstep : rowM K (f i) g (k + 1) = none := by rw [rowM, HM'.out]; show stepM _ _ _ = _; unfold stepM; rw [if_neg (fun h => h4 h.2)]
                have hno : mulM f g lb la = none := mulM_none (i := i + 1) (by rw [mulM, HM.out]; exact rowM_none hstep lb (by omega)) la (by omega)
                have h4' : (400 : Int) < ((addL K' (pairL (f i) (g k))).length : Int) := by omega
                clear hstep
                generalize hL : addL K' (pairL (f i) (g k)) = L at *
                go_wp2_with (go_at_call 43; refine hadd.mono ?_; rintro r w6 ⟨v6, rfl, hb6, ho6⟩; obtain ⟨a6, c6, rfl, hout6⟩ := out_of_owns ho6 (by omega); have HB6 := Hid.mk' hb6; clear hb6 ho6 hout6)
                refine bodyPost_ret (results_tmp2 rfl _ _ _) rfl ?_
                rw [hno]
                have hB6 : Below w.heap.size w w6 := hB5.trans (HB6.out.mono hB5.size)
                exact ⟨_, rfl, hB6.alloc hB6.size _, owns_none w6 w.heap.size hB6.size⟩
            · have hstep : rowM K (f i) g (k + 1) = none := by rw [rowM, HM'.out]; show stepM _ _ _ = _; unfold stepM; rw [if_neg (fun h => hok h.1)]
              have hno : mulM f g lb la = none := mulM_none (i := i + 1) (by rw [mulM, HM.out]; exact rowM_none hstep lb (by omega)) la (by omega)
              have hok' : ((f i).m.sum (g k).m).ok = false := by simpa using hok
              rw [hok']
              clear hstep
              go_wp2
              refine bodyPost_ret (results_tmp2 rfl _ _ _) rfl ?_
              rw [hno]
              exact ⟨_, rfl, hB5.alloc hB5.size _, owns_none w5 w.heap.size hB5.size⟩
        · obtain rfl : k = lb := by omega
          have HMk : Hid (mulM f g k (i + 1) = some K') := by show _ = _; rw [mulM, HM.out]; exact hM'
          go_wp2
          go_roundw
          case rel => exact ⟨i + 1, K', by omega, by go_num, HMk.out, hKf', hKl', hown', hbl'⟩
          case measure => simp [intOf]; omega
    · obtain rfl : i = la := by omega
      go_wp2
      refine bodyPost_ret (results_tmp2 rfl _ _ _) rfl ?_
      rw [hM]
      exact ⟨_, rfl, hbl, hown⟩
set_option maxRecDepth 100000 in
set_option maxHeartbeats 4000000 in
theorem wylMulS (w : World) (a b : Option Addr) (la ca lb cb : Nat) (f g : Nat → T) (ha : Rd w a la ca f) (hb : Rd w b lb cb g) :
    Calls Try.prog 11 #[.slice a la ca, .slice b lb cb] w fun r w' => ∃ v, r = .returned (.tuple #[v, .bool (wylMul f la g lb).2]) ∧ Below w.heap.size w w' ∧ w'.ownsRow w.heap.size 41 5 v (wylMul f la g lb).1.length (cellsL (wylMul f la g lb).1) := by
  have HA := Hid.mk' ha
  have HB := Hid.mk' hb
  clear ha hb
  cases hpa : polOk la f
  · have e1 : wylMul f la g lb = ([], false) := by simp [wylMul, hpa]
    rw [e1]
    go_enter Try.func11, Try.ntmps11
    go_wp2_with (go_at_call 33; refine (polOkS _ _ _ _ f HA.out).mono ?_; rw [hpa]; rintro r w1 ⟨rfl, hb1⟩; have HB1 := Hid.mk' hb1; clear hb1)
    refine bodyPost_ret (results_tmp2 rfl _ _ _) rfl ?_
    exact ⟨_, rfl, HB1.out.alloc HB1.out.size _, owns_none w1 w.heap.size HB1.out.size⟩
  · cases hpb : polOk lb g
    · have e1 : wylMul f la g lb = ([], false) := by simp [wylMul, hpb]
      rw [e1]
      go_enter Try.func11, Try.ntmps11
      go_wp2_with (first
        | (go_at_call_of 33 (Value.slice a la ca); refine (polOkS _ _ _ _ f HA.out).mono ?_; rw [hpa]; rintro r w1 ⟨rfl, hb1⟩; have HB1 := Hid.mk' hb1; clear hb1)
        | (go_at_call_of 33 (Value.slice b lb cb); refine (polOkS _ _ _ _ g (HB.out.below HB1.out)).mono ?_; rw [hpb]; rintro r w2 ⟨rfl, hb2⟩; have HB2 := Hid.mk' (bel_next HB1.out hb2); clear hb2))
      refine bodyPost_ret (results_tmp2 rfl _ _ _) rfl ?_
      exact ⟨_, rfl, HB2.out.alloc HB2.out.size _, owns_none w2 w.heap.size HB2.out.size⟩
    · have e2 : wylMul f la g lb = mulO (mulM f g lb la) := by simp [wylMul, hpa, hpb]
      rw [e2]
      obtain ⟨l1, g1⟩ := good_ok hpa
      obtain ⟨l2, g2⟩ := good_ok hpb
      go_enter Try.func11, Try.ntmps11
      go_wp2_with (first
        | (go_at_call_of 33 (Value.slice a la ca); refine (polOkS _ _ _ _ f HA.out).mono ?_; rw [hpa]; rintro r w1 ⟨rfl, hb1⟩; have HB1 := Hid.mk' hb1; clear hb1)
        | (go_at_call_of 33 (Value.slice b lb cb); refine (polOkS _ _ _ _ g (HB.out.below HB1.out)).mono ?_; rw [hpb]; rintro r w2 ⟨rfl, hb2⟩; have HB2 := Hid.mk' (bel_next HB1.out hb2); clear hb2)
        | (go_at_call 34; refine (mulS4 _ _ _ _ _ _ _ f g (HA.out.below HB2.out) (HB.out.below HB2.out) l1 l2 g1 g2).mono ?_; rintro r w3 ⟨v, rfl, hb3, ho3⟩))
      refine bodyPost_ret (results_tmp2 rfl _ _ _) rfl ?_
      exact ⟨v, rfl, bel_next HB2.out hb3, ownsRow_low ho3 HB2.out.size⟩
end Go.Proofs.Ytbadbmddocifdaa
namespace Go.Proofs.Ytbadbmddocifdaa
open Go.RowKit
set_option linter.unusedVariables false

theorem two_good {a b : T} (h1 : a.m.ok = true ∧ 0 ≤ a.c ∧ a.c ≤ 100) (h2 : b.m.ok = true ∧ 0 ≤ b.c ∧ b.c ≤ 100) (hok : (a.m.sum b.m).ok = true) : Two a b (a.m.sum b.m) := ⟨h1.1, h2.1, hok, rfl, rfl, rfl, rfl, h1.2, h2.2⟩
theorem rowM_falls {K : List T} {a : T} {g : Nat → T} {lb : Nat} (hK : Falls K) (ha : a.m.ok = true ∧ 0 ≤ a.c ∧ a.c ≤ 100) (hg : Good g lb) : ∀ k K', k ≤ lb → rowM K a g k = some K' → Falls K'
  | 0, K', _, h => by cases h; exact hK
  | k + 1, K', hk, h => by
    rw [rowM] at h
    cases hr : rowM K a g k with
    | none => rw [hr] at h; cases h
    | some K1 =>
      rw [hr] at h
      change stepM K1 a (g k) = some K' at h
      unfold stepM at h
      split at h
      · rename_i hh
        cases h
        exact (addL_facts (rowM_falls hK ha hg k K1 (by omega) hr) (pairL_facts (two_good ha (hg k (by omega)) hh.1)).1).1
      · cases h
theorem mulM_falls {f g : Nat → T} {la lb : Nat} (hf : Good f la) (hg : Good g lb) : ∀ i K, i ≤ la → mulM f g lb i = some K → Falls K
  | 0, K, _, h => by cases h; exact falls_nil
  | i + 1, K, hi, h => by
    rw [mulM] at h
    cases hr : mulM f g lb i with
    | none => rw [hr] at h; cases h
    | some K1 =>
      rw [hr] at h
      exact rowM_falls (mulM_falls hf hg i K1 (by omega) hr) (hf i (by omega)) hg lb K (Nat.le_refl _) h
theorem good_falls {L : List T} (h : Falls L) : Good (lf L) L.length := fun i hi => by have := (fl_lf h).2 i hi; exact ⟨this.1, by omega, this.2.2⟩
theorem ok_falls {L : List T} (h : Falls L) (hl : L.length ≤ 400) : polOk L.length (lf L) = true := by
  have F := fl_lf h
  simp only [polOk, decide_eq_true_eq]
  refine ⟨hl, fun i hi => ?_⟩
  have h1 := F.2 i hi
  simp only [okAt, Bool.and_eq_true, Bool.or_eq_true, decide_eq_true_eq]
  refine ⟨⟨h1.2, h1.1⟩, ?_⟩
  by_cases h0 : i = 0
  · exact .inl h0
  · refine .inr ((ord_pos (F.2 (i - 1) (by omega)).1 h1.1).2 (F.1 (i - 1) i (by omega) hi))
theorem mul_falls {K : List T} (hK : Falls K) (hl : K.length ≤ 400) {f : Nat → T} {la : Nat} (hf : polOk la f = true) : wylMul (lf K) K.length f la = mulO (mulM (lf K) f la K.length) := by simp [wylMul, ok_falls hK hl, hf]
def oneT : T := ⟨1, ⟨0, 0, 0, 0⟩⟩
def powM (f : Nat → T) (la : Nat) : Nat → Option (List T)
  | 0 => some [oneT]
  | n + 1 => (powM f la n).bind fun K => mulM (lf K) f la K.length
theorem powM_none {f : Nat → T} {la i : Nat} (h : powM f la i = none) : ∀ j, i ≤ j → powM f la j = none := fun j hj => by
  induction j with
  | zero =>
    have e : i = 0 := by omega
    rw [e] at h
    exact h
  | succ j ih =>
    by_cases e : i = j + 1
    · rw [← e]; exact h
    · rw [powM, ih (by omega)]; rfl
theorem one_falls : Falls [oneT] := ⟨List.pairwise_singleton _ _, fun t ht => by simp at ht; subst ht; exact ⟨by decide, by decide, by decide⟩⟩
theorem powM_facts {f : Nat → T} {la : Nat} (hf : Good f la) : ∀ n K, powM f la n = some K → Falls K ∧ K.length ≤ 400
  | 0, K, h => by cases h; exact ⟨one_falls, by simp⟩
  | n + 1, K, h => by
    rw [powM] at h
    cases hr : powM f la n with
    | none => rw [hr] at h; cases h
    | some K1 =>
      rw [hr] at h
      have h1 := powM_facts hf n K1 hr
      exact ⟨mulM_falls (good_falls h1.1) hf K1.length K (Nat.le_refl _) h, mulM_len K1.length K h⟩
def wylPow (f : Nat → T) (la : Nat) (n : Int) : List T × Bool := if polOk la f = true ∧ 0 ≤ n ∧ n ≤ 8 then mulO (powM f la n.toNat) else ([], false)
theorem wylPow_len (f : Nat → T) (la : Nat) (n : Int) : (wylPow f la n).1.length ≤ 400 := by
  unfold wylPow
  split
  · rename_i h
    cases hp : powM f la n.toNat with
    | none => simp [mulO]
    | some K => exact (powM_facts (good_ok h.1).2 _ K hp).2
  · simp
set_option maxRecDepth 100000 in
set_option maxHeartbeats 8000000 in
theorem wylPowV (w : World) (a : Option Addr) (la ca : Nat) (f : Nat → T) (n : Int) (ha : Rd w a la ca f) :
    Calls Try.prog 18 #[.slice a la ca, .int .i64 n] w fun r w' => ∃ v, r = .returned (.tuple #[v, .bool (wylPow f la n).2]) ∧ Below w.heap.size w w' ∧ w'.ownsRow w.heap.size 41 5 v (wylPow f la n).1.length (cellsL (wylPow f la n).1) := by
  have HA := Hid.mk' ha
  clear ha
  by_cases hn : 0 ≤ n ∧ n ≤ 8
  · obtain ⟨n0, n8⟩ := hn
    cases hpa : polOk la f
    · have e1 : wylPow f la n = ([], false) := by simp [wylPow, hpa]
      rw [e1]
      go_enter Try.func18, Try.ntmps18
      go_wp2_with (go_at_call 13; refine (polOkI _ _ _ _ f HA.out).mono ?_; rw [hpa]; rintro r w1 ⟨rfl, hb1⟩; have HB1 := Hid.mk' hb1; clear hb1)
      refine bodyPost_ret (results_tmp2 rfl _ _ _) rfl ?_
      exact ⟨_, rfl, HB1.out, owns_nil w1 _⟩
    · obtain ⟨N, rfl⟩ : ∃ N : Nat, n = (N : Int) := ⟨n.toNat, by omega⟩
      have e1 : wylPow f la (N : Int) = mulO (powM f la N) := by simp [wylPow, hpa, n8]
      rw [e1]
      have HGF := Hid.mk' (good_ok hpa).2
      have eO : polOf 1 ⟨0, 0, 0, 0⟩ = [oneT] := rfl
      have hof := polOfI 1 0 0 0 0
      rw [eO] at hof
      go_enter Try.func18, Try.ntmps18
      go_wp2_with (first
        | (go_at_call 13; refine (polOkI _ _ _ _ f HA.out).mono ?_; rw [hpa]; rintro r w1 ⟨rfl, hb1⟩; have HB1 := Hid.mk' hb1; clear hb1)
        | (go_at_call 40; refine (hof _).mono ?_; rintro r w2 ⟨v2, rfl, hb2, ho2⟩; have HB2 := Hid.mk' (bel_next HB1.out hb2); have HO2 := Hid.mk' (ownsRow_low ho2 HB1.out.size); clear hb2 ho2))
      go_loopw [6, 22] (fun v ii wr => ∃ (i : Nat) (K : List T), i ≤ N ∧ ii = .int .i64 (i : Int) ∧ powM f la i = some K ∧ wr.ownsRow w.heap.size 41 5 v K.length (cellsL K) ∧ Below w.heap.size w wr) (fun _ ii _ => N - (intOf ii).toNat)
      case atStart => exact ⟨0, [oneT], Nat.zero_le _, rfl, rfl, HO2.out, HB2.out⟩
      case round =>
        obtain ⟨i, K, hi, rfl, hM, hown, hbl⟩ := hrel
        by_cases hlt : i < N
        · have hil : (i : Int) < (N : Int) := by omega
          have hKf := powM_facts HGF.out i K hM
          obtain ⟨av, cv, hv, hout⟩ := out_of_owns hown (by omega)
          have hcall := wylMulV wr av a K.length cv la ca (lf K) f hout.1 (HA.out.below hbl)
          rw [mul_falls hKf.1 hKf.2 hpa] at hcall
          have HM := Hid.mk' hM
          have HBL := Hid.mk' hbl
          clear hM hown hout hbl
          subst hv
          cases hm : mulM (lf K) f la K.length with
          | none =>
            rw [hm] at hcall
            have hno : powM f la N = none := powM_none (i := i + 1) (by rw [powM, HM.out]; exact hm) N (by omega)
            go_wp2_with (go_at_call 10; refine hcall.mono ?_; rintro r w5 ⟨v5, rfl, hb5, ho5⟩; dsimp only [mulO])
            refine bodyPost_ret (results_tmp2 rfl _ _ _) rfl ?_
            rw [hno]
            exact ⟨_, rfl, bel_next HBL.out hb5, owns_nil w5 _⟩
          | some K' =>
            rw [hm] at hcall
            have HMk : Hid (powM f la (i + 1) = some K') := by show _ = _; rw [powM, HM.out]; exact hm
            go_wp2_with (go_at_call 10; refine hcall.mono ?_; rintro r w5 ⟨v5, rfl, hb5, ho5⟩; dsimp only [mulO]; have HB5 := Hid.mk' hb5; have HO5 := Hid.mk' ho5; clear hb5 ho5)
            go_roundw
            case rel => exact ⟨i + 1, K', by omega, by go_num, HMk.out, ownsRow_low HO5.out HBL.out.size, bel_next HBL.out HB5.out⟩
            case measure => simp [intOf]; omega
        · obtain rfl : i = N := by omega
          go_wp2
          refine bodyPost_ret (results_tmp2 rfl _ _ _) rfl ?_
          rw [hM]
          exact ⟨_, rfl, hbl, hown⟩
  · have e1 : wylPow f la n = ([], false) := by unfold wylPow; rw [if_neg (fun h => hn h.2)]
    rw [e1]
    by_cases h0 : n < 0
    · go_enter Try.func18, Try.ntmps18
      go_wp2
      refine bodyPost_ret (results_tmp2 rfl _ _ _) rfl ?_
      exact ⟨_, rfl, Below.refl _ _, owns_nil w _⟩
    · have h8 : 8 < n := by omega
      go_enter Try.func18, Try.ntmps18
      go_wp2
      refine bodyPost_ret (results_tmp2 rfl _ _ _) rfl ?_
      exact ⟨_, rfl, Below.refl _ _, owns_nil w _⟩
theorem wylPowI (w : World) (a : Option Addr) (la ca : Nat) (f : Nat → T) (n : Int) (ha : Rd w a la ca f) :
    Calls Try.prog 18 #[.slice a la ca, .int .i64 n] w fun r w' => ∃ a' cap', r = .returned (.tuple #[.slice a' (wylPow f la n).1.length cap', .bool (wylPow f la n).2]) ∧ Below w.heap.size w w' ∧ Out w.heap.size w' a' cap' (wylPow f la n).1 := by
  refine (wylPowV w a la ca f n ha).mono ?_
  rintro r w' ⟨v, rfl, hb1, ho1⟩
  have hlen := wylPow_len f la n
  obtain ⟨a', cap', rfl, hout⟩ := out_of_owns ho1 (by omega)
  exact ⟨a', cap', rfl, hb1, hout⟩
set_option maxRecDepth 100000 in
set_option maxHeartbeats 8000000 in
theorem wylPowS (w : World) (a : Option Addr) (la ca : Nat) (f : Nat → T) (n : Int) (ha : Rd w a la ca f) :
    Calls Try.prog 19 #[.slice a la ca, .int .i64 n] w fun r w' => ∃ v, r = .returned (.tuple #[v, .bool (wylPow f la n).2]) ∧ Below w.heap.size w w' ∧ w'.ownsRow w.heap.size 41 5 v (wylPow f la n).1.length (cellsL (wylPow f la n).1) := by
  have HA := Hid.mk' ha
  clear ha
  cases hpa : polOk la f
  · have e1 : wylPow f la n = ([], false) := by simp [wylPow, hpa]
    rw [e1]
    go_enter Try.func19, Try.ntmps19
    go_wp2_with (go_at_call 33; refine (polOkS _ _ _ _ f HA.out).mono ?_; rw [hpa]; rintro r w1 ⟨rfl, hb1⟩; have HB1 := Hid.mk' hb1; clear hb1)
    refine bodyPost_ret (results_tmp2 rfl _ _ _) rfl ?_
    exact ⟨_, rfl, HB1.out.alloc HB1.out.size _, owns_none w1 w.heap.size HB1.out.size⟩
  · by_cases hn : 0 ≤ n ∧ n ≤ 8
    · obtain ⟨n0, n8⟩ := hn
      obtain ⟨N, rfl⟩ : ∃ N : Nat, n = (N : Int) := ⟨n.toNat, by omega⟩
      have e1 : wylPow f la (N : Int) = mulO (powM f la N) := by simp [wylPow, hpa, n8]
      rw [e1]
      obtain ⟨l1, gf⟩ := good_ok hpa
      have HGF := Hid.mk' gf
      clear gf
      go_enter Try.func19, Try.ntmps19
      go_wp2_with (first
        | (go_at_call 33; refine (polOkS _ _ _ _ f HA.out).mono ?_; rw [hpa]; rintro r w1 ⟨rfl, hb1⟩; have HB1 := Hid.mk' hb1; clear hb1)
        | (go_at_call 41; refine (inS_in _ _ _ _ n0 n8).mono ?_; rintro e w' ⟨rfl, hw'⟩; obtain rfl := hw'.symm; clear hw'))
      have hO2 : (w1.alloc (.cells #[.int .i64 1, .int .i64 0, .int .i64 0, .int .i64 0, .int .i64 0] 41)).ownsRow w.heap.size 41 5 (.slice (some ⟨w1.heap.size, 0, none⟩) 1 1) 1 (cellsL [oneT]) := World.ownsRow_lit w1 #[.int .i64 1, .int .i64 0, .int .i64 0, .int .i64 0, .int .i64 0] 1 HB1.out.size (by decide) rfl
      have hB2 : Below w.heap.size w (w1.alloc (.cells #[.int .i64 1, .int .i64 0, .int .i64 0, .int .i64 0, .int .i64 0] 41)) := HB1.out.alloc HB1.out.size _
      go_loopw [6, 7] (fun v ii wr => ∃ (i : Nat) (K : List T), i ≤ N ∧ ii = .int .i64 (i : Int) ∧ powM f la i = some K ∧ wr.ownsRow w.heap.size 41 5 v K.length (cellsL K) ∧ Below w.heap.size w wr) (fun _ ii _ => N - (intOf ii).toNat)
      case atStart => exact ⟨0, [oneT], Nat.zero_le _, rfl, rfl, hO2, hB2⟩
      case round =>
        obtain ⟨i, K, hi, rfl, hM, hown, hbl⟩ := hrel
        by_cases hlt : i < N
        · have hil : (i : Int) < (N : Int) := by omega
          have hKf := powM_facts HGF.out i K hM
          obtain ⟨av, cv, hv, hout⟩ := out_of_owns hown (by omega)
          have hcall := mulS4 wr av a K.length cv la ca (lf K) f hout.1 (HA.out.below hbl) hKf.2 l1 (good_falls hKf.1) HGF.out
          have HM := Hid.mk' hM
          have HBL := Hid.mk' hbl
          clear hM hown hout hbl
          subst hv
          cases hm : mulM (lf K) f la K.length with
          | none =>
            rw [hm] at hcall
            have hno : powM f la N = none := powM_none (i := i + 1) (by rw [powM, HM.out]; exact hm) N (by omega)
            go_wp2_with (go_at_call 34; refine hcall.mono ?_; rintro r w5 ⟨v5, rfl, hb5, ho5⟩; dsimp only [mulO])
            refine bodyPost_ret (results_tmp2 rfl _ _ _) rfl ?_
            rw [hno]
            have hB5 := bel_next HBL.out hb5
            exact ⟨_, rfl, hB5.alloc hB5.size _, owns_none w5 w.heap.size hB5.size⟩
          | some K' =>
            rw [hm] at hcall
            have HMk : Hid (powM f la (i + 1) = some K') := by show _ = _; rw [powM, HM.out]; exact hm
            go_wp2_with (go_at_call 34; refine hcall.mono ?_; rintro r w5 ⟨v5, rfl, hb5, ho5⟩; dsimp only [mulO]; have HB5 := Hid.mk' hb5; have HO5 := Hid.mk' ho5; clear hb5 ho5)
            go_roundw
            case rel => exact ⟨i + 1, K', by omega, by go_num, HMk.out, ownsRow_low HO5.out HBL.out.size, bel_next HBL.out HB5.out⟩
            case measure => simp [intOf]; omega
        · obtain rfl : i = N := by omega
          go_wp2
          refine bodyPost_ret (results_tmp2 rfl _ _ _) rfl ?_
          rw [hM]
          exact ⟨_, rfl, hbl, hown⟩
    · have e1 : wylPow f la n = ([], false) := by unfold wylPow; rw [if_neg (fun h => hn h.2)]
      rw [e1]
      have hout : n < 0 ∨ (0 ≤ n ∧ 8 < n) := by omega
      go_enter Try.func19, Try.ntmps19
      go_wp2_with (first
        | (go_at_call 33; refine (polOkS _ _ _ _ f HA.out).mono ?_; rw [hpa]; rintro r w1 ⟨rfl, hb1⟩; have HB1 := Hid.mk' hb1; clear hb1)
        | (go_at_call 41; refine (inS_out _ _ _ _ hout).mono ?_; rintro e w' ⟨rfl, hw'⟩; obtain rfl := hw'.symm; clear hw'))
      refine bodyPost_ret (results_tmp2 rfl _ _ _) rfl ?_
      exact ⟨_, rfl, HB1.out.alloc HB1.out.size _, owns_none w1 w.heap.size HB1.out.size⟩
end Go.Proofs.Ytbadbmddocifdaa
namespace Go.Proofs.Ytbadbmddocifdaa
open Go.RowKit
set_option linter.unusedVariables false

def wylApart (f : Nat → T) (la : Nat) (g : Nat → T) (lb : Nat) : List T × Bool :=
  if (wylMul f la g lb).2 = true ∧ (wylMul g lb f la).2 = true then polSub (lf (wylMul f la g lb).1) (wylMul f la g lb).1.length (lf (wylMul g lb f la).1) (wylMul g lb f la).1.length else ([], false)
theorem wylApart_len (f : Nat → T) (la : Nat) (g : Nat → T) (lb : Nat) : (wylApart f la g lb).1.length ≤ 400 := by
  unfold wylApart
  split
  · exact polSub_len _ _ _ _
  · simp
set_option maxRecDepth 100000 in
set_option maxHeartbeats 4000000 in
theorem wylApartI (w : World) (a b : Option Addr) (la ca lb cb : Nat) (f g : Nat → T) (ha : Rd w a la ca f) (hb : Rd w b lb cb g) :
    Calls Try.prog 22 #[.slice a la ca, .slice b lb cb] w fun r w' => ∃ a' cap', r = .returned (.tuple #[.slice a' (wylApart f la g lb).1.length cap', .bool (wylApart f la g lb).2]) ∧ Below w.heap.size w w' ∧ Out w.heap.size w' a' cap' (wylApart f la g lb).1 := by
  have HA := Hid.mk' ha
  have HB := Hid.mk' hb
  have hc1 := wylMulI w a b la ca lb cb f g ha hb
  have hc2 := fun (w1 : World) (h1 : Rd w1 b lb cb g) (h2 : Rd w1 a la ca f) => wylMulI w1 b a lb cb la ca g f h1 h2
  have hla : (la : Int) ≤ 140737488351232 := by have := ha.2.1; omega
  have hlb : (lb : Int) ≤ 140737488351232 := by have := hb.2.1; omega
  have hl1 := wylMul_len f la g lb
  have hl2 := wylMul_len g lb f la
  clear ha hb
  unfold wylApart
  generalize wylMul f la g lb = p at *
  generalize wylMul g lb f la = q at *
  obtain ⟨X, k1⟩ := p
  obtain ⟨Y, k2⟩ := q
  dsimp only at hc1 hc2 hl1 hl2 ⊢
  have hnil : ∀ (W : World), Out w.heap.size W none 0 ([] : List T) := fun W => ⟨⟨Nat.le_refl _, by simp, .inl rfl⟩, .inl rfl, .inl rfl⟩
  cases k1
  · rw [if_neg (by simp)]
    go_enter Try.func22, Try.ntmps22
    go_wp2_with fail
    refine hc1.mono ?_
    rintro r w1 ⟨a1, c1, rfl, hb1, ho1⟩
    have HB1 := Hid.mk' hb1
    clear hb1 ho1
    go_wp2_with fail
    refine (hc2 w1 (HB.out.below HB1.out) (HA.out.below HB1.out)).mono ?_
    rintro r w2 ⟨a2, c2, rfl, hb2, ho2⟩
    have HB2 := Hid.mk' (bel_next HB1.out hb2)
    clear hb2 ho2
    go_wp2
    refine bodyPost_ret (results_tmp2 rfl _ _ _) rfl ?_
    exact ⟨none, 0, rfl, HB2.out, hnil w2⟩
  · cases k2
    · rw [if_neg (by simp)]
      go_enter Try.func22, Try.ntmps22
      go_wp2_with fail
      refine hc1.mono ?_
      rintro r w1 ⟨a1, c1, rfl, hb1, ho1⟩
      have HB1 := Hid.mk' hb1
      clear hb1 ho1
      go_wp2_with fail
      refine (hc2 w1 (HB.out.below HB1.out) (HA.out.below HB1.out)).mono ?_
      rintro r w2 ⟨a2, c2, rfl, hb2, ho2⟩
      have HB2 := Hid.mk' (bel_next HB1.out hb2)
      clear hb2 ho2
      go_wp2
      refine bodyPost_ret (results_tmp2 rfl _ _ _) rfl ?_
      exact ⟨none, 0, rfl, HB2.out, hnil w2⟩
    · rw [if_pos ⟨rfl, rfl⟩]
      go_enter Try.func22, Try.ntmps22
      go_wp2_with fail
      refine hc1.mono ?_
      rintro r w1 ⟨a1, c1, rfl, hb1, ho1⟩
      have HB1 := Hid.mk' hb1
      have HO1 := Hid.mk' ho1
      clear hb1 ho1
      go_wp2_with fail
      refine (hc2 w1 (HB.out.below HB1.out) (HA.out.below HB1.out)).mono ?_
      rintro r w2 ⟨a2, c2, rfl, hb2, ho2⟩
      have HB2 := Hid.mk' (bel_next HB1.out hb2)
      have HR1 := Hid.mk' (HO1.out.1.below hb2)
      have HR2 := Hid.mk' ho2.1
      clear hb2 ho2
      go_wp2_with (go_at_call 42; refine (polSubI _ _ _ _ _ _ _ (lf X) (lf Y) HR1.out HR2.out).mono ?_; rintro r w3 ⟨a3, c3, rfl, hb3, ho3⟩)
      refine bodyPost_ret (results_tmp2 rfl _ _ _) rfl ?_
      refine ⟨a3, c3, rfl, bel_next HB2.out hb3, ho3.1, ho3.2.1, ho3.2.2.imp id ?_⟩
      rintro ⟨g', off, e, hg⟩
      exact ⟨g', off, e, Nat.le_trans HB2.out.size hg⟩
theorem apart_ok {f g : Nat → T} {la lb : Nat} (h1 : polOk la f = true) (h2 : polOk lb g = true) {X Y : List T} (hX : mulM f g lb la = some X) (hY : mulM g f la lb = some Y) : polSub (lf X) X.length (lf Y) Y.length = if (addT (lf X) X.length (negT (lf Y) Y.length) Y.length 0 0).length ≤ 400 then (addT (lf X) X.length (negT (lf Y) Y.length) Y.length 0 0, true) else ([], false) := by
  have fX := mulM_falls (good_ok h1).2 (good_ok h2).2 la X (Nat.le_refl _) hX
  have fY := mulM_falls (good_ok h2).2 (good_ok h1).2 lb Y (Nat.le_refl _) hY
  simp [polSub, ok_falls fX (mulM_len la X hX), ok_falls fY (mulM_len lb Y hY)]
set_option maxRecDepth 100000 in
set_option maxHeartbeats 4000000 in
theorem wylApartS (w : World) (a b : Option Addr) (la ca lb cb : Nat) (f g : Nat → T) (ha : Rd w a la ca f) (hb : Rd w b lb cb g) :
    Calls Try.prog 23 #[.slice a la ca, .slice b lb cb] w fun r w' => ∃ v, r = .returned (.tuple #[v, .bool (wylApart f la g lb).2]) ∧ Below w.heap.size w w' ∧ w'.ownsRow w.heap.size 41 5 v (wylApart f la g lb).1.length (cellsL (wylApart f la g lb).1) := by
  have HA := Hid.mk' ha
  have HB := Hid.mk' hb
  clear ha hb
  cases hpa : polOk la f
  · have e1 : wylApart f la g lb = ([], false) := by simp [wylApart, wylMul, hpa]
    rw [e1]
    go_enter Try.func23, Try.ntmps23
    go_wp2_with (go_at_call 33; refine (polOkS _ _ _ _ f HA.out).mono ?_; rw [hpa]; rintro r w1 ⟨rfl, hb1⟩; have HB1 := Hid.mk' hb1; clear hb1)
    refine bodyPost_ret (results_tmp2 rfl _ _ _) rfl ?_
    exact ⟨_, rfl, HB1.out.alloc HB1.out.size _, owns_none w1 w.heap.size HB1.out.size⟩
  · cases hpb : polOk lb g
    · have e1 : wylApart f la g lb = ([], false) := by simp [wylApart, wylMul, hpb]
      rw [e1]
      go_enter Try.func23, Try.ntmps23
      go_wp2_with (first
        | (go_at_call_of 33 (Value.slice a la ca); refine (polOkS _ _ _ _ f HA.out).mono ?_; rw [hpa]; rintro r w1 ⟨rfl, hb1⟩; have HB1 := Hid.mk' hb1; clear hb1)
        | (go_at_call_of 33 (Value.slice b lb cb); refine (polOkS _ _ _ _ g (HB.out.below HB1.out)).mono ?_; rw [hpb]; rintro r w2 ⟨rfl, hb2⟩; have HB2 := Hid.mk' (bel_next HB1.out hb2); clear hb2))
      refine bodyPost_ret (results_tmp2 rfl _ _ _) rfl ?_
      exact ⟨_, rfl, HB2.out.alloc HB2.out.size _, owns_none w2 w.heap.size HB2.out.size⟩
    · obtain ⟨l1, gf⟩ := good_ok hpa
      obtain ⟨l2, gg⟩ := good_ok hpb
      have m1 : wylMul f la g lb = mulO (mulM f g lb la) := by simp [wylMul, hpa, hpb]
      have m2 : wylMul g lb f la = mulO (mulM g f la lb) := by simp [wylMul, hpa, hpb]
      have hc1 := fun (W : World) h h' => mulS4 W a b la ca lb cb f g h h' l1 l2 gf gg
      have hc2 := fun (W : World) h h' => mulS4 W b a lb cb la ca g f h h' l2 l1 gg gf
      have HPA := Hid.mk' hpa
      have HPB := Hid.mk' hpb
      unfold wylApart
      rw [m1, m2]
      cases hX : mulM f g lb la with
      | none =>
        rw [hX] at hc1
        rw [if_neg (by simp [mulO])]
        go_enter Try.func23, Try.ntmps23
        go_wp2_with (first
          | (go_at_call_of 33 (Value.slice a la ca); refine (polOkS _ _ _ _ f HA.out).mono ?_; rw [hpa]; rintro r w1 ⟨rfl, hb1⟩; have HB1 := Hid.mk' hb1; clear hb1)
          | (go_at_call_of 33 (Value.slice b lb cb); refine (polOkS _ _ _ _ g (HB.out.below HB1.out)).mono ?_; rw [hpb]; rintro r w2 ⟨rfl, hb2⟩; have HB2 := Hid.mk' (bel_next HB1.out hb2); clear hb2))
        refine (hc1 _ (HA.out.below HB2.out) (HB.out.below HB2.out)).mono ?_
        dsimp only [mulO]
        rintro r w3 ⟨v3, rfl, hb3, ho3⟩
        have HB3 := Hid.mk' (bel_next HB2.out hb3)
        clear hb3 ho3
        go_wp2_with fail
        refine (hc2 _ (HB.out.below HB3.out) (HA.out.below HB3.out)).mono ?_
        rintro r w4 ⟨v4, rfl, hb4, ho4⟩
        have HB4 := Hid.mk' (bel_next HB3.out hb4)
        clear hb4 ho4
        go_wp2
        refine bodyPost_ret (results_tmp2 rfl _ _ _) rfl ?_
        exact ⟨_, rfl, HB4.out.alloc HB4.out.size _, owns_none w4 w.heap.size HB4.out.size⟩
      | some X =>
        rw [hX] at hc1
        cases hY : mulM g f la lb with
        | none =>
          rw [hY] at hc2
          rw [if_neg (by simp [mulO])]
          go_enter Try.func23, Try.ntmps23
          go_wp2_with (first
            | (go_at_call_of 33 (Value.slice a la ca); refine (polOkS _ _ _ _ f HA.out).mono ?_; rw [hpa]; rintro r w1 ⟨rfl, hb1⟩; have HB1 := Hid.mk' hb1; clear hb1)
            | (go_at_call_of 33 (Value.slice b lb cb); refine (polOkS _ _ _ _ g (HB.out.below HB1.out)).mono ?_; rw [hpb]; rintro r w2 ⟨rfl, hb2⟩; have HB2 := Hid.mk' (bel_next HB1.out hb2); clear hb2))
          refine (hc1 _ (HA.out.below HB2.out) (HB.out.below HB2.out)).mono ?_
          dsimp only [mulO]
          rintro r w3 ⟨v3, rfl, hb3, ho3⟩
          have HB3 := Hid.mk' (bel_next HB2.out hb3)
          clear hb3 ho3
          go_wp2_with fail
          refine (hc2 _ (HB.out.below HB3.out) (HA.out.below HB3.out)).mono ?_
          dsimp only [mulO]
          rintro r w4 ⟨v4, rfl, hb4, ho4⟩
          have HB4 := Hid.mk' (bel_next HB3.out hb4)
          clear hb4 ho4
          go_wp2
          refine bodyPost_ret (results_tmp2 rfl _ _ _) rfl ?_
          exact ⟨_, rfl, HB4.out.alloc HB4.out.size _, owns_none w4 w.heap.size HB4.out.size⟩
        | some Y =>
          rw [hY] at hc2
          rw [if_pos (by simp [mulO])]
          show Calls Try.prog 23 #[.slice a la ca, .slice b lb cb] w fun r w' => ∃ v, r = .returned (.tuple #[v, .bool (polSub (lf X) X.length (lf Y) Y.length).2]) ∧ Below w.heap.size w w' ∧ w'.ownsRow w.heap.size 41 5 v (polSub (lf X) X.length (lf Y) Y.length).1.length (cellsL (polSub (lf X) X.length (lf Y) Y.length).1)
          rw [apart_ok HPA.out HPB.out hX hY]
          have fX := mulM_falls gf gg la X (Nat.le_refl _) hX
          have fY := mulM_falls gg gf lb Y (Nat.le_refl _) hY
          have lX := mulM_len la X hX
          have lY := mulM_len lb Y hY
          have nF := neg_fl (fl_lf fY)
          have hal := addT_len (lf X) X.length (negT (lf Y) Y.length) Y.length 0 0
          simp only [Nat.sub_zero] at hal
          have key : ∀ (W : World) (v : Value), Below w.heap.size w W → True := fun _ _ _ => trivial
          go_enter Try.func23, Try.ntmps23
          go_wp2_with (first
            | (go_at_call_of 33 (Value.slice a la ca); refine (polOkS _ _ _ _ f HA.out).mono ?_; rw [hpa]; rintro r w1 ⟨rfl, hb1⟩; have HB1 := Hid.mk' hb1; clear hb1)
            | (go_at_call_of 33 (Value.slice b lb cb); refine (polOkS _ _ _ _ g (HB.out.below HB1.out)).mono ?_; rw [hpb]; rintro r w2 ⟨rfl, hb2⟩; have HB2 := Hid.mk' (bel_next HB1.out hb2); clear hb2))
          refine (hc1 _ (HA.out.below HB2.out) (HB.out.below HB2.out)).mono ?_
          dsimp only [mulO]
          rintro r w3 ⟨v3, rfl, hb3, ho3⟩
          obtain ⟨a3, c3, rfl, hout3⟩ := out_of_owns ho3 (by omega)
          have HB3 := Hid.mk' (bel_next HB2.out hb3)
          have HX3 := Hid.mk' hout3.1
          clear hb3 ho3 hout3
          go_wp2_with fail
          refine (hc2 _ (HB.out.below HB3.out) (HA.out.below HB3.out)).mono ?_
          dsimp only [mulO]
          rintro r w4 ⟨v4, rfl, hb4, ho4⟩
          obtain ⟨a4, c4, rfl, hout4⟩ := out_of_owns ho4 (by omega)
          have HB4 := Hid.mk' (bel_next HB3.out hb4)
          have HX4 := Hid.mk' (HX3.out.below hb4)
          have HY4 := Hid.mk' hout4.1
          clear hb4 ho4 hout4
          go_wp2_with fail
          have hsc := l3ScaleS w4 100 a4 Y.length c4 (lf Y) HY4.out (by omega) (by omega) (by omega) ((cok_falls fY).at)
          rw [if_neg (by omega)] at hsc
          refine hsc.mono ?_
          rintro r w5 ⟨v5, rfl, hb5, ho5⟩
          have eS : (scT 100 (lf Y) Y.length).length = Y.length := scT_len _ _ _
          have ho5' : w5.ownsRow w4.heap.size 41 5 v5 (scT 100 (lf Y) Y.length).length (cellsL (scT 100 (lf Y) Y.length)) := by rw [eS]; exact ho5
          obtain ⟨a5, c5, rfl, hout5⟩ := out_of_owns ho5' (by omega)
          have hR5 : Rd w5 a5 Y.length c5 (negT (lf Y) Y.length) := by have := hout5.1; rw [eS] at this; exact this
          have HB5 := Hid.mk' (bel_next HB4.out hb5)
          have HX5 := Hid.mk' (HX4.out.below hb5)
          have HY5 := Hid.mk' hR5
          clear hb5 ho5 ho5' hout5 hR5
          rw [eS]
          have hadd := l3AddS w5 a3 a5 X.length c3 Y.length c5 (lf X) (negT (lf Y) Y.length) HX5.out HY5.out (by omega) ((cok_falls fX).at) (fun i hi => by have := nF.2 i hi; omega)
          generalize hL : addT (lf X) X.length (negT (lf Y) Y.length) Y.length 0 0 = L at *
          by_cases h4 : L.length ≤ 400
          · have h4' : (L.length : Int) ≤ 400 := by omega
            go_wp2_with (go_at_call 43; refine hadd.mono ?_; rintro r w6 ⟨v6, rfl, hb6, ho6⟩; obtain ⟨a6, c6, rfl, hout6⟩ := out_of_owns ho6 (by omega))
            all_goals (refine bodyPost_ret (results_tmp2 rfl _ _ _) rfl ?_)
            all_goals exact ⟨_, rfl, bel_next HB5.out hb6, ownsRow_low ho6 HB5.out.size⟩
          · have h4' : (400 : Int) < (L.length : Int) := by omega
            go_wp2_with (go_at_call 43; refine hadd.mono ?_; rintro r w6 ⟨v6, rfl, hb6, ho6⟩; obtain ⟨a6, c6, rfl, hout6⟩ := out_of_owns ho6 (by omega))
            all_goals (refine bodyPost_ret (results_tmp2 rfl _ _ _) rfl ?_)
            all_goals (have hB6 := bel_next HB5.out hb6)
            all_goals exact ⟨_, rfl, hB6.alloc hB6.size _, owns_none w6 w.heap.size hB6.size⟩
end Go.Proofs.Ytbadbmddocifdaa
