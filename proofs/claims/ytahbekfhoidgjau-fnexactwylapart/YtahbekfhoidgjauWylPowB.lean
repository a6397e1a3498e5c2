/-
  Powers of an operator, and how far two are apart: the program and the model.
-/
import Derived.Test.YtahbekfhoidgjauWylMulI
import Derived.Test.YtahbekfhoidgjauWylMulS2
namespace Go.Proofs.Ytahbekfhoidgjau
open Go.RowKit
set_option linter.unusedVariables false

theorem two_good {a b : T} (h1 : a.m.ok = true ∧ 0 ≤ a.c ∧ a.c ≤ 100) (h2 : b.m.ok = true ∧ 0 ≤ b.c ∧ b.c ≤ 100) (hok : (a.m.sum b.m).ok = true) : Two a b (a.m.sum b.m) := ⟨h1.1, h2.1, hok, rfl, rfl, rfl, rfl, h1.2, h2.2⟩
theorem rowM_falls {K : List T} {a : T} {g : Nat → T} {lb : Nat} (hK : Falls K) (ha : a.m.ok = true ∧ 0 ≤ a.c ∧ a.c ≤ 100) (hg : Good g lb) : ∀ k K', k ≤ lb → rowM K a g k = some K' → Falls K'
  | 0, K', _, h => by cases h; exact hK
  | k + 1, K', hk, h => by
    rw [rowM] at h
    cases hr : rowM K a g k with
    | none => rw [hr] at h; cases h
    | some K1 =>
      rw [hr] at h
      change stepM K1 a (g k) = some K' at h
      unfold stepM at h
      split at h
      · rename_i hh
        cases h
        exact (addL_facts (rowM_falls hK ha hg k K1 (by omega) hr) (pairL_facts (two_good ha (hg k (by omega)) hh.1)).1).1
      · cases h
theorem mulM_falls {f g : Nat → T} {la lb : Nat} (hf : Good f la) (hg : Good g lb) : ∀ i K, i ≤ la → mulM f g lb i = some K → Falls K
  | 0, K, _, h => by cases h; exact falls_nil
  | i + 1, K, hi, h => by
    rw [mulM] at h
    cases hr : mulM f g lb i with
    | none => rw [hr] at h; cases h
    | some K1 =>
      rw [hr] at h
      exact rowM_falls (mulM_falls hf hg i K1 (by omega) hr) (hf i (by omega)) hg lb K (Nat.le_refl _) h
theorem good_falls {L : List T} (h : Falls L) : Good (lf L) L.length := fun i hi => by have := (fl_lf h).2 i hi; exact ⟨this.1, by omega, this.2.2⟩
theorem ok_falls {L : List T} (h : Falls L) (hl : L.length ≤ 400) : polOk L.length (lf L) = true := by
  have F := fl_lf h
  simp only [polOk, decide_eq_true_eq]
  refine ⟨hl, fun i hi => ?_⟩
  have h1 := F.2 i hi
  simp only [okAt, Bool.and_eq_true, Bool.or_eq_true, decide_eq_true_eq]
  refine ⟨⟨h1.2, h1.1⟩, ?_⟩
  by_cases h0 : i = 0
  · exact .inl h0
  · refine .inr ((ord_pos (F.2 (i - 1) (by omega)).1 h1.1).2 (F.1 (i - 1) i (by omega) hi))
theorem mul_falls {K : List T} (hK : Falls K) (hl : K.length ≤ 400) {f : Nat → T} {la : Nat} (hf : polOk la f = true) : wylMul (lf K) K.length f la = mulO (mulM (lf K) f la K.length) := by simp [wylMul, ok_falls hK hl, hf]
def oneT : T := ⟨1, ⟨0, 0, 0, 0⟩⟩
def powM (f : Nat → T) (la : Nat) : Nat → Option (List T)
  | 0 => some [oneT]
  | n + 1 => (powM f la n).bind fun K => mulM (lf K) f la K.length
theorem powM_none {f : Nat → T} {la i : Nat} (h : powM f la i = none) : ∀ j, i ≤ j → powM f la j = none := fun j hj => by
  induction j with
  | zero =>
    have e : i = 0 := by omega
    rw [e] at h
    exact h
  | succ j ih =>
    by_cases e : i = j + 1
    · rw [← e]; exact h
    · rw [powM, ih (by omega)]; rfl
theorem one_falls : Falls [oneT] := ⟨List.pairwise_singleton _ _, fun t ht => by simp at ht; subst ht; exact ⟨by decide, by decide, by decide⟩⟩
theorem powM_facts {f : Nat → T} {la : Nat} (hf : Good f la) : ∀ n K, powM f la n = some K → Falls K ∧ K.length ≤ 400
  | 0, K, h => by cases h; exact ⟨one_falls, by simp⟩
  | n + 1, K, h => by
    rw [powM] at h
    cases hr : powM f la n with
    | none => rw [hr] at h; cases h
    | some K1 =>
      rw [hr] at h
      have h1 := powM_facts hf n K1 hr
      exact ⟨mulM_falls (good_falls h1.1) hf K1.length K (Nat.le_refl _) h, mulM_len K1.length K h⟩
def wylPow (f : Nat → T) (la : Nat) (n : Int) : List T × Bool := if polOk la f = true ∧ 0 ≤ n ∧ n ≤ 8 then mulO (powM f la n.toNat) else ([], false)
theorem wylPow_len (f : Nat → T) (la : Nat) (n : Int) : (wylPow f la n).1.length ≤ 400 := by
  unfold wylPow
  split
  · rename_i h
    cases hp : powM f la n.toNat with
    | none => simp [mulO]
    | some K => exact (powM_facts (good_ok h.1).2 _ K hp).2
  · simp
set_option maxRecDepth 100000 in
set_option maxHeartbeats 8000000 in
theorem wylPowV (w : World) (a : Option Addr) (la ca : Nat) (f : Nat → T) (n : Int) (ha : Rd w a la ca f) :
    Calls Try.prog 24 #[.slice a la ca, .int .i64 n] w fun r w' => ∃ v, r = .returned (.tuple #[v, .bool (wylPow f la n).2]) ∧ Below w.heap.size w w' ∧ w'.ownsRow w.heap.size 43 5 v (wylPow f la n).1.length (cellsL (wylPow f la n).1) := by
  have HA := Hid.mk' ha
  clear ha
  by_cases hn : 0 ≤ n ∧ n ≤ 8
  · obtain ⟨n0, n8⟩ := hn
    cases hpa : polOk la f
    · have e1 : wylPow f la n = ([], false) := by simp [wylPow, hpa]
      rw [e1]
      go_enter Try.func24, Try.ntmps24
      go_wp2_with (go_at_call 35; refine (polOkI _ _ _ _ f HA.out).mono ?_; rw [hpa]; rintro r w1 ⟨rfl, hb1⟩; have HB1 := Hid.mk' hb1; clear hb1)
      refine bodyPost_ret (results_tmp2 rfl _ _ _) rfl ?_
      exact ⟨_, rfl, HB1.out, owns_nil w1 _⟩
    · obtain ⟨N, rfl⟩ : ∃ N : Nat, n = (N : Int) := ⟨n.toNat, by omega⟩
      have e1 : wylPow f la (N : Int) = mulO (powM f la N) := by simp [wylPow, hpa, n8]
      rw [e1]
      have HGF := Hid.mk' (good_ok hpa).2
      have eO : polOf 1 ⟨0, 0, 0, 0⟩ = [oneT] := rfl
      have hof := polOfI 1 0 0 0 0
      rw [eO] at hof
      go_enter Try.func24, Try.ntmps24
      go_wp2_with (first
        | (go_at_call 35; refine (polOkI _ _ _ _ f HA.out).mono ?_; rw [hpa]; rintro r w1 ⟨rfl, hb1⟩; have HB1 := Hid.mk' hb1; clear hb1)
        | (go_at_call 39; refine (hof _).mono ?_; rintro r w2 ⟨v2, rfl, hb2, ho2⟩; have HB2 := Hid.mk' (bel_next HB1.out hb2); have HO2 := Hid.mk' (ownsRow_low ho2 HB1.out.size); clear hb2 ho2))
      go_loopw [6, 22] (fun v ii wr => ∃ (i : Nat) (K : List T), i ≤ N ∧ ii = .int .i64 (i : Int) ∧ powM f la i = some K ∧ wr.ownsRow w.heap.size 43 5 v K.length (cellsL K) ∧ Below w.heap.size w wr) (fun _ ii _ => N - (intOf ii).toNat)
      case atStart => exact ⟨0, [oneT], Nat.zero_le _, rfl, rfl, HO2.out, HB2.out⟩
      case round =>
        obtain ⟨i, K, hi, rfl, hM, hown, hbl⟩ := hrel
        by_cases hlt : i < N
        · have hil : (i : Int) < (N : Int) := by omega
          have hKf := powM_facts HGF.out i K hM
          obtain ⟨av, cv, hv, hout⟩ := out_of_owns hown (by omega)
          have hcall := wylMulV wr av a K.length cv la ca (lf K) f hout.1 (HA.out.below hbl)
          rw [mul_falls hKf.1 hKf.2 hpa] at hcall
          have HM := Hid.mk' hM
          have HBL := Hid.mk' hbl
          clear hM hown hout hbl
          subst hv
          cases hm : mulM (lf K) f la K.length with
          | none =>
            rw [hm] at hcall
            have hno : powM f la N = none := powM_none (i := i + 1) (by rw [powM, HM.out]; exact hm) N (by omega)
            go_wp2_with (go_at_call 22; refine hcall.mono ?_; rintro r w5 ⟨v5, rfl, hb5, ho5⟩; dsimp only [mulO])
            refine bodyPost_ret (results_tmp2 rfl _ _ _) rfl ?_
            rw [hno]
            exact ⟨_, rfl, bel_next HBL.out hb5, owns_nil w5 _⟩
          | some K' =>
            rw [hm] at hcall
            have HMk : Hid (powM f la (i + 1) = some K') := by show _ = _; rw [powM, HM.out]; exact hm
            go_wp2_with (go_at_call 22; refine hcall.mono ?_; rintro r w5 ⟨v5, rfl, hb5, ho5⟩; dsimp only [mulO]; have HB5 := Hid.mk' hb5; have HO5 := Hid.mk' ho5; clear hb5 ho5)
            go_roundw
            case rel => exact ⟨i + 1, K', by omega, by go_num, HMk.out, ownsRow_low HO5.out HBL.out.size, bel_next HBL.out HB5.out⟩
            case measure => simp [intOf]; omega
        · obtain rfl : i = N := by omega
          go_wp2
          refine bodyPost_ret (results_tmp2 rfl _ _ _) rfl ?_
          rw [hM]
          exact ⟨_, rfl, hbl, hown⟩
  · have e1 : wylPow f la n = ([], false) := by unfold wylPow; rw [if_neg (fun h => hn h.2)]
    rw [e1]
    by_cases h0 : n < 0
    · go_enter Try.func24, Try.ntmps24
      go_wp2
      refine bodyPost_ret (results_tmp2 rfl _ _ _) rfl ?_
      exact ⟨_, rfl, Below.refl _ _, owns_nil w _⟩
    · have h8 : 8 < n := by omega
      go_enter Try.func24, Try.ntmps24
      go_wp2
      refine bodyPost_ret (results_tmp2 rfl _ _ _) rfl ?_
      exact ⟨_, rfl, Below.refl _ _, owns_nil w _⟩
theorem wylPowI (w : World) (a : Option Addr) (la ca : Nat) (f : Nat → T) (n : Int) (ha : Rd w a la ca f) :
    Calls Try.prog 24 #[.slice a la ca, .int .i64 n] w fun r w' => ∃ a' cap', r = .returned (.tuple #[.slice a' (wylPow f la n).1.length cap', .bool (wylPow f la n).2]) ∧ Below w.heap.size w w' ∧ Out w.heap.size w' a' cap' (wylPow f la n).1 := by
  refine (wylPowV w a la ca f n ha).mono ?_
  rintro r w' ⟨v, rfl, hb1, ho1⟩
  have hlen := wylPow_len f la n
  obtain ⟨a', cap', rfl, hout⟩ := out_of_owns ho1 (by omega)
  exact ⟨a', cap', rfl, hb1, hout⟩
set_option maxRecDepth 100000 in
set_option maxHeartbeats 8000000 in
theorem wylPowS (w : World) (a : Option Addr) (la ca : Nat) (f : Nat → T) (n : Int) (ha : Rd w a la ca f) :
    Calls Try.prog 23 #[.slice a la ca, .int .i64 n] w fun r w' => ∃ v, r = .returned (.tuple #[v, .bool (wylPow f la n).2]) ∧ Below w.heap.size w w' ∧ w'.ownsRow w.heap.size 43 5 v (wylPow f la n).1.length (cellsL (wylPow f la n).1) := by
  have HA := Hid.mk' ha
  clear ha
  cases hpa : polOk la f
  · have e1 : wylPow f la n = ([], false) := by simp [wylPow, hpa]
    rw [e1]
    go_enter Try.func23, Try.ntmps23
    go_wp2_with (go_at_call 27; refine (polOkS _ _ _ _ f HA.out).mono ?_; rw [hpa]; rintro r w1 ⟨rfl, hb1⟩; have HB1 := Hid.mk' hb1; clear hb1)
    refine bodyPost_ret (results_tmp2 rfl _ _ _) rfl ?_
    exact ⟨_, rfl, HB1.out.alloc HB1.out.size _, owns_none w1 w.heap.size HB1.out.size⟩
  · by_cases hn : 0 ≤ n ∧ n ≤ 8
    · obtain ⟨n0, n8⟩ := hn
      obtain ⟨N, rfl⟩ : ∃ N : Nat, n = (N : Int) := ⟨n.toNat, by omega⟩
      have e1 : wylPow f la (N : Int) = mulO (powM f la N) := by simp [wylPow, hpa, n8]
      rw [e1]
      obtain ⟨l1, gf⟩ := good_ok hpa
      have HGF := Hid.mk' gf
      clear gf
      go_enter Try.func23, Try.ntmps23
      go_wp2_with (first
        | (go_at_call 27; refine (polOkS _ _ _ _ f HA.out).mono ?_; rw [hpa]; rintro r w1 ⟨rfl, hb1⟩; have HB1 := Hid.mk' hb1; clear hb1)
        | (go_at_call 38; refine (inS_in _ _ _ _ n0 n8).mono ?_; rintro e w' ⟨rfl, hw'⟩; obtain rfl := hw'.symm; clear hw'))
      have hO2 : (w1.alloc (.cells #[.int .i64 1, .int .i64 0, .int .i64 0, .int .i64 0, .int .i64 0] 43)).ownsRow w.heap.size 43 5 (.slice (some ⟨w1.heap.size, 0, none⟩) 1 1) 1 (cellsL [oneT]) := World.ownsRow_lit w1 #[.int .i64 1, .int .i64 0, .int .i64 0, .int .i64 0, .int .i64 0] 1 HB1.out.size (by decide) rfl
      have hB2 : Below w.heap.size w (w1.alloc (.cells #[.int .i64 1, .int .i64 0, .int .i64 0, .int .i64 0, .int .i64 0] 43)) := HB1.out.alloc HB1.out.size _
      go_loopw [6, 7] (fun v ii wr => ∃ (i : Nat) (K : List T), i ≤ N ∧ ii = .int .i64 (i : Int) ∧ powM f la i = some K ∧ wr.ownsRow w.heap.size 43 5 v K.length (cellsL K) ∧ Below w.heap.size w wr) (fun _ ii _ => N - (intOf ii).toNat)
      case atStart => exact ⟨0, [oneT], Nat.zero_le _, rfl, rfl, hO2, hB2⟩
      case round =>
        obtain ⟨i, K, hi, rfl, hM, hown, hbl⟩ := hrel
        by_cases hlt : i < N
        · have hil : (i : Int) < (N : Int) := by omega
          have hKf := powM_facts HGF.out i K hM
          obtain ⟨av, cv, hv, hout⟩ := out_of_owns hown (by omega)
          have hcall := mulS4 wr av a K.length cv la ca (lf K) f hout.1 (HA.out.below hbl) hKf.2 l1 (good_falls hKf.1) HGF.out
          have HM := Hid.mk' hM
          have HBL := Hid.mk' hbl
          clear hM hown hout hbl
          subst hv
          cases hm : mulM (lf K) f la K.length with
          | none =>
            rw [hm] at hcall
            have hno : powM f la N = none := powM_none (i := i + 1) (by rw [powM, HM.out]; exact hm) N (by omega)
            go_wp2_with (go_at_call 34; refine hcall.mono ?_; rintro r w5 ⟨v5, rfl, hb5, ho5⟩; dsimp only [mulO])
            refine bodyPost_ret (results_tmp2 rfl _ _ _) rfl ?_
            rw [hno]
            have hB5 := bel_next HBL.out hb5
            exact ⟨_, rfl, hB5.alloc hB5.size _, owns_none w5 w.heap.size hB5.size⟩
          | some K' =>
            rw [hm] at hcall
            have HMk : Hid (powM f la (i + 1) = some K') := by show _ = _; rw [powM, HM.out]; exact hm
            go_wp2_with (go_at_call 34; refine hcall.mono ?_; rintro r w5 ⟨v5, rfl, hb5, ho5⟩; dsimp only [mulO]; have HB5 := Hid.mk' hb5; have HO5 := Hid.mk' ho5; clear hb5 ho5)
            go_roundw
            case rel => exact ⟨i + 1, K', by omega, by go_num, HMk.out, ownsRow_low HO5.out HBL.out.size, bel_next HBL.out HB5.out⟩
            case measure => simp [intOf]; omega
        · obtain rfl : i = N := by omega
          go_wp2
          refine bodyPost_ret (results_tmp2 rfl _ _ _) rfl ?_
          rw [hM]
          exact ⟨_, rfl, hbl, hown⟩
    · have e1 : wylPow f la n = ([], false) := by unfold wylPow; rw [if_neg (fun h => hn h.2)]
      rw [e1]
      have hout : n < 0 ∨ (0 ≤ n ∧ 8 < n) := by omega
      go_enter Try.func23, Try.ntmps23
      go_wp2_with (first
        | (go_at_call 27; refine (polOkS _ _ _ _ f HA.out).mono ?_; rw [hpa]; rintro r w1 ⟨rfl, hb1⟩; have HB1 := Hid.mk' hb1; clear hb1)
        | (go_at_call 38; refine (inS_out _ _ _ _ hout).mono ?_; rintro e w' ⟨rfl, hw'⟩; obtain rfl := hw'.symm; clear hw'))
      refine bodyPost_ret (results_tmp2 rfl _ _ _) rfl ?_
      exact ⟨_, rfl, HB1.out.alloc HB1.out.size _, owns_none w1 w.heap.size HB1.out.size⟩
end Go.Proofs.Ytahbekfhoidgjau
