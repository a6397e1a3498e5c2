/-
  Sums and differences of two operators.
  More of the program's chapter 3: the number of a monomial, whether operators are the same, whether one has no slopes, so many times an operator.
  More of the program's chapter 3: whether an operator has no slopes, so many times an operator.
-/
import Derived.Test.YtmlaedpamobmhaaGreatPan
import Derived.Test.YtmlaedpamobmhaaGreatPao
import Derived.Test.YtmlaedpamobmhaaGreatPad
import Derived.Deep.RegionHeld3
namespace Go.Proofs.YtmlaedpamobmhaaGreat
open Go.RowKit Go.Maps Go.Sort Go.Shelf
set_option linter.unusedVariables false

theorem SumR.range {w : World} {b n : Nat} {c : M → Int} (h : SumR w b n c) : ∀ m, 0 ≤ c m ∧ c m ≤ 100 := by obtain ⟨D, _, hc, _⟩ := h; exact hc
theorem sumNew (w : World) : SumR (w.alloc (.map #[] 0)) w.heap.size 0 (fun _ => 0) :=
  ⟨.map [], World.ownsMap_made w _ _ _, fun _ => ⟨Int.le_refl _, by show (0 : Int) ≤ 100; decide⟩, fun m _ => ⟨rfl, by simp [Maps.has]⟩, fun kl h => by simp [Maps.has] at h⟩
theorem Rd.apart {w : World} {a : Option Addr} {n cap : Nat} {f : Nat → T} (h : Rd w a n cap f) {b : Nat} (hb : w.heap.size ≤ b) : n = 0 ∨ ∀ b' off, a = some ⟨b', off, none⟩ → some b' ≠ some b := by
  rcases h.2.2 with h0 | ⟨pb, off, rfl, hlt, _⟩
  · exact .inl h0
  · exact .inr (fun b' off' e e' => by cases e; cases e'; omega)
/-- what a sum is told as. -/
def sumL (K : List T) : List T × Bool := if K.length ≤ 400 then (K, true) else ([], false)
theorem sumOpI (w : World) (b n : Nat) (c : M → Int) (h : SumR w b n c) (hn : n ≤ 1000000) {K : List T} (hK : Falls K) (hKc : ∀ m, m.ok = true → coef K m = c m) :
    Calls Tryz.prog 91 #[.map (some b)] w fun e w' => ∃ v, e = .returned (.tuple #[v, .bool (sumL K).2]) ∧ Below w.heap.size w w' ∧ w'.ownsRow w.heap.size 54 5 v (sumL K).1.length (cellsL (sumL K).1) := by
  by_cases h400 : K.length ≤ 400
  · have e : sumL K = (K, true) := if_pos h400
    rw [e]
    exact sumOpOk sortsM w b n c h hn hK hKc h400
  · have e : sumL K = ([], false) := if_neg h400
    rw [e]
    refine (sumOpNo sortsM w b n c h hn hK hKc h400).mono ?_
    rintro r w5 ⟨rfl, hb5⟩
    exact ⟨_, rfl, hb5, owns_nil w5 _⟩
theorem makeHint (n : Int) (w : World) : (Instr.makeMap 123 (some (.int .i64 n))).run Tryz.prog w = .ok (.map (some w.heap.size)) (w.alloc (.map #[] 0)) := by
  have hu := run_underlying (P := Tryz.prog) Tryz.underlying123
  unfold Instr.makeMap
  simp [hu, asInt, go_sem, Sem.run_bind, Result.andThen]
/-- what adding k times another one gives. -/
def addK (k : Int) (f : Nat → T) (la : Nat) (g : Nat → T) (lb : Nat) (K : List T) : List T × Bool := if polOk la f = true ∧ polOk lb g = true ∧ K.length ≤ 400 then (K, true) else ([], false)
set_option maxRecDepth 100000 in
set_option maxHeartbeats 4000000 in
theorem polAddTimesI (w : World) (a b : Option Addr) (la ca lb cb : Nat) (f g : Nat → T) (k : Int) (k0 : 0 ≤ k) (k1 : k ≤ 100) (ha : Rd w a la ca f) (hb : Rd w b lb cb g) (K : List T) (hK : polOk la f = true → polOk lb g = true → Falls K ∧ ∀ m, m.ok = true → coef K m = timesC k g (timesC 1 f (fun _ => 0) la) lb m) :
    Calls Tryz.prog 89 #[.slice a la ca, .int .i64 k, .slice b lb cb] w fun r w' => ∃ v, r = .returned (.tuple #[v, .bool (addK k f la g lb K).2]) ∧ Below w.heap.size w w' ∧ w'.ownsRow w.heap.size 54 5 v (addK k f la g lb K).1.length (cellsL (addK k f la g lb K).1) := by
  have HA := Hid.mk' ha
  have HB := Hid.mk' hb
  have hla : (la : Int) ≤ 140737488351232 := by have := ha.2.1; omega
  have hlb : (lb : Int) ≤ 140737488351232 := by have := hb.2.1; omega
  clear ha hb
  cases hpa : polOk la f
  · have e1 : addK k f la g lb K = ([], false) := by simp [addK, hpa]
    rw [e1]
    go_enter Tryz.func89, Tryz.ntmps89
    go_wp2_with (go_at_call 46; refine (polOkI _ _ _ _ f HA.out).mono ?_; rw [hpa]; rintro r w1 ⟨rfl, hb1⟩; have HB1 := Hid.mk' hb1; clear hb1)
    refine bodyPost_ret (results_tmp2 rfl _ _ _) rfl ?_
    exact ⟨_, rfl, HB1.out, owns_nil w1 _⟩
  · cases hpb : polOk lb g
    · have e1 : addK k f la g lb K = ([], false) := by simp [addK, hpb]
      rw [e1]
      go_enter Tryz.func89, Tryz.ntmps89
      go_wp2_with (first
        | (go_at_call_of 46 (Value.slice a la ca); refine (polOkI _ _ _ _ f HA.out).mono ?_; rw [hpa]; rintro r w1 ⟨rfl, hb1⟩; have HB1 := Hid.mk' hb1; clear hb1)
        | (go_at_call_of 46 (Value.slice b lb cb); refine (polOkI _ _ _ _ g (HB.out.below HB1.out)).mono ?_; rw [hpb]; rintro r w2 ⟨rfl, hb2⟩; have HB2 := Hid.mk' hb2; clear hb2))
      refine bodyPost_ret (results_tmp2 rfl _ _ _) rfl ?_
      exact ⟨_, rfl, bel_next HB1.out HB2.out, owns_nil w2 _⟩
    · obtain ⟨hKf, hKc⟩ := hK hpa hpb
      have F := fl_of_ok hpa
      have G := fl_of_ok hpb
      have HF := Hid.mk' F
      have HG := Hid.mk' G
      have l1 : la ≤ 400 := by simp only [polOk, decide_eq_true_eq] at hpa; exact hpa.1
      have l2 : lb ≤ 400 := by simp only [polOk, decide_eq_true_eq] at hpb; exact hpb.1
      have hmk := makeHint
      have e2 : addK k f la g lb K = sumL K := by simp [addK, sumL, hpa, hpb]
      rw [e2]
      clear F G e2 hK
      go_enter Tryz.func89, Tryz.ntmps89
      go_wp2_with (first
        | (go_at_call_of 46 (Value.slice a la ca); refine (polOkI _ _ _ _ f HA.out).mono ?_; rw [hpa]; rintro r w1 ⟨rfl, hb1⟩; have HB1 := Hid.mk' hb1; clear hb1)
        | (go_at_call_of 46 (Value.slice b lb cb); refine (polOkI _ _ _ _ g (HB.out.below HB1.out)).mono ?_; rw [hpb]; rintro r w2 ⟨rfl, hb2⟩; have HB2 := Hid.mk' (bel_next HB1.out hb2); clear hb2)
        | (go_at_call_of 102 (Value.slice a la ca); refine (sumTimes _ w2.heap.size 0 _ 1 a la ca f (sumNew w2) ((HA.out.below HB2.out).below (bel_one w2 _)) ((HA.out.below HB2.out).apart (Nat.le_refl _)) (fun i hi => (HF.out.2 i hi).1) (fun i hi => by have := HF.out.2 i hi; omega) (by omega) (by omega) (by omega) (by simp)).mono ?_; rintro r w3 ⟨rfl, hs3, hg3⟩; have HS3 := Hid.mk' hs3; have HG3 := Hid.mk' ((World.grownBy_alloc w2 (.map #[] 0) (some w2.heap.size)).trans hg3); clear hs3 hg3)
        | (go_at_call_of 102 (Value.slice b lb cb); refine (sumTimes _ w2.heap.size (0 + la) _ k b lb cb g HS3.out ((HB.out.below HB2.out).grown HG3.out ((HB.out.below HB2.out).apart (Nat.le_refl _))) ((HB.out.below HB2.out).apart (Nat.le_refl _)) (fun i hi => (HG.out.2 i hi).1) (fun i hi => by have := HG.out.2 i hi; omega) k0 k1 (by omega) (by obtain ⟨D, ho, _⟩ := HS3.out; exact ho.lt)).mono ?_; rintro r w4 ⟨rfl, hs4, hg4⟩; have HS4 := Hid.mk' hs4; have HG4 := Hid.mk' (HG3.out.trans hg4); clear hs4 hg4))
      have hlo : w.heap.size ≤ w2.heap.size := HB2.out.size
      have hB4 : Below w.heap.size w w4 := HB2.out.grown HG4.out hlo (fun k' e => by cases e; exact hlo)
      refine (sumOpI _ _ _ _ HS4.out (by omega) hKf hKc).mono ?_
      rintro r w5 ⟨v, rfl, hb5, ho5⟩
      go_wp2
      refine bodyPost_ret (results_tmp2 rfl _ _ _) rfl ?_
      exact ⟨_, rfl, hB4.trans (hb5.mono hB4.size), ownsRow_low ho5 hB4.size⟩
theorem polAdd_K {f g : Nat → T} {la lb : Nat} (hpa : polOk la f = true) (hpb : polOk lb g = true) : Falls (addT f la g lb 0 0) ∧ ∀ m, m.ok = true → coef (addT f la g lb 0 0) m = timesC 1 g (timesC 1 f (fun _ => 0) la) lb m := by
  obtain ⟨_, h2, h3⟩ := mrg_facts (fl_of_ok hpa) (fl_of_ok hpb) (la - 0 + (lb - 0)) 0 0 (Nat.le_refl _)
  refine ⟨h2, fun m _ => ?_⟩
  rw [sum_two (fl_of_ok hpa) (fl_of_ok hpb), Int.one_mul]
  exact h3 m
set_option maxHeartbeats 1000000 in
theorem polAddI (w : World) (a b : Option Addr) (la ca lb cb : Nat) (f g : Nat → T) (ha : Rd w a la ca f) (hb : Rd w b lb cb g) :
    Calls Tryz.prog 49 #[.slice a la ca, .slice b lb cb] w fun r w' => ∃ a' cap', r = .returned (.tuple #[.slice a' (polAdd f la g lb).1.length cap', .bool (polAdd f la g lb).2]) ∧ Below w.heap.size w w' ∧ Out w.heap.size w' a' cap' (polAdd f la g lb).1 := by
  have hc := polAddTimesI w a b la ca lb cb f g 1 (by omega) (by omega) ha hb (addT f la g lb 0 0) polAdd_K
  have e : addK 1 f la g lb (addT f la g lb 0 0) = polAdd f la g lb := rfl
  rw [e] at hc
  have hlen := polAdd_len f la g lb
  generalize polAdd f la g lb = r at *
  obtain ⟨L, ok⟩ := r
  go_enter Tryz.func49, Tryz.ntmps49
  go_wp2_with (go_at_call 89; refine hc.mono ?_; rintro r w1 ⟨v, rfl, hb1, ho1⟩)
  refine bodyPost_ret (results_tmp2 rfl _ _ _) rfl ?_
  obtain ⟨a', cap', rfl, hout⟩ := out_of_owns ho1 (by omega)
  exact ⟨a', cap', rfl, hb1, hout⟩
end Go.Proofs.YtmlaedpamobmhaaGreat
namespace Go.Proofs.YtmlaedpamobmhaaGreat
open Go.RowKit
set_option linter.unusedVariables false

set_option maxRecDepth 100000 in
set_option maxHeartbeats 4000000 in
theorem polSameS (w : World) (a a' : Option Addr) (n cap n' cap' : Nat) (f f' : Nat → T) (h : Rd w a n cap f) (h' : Rd w a' n' cap' f') :
    Calls Tryz.prog 69 #[.slice a n cap, .slice a' n' cap'] w fun r w' => r = .returned (.bool (termsEq n f n' f')) ∧ Below w.heap.size w w' := by
  obtain ⟨h1, h2, h3⟩ := h
  obtain ⟨h1', h2', h3'⟩ := h'
  have hn : (n : Int) ≤ 140737488351232 := by omega
  have hn' : (n' : Int) ≤ 140737488351232 := by omega
  by_cases hnn : n = n'
  · subst hnn
    go_enter Tryz.func69, Tryz.ntmps69
    go_wp2
    go_loopw [5] (fun i wr => ∃ (k : Nat), k ≤ n ∧ i = .int .i64 k ∧ Below w.heap.size w wr ∧ Hid (∀ j, j < k → (f j).eqB (f' j) = true)) (fun i _ => n - (intOf i).toNat)
    case atStart => exact ⟨0, Nat.zero_le _, rfl, Below.refl _ _, fun j hj => absurd hj (Nat.not_lt_zero _)⟩
    case round =>
      obtain ⟨k, hk, rfl, hB, hok⟩ := hrel
      by_cases hlt : k < n
      · rcases h3 with h0 | ⟨b, off, rfl, hblt, hcl⟩
        · omega
        rcases h3' with h0 | ⟨b', off', rfl, hblt', hcl'⟩
        · omega
        have hkn : (k : Int) < (n : Int) := by omega
        obtain ⟨g0, g1, g2, g3, g4⟩ := (hcl k hlt).below hB hblt
        obtain ⟨p0, p1, p2, p3, p4⟩ := (hcl' k hlt).below hB hblt'
        clear hcl hcl'
        by_cases hc : (f k).c = (f' k).c
        · skip
          by_cases hx : (f k).m.x = (f' k).m.x
          · skip
            by_cases hy : (f k).m.y = (f' k).m.y
            · skip
              by_cases hd : (f k).m.d = (f' k).m.d
              · skip
                by_cases he : (f k).m.e = (f' k).m.e
                · skip
                  have HN : Hid (∀ j, j < k + 1 → (f j).eqB (f' j) = true) := fun j hj => by
                    by_cases hjk : j = k
                    · rw [hjk]; simp [T.eqB, M.eqB, hc, hx, hy, hd, he]
                    · exact hok.out j (by omega)
                  clear hok
                  go_wp2_with fail
                  go_quiet (fail)
                  go_wp2
                  go_roundw
                  case rel => exact ⟨k + 1, by omega, by go_num, below_drewN hB _, HN⟩
                  case measure => simp [intOf]; omega
                · skip
                  have HN : Hid (termsEq n f n f' = false) := by
                    show _ = _
                    simp only [termsEq, decide_eq_false_iff_not]
                    intro hh
                    have := hh.2 k hlt
                    simp [T.eqB, M.eqB, he] at this
                  clear hok
                  go_wp2_with fail
                  go_quiet (fail)
                  go_wp2
                  go_ret
                  exact ⟨by rw [HN.out]; rfl, below_drewN hB _⟩
              · skip
                have HN : Hid (termsEq n f n f' = false) := by
                  show _ = _
                  simp only [termsEq, decide_eq_false_iff_not]
                  intro hh
                  have := hh.2 k hlt
                  simp [T.eqB, M.eqB, hd] at this
                clear hok
                go_wp2_with fail
                go_quiet (fail)
                go_wp2
                go_ret
                exact ⟨by rw [HN.out]; rfl, below_drewN hB _⟩
            · skip
              have HN : Hid (termsEq n f n f' = false) := by
                show _ = _
                simp only [termsEq, decide_eq_false_iff_not]
                intro hh
                have := hh.2 k hlt
                simp [T.eqB, M.eqB, hy] at this
              clear hok
              go_wp2_with fail
              go_quiet (fail)
              go_wp2
              go_ret
              exact ⟨by rw [HN.out]; rfl, below_drewN hB _⟩
          · skip
            have HN : Hid (termsEq n f n f' = false) := by
              show _ = _
              simp only [termsEq, decide_eq_false_iff_not]
              intro hh
              have := hh.2 k hlt
              simp [T.eqB, M.eqB, hx] at this
            clear hok
            go_wp2_with fail
            go_quiet (fail)
            go_wp2
            go_ret
            exact ⟨by rw [HN.out]; rfl, below_drewN hB _⟩
        · skip
          have HN : Hid (termsEq n f n f' = false) := by
            show _ = _
            simp only [termsEq, decide_eq_false_iff_not]
            intro hh
            have := hh.2 k hlt
            simp [T.eqB, M.eqB, hc] at this
          clear hok
          go_wp2_with fail
          go_quiet (fail)
          go_wp2
          go_ret
          exact ⟨by rw [HN.out]; rfl, below_drewN hB _⟩
      · have HP : Hid (termsEq n f n f' = true) := by
          show _ = _
          simp only [termsEq, decide_eq_true_eq]
          exact ⟨trivial, fun i hi => hok.out i (by omega)⟩
        clear hok
        go_wp2
        go_ret
        exact ⟨by rw [HP.out]; rfl, hB⟩
  · have hp : termsEq n f n' f' = false := by
      simp only [termsEq, decide_eq_false_iff_not]
      exact fun h => hnn h.1
    rw [hp]
    have hb : ((n : Int) != (n' : Int)) = true := by simp; omega
    clear hp
    go_enter Tryz.func69, Tryz.ntmps69
    go_wp2
    go_ret
    exact ⟨rfl, Below.refl _ _⟩
set_option maxRecDepth 100000 in
set_option maxHeartbeats 4000000 in
theorem slicesEqual (w : World) (a a' : Option Addr) (n cap n' cap' : Nat) (f f' : Nat → T) (h : Rd w a n cap f) (h' : Rd w a' n' cap' f') :
    Calls Tryz.prog 108 #[.slice a n cap, .slice a' n' cap'] w fun r w' => r = .returned (.bool (termsEq n f n' f')) ∧ Below w.heap.size w w' := by
  obtain ⟨h1, h2, h3⟩ := h
  obtain ⟨h1', h2', h3'⟩ := h'
  have hn : (n : Int) ≤ 140737488351232 := by omega
  have hn' : (n' : Int) ≤ 140737488351232 := by omega
  by_cases hnn : n = n'
  · subst hnn
    go_enter Tryz.func108, Tryz.ntmps108
    go_wp2
    go_loopw [13] (fun i wr => ∃ (k : Nat), k ≤ n ∧ i = .int .i64 k ∧ Below w.heap.size w wr ∧ Hid (∀ j, j < k → (f j).eqB (f' j) = true)) (fun i _ => n - (intOf i).toNat)
    case atStart => exact ⟨0, Nat.zero_le _, rfl, Below.refl _ _, fun j hj => absurd hj (Nat.not_lt_zero _)⟩
    case round =>
      obtain ⟨k, hk, rfl, hB, hok⟩ := hrel
      by_cases hlt : k < n
      · rcases h3 with h0 | ⟨b, off, rfl, hblt, hcl⟩
        · omega
        rcases h3' with h0 | ⟨b', off', rfl, hblt', hcl'⟩
        · omega
        have hkn : (k : Int) < (n : Int) := by omega
        obtain ⟨g0, g1, g2, g3, g4⟩ := (hcl k hlt).below hB hblt
        obtain ⟨p0, p1, p2, p3, p4⟩ := (hcl' k hlt).below hB hblt'
        clear hcl hcl'
        by_cases hc : (f k).c = (f' k).c
        · skip
          by_cases hx : (f k).m.x = (f' k).m.x
          · skip
            by_cases hy : (f k).m.y = (f' k).m.y
            · skip
              by_cases hd : (f k).m.d = (f' k).m.d
              · skip
                by_cases he : (f k).m.e = (f' k).m.e
                · skip
                  have HN : Hid (∀ j, j < k + 1 → (f j).eqB (f' j) = true) := fun j hj => by
                    by_cases hjk : j = k
                    · rw [hjk]; simp [T.eqB, M.eqB, hc, hx, hy, hd, he]
                    · exact hok.out j (by omega)
                  clear hok
                  go_wp2_with fail
                  go_quiet (fail)
                  go_wp2
                  go_roundw
                  case rel => exact ⟨k + 1, by omega, by go_num, below_drewN hB _, HN⟩
                  case measure => simp [intOf]; omega
                · skip
                  have HN : Hid (termsEq n f n f' = false) := by
                    show _ = _
                    simp only [termsEq, decide_eq_false_iff_not]
                    intro hh
                    have := hh.2 k hlt
                    simp [T.eqB, M.eqB, he] at this
                  clear hok
                  go_wp2_with fail
                  go_quiet (fail)
                  go_wp2
                  go_ret
                  exact ⟨by rw [HN.out]; rfl, below_drewN hB _⟩
              · skip
                have HN : Hid (termsEq n f n f' = false) := by
                  show _ = _
                  simp only [termsEq, decide_eq_false_iff_not]
                  intro hh
                  have := hh.2 k hlt
                  simp [T.eqB, M.eqB, hd] at this
                clear hok
                go_wp2_with fail
                go_quiet (fail)
                go_wp2
                go_ret
                exact ⟨by rw [HN.out]; rfl, below_drewN hB _⟩
            · skip
              have HN : Hid (termsEq n f n f' = false) := by
                show _ = _
                simp only [termsEq, decide_eq_false_iff_not]
                intro hh
                have := hh.2 k hlt
                simp [T.eqB, M.eqB, hy] at this
              clear hok
              go_wp2_with fail
              go_quiet (fail)
              go_wp2
              go_ret
              exact ⟨by rw [HN.out]; rfl, below_drewN hB _⟩
          · skip
            have HN : Hid (termsEq n f n f' = false) := by
              show _ = _
              simp only [termsEq, decide_eq_false_iff_not]
              intro hh
              have := hh.2 k hlt
              simp [T.eqB, M.eqB, hx] at this
            clear hok
            go_wp2_with fail
            go_quiet (fail)
            go_wp2
            go_ret
            exact ⟨by rw [HN.out]; rfl, below_drewN hB _⟩
        · skip
          have HN : Hid (termsEq n f n f' = false) := by
            show _ = _
            simp only [termsEq, decide_eq_false_iff_not]
            intro hh
            have := hh.2 k hlt
            simp [T.eqB, M.eqB, hc] at this
          clear hok
          go_wp2_with fail
          go_quiet (fail)
          go_wp2
          go_ret
          exact ⟨by rw [HN.out]; rfl, below_drewN hB _⟩
      · have HP : Hid (termsEq n f n f' = true) := by
          show _ = _
          simp only [termsEq, decide_eq_true_eq]
          exact ⟨trivial, fun i hi => hok.out i (by omega)⟩
        clear hok
        go_wp2
        go_ret
        exact ⟨by rw [HP.out]; rfl, hB⟩
  · have hp : termsEq n f n' f' = false := by
      simp only [termsEq, decide_eq_false_iff_not]
      exact fun h => hnn h.1
    rw [hp]
    have hb : ((n : Int) != (n' : Int)) = true := by simp; omega
    clear hp
    go_enter Tryz.func108, Tryz.ntmps108
    go_wp2
    go_ret
    exact ⟨rfl, Below.refl _ _⟩
theorem polSameI (w : World) (a a' : Option Addr) (n cap n' cap' : Nat) (f f' : Nat → T) (h : Rd w a n cap f) (h' : Rd w a' n' cap' f') :
    Calls Tryz.prog 67 #[.slice a n cap, .slice a' n' cap'] w fun r w' => r = .returned (.bool (termsEq n f n' f')) ∧ Below w.heap.size w w' := by
  have H := Hid.mk' h
  have H' := Hid.mk' h'
  clear h h'
  go_enter Tryz.func67, Tryz.ntmps67
  go_wp2_with fail
  refine (slicesEqual _ _ _ _ _ _ _ f f' H.out H'.out).mono ?_
  rintro r w1 ⟨rfl, hb⟩
  go_wp2
  go_ret
  exact ⟨rfl, hb⟩
end Go.Proofs.YtmlaedpamobmhaaGreat
namespace Go.Proofs.YtmlaedpamobmhaaGreat
open Go.RowKit
set_option linter.unusedVariables false

theorem s5_below {w w' : World} {b : Nat} {v0 v1 v2 v3 v4 : Value} (hb : Below w.heap.size w w') (h : w.cell? ⟨b, 0, none⟩ = some v0 ∧ w.cell? ⟨b, 1, none⟩ = some v1 ∧ w.cell? ⟨b, 2, none⟩ = some v2 ∧ w.cell? ⟨b, 3, none⟩ = some v3 ∧ w.cell? ⟨b, 4, none⟩ = some v4) : w'.cell? ⟨b, 0, none⟩ = some v0 ∧ w'.cell? ⟨b, 1, none⟩ = some v1 ∧ w'.cell? ⟨b, 2, none⟩ = some v2 ∧ w'.cell? ⟨b, 3, none⟩ = some v3 ∧ w'.cell? ⟨b, 4, none⟩ = some v4 := by
  have hl : b < w.heap.size := World.block_lt_of_cell? w _ h.1
  exact ⟨(hb.cell (p := ⟨b, 0, none⟩) hl).trans h.1, (hb.cell (p := ⟨b, 1, none⟩) hl).trans h.2.1, (hb.cell (p := ⟨b, 2, none⟩) hl).trans h.2.2.1, (hb.cell (p := ⟨b, 3, none⟩) hl).trans h.2.2.2.1, (hb.cell (p := ⟨b, 4, none⟩) hl).trans h.2.2.2.2⟩
end Go.Proofs.YtmlaedpamobmhaaGreat
