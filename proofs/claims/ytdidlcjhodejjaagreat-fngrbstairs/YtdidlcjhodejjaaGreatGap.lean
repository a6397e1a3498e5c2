/-
  Sums and differences of two operators.
  More of the program's chapter 3: the number of a monomial, whether operators are the same, whether one has no slopes, so many times an operator.
  More of the program's chapter 3: whether an operator has no slopes, so many times an operator.
-/
import Derived.Test.YtdidlcjhodejjaaGreatGan
import Derived.Test.YtdidlcjhodejjaaGreatGao
import Derived.Test.YtdidlcjhodejjaaGreatGad
import Derived.Deep.RegionHeld3
namespace Go.Proofs.YtdidlcjhodejjaaGreat
open Go.RowKit Go.Maps Go.Sort Go.Shelf
set_option linter.unusedVariables false

theorem SumR.range {w : World} {b n : Nat} {c : M → Int} (h : SumR w b n c) : ∀ m, 0 ≤ c m ∧ c m ≤ 100 := by obtain ⟨D, _, hc, _⟩ := h; exact hc
theorem sumNew (w : World) : SumR (w.alloc (.map #[] 0)) w.heap.size 0 (fun _ => 0) :=
  ⟨.map [], World.ownsMap_made w _ _ _, fun _ => ⟨Int.le_refl _, by show (0 : Int) ≤ 100; decide⟩, fun m _ => ⟨rfl, by simp [Maps.has]⟩, fun kl h => by simp [Maps.has] at h⟩
theorem Rd.apart {w : World} {a : Option Addr} {n cap : Nat} {f : Nat → T} (h : Rd w a n cap f) {b : Nat} (hb : w.heap.size ≤ b) : n = 0 ∨ ∀ b' off, a = some ⟨b', off, none⟩ → some b' ≠ some b := by
  rcases h.2.2 with h0 | ⟨pb, off, rfl, hlt, _⟩
  · exact .inl h0
  · exact .inr (fun b' off' e e' => by cases e; cases e'; omega)
/-- what a sum is told as. -/
def sumL (K : List T) : List T × Bool := if K.length ≤ 400 then (K, true) else ([], false)
theorem sumOpI (w : World) (b n : Nat) (c : M → Int) (h : SumR w b n c) (hn : n ≤ 1000000) {K : List T} (hK : Falls K) (hKc : ∀ m, m.ok = true → coef K m = c m) :
    Calls Tryz.prog 151 #[.map (some b)] w fun e w' => ∃ v, e = .returned (.tuple #[v, .bool (sumL K).2]) ∧ Below w.heap.size w w' ∧ w'.ownsRow w.heap.size 42 5 v (sumL K).1.length (cellsL (sumL K).1) := by
  by_cases h400 : K.length ≤ 400
  · have e : sumL K = (K, true) := if_pos h400
    rw [e]
    exact sumOpOk sortsM w b n c h hn hK hKc h400
  · have e : sumL K = ([], false) := if_neg h400
    rw [e]
    refine (sumOpNo sortsM w b n c h hn hK hKc h400).mono ?_
    rintro r w5 ⟨rfl, hb5⟩
    exact ⟨_, rfl, hb5, owns_nil w5 _⟩
theorem makeHint (n : Int) (w : World) : (Instr.makeMap 170 (some (.int .i64 n))).run Tryz.prog w = .ok (.map (some w.heap.size)) (w.alloc (.map #[] 0)) := by
  have hu := run_underlying (P := Tryz.prog) Tryz.underlying170
  unfold Instr.makeMap
  simp [hu, asInt, go_sem, Sem.run_bind, Result.andThen]
/-- what adding k times another one gives. -/
def addK (k : Int) (f : Nat → T) (la : Nat) (g : Nat → T) (lb : Nat) (K : List T) : List T × Bool := if polOk la f = true ∧ polOk lb g = true ∧ K.length ≤ 400 then (K, true) else ([], false)
set_option maxRecDepth 100000 in
set_option maxHeartbeats 4000000 in
theorem polAddTimesI (w : World) (a b : Option Addr) (la ca lb cb : Nat) (f g : Nat → T) (k : Int) (k0 : 0 ≤ k) (k1 : k ≤ 100) (ha : Rd w a la ca f) (hb : Rd w b lb cb g) (K : List T) (hK : polOk la f = true → polOk lb g = true → Falls K ∧ ∀ m, m.ok = true → coef K m = timesC k g (timesC 1 f (fun _ => 0) la) lb m) :
    Calls Tryz.prog 171 #[.slice a la ca, .int .i64 k, .slice b lb cb] w fun r w' => ∃ v, r = .returned (.tuple #[v, .bool (addK k f la g lb K).2]) ∧ Below w.heap.size w w' ∧ w'.ownsRow w.heap.size 42 5 v (addK k f la g lb K).1.length (cellsL (addK k f la g lb K).1) := by
  have HA := Hid.mk' ha
  have HB := Hid.mk' hb
  have hla : (la : Int) ≤ 140737488351232 := by have := ha.2.1; omega
  have hlb : (lb : Int) ≤ 140737488351232 := by have := hb.2.1; omega
  clear ha hb
  cases hpa : polOk la f
  · have e1 : addK k f la g lb K = ([], false) := by simp [addK, hpa]
    rw [e1]
    go_enter Tryz.func171, Tryz.ntmps171
    go_wp2_with (go_at_call 63; refine (polOkI _ _ _ _ f HA.out).mono ?_; rw [hpa]; rintro r w1 ⟨rfl, hb1⟩; have HB1 := Hid.mk' hb1; clear hb1)
    refine bodyPost_ret (results_tmp2 rfl _ _ _) rfl ?_
    exact ⟨_, rfl, HB1.out, owns_nil w1 _⟩
  · cases hpb : polOk lb g
    · have e1 : addK k f la g lb K = ([], false) := by simp [addK, hpb]
      rw [e1]
      go_enter Tryz.func171, Tryz.ntmps171
      go_wp2_with (first
        | (go_at_call_of 63 (Value.slice a la ca); refine (polOkI _ _ _ _ f HA.out).mono ?_; rw [hpa]; rintro r w1 ⟨rfl, hb1⟩; have HB1 := Hid.mk' hb1; clear hb1)
        | (go_at_call_of 63 (Value.slice b lb cb); refine (polOkI _ _ _ _ g (HB.out.below HB1.out)).mono ?_; rw [hpb]; rintro r w2 ⟨rfl, hb2⟩; have HB2 := Hid.mk' hb2; clear hb2))
      refine bodyPost_ret (results_tmp2 rfl _ _ _) rfl ?_
      exact ⟨_, rfl, bel_next HB1.out HB2.out, owns_nil w2 _⟩
    · obtain ⟨hKf, hKc⟩ := hK hpa hpb
      have F := fl_of_ok hpa
      have G := fl_of_ok hpb
      have HF := Hid.mk' F
      have HG := Hid.mk' G
      have l1 : la ≤ 400 := by simp only [polOk, decide_eq_true_eq] at hpa; exact hpa.1
      have l2 : lb ≤ 400 := by simp only [polOk, decide_eq_true_eq] at hpb; exact hpb.1
      have hmk := makeHint
      have e2 : addK k f la g lb K = sumL K := by simp [addK, sumL, hpa, hpb]
      rw [e2]
      clear F G e2 hK
      go_enter Tryz.func171, Tryz.ntmps171
      go_wp2_with (first
        | (go_at_call_of 63 (Value.slice a la ca); refine (polOkI _ _ _ _ f HA.out).mono ?_; rw [hpa]; rintro r w1 ⟨rfl, hb1⟩; have HB1 := Hid.mk' hb1; clear hb1)
        | (go_at_call_of 63 (Value.slice b lb cb); refine (polOkI _ _ _ _ g (HB.out.below HB1.out)).mono ?_; rw [hpb]; rintro r w2 ⟨rfl, hb2⟩; have HB2 := Hid.mk' (bel_next HB1.out hb2); clear hb2)
        | (go_at_call_of 147 (Value.slice a la ca); refine (sumTimes _ w2.heap.size 0 _ 1 a la ca f (sumNew w2) ((HA.out.below HB2.out).below (bel_one w2 _)) ((HA.out.below HB2.out).apart (Nat.le_refl _)) (fun i hi => (HF.out.2 i hi).1) (fun i hi => by have := HF.out.2 i hi; omega) (by omega) (by omega) (by omega) (by simp)).mono ?_; rintro r w3 ⟨rfl, hs3, hg3⟩; have HS3 := Hid.mk' hs3; have HG3 := Hid.mk' ((World.grownBy_alloc w2 (.map #[] 0) (some w2.heap.size)).trans hg3); clear hs3 hg3)
        | (go_at_call_of 147 (Value.slice b lb cb); refine (sumTimes _ w2.heap.size (0 + la) _ k b lb cb g HS3.out ((HB.out.below HB2.out).grown HG3.out ((HB.out.below HB2.out).apart (Nat.le_refl _))) ((HB.out.below HB2.out).apart (Nat.le_refl _)) (fun i hi => (HG.out.2 i hi).1) (fun i hi => by have := HG.out.2 i hi; omega) k0 k1 (by omega) (by obtain ⟨D, ho, _⟩ := HS3.out; exact ho.lt)).mono ?_; rintro r w4 ⟨rfl, hs4, hg4⟩; have HS4 := Hid.mk' hs4; have HG4 := Hid.mk' (HG3.out.trans hg4); clear hs4 hg4))
      have hlo : w.heap.size ≤ w2.heap.size := HB2.out.size
      have hB4 : Below w.heap.size w w4 := HB2.out.grown HG4.out hlo (fun k' e => by cases e; exact hlo)
      refine (sumOpI _ _ _ _ HS4.out (by omega) hKf hKc).mono ?_
      rintro r w5 ⟨v, rfl, hb5, ho5⟩
      go_wp2
      refine bodyPost_ret (results_tmp2 rfl _ _ _) rfl ?_
      exact ⟨_, rfl, hB4.trans (hb5.mono hB4.size), ownsRow_low ho5 hB4.size⟩
theorem polAdd_K {f g : Nat → T} {la lb : Nat} (hpa : polOk la f = true) (hpb : polOk lb g = true) : Falls (addT f la g lb 0 0) ∧ ∀ m, m.ok = true → coef (addT f la g lb 0 0) m = timesC 1 g (timesC 1 f (fun _ => 0) la) lb m := by
  obtain ⟨_, h2, h3⟩ := mrg_facts (fl_of_ok hpa) (fl_of_ok hpb) (la - 0 + (lb - 0)) 0 0 (Nat.le_refl _)
  refine ⟨h2, fun m _ => ?_⟩
  rw [sum_two (fl_of_ok hpa) (fl_of_ok hpb), Int.one_mul]
  exact h3 m
theorem fromC_congr {f g : Nat → T} (r : Int → Int) (hr : r 0 = 0) {m : M} : ∀ (u i : Nat), (∀ j, i ≤ j → j < i + u → (g j).m = (f j).m ∧ (g j).c = r (f j).c) → fromC g u i m = r (fromC f u i m)
  | 0, _, _ => hr.symm
  | u + 1, i, h => by
    have h0 := h i (Nat.le_refl _) (by omega)
    rw [fromC, fromC, h0.1, h0.2, fromC_congr r hr u (i + 1) (fun j h1 h2 => h j (by omega) (by omega))]
    split <;> rfl
theorem neg_fl {g : Nat → T} {lb : Nat} (G : Fl g lb) : Fl (negT g lb) lb := by
  refine ⟨fun j i hji hi => ?_, fun i hi => ?_⟩
  · unfold negT
    rw [lf_scT _ _ _ _ hi, lf_scT _ _ _ _ (by omega)]
    exact G.1 j i hji hi
  · have h := G.2 i hi
    unfold negT
    rw [lf_scT _ _ _ _ hi]
    refine ⟨h.1, ?_, ?_⟩
    · show 1 ≤ 100 * (g i).c % 101
      omega
    · show 100 * (g i).c % 101 ≤ 100
      omega
theorem polSub_K {f g : Nat → T} {la lb : Nat} (hpa : polOk la f = true) (hpb : polOk lb g = true) : Falls (addT f la (negT g lb) lb 0 0) ∧ ∀ m, m.ok = true → coef (addT f la (negT g lb) lb 0 0) m = timesC 100 g (timesC 1 f (fun _ => 0) la) lb m := by
  obtain ⟨_, h2, h3⟩ := mrg_facts (fl_of_ok hpa) (neg_fl (fl_of_ok hpb)) (la - 0 + (lb - 0)) 0 0 (Nat.le_refl _)
  refine ⟨h2, fun m _ => ?_⟩
  rw [sum_two (fl_of_ok hpa) (fl_of_ok hpb)]
  have h4 := fromC_congr (f := g) (g := negT g lb) (fun c => 100 * c % 101) rfl (m := m) lb 0 (fun j _ hj => by
    unfold negT
    rw [lf_scT _ _ _ _ (by omega)]
    exact ⟨rfl, rfl⟩)
  refine (h3 m).trans ?_
  rw [Nat.sub_zero, Nat.sub_zero, h4]
  omega
set_option maxHeartbeats 1000000 in
theorem polSubI (w : World) (a b : Option Addr) (la ca lb cb : Nat) (f g : Nat → T) (ha : Rd w a la ca f) (hb : Rd w b lb cb g) :
    Calls Tryz.prog 155 #[.slice a la ca, .slice b lb cb] w fun r w' => ∃ a' cap', r = .returned (.tuple #[.slice a' (polSub f la g lb).1.length cap', .bool (polSub f la g lb).2]) ∧ Below w.heap.size w w' ∧ Out w.heap.size w' a' cap' (polSub f la g lb).1 := by
  have hc := polAddTimesI w a b la ca lb cb f g 100 (by omega) (by omega) ha hb (addT f la (negT g lb) lb 0 0) polSub_K
  have e : addK 100 f la g lb (addT f la (negT g lb) lb 0 0) = polSub f la g lb := rfl
  rw [e] at hc
  have hlen := polSub_len f la g lb
  generalize polSub f la g lb = r at *
  obtain ⟨L, ok⟩ := r
  go_enter Tryz.func155, Tryz.ntmps155
  go_wp2_with (go_at_call 171; refine hc.mono ?_; rintro r w1 ⟨v, rfl, hb1, ho1⟩)
  refine bodyPost_ret (results_tmp2 rfl _ _ _) rfl ?_
  obtain ⟨a', cap', rfl, hout⟩ := out_of_owns ho1 (by omega)
  exact ⟨a', cap', rfl, hb1, hout⟩
end Go.Proofs.YtdidlcjhodejjaaGreat
namespace Go.Proofs.YtdidlcjhodejjaaGreat
open Go.RowKit
set_option linter.unusedVariables false

theorem s4c_below {w w' : World} {b : Nat} {x y d e : Int} (hb : Below w.heap.size w w') (h : w.cell? ⟨b, 0, none⟩ = some (.int .i64 x) ∧ w.cell? ⟨b, 1, none⟩ = some (.int .i64 y) ∧ w.cell? ⟨b, 2, none⟩ = some (.int .i64 d) ∧ w.cell? ⟨b, 3, none⟩ = some (.int .i64 e)) :
    w'.cell? ⟨b, 0, none⟩ = some (.int .i64 x) ∧ w'.cell? ⟨b, 1, none⟩ = some (.int .i64 y) ∧ w'.cell? ⟨b, 2, none⟩ = some (.int .i64 d) ∧ w'.cell? ⟨b, 3, none⟩ = some (.int .i64 e) := M4.below h hb
theorem polOf_len (c : Int) (m : M) : (polOf c m).length ≤ 400 := by
  unfold polOf; split <;> simp
theorem polScale_len (c : Int) (f : Nat → T) (n : Nat) : (polScale c f n).length ≤ 400 := by
  unfold polScale; split
  · rename_i h; rw [scT_len]; exact (polOk_c h.2.1).1
  · simp
set_option maxRecDepth 100000 in
set_option maxHeartbeats 4000000 in
theorem polSameS (w : World) (a a' : Option Addr) (n cap n' cap' : Nat) (f f' : Nat → T) (h : Rd w a n cap f) (h' : Rd w a' n' cap' f') :
    Calls Tryz.prog 56 #[.slice a n cap, .slice a' n' cap'] w fun r w' => r = .returned (.bool (termsEq n f n' f')) ∧ Below w.heap.size w w' := by
  obtain ⟨h1, h2, h3⟩ := h
  obtain ⟨h1', h2', h3'⟩ := h'
  have hn : (n : Int) ≤ 140737488351232 := by omega
  have hn' : (n' : Int) ≤ 140737488351232 := by omega
  by_cases hnn : n = n'
  · subst hnn
    go_enter Tryz.func56, Tryz.ntmps56
    go_wp2
    go_loopw [5] (fun i wr => ∃ (k : Nat), k ≤ n ∧ i = .int .i64 k ∧ Below w.heap.size w wr ∧ Hid (∀ j, j < k → (f j).eqB (f' j) = true)) (fun i _ => n - (intOf i).toNat)
    case atStart => exact ⟨0, Nat.zero_le _, rfl, Below.refl _ _, fun j hj => absurd hj (Nat.not_lt_zero _)⟩
    case round =>
      obtain ⟨k, hk, rfl, hB, hok⟩ := hrel
      by_cases hlt : k < n
      · rcases h3 with h0 | ⟨b, off, rfl, hblt, hcl⟩
        · omega
        rcases h3' with h0 | ⟨b', off', rfl, hblt', hcl'⟩
        · omega
        have hkn : (k : Int) < (n : Int) := by omega
        obtain ⟨g0, g1, g2, g3, g4⟩ := (hcl k hlt).below hB hblt
        obtain ⟨p0, p1, p2, p3, p4⟩ := (hcl' k hlt).below hB hblt'
        clear hcl hcl'
        by_cases hc : (f k).c = (f' k).c
        · skip
          by_cases hx : (f k).m.x = (f' k).m.x
          · skip
            by_cases hy : (f k).m.y = (f' k).m.y
            · skip
              by_cases hd : (f k).m.d = (f' k).m.d
              · skip
                by_cases he : (f k).m.e = (f' k).m.e
                · skip
                  have HN : Hid (∀ j, j < k + 1 → (f j).eqB (f' j) = true) := fun j hj => by
                    by_cases hjk : j = k
                    · rw [hjk]; simp [T.eqB, M.eqB, hc, hx, hy, hd, he]
                    · exact hok.out j (by omega)
                  clear hok
                  go_wp2_with fail
                  go_quiet (fail)
                  go_wp2
                  go_roundw
                  case rel => exact ⟨k + 1, by omega, by go_num, below_drewN hB _, HN⟩
                  case measure => simp [intOf]; omega
                · skip
                  have HN : Hid (termsEq n f n f' = false) := by
                    show _ = _
                    simp only [termsEq, decide_eq_false_iff_not]
                    intro hh
                    have := hh.2 k hlt
                    simp [T.eqB, M.eqB, he] at this
                  clear hok
                  go_wp2_with fail
                  go_quiet (fail)
                  go_wp2
                  go_ret
                  exact ⟨by rw [HN.out]; rfl, below_drewN hB _⟩
              · skip
                have HN : Hid (termsEq n f n f' = false) := by
                  show _ = _
                  simp only [termsEq, decide_eq_false_iff_not]
                  intro hh
                  have := hh.2 k hlt
                  simp [T.eqB, M.eqB, hd] at this
                clear hok
                go_wp2_with fail
                go_quiet (fail)
                go_wp2
                go_ret
                exact ⟨by rw [HN.out]; rfl, below_drewN hB _⟩
            · skip
              have HN : Hid (termsEq n f n f' = false) := by
                show _ = _
                simp only [termsEq, decide_eq_false_iff_not]
                intro hh
                have := hh.2 k hlt
                simp [T.eqB, M.eqB, hy] at this
              clear hok
              go_wp2_with fail
              go_quiet (fail)
              go_wp2
              go_ret
              exact ⟨by rw [HN.out]; rfl, below_drewN hB _⟩
          · skip
            have HN : Hid (termsEq n f n f' = false) := by
              show _ = _
              simp only [termsEq, decide_eq_false_iff_not]
              intro hh
              have := hh.2 k hlt
              simp [T.eqB, M.eqB, hx] at this
            clear hok
            go_wp2_with fail
            go_quiet (fail)
            go_wp2
            go_ret
            exact ⟨by rw [HN.out]; rfl, below_drewN hB _⟩
        · skip
          have HN : Hid (termsEq n f n f' = false) := by
            show _ = _
            simp only [termsEq, decide_eq_false_iff_not]
            intro hh
            have := hh.2 k hlt
            simp [T.eqB, M.eqB, hc] at this
          clear hok
          go_wp2_with fail
          go_quiet (fail)
          go_wp2
          go_ret
          exact ⟨by rw [HN.out]; rfl, below_drewN hB _⟩
      · have HP : Hid (termsEq n f n f' = true) := by
          show _ = _
          simp only [termsEq, decide_eq_true_eq]
          exact ⟨trivial, fun i hi => hok.out i (by omega)⟩
        clear hok
        go_wp2
        go_ret
        exact ⟨by rw [HP.out]; rfl, hB⟩
  · have hp : termsEq n f n' f' = false := by
      simp only [termsEq, decide_eq_false_iff_not]
      exact fun h => hnn h.1
    rw [hp]
    have hb : ((n : Int) != (n' : Int)) = true := by simp; omega
    clear hp
    go_enter Tryz.func56, Tryz.ntmps56
    go_wp2
    go_ret
    exact ⟨rfl, Below.refl _ _⟩
set_option maxRecDepth 100000 in
set_option maxHeartbeats 4000000 in
theorem slicesEqual (w : World) (a a' : Option Addr) (n cap n' cap' : Nat) (f f' : Nat → T) (h : Rd w a n cap f) (h' : Rd w a' n' cap' f') :
    Calls Tryz.prog 100 #[.slice a n cap, .slice a' n' cap'] w fun r w' => r = .returned (.bool (termsEq n f n' f')) ∧ Below w.heap.size w w' := by
  obtain ⟨h1, h2, h3⟩ := h
  obtain ⟨h1', h2', h3'⟩ := h'
  have hn : (n : Int) ≤ 140737488351232 := by omega
  have hn' : (n' : Int) ≤ 140737488351232 := by omega
  by_cases hnn : n = n'
  · subst hnn
    go_enter Tryz.func100, Tryz.ntmps100
    go_wp2
    go_loopw [13] (fun i wr => ∃ (k : Nat), k ≤ n ∧ i = .int .i64 k ∧ Below w.heap.size w wr ∧ Hid (∀ j, j < k → (f j).eqB (f' j) = true)) (fun i _ => n - (intOf i).toNat)
    case atStart => exact ⟨0, Nat.zero_le _, rfl, Below.refl _ _, fun j hj => absurd hj (Nat.not_lt_zero _)⟩
    case round =>
      obtain ⟨k, hk, rfl, hB, hok⟩ := hrel
      by_cases hlt : k < n
      · rcases h3 with h0 | ⟨b, off, rfl, hblt, hcl⟩
        · omega
        rcases h3' with h0 | ⟨b', off', rfl, hblt', hcl'⟩
        · omega
        have hkn : (k : Int) < (n : Int) := by omega
        obtain ⟨g0, g1, g2, g3, g4⟩ := (hcl k hlt).below hB hblt
        obtain ⟨p0, p1, p2, p3, p4⟩ := (hcl' k hlt).below hB hblt'
        clear hcl hcl'
        by_cases hc : (f k).c = (f' k).c
        · skip
          by_cases hx : (f k).m.x = (f' k).m.x
          · skip
            by_cases hy : (f k).m.y = (f' k).m.y
            · skip
              by_cases hd : (f k).m.d = (f' k).m.d
              · skip
                by_cases he : (f k).m.e = (f' k).m.e
                · skip
                  have HN : Hid (∀ j, j < k + 1 → (f j).eqB (f' j) = true) := fun j hj => by
                    by_cases hjk : j = k
                    · rw [hjk]; simp [T.eqB, M.eqB, hc, hx, hy, hd, he]
                    · exact hok.out j (by omega)
                  clear hok
                  go_wp2_with fail
                  go_quiet (fail)
                  go_wp2
                  go_roundw
                  case rel => exact ⟨k + 1, by omega, by go_num, below_drewN hB _, HN⟩
                  case measure => simp [intOf]; omega
                · skip
                  have HN : Hid (termsEq n f n f' = false) := by
                    show _ = _
                    simp only [termsEq, decide_eq_false_iff_not]
                    intro hh
                    have := hh.2 k hlt
                    simp [T.eqB, M.eqB, he] at this
                  clear hok
                  go_wp2_with fail
                  go_quiet (fail)
                  go_wp2
                  go_ret
                  exact ⟨by rw [HN.out]; rfl, below_drewN hB _⟩
              · skip
                have HN : Hid (termsEq n f n f' = false) := by
                  show _ = _
                  simp only [termsEq, decide_eq_false_iff_not]
                  intro hh
                  have := hh.2 k hlt
                  simp [T.eqB, M.eqB, hd] at this
                clear hok
                go_wp2_with fail
                go_quiet (fail)
                go_wp2
                go_ret
                exact ⟨by rw [HN.out]; rfl, below_drewN hB _⟩
            · skip
              have HN : Hid (termsEq n f n f' = false) := by
                show _ = _
                simp only [termsEq, decide_eq_false_iff_not]
                intro hh
                have := hh.2 k hlt
                simp [T.eqB, M.eqB, hy] at this
              clear hok
              go_wp2_with fail
              go_quiet (fail)
              go_wp2
              go_ret
              exact ⟨by rw [HN.out]; rfl, below_drewN hB _⟩
          · skip
            have HN : Hid (termsEq n f n f' = false) := by
              show _ = _
              simp only [termsEq, decide_eq_false_iff_not]
              intro hh
              have := hh.2 k hlt
              simp [T.eqB, M.eqB, hx] at this
            clear hok
            go_wp2_with fail
            go_quiet (fail)
            go_wp2
            go_ret
            exact ⟨by rw [HN.out]; rfl, below_drewN hB _⟩
        · skip
          have HN : Hid (termsEq n f n f' = false) := by
            show _ = _
            simp only [termsEq, decide_eq_false_iff_not]
            intro hh
            have := hh.2 k hlt
            simp [T.eqB, M.eqB, hc] at this
          clear hok
          go_wp2_with fail
          go_quiet (fail)
          go_wp2
          go_ret
          exact ⟨by rw [HN.out]; rfl, below_drewN hB _⟩
      · have HP : Hid (termsEq n f n f' = true) := by
          show _ = _
          simp only [termsEq, decide_eq_true_eq]
          exact ⟨trivial, fun i hi => hok.out i (by omega)⟩
        clear hok
        go_wp2
        go_ret
        exact ⟨by rw [HP.out]; rfl, hB⟩
  · have hp : termsEq n f n' f' = false := by
      simp only [termsEq, decide_eq_false_iff_not]
      exact fun h => hnn h.1
    rw [hp]
    have hb : ((n : Int) != (n' : Int)) = true := by simp; omega
    clear hp
    go_enter Tryz.func100, Tryz.ntmps100
    go_wp2
    go_ret
    exact ⟨rfl, Below.refl _ _⟩
theorem polSameI (w : World) (a a' : Option Addr) (n cap n' cap' : Nat) (f f' : Nat → T) (h : Rd w a n cap f) (h' : Rd w a' n' cap' f') :
    Calls Tryz.prog 58 #[.slice a n cap, .slice a' n' cap'] w fun r w' => r = .returned (.bool (termsEq n f n' f')) ∧ Below w.heap.size w w' := by
  have H := Hid.mk' h
  have H' := Hid.mk' h'
  clear h h'
  go_enter Tryz.func58, Tryz.ntmps58
  go_wp2_with fail
  refine (slicesEqual _ _ _ _ _ _ _ f f' H.out H'.out).mono ?_
  rintro r w1 ⟨rfl, hb⟩
  go_wp2
  go_ret
  exact ⟨rfl, hb⟩
end Go.Proofs.YtdidlcjhodejjaaGreat
namespace Go.Proofs.YtdidlcjhodejjaaGreat
open Go.RowKit
set_option linter.unusedVariables false

theorem ownsT_nil (w : World) (lo : Nat) : w.ownsRow lo 42 5 (.slice none 0 0) 0 (cellsL []) := ⟨rfl, .inl ⟨rfl, rfl⟩⟩
theorem s5_below {w w' : World} {b : Nat} {v0 v1 v2 v3 v4 : Value} (hb : Below w.heap.size w w') (h : w.cell? ⟨b, 0, none⟩ = some v0 ∧ w.cell? ⟨b, 1, none⟩ = some v1 ∧ w.cell? ⟨b, 2, none⟩ = some v2 ∧ w.cell? ⟨b, 3, none⟩ = some v3 ∧ w.cell? ⟨b, 4, none⟩ = some v4) : w'.cell? ⟨b, 0, none⟩ = some v0 ∧ w'.cell? ⟨b, 1, none⟩ = some v1 ∧ w'.cell? ⟨b, 2, none⟩ = some v2 ∧ w'.cell? ⟨b, 3, none⟩ = some v3 ∧ w'.cell? ⟨b, 4, none⟩ = some v4 := by
  have hl : b < w.heap.size := World.block_lt_of_cell? w _ h.1
  exact ⟨(hb.cell (p := ⟨b, 0, none⟩) hl).trans h.1, (hb.cell (p := ⟨b, 1, none⟩) hl).trans h.2.1, (hb.cell (p := ⟨b, 2, none⟩) hl).trans h.2.2.1, (hb.cell (p := ⟨b, 3, none⟩) hl).trans h.2.2.2.1, (hb.cell (p := ⟨b, 4, none⟩) hl).trans h.2.2.2.2⟩
theorem s5_alloc {w : World} {o : Obj} {b : Nat} {v0 v1 v2 v3 v4 : Value} (h : w.cell? ⟨b, 0, none⟩ = some v0 ∧ w.cell? ⟨b, 1, none⟩ = some v1 ∧ w.cell? ⟨b, 2, none⟩ = some v2 ∧ w.cell? ⟨b, 3, none⟩ = some v3 ∧ w.cell? ⟨b, 4, none⟩ = some v4) : (w.alloc o).cell? ⟨b, 0, none⟩ = some v0 ∧ (w.alloc o).cell? ⟨b, 1, none⟩ = some v1 ∧ (w.alloc o).cell? ⟨b, 2, none⟩ = some v2 ∧ (w.alloc o).cell? ⟨b, 3, none⟩ = some v3 ∧ (w.alloc o).cell? ⟨b, 4, none⟩ = some v4 := s5_below ((Below.refl _ _).alloc (Nat.le_refl _) o) h
theorem s5_drew {w : World} {b : Nat} {v0 v1 v2 v3 v4 : Value} (h : w.cell? ⟨b, 0, none⟩ = some v0 ∧ w.cell? ⟨b, 1, none⟩ = some v1 ∧ w.cell? ⟨b, 2, none⟩ = some v2 ∧ w.cell? ⟨b, 3, none⟩ = some v3 ∧ w.cell? ⟨b, 4, none⟩ = some v4) : w.drew.cell? ⟨b, 0, none⟩ = some v0 ∧ w.drew.cell? ⟨b, 1, none⟩ = some v1 ∧ w.drew.cell? ⟨b, 2, none⟩ = some v2 ∧ w.drew.cell? ⟨b, 3, none⟩ = some v3 ∧ w.drew.cell? ⟨b, 4, none⟩ = some v4 := s5_below (Below.refl _ _).drew h
theorem s5_grown {w w' : World} {row : Option Nat} {b : Nat} {v0 v1 v2 v3 v4 : Value} (hg : w.grownBy w' row) (hne : some b ≠ row) (h : w.cell? ⟨b, 0, none⟩ = some v0 ∧ w.cell? ⟨b, 1, none⟩ = some v1 ∧ w.cell? ⟨b, 2, none⟩ = some v2 ∧ w.cell? ⟨b, 3, none⟩ = some v3 ∧ w.cell? ⟨b, 4, none⟩ = some v4) : w'.cell? ⟨b, 0, none⟩ = some v0 ∧ w'.cell? ⟨b, 1, none⟩ = some v1 ∧ w'.cell? ⟨b, 2, none⟩ = some v2 ∧ w'.cell? ⟨b, 3, none⟩ = some v3 ∧ w'.cell? ⟨b, 4, none⟩ = some v4 := by
  have he := hg.block b (World.block_lt_of_cell? w _ h.1) hne
  exact ⟨(World.cell?_of_block (w := w) (a := ⟨b, 0, none⟩) he).trans h.1, (World.cell?_of_block (w := w) (a := ⟨b, 1, none⟩) he).trans h.2.1, (World.cell?_of_block (w := w) (a := ⟨b, 2, none⟩) he).trans h.2.2.1, (World.cell?_of_block (w := w) (a := ⟨b, 3, none⟩) he).trans h.2.2.2.1, (World.cell?_of_block (w := w) (a := ⟨b, 4, none⟩) he).trans h.2.2.2.2⟩
set_option maxRecDepth 100000 in
set_option maxHeartbeats 8000000 in
theorem polScaleI (w : World) (c : Int) (a : Option Addr) (n cap : Nat) (f : Nat → T) (h : Rd w a n cap f) :
    Calls Tryz.prog 30 #[.int .i64 c, .slice a n cap] w fun r w' => ∃ v, r = .returned v ∧ Below w.heap.size w w' ∧ w'.ownsRow w.heap.size 42 5 v (polScale c f n).length (cellsL (polScale c f n)) := by
  obtain ⟨i0, hi0, hz0, hz1, hz2⟩ := info_parts infoT
  have HR := Hid.mk' h
  by_cases hz : c = 0
  · have e1 : polScale c f n = [] := by simp [polScale, hz]
    rw [e1]
    subst hz
    clear h e1
    go_enter Tryz.func30, Tryz.ntmps30
    go_wp2
    go_ret
    exact ⟨_, rfl, Below.refl _ _, ownsT_nil w _⟩
  · have hcb : (c == 0) = false := by simp [hz]
    by_cases hc : 0 ≤ c ∧ c ≤ 100
    · obtain ⟨c0, c1⟩ := hc
      cases hp : polOk n f
      · have e1 : polScale c f n = [] := by simp [polScale, hp]
        rw [e1]
        clear h e1 hz
        go_enter Tryz.func30, Tryz.ntmps30
        go_wp2_with (go_at_call 71; refine (okI_in _ _ c0 c1).mono ?_; rintro r w' ⟨rfl, hw'⟩; obtain rfl := hw'.symm; clear hw')
        refine (polOkI _ _ _ _ f HR.out).mono ?_
        rw [hp]
        rintro r w1 ⟨rfl, hb⟩
        go_wp2
        go_ret
        exact ⟨_, rfl, hb, ownsT_nil w1 _⟩
      · obtain ⟨l1, c2⟩ := polOk_c hp
        have HC := Hid.mk' c2
        have e1 : polScale c f n = scT c f n := by simp [polScale, hp, c0, c1, hz]
        rw [e1, scT_len]
        obtain ⟨h1, h2, h3⟩ := h
        have hn : (n : Int) ≤ 400 := by omega
        clear e1 hz c2
        go_enter Tryz.func30, Tryz.ntmps30
        go_wp2_with (go_at_call 71; refine (okI_in _ _ c0 c1).mono ?_; rintro r w' ⟨rfl, hw'⟩; obtain rfl := hw'.symm; clear hw')
        refine (polOkI _ _ _ _ f HR.out).mono ?_
        rw [hp]
        rintro r w1 ⟨rfl, hb1⟩
        have HB1 := Hid.mk' hb1
        clear hb1
        go_wp2
        go_loopw [5, 22] (fun v i wr => ∃ k : Nat, k ≤ n ∧ i = .int .i64 k ∧ Below w.heap.size w wr ∧ wr.ownsRow w.heap.size 42 5 v k (cellsL (scT c f k))) (fun _ i _ => n - (intOf i).toNat)
        case atStart => exact ⟨0, Nat.zero_le _, rfl, HB1.out, ownsT_nil w1 _⟩
        case round =>
          obtain ⟨k, hk, rfl, hB, hown⟩ := hrel
          by_cases hlt : k < n
          · rcases h3 with h0 | ⟨b, off, rfl, hblt, hcl⟩
            · omega
            have hkn : (k : Int) < (n : Int) := by omega
            obtain ⟨g0, g1, g2, g3, g4⟩ := (hcl k hlt).below hB hblt
            obtain ⟨cf1, cf2⟩ := HC.out k hlt
            obtain ⟨mb1, mb2⟩ := mul_bd c0 c1 cf1 cf2
            have HO := Hid.mk' hown
            clear hcl hown
            go_wp2_with fail
            have HOQ := Hid.mk' (HO.out.alloc (.cells #[.int .i64 (f k).c, .int .i64 (f k).m.x, .int .i64 (f k).m.y, .int .i64 (f k).m.d, .int .i64 (f k).m.e] 42))
            have HBQ := Hid.mk' (hB.alloc hB.size (.cells #[.int .i64 (f k).c, .int .i64 (f k).m.x, .int .i64 (f k).m.y, .int .i64 (f k).m.d, .int .i64 (f k).m.e] 42))
            have q : ∀ i v, #[Value.int .i64 (f k).c, .int .i64 (f k).m.x, .int .i64 (f k).m.y, .int .i64 (f k).m.d, .int .i64 (f k).m.e][i]? = some v → (wr.alloc (.cells #[.int .i64 (f k).c, .int .i64 (f k).m.x, .int .i64 (f k).m.y, .int .i64 (f k).m.d, .int .i64 (f k).m.e] 42)).cell? ⟨wr.heap.size, i, none⟩ = some v := fun i v hv => by
              rw [World.cell?_alloc_at _ _ _ _ rfl]; exact hv
            have hsz : (wr.alloc (.cells #[.int .i64 (f k).c, .int .i64 (f k).m.x, .int .i64 (f k).m.y, .int .i64 (f k).m.d, .int .i64 (f k).m.e] 42)).heap.size = wr.heap.size + 1 := by simp
            generalize (wr.alloc (.cells #[.int .i64 (f k).c, .int .i64 (f k).m.x, .int .i64 (f k).m.y, .int .i64 (f k).m.d, .int .i64 (f k).m.e] 42)) = wq at HOQ HBQ q hsz ⊢
            have q0 := q 0 _ rfl
            have q1 := q 1 _ rfl
            have q2 := q 2 _ rfl
            have q3 := q 3 _ rfl
            have q4 := q 4 _ rfl
            have hws : w.heap.size ≤ wr.heap.size := hB.size
            have HSZ := Hid.mk' hsz
            clear g0 g1 g2 g3 g4 q hsz
            go_region_held3 (fun u => u.cell? ⟨wr.heap.size, 0, none⟩ = some (.int .i64 (f k).c) ∧ u.cell? ⟨wr.heap.size, 1, none⟩ = some (.int .i64 (f k).m.x) ∧ u.cell? ⟨wr.heap.size, 2, none⟩ = some (.int .i64 (f k).m.y) ∧ u.cell? ⟨wr.heap.size, 3, none⟩ = some (.int .i64 (f k).m.d) ∧ u.cell? ⟨wr.heap.size, 4, none⟩ = some (.int .i64 (f k).m.e)) (first | exact s5_grown hgrow (fun hh => absurd (HO.out.lt _ hh.symm).2 (Nat.lt_irrefl _)) (by assumption) | exact s5_alloc (by assumption) | exact s5_drew (by assumption) | exact ⟨q0, q1, q2, q3, q4⟩) (first | (refine step_append_lies _ (by rfl) (.tmp 26) (.tmp 34) 45 (by rfl) w.heap.size 42 i0 _ 5 40 Tryz.underlying45 hi0 hz0 hz1 hz2 rfl (by omega) _ k (cellsL (scT c f k)) (by rfl) (by first | exact HOQ.out.alloc _ | exact (owns_below HOQ.out (Below.refl _ _).drew).alloc _) ⟨wq.heap.size, 0, none⟩ 1 1 (cellsL [⟨c * (f k).c % 101, (f k).m⟩]) (by rfl) (by rw [cellsL_length]; rfl) (by rw [cellsL_one]; exact World.news_of_block (heap_alloc_new wq _)) (one_cells _) (by omega) (by unfold maxLen; omega) (by omega) (by have := HBQ.out.size; simp; omega) _ (by rfl) ?_; intro g0 cap0 w1 hown1 hgrow hat hlt1) | (go_at_call 72; refine (mulI _ _ _).mono ?_; rw [fMul_in c0 c1 cf1 cf2]; rintro r w2 ⟨rfl, hw2⟩; obtain rfl := hw2.symm; clear hw2))
            have HB := Hid.mk' (((HBQ.out.alloc HBQ.out.size _).drew).grown hgrow (Nat.le_trans HBQ.out.size (by simp)) (fun j hj => (HOQ.out.lt j hj).1))
            have HP := Hid.mk' hown1
            clear hown1 hgrow hat hlt1 HOQ HO
            go_wp2
            go_roundw
            case rel => exact ⟨k + 1, by omega, by go_num, HB.out, by rw [scT_succ, cellsL_append]; exact HP.out⟩
            case measure => simp [intOf]; omega
          · have hkn : k = n := by omega
            subst hkn
            have HO := Hid.mk' hown
            clear hown
            go_wp2
            go_ret
            exact ⟨_, rfl, hB, HO.out⟩
    · have e1 : polScale c f n = [] := by simp [polScale, hc]
      rw [e1]
      have hc' : c < 0 ∨ 100 < c := by omega
      clear hc e1 hz h
      go_enter Tryz.func30, Tryz.ntmps30
      go_wp2_with (go_at_call 71; refine (okI_out _ _ hc').mono ?_; rintro r w' ⟨rfl, rfl⟩)
      go_ret
      exact ⟨_, rfl, Below.refl _ _, ownsT_nil _ _⟩
end Go.Proofs.YtdidlcjhodejjaaGreat
