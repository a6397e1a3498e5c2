/-
  What the functions of the program's chapter 3 return: whether terms are an operator, an operator of one term, the number of a monomial.
  Sums and differences of two operators.
  Draws of operators: what a law gets is some lists of few terms.
-/
import Derived.Test.YtddfpjjeoojlmaaGah
import Derived.Test.YtddfpjjeoojlmaaGak
import Derived.Test.YtddfpjjeoojlmaaGap
import Derived.Test.YtddfpjjeoojlmaaGaq
import Derived.Test.YtddfpjjeoojlmaaGal
namespace Go.Proofs.Ytddfpjjeoojlmaa
open Go.RowKit
set_option linter.unusedVariables false

theorem owns_nil (w : World) (lo : Nat) : w.ownsRow lo 35 5 (.slice none 0 0) 0 (cellsL []) := ⟨rfl, .inl ⟨rfl, rfl⟩⟩
end Go.Proofs.Ytddfpjjeoojlmaa
namespace Go.Proofs.Ytddfpjjeoojlmaa
open Go.RowKit Go.Maps Go.Sort Go.Shelf
set_option linter.unusedVariables false

theorem SumR.range {w : World} {b n : Nat} {c : M → Int} (h : SumR w b n c) : ∀ m, 0 ≤ c m ∧ c m ≤ 100 := by obtain ⟨D, _, hc, _⟩ := h; exact hc
theorem sumNew (w : World) : SumR (w.alloc (.map #[] 0)) w.heap.size 0 (fun _ => 0) :=
  ⟨.map [], World.ownsMap_made w _ _ _, fun _ => ⟨Int.le_refl _, by show (0 : Int) ≤ 100; decide⟩, fun m _ => ⟨rfl, by simp [Maps.has]⟩, fun kl h => by simp [Maps.has] at h⟩
theorem Rd.apart {w : World} {a : Option Addr} {n cap : Nat} {f : Nat → T} (h : Rd w a n cap f) {b : Nat} (hb : w.heap.size ≤ b) : n = 0 ∨ ∀ b' off, a = some ⟨b', off, none⟩ → some b' ≠ some b := by
  rcases h.2.2 with h0 | ⟨pb, off, rfl, hlt, _⟩
  · exact .inl h0
  · exact .inr (fun b' off' e e' => by cases e; cases e'; omega)
/-- what a sum is told as. -/
def sumL (K : List T) : List T × Bool := if K.length ≤ 400 then (K, true) else ([], false)
theorem sumOpI (w : World) (b n : Nat) (c : M → Int) (h : SumR w b n c) (hn : n ≤ 1000000) {K : List T} (hK : Falls K) (hKc : ∀ m, m.ok = true → coef K m = c m) :
    Calls Try.prog 60 #[.map (some b)] w fun e w' => ∃ v, e = .returned (.tuple #[v, .bool (sumL K).2]) ∧ Below w.heap.size w w' ∧ w'.ownsRow w.heap.size 35 5 v (sumL K).1.length (cellsL (sumL K).1) := by
  by_cases h400 : K.length ≤ 400
  · have e : sumL K = (K, true) := if_pos h400
    rw [e]
    exact sumOpOk sortsM w b n c h hn hK hKc h400
  · have e : sumL K = ([], false) := if_neg h400
    rw [e]
    refine (sumOpNo sortsM w b n c h hn hK hKc h400).mono ?_
    rintro r w5 ⟨rfl, hb5⟩
    exact ⟨_, rfl, hb5, owns_nil w5 _⟩
theorem makeHint (n : Int) (w : World) : (Instr.makeMap 67 (some (.int .i64 n))).run Try.prog w = .ok (.map (some w.heap.size)) (w.alloc (.map #[] 0)) := by
  have hu := run_underlying (P := Try.prog) Try.underlying67
  unfold Instr.makeMap
  simp [hu, asInt, go_sem, Sem.run_bind, Result.andThen]
/-- what adding k times another one gives. -/
def addK (k : Int) (f : Nat → T) (la : Nat) (g : Nat → T) (lb : Nat) (K : List T) : List T × Bool := if polOk la f = true ∧ polOk lb g = true ∧ K.length ≤ 400 then (K, true) else ([], false)
set_option maxRecDepth 100000 in
set_option maxHeartbeats 4000000 in
theorem polAddTimesI (w : World) (a b : Option Addr) (la ca lb cb : Nat) (f g : Nat → T) (k : Int) (k0 : 0 ≤ k) (k1 : k ≤ 100) (ha : Rd w a la ca f) (hb : Rd w b lb cb g) (K : List T) (hK : polOk la f = true → polOk lb g = true → Falls K ∧ ∀ m, m.ok = true → coef K m = timesC k g (timesC 1 f (fun _ => 0) la) lb m) :
    Calls Try.prog 40 #[.slice a la ca, .int .i64 k, .slice b lb cb] w fun r w' => ∃ v, r = .returned (.tuple #[v, .bool (addK k f la g lb K).2]) ∧ Below w.heap.size w w' ∧ w'.ownsRow w.heap.size 35 5 v (addK k f la g lb K).1.length (cellsL (addK k f la g lb K).1) := by
  have HA := Hid.mk' ha
  have HB := Hid.mk' hb
  have hla : (la : Int) ≤ 140737488351232 := by have := ha.2.1; omega
  have hlb : (lb : Int) ≤ 140737488351232 := by have := hb.2.1; omega
  clear ha hb
  cases hpa : polOk la f
  · have e1 : addK k f la g lb K = ([], false) := by simp [addK, hpa]
    rw [e1]
    go_enter Try.func40, Try.ntmps40
    go_wp2_with (go_at_call 17; refine (polOkI _ _ _ _ f HA.out).mono ?_; rw [hpa]; rintro r w1 ⟨rfl, hb1⟩; have HB1 := Hid.mk' hb1; clear hb1)
    refine bodyPost_ret (results_tmp2 rfl _ _ _) rfl ?_
    exact ⟨_, rfl, HB1.out, owns_nil w1 _⟩
  · cases hpb : polOk lb g
    · have e1 : addK k f la g lb K = ([], false) := by simp [addK, hpb]
      rw [e1]
      go_enter Try.func40, Try.ntmps40
      go_wp2_with (first
        | (go_at_call_of 17 (Value.slice a la ca); refine (polOkI _ _ _ _ f HA.out).mono ?_; rw [hpa]; rintro r w1 ⟨rfl, hb1⟩; have HB1 := Hid.mk' hb1; clear hb1)
        | (go_at_call_of 17 (Value.slice b lb cb); refine (polOkI _ _ _ _ g (HB.out.below HB1.out)).mono ?_; rw [hpb]; rintro r w2 ⟨rfl, hb2⟩; have HB2 := Hid.mk' hb2; clear hb2))
      refine bodyPost_ret (results_tmp2 rfl _ _ _) rfl ?_
      exact ⟨_, rfl, bel_next HB1.out HB2.out, owns_nil w2 _⟩
    · obtain ⟨hKf, hKc⟩ := hK hpa hpb
      have F := fl_of_ok hpa
      have G := fl_of_ok hpb
      have HF := Hid.mk' F
      have HG := Hid.mk' G
      have l1 : la ≤ 400 := by simp only [polOk, decide_eq_true_eq] at hpa; exact hpa.1
      have l2 : lb ≤ 400 := by simp only [polOk, decide_eq_true_eq] at hpb; exact hpb.1
      have hmk := makeHint
      have e2 : addK k f la g lb K = sumL K := by simp [addK, sumL, hpa, hpb]
      rw [e2]
      clear F G e2 hK
      go_enter Try.func40, Try.ntmps40
      go_wp2_with (first
        | (go_at_call_of 17 (Value.slice a la ca); refine (polOkI _ _ _ _ f HA.out).mono ?_; rw [hpa]; rintro r w1 ⟨rfl, hb1⟩; have HB1 := Hid.mk' hb1; clear hb1)
        | (go_at_call_of 17 (Value.slice b lb cb); refine (polOkI _ _ _ _ g (HB.out.below HB1.out)).mono ?_; rw [hpb]; rintro r w2 ⟨rfl, hb2⟩; have HB2 := Hid.mk' (bel_next HB1.out hb2); clear hb2)
        | (go_at_call_of 59 (Value.slice a la ca); refine (sumTimes _ w2.heap.size 0 _ 1 a la ca f (sumNew w2) ((HA.out.below HB2.out).below (bel_one w2 _)) ((HA.out.below HB2.out).apart (Nat.le_refl _)) (fun i hi => (HF.out.2 i hi).1) (fun i hi => by have := HF.out.2 i hi; omega) (by omega) (by omega) (by omega) (by simp)).mono ?_; rintro r w3 ⟨rfl, hs3, hg3⟩; have HS3 := Hid.mk' hs3; have HG3 := Hid.mk' ((World.grownBy_alloc w2 (.map #[] 0) (some w2.heap.size)).trans hg3); clear hs3 hg3)
        | (go_at_call_of 59 (Value.slice b lb cb); refine (sumTimes _ w2.heap.size (0 + la) _ k b lb cb g HS3.out ((HB.out.below HB2.out).grown HG3.out ((HB.out.below HB2.out).apart (Nat.le_refl _))) ((HB.out.below HB2.out).apart (Nat.le_refl _)) (fun i hi => (HG.out.2 i hi).1) (fun i hi => by have := HG.out.2 i hi; omega) k0 k1 (by omega) (by obtain ⟨D, ho, _⟩ := HS3.out; exact ho.lt)).mono ?_; rintro r w4 ⟨rfl, hs4, hg4⟩; have HS4 := Hid.mk' hs4; have HG4 := Hid.mk' (HG3.out.trans hg4); clear hs4 hg4))
      have hlo : w.heap.size ≤ w2.heap.size := HB2.out.size
      have hB4 : Below w.heap.size w w4 := HB2.out.grown HG4.out hlo (fun k' e => by cases e; exact hlo)
      refine (sumOpI _ _ _ _ HS4.out (by omega) hKf hKc).mono ?_
      rintro r w5 ⟨v, rfl, hb5, ho5⟩
      go_wp2
      refine bodyPost_ret (results_tmp2 rfl _ _ _) rfl ?_
      exact ⟨_, rfl, hB4.trans (hb5.mono hB4.size), ownsRow_low ho5 hB4.size⟩
theorem polAdd_K {f g : Nat → T} {la lb : Nat} (hpa : polOk la f = true) (hpb : polOk lb g = true) : Falls (addT f la g lb 0 0) ∧ ∀ m, m.ok = true → coef (addT f la g lb 0 0) m = timesC 1 g (timesC 1 f (fun _ => 0) la) lb m := by
  obtain ⟨_, h2, h3⟩ := mrg_facts (fl_of_ok hpa) (fl_of_ok hpb) (la - 0 + (lb - 0)) 0 0 (Nat.le_refl _)
  refine ⟨h2, fun m _ => ?_⟩
  rw [sum_two (fl_of_ok hpa) (fl_of_ok hpb), Int.one_mul]
  exact h3 m
theorem fromC_congr {f g : Nat → T} (r : Int → Int) (hr : r 0 = 0) {m : M} : ∀ (u i : Nat), (∀ j, i ≤ j → j < i + u → (g j).m = (f j).m ∧ (g j).c = r (f j).c) → fromC g u i m = r (fromC f u i m)
  | 0, _, _ => hr.symm
  | u + 1, i, h => by
    have h0 := h i (Nat.le_refl _) (by omega)
    rw [fromC, fromC, h0.1, h0.2, fromC_congr r hr u (i + 1) (fun j h1 h2 => h j (by omega) (by omega))]
    split <;> rfl
theorem neg_fl {g : Nat → T} {lb : Nat} (G : Fl g lb) : Fl (negT g lb) lb := by
  refine ⟨fun j i hji hi => ?_, fun i hi => ?_⟩
  · unfold negT
    rw [lf_scT _ _ _ _ hi, lf_scT _ _ _ _ (by omega)]
    exact G.1 j i hji hi
  · have h := G.2 i hi
    unfold negT
    rw [lf_scT _ _ _ _ hi]
    refine ⟨h.1, ?_, ?_⟩
    · show 1 ≤ 100 * (g i).c % 101
      omega
    · show 100 * (g i).c % 101 ≤ 100
      omega
theorem polSub_K {f g : Nat → T} {la lb : Nat} (hpa : polOk la f = true) (hpb : polOk lb g = true) : Falls (addT f la (negT g lb) lb 0 0) ∧ ∀ m, m.ok = true → coef (addT f la (negT g lb) lb 0 0) m = timesC 100 g (timesC 1 f (fun _ => 0) la) lb m := by
  obtain ⟨_, h2, h3⟩ := mrg_facts (fl_of_ok hpa) (neg_fl (fl_of_ok hpb)) (la - 0 + (lb - 0)) 0 0 (Nat.le_refl _)
  refine ⟨h2, fun m _ => ?_⟩
  rw [sum_two (fl_of_ok hpa) (fl_of_ok hpb)]
  have h4 := fromC_congr (f := g) (g := negT g lb) (fun c => 100 * c % 101) rfl (m := m) lb 0 (fun j _ hj => by
    unfold negT
    rw [lf_scT _ _ _ _ (by omega)]
    exact ⟨rfl, rfl⟩)
  refine (h3 m).trans ?_
  rw [Nat.sub_zero, Nat.sub_zero, h4]
  omega
set_option maxHeartbeats 1000000 in
theorem polAddI (w : World) (a b : Option Addr) (la ca lb cb : Nat) (f g : Nat → T) (ha : Rd w a la ca f) (hb : Rd w b lb cb g) :
    Calls Try.prog 10 #[.slice a la ca, .slice b lb cb] w fun r w' => ∃ a' cap', r = .returned (.tuple #[.slice a' (polAdd f la g lb).1.length cap', .bool (polAdd f la g lb).2]) ∧ Below w.heap.size w w' ∧ Out w.heap.size w' a' cap' (polAdd f la g lb).1 := by
  have hc := polAddTimesI w a b la ca lb cb f g 1 (by omega) (by omega) ha hb (addT f la g lb 0 0) polAdd_K
  have e : addK 1 f la g lb (addT f la g lb 0 0) = polAdd f la g lb := rfl
  rw [e] at hc
  have hlen := polAdd_len f la g lb
  generalize polAdd f la g lb = r at *
  obtain ⟨L, ok⟩ := r
  go_enter Try.func10, Try.ntmps10
  go_wp2_with (go_at_call 40; refine hc.mono ?_; rintro r w1 ⟨v, rfl, hb1, ho1⟩)
  refine bodyPost_ret (results_tmp2 rfl _ _ _) rfl ?_
  obtain ⟨a', cap', rfl, hout⟩ := out_of_owns ho1 (by omega)
  exact ⟨a', cap', rfl, hb1, hout⟩
set_option maxHeartbeats 1000000 in
theorem polSubI (w : World) (a b : Option Addr) (la ca lb cb : Nat) (f g : Nat → T) (ha : Rd w a la ca f) (hb : Rd w b lb cb g) :
    Calls Try.prog 19 #[.slice a la ca, .slice b lb cb] w fun r w' => ∃ a' cap', r = .returned (.tuple #[.slice a' (polSub f la g lb).1.length cap', .bool (polSub f la g lb).2]) ∧ Below w.heap.size w w' ∧ Out w.heap.size w' a' cap' (polSub f la g lb).1 := by
  have hc := polAddTimesI w a b la ca lb cb f g 100 (by omega) (by omega) ha hb (addT f la (negT g lb) lb 0 0) polSub_K
  have e : addK 100 f la g lb (addT f la (negT g lb) lb 0 0) = polSub f la g lb := rfl
  rw [e] at hc
  have hlen := polSub_len f la g lb
  generalize polSub f la g lb = r at *
  obtain ⟨L, ok⟩ := r
  go_enter Try.func19, Try.ntmps19
  go_wp2_with (go_at_call 40; refine hc.mono ?_; rintro r w1 ⟨v, rfl, hb1, ho1⟩)
  refine bodyPost_ret (results_tmp2 rfl _ _ _) rfl ?_
  obtain ⟨a', cap', rfl, hout⟩ := out_of_owns ho1 (by omega)
  exact ⟨a', cap', rfl, hb1, hout⟩
end Go.Proofs.Ytddfpjjeoojlmaa
namespace Go.Proofs.Ytddfpjjeoojlmaa
open Go.RowKit
set_option linter.unusedVariables false

theorem off_of {pa : Option Addr} {m B N : Nat} (hblk : m = 0 ∨ ∃ g off, pa = some ⟨g, off, none⟩ ∧ N ≤ g) (hB : B < N) : m = 0 ∨ ∀ b off, pa = some ⟨b, off, none⟩ → b ≠ B := hblk.imp id (fun ⟨g, off, he, hg⟩ b off' hb => by rw [he] at hb; cases hb; omega)
/-- two operators are handed back. -/
def Pair2 (w : World) (n m : Nat) (e : Ending) (w' : World) : Prop := ∃ (a1 : Option Addr) (c1 : Nat) (A : List T) (b1 : Option Addr) (c2 : Nat) (B : List T), e = .returned (.tuple #[.slice a1 A.length c1, .slice b1 B.length c2]) ∧ RL w' a1 c1 A ∧ RL w' b1 c2 B ∧ A.length ≤ n ∧ B.length ≤ m ∧ Below w.heap.size w w'
theorem pair_mk {w w' : World} {a1 b1 : Option Addr} {n1 c1 n2 c2 n m : Nat} {f g : Nat → T} (h1 : Rd w' a1 n1 c1 f) (h2 : Rd w' b1 n2 c2 g) (l1 : n1 ≤ n) (l2 : n2 ≤ m) (hb : Below w.heap.size w w') : Pair2 w n m (.returned (.tuple #[.slice a1 n1 c1, .slice b1 n2 c2])) w' := by
  obtain ⟨A, rfl, hA⟩ := list_of h1
  obtain ⟨B, rfl, hB⟩ := list_of h2
  exact ⟨_, _, A, _, _, B, rfl, hA, hB, l1, l2, hb⟩
set_option maxRecDepth 100000 in
set_option maxHeartbeats 8000000 in
theorem drawPolAdd (w : World) (a : Option Addr) (len cap : Nat) (h : Src w a len cap) :
    Calls Try.prog 9 #[.slice a len cap] w (Pair2 w 5 10) := by
  go_enter Try.func9, Try.ntmps9
  go_wp2_with fail
  refine (open_any _ _ _ _ h).mono ?_
  rintro e w1 ⟨rfl, hR1, b1⟩
  have hl1 := hR1.lt
  clear h
  go_wp2_with fail
  refine (any_any w1 _ _ 24 hR1 (by omega) (by omega) (by omega)).mono ?_
  rintro e w2 ⟨pa, m, pc, f, q, rfl, hrd, hm, hblk, hq, hR2, s2⟩
  have b2 := s2.below b1 (Nat.le_refl _) (by omega)
  have hne := off_of hblk hl1
  have hs2 := s2.size
  clear hR1 s2 b1 hblk
  go_wp2_with fail
  refine (any_any w2 _ _ 24 hR2 (by omega) (by omega) (by omega)).mono ?_
  rintro e w3 ⟨pa', m', pc', g, q', rfl, hrd', hm', hblk', hq', hR3, s3⟩
  have b3 := s3.below b2 (Nat.le_refl _) (by omega)
  have hne' := off_of hblk' (show w.heap.size < w2.heap.size by omega)
  have hrd3 := hrd.beside s3 hne
  have hs3 := s3.size
  clear hR2 s3 b2 hblk' hrd
  go_wp2_with fail
  refine (pick_any w3 _ _ 3 hR3 (by omega) (by omega) (by omega)).mono ?_
  rintro e w4 ⟨j, rfl, j0, j1, hk⟩
  have HB4 := Hid.mk' (hk.beside.below b3 (Nat.le_refl _) (by omega))
  have HA4 := Hid.mk' (hrd3.beside hk.beside hne)
  have HG4 := Hid.mk' (hrd'.beside hk.beside hne')
  clear hk hR3 b3 hrd3 hrd' hne hne' hs2 hs3 hl1 hq hq'
  by_cases hj : j = 0
  · subst hj
    cases hpa : polOk m f
    · go_wp2_with fail
      refine (polOkS _ _ _ _ f HA4.out).mono ?_
      rw [hpa]
      rintro e w5 ⟨rfl, hb5⟩
      have HB5 := Hid.mk' (bel_next HB4.out hb5)
      have HA5 := Hid.mk' (HA4.out.below hb5)
      have HG5 := Hid.mk' (HG4.out.below hb5)
      clear hb5
      go_wp2
      refine bodyPost_ret (results_tmp2 rfl _ _ _) rfl ?_
      exact pair_mk HA5.out HG5.out hm (by omega) HB5.out
    · go_wp2_with fail
      refine (polOkS _ _ _ _ f HA4.out).mono ?_
      rw [hpa]
      rintro e w5 ⟨rfl, hb5⟩
      have HB5 := Hid.mk' (bel_next HB4.out hb5)
      have HA5 := Hid.mk' (HA4.out.below hb5)
      have HG5 := Hid.mk' (HG4.out.below hb5)
      clear hb5
      cases hpg : polOk m' g
      · go_wp2_with fail
        refine (polOkS _ _ _ _ g HG5.out).mono ?_
        rw [hpg]
        rintro e w6 ⟨rfl, hb6⟩
        have HB6 := Hid.mk' (bel_next HB5.out hb6)
        have HA6 := Hid.mk' (HA5.out.below hb6)
        have HG6 := Hid.mk' (HG5.out.below hb6)
        clear hb6
        go_wp2
        refine bodyPost_ret (results_tmp2 rfl _ _ _) rfl ?_
        exact pair_mk HA6.out HG6.out hm (by omega) HB6.out
      · obtain ⟨l1, cf⟩ := polOk_c hpa
        obtain ⟨l2, cg⟩ := polOk_c hpg
        go_wp2_with fail
        refine (polOkS _ _ _ _ g HG5.out).mono ?_
        rw [hpg]
        rintro e w6 ⟨rfl, hb6⟩
        have HB6 := Hid.mk' (bel_next HB5.out hb6)
        have HA6 := Hid.mk' (HA5.out.below hb6)
        have HG6 := Hid.mk' (HG5.out.below hb6)
        clear hb6
        have hsc := l3ScaleS w6 100 pa m pc f HA6.out (by omega) (by omega) (by omega) cf
        rw [if_neg (by omega : ¬ (100 : Int) = 0)] at hsc
        go_wp2_with fail
        refine hsc.mono ?_
        rintro e w7 ⟨v7, rfl, hb7, ho7⟩
        obtain ⟨a7, c7, hv7, hout7⟩ := out_of_owns (L := scT 100 f m) (by rw [scT_len]; exact ho7) (by rw [scT_len]; omega)
        have HB7 := Hid.mk' (bel_next HB6.out hb7)
        have HA7 := Hid.mk' (HA6.out.below hb7)
        have HG7 := Hid.mk' (HG6.out.below hb7)
        have hR7 := hout7.1
        rw [scT_len] at hR7 hv7
        subst hv7
        have HR7 := Hid.mk' hR7
        have hcs : ∀ i, i < m → 0 ≤ (lf (scT 100 f m) i).c ∧ (lf (scT 100 f m) i).c ≤ 100 := fun i hi => by rw [lf_scT _ _ _ _ hi]; show 0 ≤ 100 * (f i).c % 101 ∧ 100 * (f i).c % 101 ≤ 100; omega
        have hadd := l3AddS w7 pa' a7 m' pc' m c7 g (lf (scT 100 f m)) HG7.out HR7.out (by omega) cg hcs
        have hal := addT_len g m' (lf (scT 100 f m)) m 0 0
        clear hb7 ho7 hout7 hsc hR7 hcs cf cg
        go_wp2_with fail
        refine hadd.mono ?_
        rintro e w8 ⟨v8, rfl, hb8, ho8⟩
        obtain ⟨a8, c8, hv8, hout8⟩ := out_of_owns ho8 (by omega)
        subst hv8
        have HB8 := Hid.mk' (bel_next HB7.out hb8)
        have HA8 := Hid.mk' (HA7.out.below hb8)
        have HR8 := Hid.mk' hout8.1
        clear hb8 ho8 hout8 hadd
        go_wp2
        refine bodyPost_ret (results_tmp2 rfl _ _ _) rfl ?_
        exact pair_mk HA8.out HR8.out hm (by omega) HB8.out
  · have hjb : (j == 0) = false := by simp [hj]
    go_wp2
    refine bodyPost_ret (results_tmp2 rfl _ _ _) rfl ?_
    exact pair_mk HA4.out HG4.out hm (by omega) HB4.out
theorem drawPolSub (w : World) (a : Option Addr) (len cap : Nat) (h : Src w a len cap) :
    Calls Try.prog 18 #[.slice a len cap] w (Pair2 w 5 10) := by
  have hc := drawPolAdd w a len cap h
  go_enter Try.func18, Try.ntmps18
  go_wp2_with fail
  refine hc.mono ?_
  rintro e w1 ⟨a1, c1, A, b1, c2, B, rfl, h1, h2, h3, h4, h5⟩
  have H := Hid.mk' (And.intro h1 (And.intro h2 h5))
  clear h1 h2 h5
  go_wp2
  refine bodyPost_ret (results_tmp2 rfl _ _ _) rfl ?_
  exact ⟨_, _, A, _, _, B, rfl, H.out.1, H.out.2.1, h3, h4, H.out.2.2⟩
theorem drawPolScale (w : World) (a : Option Addr) (len cap : Nat) (h : Src w a len cap) :
    Calls Try.prog 22 #[.slice a len cap] w fun e w' => ∃ (c : Int) (a1 : Option Addr) (c1 : Nat) (A : List T), e = .returned (.tuple #[.int .i64 c, .slice a1 A.length c1]) ∧ RL w' a1 c1 A ∧ A.length ≤ 5 ∧ Below w.heap.size w w' := by
  go_enter Try.func22, Try.ntmps22
  go_wp2_with fail
  refine (open_any _ _ _ _ h).mono ?_
  rintro e w1 ⟨rfl, hR1, b1⟩
  have hl1 := hR1.lt
  clear h
  go_wp2_with fail
  refine (num_any w1 _ _ 12 hR1 (by omega) (by omega) (by omega)).mono ?_
  rintro e w2 ⟨o, q2, rfl, hq2, hR2, s2⟩
  have b2 := s2.below b1 (Nat.le_refl _) (by omega)
  have hs2 := s2.size
  clear hR1 s2 b1
  go_wp2_with fail
  refine (any_any w2 _ _ 12 hR2 (by omega) (by omega) (by omega)).mono ?_
  rintro e w3 ⟨pa, m, pc, f, q, rfl, hrd, hm, hblk, hq, hR3, s3⟩
  have b3 := s3.below b2 (Nat.le_refl _) (by omega)
  clear hR2 hR3 s3 b2
  obtain ⟨A, rfl, hA⟩ := list_of hrd
  have H := Hid.mk' (And.intro hA b3)
  clear hrd hA b3
  go_wp2
  go_ret2
  exact ⟨_, _, _, A, rfl, H.out.1, hm, H.out.2⟩
end Go.Proofs.Ytddfpjjeoojlmaa
