/-
  An operator, so many times, added to a sum.
  What a sum's numbers are behind an operator, so many times.
  Sums and differences of two operators.
-/
import Derived.Test.YtfjmpempemingaaGas
import Derived.Test.YtfjmpempemingaaGae
import Derived.Deep.RegionWith
import Derived.Test.YtfjmpempemingaaGah
import Derived.Test.YtfjmpempemingaaGay
import Derived.Test.YtfjmpempemingaaGaf
namespace Go.Proofs.Ytfjmpempemingaa
open Go.RowKit Go.Maps
set_option linter.unusedVariables false

def timesC (k : Int) (f : Nat → T) (c : M → Int) : Nat → M → Int
  | 0 => c
  | i + 1 => updC (timesC k f c i) (f i).m (k * (f i).c % 101)
theorem grown_drew (w : World) : w.grownBy w.drew none := ⟨rfl, rfl, rfl, Nat.le_refl _, fun _ _ _ => rfl⟩
theorem grown_any {w w' : World} {row : Option Nat} (h : w.grownBy w' none) : w.grownBy w' row := ⟨h.os, h.tape, h.output, h.size, fun k hk _ => h.block k hk (by simp)⟩
set_option maxRecDepth 100000 in
set_option maxHeartbeats 2000000 in
theorem sumTimes (w : World) (b n : Nat) (c : M → Int) (k : Int) (a : Option Addr) (la cap : Nat) (f : Nat → T) (h : SumR w b n c) (hr : Rd w a la cap f) (hne : la = 0 ∨ ∀ b' off, a = some ⟨b', off, none⟩ → some b' ≠ some b)
    (hm : ∀ i, i < la → (f i).m.ok = true) (hc : ∀ i, i < la → 0 ≤ (f i).c ∧ (f i).c ≤ 100) (k0 : 0 ≤ k) (k1 : k ≤ 100) (hn : n + la ≤ 1000000) (hb : b < w.heap.size) :
    Calls Try.prog 68 #[.map (some b), .int .i64 k, .slice a la cap] w fun e w' => e = .returned (.tuple #[]) ∧ SumR w' b (n + la) (timesC k f c la) ∧ w.grownBy w' (some b) := by
  have HR := Hid.mk' hr
  have HS := Hid.mk' h
  have HM := Hid.mk' hm
  have HC := Hid.mk' hc
  have HNE := Hid.mk' hne
  have hl : (la : Int) ≤ 1000000 := by omega
  clear h hr hm hc hne
  go_enter Try.func68, Try.ntmps68
  go_wp2
  go_loopw [10] (fun i wr => ∃ j : Nat, j ≤ la ∧ i = .int .i64 j ∧ SumR wr b (n + j) (timesC k f c j) ∧ w.grownBy wr (some b)) (fun i _ => la - (intOf i).toNat)
  case atStart => exact ⟨0, Nat.zero_le _, rfl, HS.out, grown_refl w _⟩
  case round =>
    obtain ⟨j, hj, rfl, hS, hg⟩ := hrel
    by_cases hlt : j < la
    · have hjl : (j : Int) < (la : Int) := by omega
      have hrj := HR.out.grown hg HNE.out
      rcases hrj.2.2 with h0 | ⟨pb, off, rfl, hblt, hcl⟩
      · omega
      obtain ⟨g0, g1, g2, g3, g4⟩ := hcl j hlt
      have hmj := HM.out j hlt
      obtain ⟨c0, c1⟩ := HC.out j hlt
      have HSJ := Hid.mk' hS
      have HG := Hid.mk' hg
      clear hcl hrj hS hg
      go_wp2_with fail
      have HSQ := Hid.mk' (HSJ.out.grown (World.grownBy_alloc wr (.cells #[.int .i64 (f j).c, .int .i64 (f j).m.x, .int .i64 (f j).m.y, .int .i64 (f j).m.d, .int .i64 (f j).m.e] 34) none) (by simp))
      have HGQ := Hid.mk' (HG.out.trans (World.grownBy_alloc wr (.cells #[.int .i64 (f j).c, .int .i64 (f j).m.x, .int .i64 (f j).m.y, .int .i64 (f j).m.d, .int .i64 (f j).m.e] 34) (some b)))
      have hq : ∀ i v, #[Value.int .i64 (f j).c, .int .i64 (f j).m.x, .int .i64 (f j).m.y, .int .i64 (f j).m.d, .int .i64 (f j).m.e][i]? = some v → (wr.alloc (.cells #[.int .i64 (f j).c, .int .i64 (f j).m.x, .int .i64 (f j).m.y, .int .i64 (f j).m.d, .int .i64 (f j).m.e] 34)).cell? ⟨wr.heap.size, i, none⟩ = some v := fun i v hv => by rw [World.cell?_alloc_at _ _ _ _ rfl]; exact hv
      have q0 := hq 0 _ rfl
      have q1 := hq 1 _ rfl
      have q2 := hq 2 _ rfl
      have q3 := hq 3 _ rfl
      have q4 := hq 4 _ rfl
      clear hq g0 g1 g2 g3 g4 HSJ HG
      generalize (wr.alloc (.cells #[.int .i64 (f j).c, .int .i64 (f j).m.x, .int .i64 (f j).m.y, .int .i64 (f j).m.d, .int .i64 (f j).m.e] 34)) = wq at HSQ HGQ q0 q1 q2 q3 q4 ⊢
      have HADD := Hid.mk' (sumAddR b (n + j) (timesC k f c j) (k * (f j).c % 101) (f j).m wq.drew hmj (HSQ.out.grown (grown_drew wq) (by simp)) (by unfold maxLen; omega) (by omega) (by omega))
      go_region_with (first | (go_at_call 79; refine (times _ _ _ k0 k1 c0 c1).mono ?_; rintro r w2 ⟨rfl, hw⟩; obtain rfl := hw.symm; clear hw) | (go_at_call 77; refine HADD.out.mono ?_; rintro r w4 ⟨rfl, hS4, hg4⟩; have HS4 := Hid.mk' hS4; have HG4 := Hid.mk' ((HGQ.out.trans (grown_any (grown_drew wq))).trans hg4); clear hS4 hg4))
      all_goals
        go_wp2
        go_roundw
        case rel => exact ⟨j + 1, by omega, by go_num, HS4.out, HG4.out⟩
        case measure => simp [intOf]; omega
    · obtain rfl : j = la := by omega
      have HSJ := Hid.mk' hS
      have HG := Hid.mk' hg
      clear hS hg
      go_wp2
      go_end0
      exact ⟨rfl, HSJ.out, HG.out⟩
end Go.Proofs.Ytfjmpempemingaa
namespace Go.Proofs.Ytfjmpempemingaa
open Go.RowKit
set_option linter.unusedVariables false

theorem fromC_skip {f : Nat → T} {m : M} : ∀ (u i : Nat), (f (i + u)).m ≠ m → fromC f (u + 1) i m = fromC f u i m
  | 0, i, h => by
    show (if meqB (f i).m m = true then (f i).c else 0) = 0
    exact if_neg (fun e => h (meqB_iff.1 e))
  | u + 1, i, h => by
    have := fromC_skip (f := f) (m := m) u (i + 1) (by rw [show i + 1 + u = i + (u + 1) by omega]; exact h)
    show (if meqB (f i).m m = true then (f i).c else fromC f (u + 1) (i + 1) m) = (if meqB (f i).m m = true then (f i).c else fromC f u (i + 1) m)
    rw [this]
theorem fromC_hit {f : Nat → T} {m : M} : ∀ (u i : Nat), (∀ j, i ≤ j → j < i + u → (f j).m ≠ m) → (f (i + u)).m = m → fromC f (u + 1) i m = (f (i + u)).c
  | 0, i, _, h => by
    show (if meqB (f i).m m = true then (f i).c else 0) = (f i).c
    exact if_pos (meqB_iff.2 h)
  | u + 1, i, h0, h => by
    rw [fromC, if_neg (fun e => h0 i (Nat.le_refl _) (by omega) (meqB_iff.1 e))]
    have := fromC_hit (f := f) (m := m) u (i + 1) (fun j h1 h2 => h0 j (by omega) (by omega)) (by rw [show i + 1 + u = i + (u + 1) by omega]; exact h)
    rw [this, show i + 1 + u = i + (u + 1) by omega]
theorem timesC_is {k : Int} {f : Nat → T} {c : M → Int} {n : Nat} (F : Fl f n) (hc : ∀ m, 0 ≤ c m ∧ c m ≤ 100) : ∀ (i : Nat), i ≤ n → ∀ m, timesC k f c i m = (c m + k * fromC f i 0 m % 101) % 101
  | 0, _, m => by
    have := hc m
    simp only [timesC, fromC, Int.mul_zero]
    omega
  | i + 1, hi, m => by
    have ih := timesC_is (k := k) F hc i (by omega)
    simp only [timesC]
    by_cases hm : m = (f i).m
    · subst hm
      rw [updC_same, ih]
      have h0 : fromC f i 0 (f i).m = 0 := fromC_none i 0 (fun j _ h2 e => by have := F.1 j i (by omega) (by omega); rw [e] at this; omega)
      have h1 : fromC f (i + 1) 0 (f i).m = (f i).c := by
        have := fromC_hit (f := f) (m := (f i).m) i 0 (fun j _ h2 e => by have := F.1 j i (by omega) (by omega); rw [e] at this; omega) (by rw [Nat.zero_add])
        rw [this, Nat.zero_add]
      rw [h0, h1]
      have := hc (f i).m
      simp only [Int.mul_zero]
      omega
    · rw [updC_other hm, ih, fromC_skip i 0 (by rw [Nat.zero_add]; exact fun e => hm e.symm)]
/-- what the sum of a and c times b has as its numbers. -/
theorem sum_two {c : Int} {f g : Nat → T} {la lb : Nat} (F : Fl f la) (G : Fl g lb) (m : M) : timesC c g (timesC 1 f (fun _ => 0) la) lb m = (fromC f la 0 m + c * fromC g lb 0 m) % 101 := by
  have hz : ∀ m : M, (0 : Int) ≤ (fun _ => 0 : M → Int) m ∧ (fun _ => 0 : M → Int) m ≤ 100 := fun _ => ⟨Int.le_refl _, by show (0 : Int) ≤ 100; decide⟩
  have h1 := timesC_is (k := 1) F hz la (Nat.le_refl _)
  have h2 := timesC_is (k := c) G (c := timesC 1 f (fun _ => 0) la) (fun m => by rw [h1]; omega) lb (Nat.le_refl _) m
  rw [h2, h1]
  simp only [Int.one_mul]
  omega
end Go.Proofs.Ytfjmpempemingaa
namespace Go.Proofs.Ytfjmpempemingaa
open Go.RowKit Go.Maps Go.Sort Go.Shelf
set_option linter.unusedVariables false

theorem SumR.range {w : World} {b n : Nat} {c : M → Int} (h : SumR w b n c) : ∀ m, 0 ≤ c m ∧ c m ≤ 100 := by obtain ⟨D, _, hc, _⟩ := h; exact hc
theorem sumNew (w : World) : SumR (w.alloc (.map #[] 0)) w.heap.size 0 (fun _ => 0) :=
  ⟨.map [], World.ownsMap_made w _ _ _, fun _ => ⟨Int.le_refl _, by show (0 : Int) ≤ 100; decide⟩, fun m _ => ⟨rfl, by simp [Maps.has]⟩, fun kl h => by simp [Maps.has] at h⟩
theorem Rd.apart {w : World} {a : Option Addr} {n cap : Nat} {f : Nat → T} (h : Rd w a n cap f) {b : Nat} (hb : w.heap.size ≤ b) : n = 0 ∨ ∀ b' off, a = some ⟨b', off, none⟩ → some b' ≠ some b := by
  rcases h.2.2 with h0 | ⟨pb, off, rfl, hlt, _⟩
  · exact .inl h0
  · exact .inr (fun b' off' e e' => by cases e; cases e'; omega)
/-- what a sum is told as. -/
def sumL (K : List T) : List T × Bool := if K.length ≤ 400 then (K, true) else ([], false)
theorem sumOpI (w : World) (b n : Nat) (c : M → Int) (h : SumR w b n c) (hn : n ≤ 1000000) {K : List T} (hK : Falls K) (hKc : ∀ m, m.ok = true → coef K m = c m) :
    Calls Try.prog 43 #[.map (some b)] w fun e w' => ∃ v, e = .returned (.tuple #[v, .bool (sumL K).2]) ∧ Below w.heap.size w w' ∧ w'.ownsRow w.heap.size 34 5 v (sumL K).1.length (cellsL (sumL K).1) := by
  by_cases h400 : K.length ≤ 400
  · have e : sumL K = (K, true) := if_pos h400
    rw [e]
    exact sumOpOk sortsM w b n c h hn hK hKc h400
  · have e : sumL K = ([], false) := if_neg h400
    rw [e]
    refine (sumOpNo sortsM w b n c h hn hK hKc h400).mono ?_
    rintro r w5 ⟨rfl, hb5⟩
    exact ⟨_, rfl, hb5, owns_nil w5 _⟩
theorem makeHint (n : Int) (w : World) : (Instr.makeMap 66 (some (.int .i64 n))).run Try.prog w = .ok (.map (some w.heap.size)) (w.alloc (.map #[] 0)) := by
  have hu := run_underlying (P := Try.prog) Try.underlying66
  unfold Instr.makeMap
  simp [hu, asInt, go_sem, Sem.run_bind, Result.andThen]
/-- what adding k times another one gives. -/
def addK (k : Int) (f : Nat → T) (la : Nat) (g : Nat → T) (lb : Nat) (K : List T) : List T × Bool := if polOk la f = true ∧ polOk lb g = true ∧ K.length ≤ 400 then (K, true) else ([], false)
set_option maxRecDepth 100000 in
set_option maxHeartbeats 4000000 in
theorem polAddTimesI (w : World) (a b : Option Addr) (la ca lb cb : Nat) (f g : Nat → T) (k : Int) (k0 : 0 ≤ k) (k1 : k ≤ 100) (ha : Rd w a la ca f) (hb : Rd w b lb cb g) (K : List T) (hK : polOk la f = true → polOk lb g = true → Falls K ∧ ∀ m, m.ok = true → coef K m = timesC k g (timesC 1 f (fun _ => 0) la) lb m) :
    Calls Try.prog 44 #[.slice a la ca, .int .i64 k, .slice b lb cb] w fun r w' => ∃ v, r = .returned (.tuple #[v, .bool (addK k f la g lb K).2]) ∧ Below w.heap.size w w' ∧ w'.ownsRow w.heap.size 34 5 v (addK k f la g lb K).1.length (cellsL (addK k f la g lb K).1) := by
  have HA := Hid.mk' ha
  have HB := Hid.mk' hb
  have hla : (la : Int) ≤ 140737488351232 := by have := ha.2.1; omega
  have hlb : (lb : Int) ≤ 140737488351232 := by have := hb.2.1; omega
  clear ha hb
  cases hpa : polOk la f
  · have e1 : addK k f la g lb K = ([], false) := by simp [addK, hpa]
    rw [e1]
    go_enter Try.func44, Try.ntmps44
    go_wp2_with (go_at_call 26; refine (polOkI _ _ _ _ f HA.out).mono ?_; rw [hpa]; rintro r w1 ⟨rfl, hb1⟩; have HB1 := Hid.mk' hb1; clear hb1)
    refine bodyPost_ret (results_tmp2 rfl _ _ _) rfl ?_
    exact ⟨_, rfl, HB1.out, owns_nil w1 _⟩
  · cases hpb : polOk lb g
    · have e1 : addK k f la g lb K = ([], false) := by simp [addK, hpb]
      rw [e1]
      go_enter Try.func44, Try.ntmps44
      go_wp2_with (first
        | (go_at_call_of 26 (Value.slice a la ca); refine (polOkI _ _ _ _ f HA.out).mono ?_; rw [hpa]; rintro r w1 ⟨rfl, hb1⟩; have HB1 := Hid.mk' hb1; clear hb1)
        | (go_at_call_of 26 (Value.slice b lb cb); refine (polOkI _ _ _ _ g (HB.out.below HB1.out)).mono ?_; rw [hpb]; rintro r w2 ⟨rfl, hb2⟩; have HB2 := Hid.mk' hb2; clear hb2))
      refine bodyPost_ret (results_tmp2 rfl _ _ _) rfl ?_
      exact ⟨_, rfl, bel_next HB1.out HB2.out, owns_nil w2 _⟩
    · obtain ⟨hKf, hKc⟩ := hK hpa hpb
      have F := fl_of_ok hpa
      have G := fl_of_ok hpb
      have HF := Hid.mk' F
      have HG := Hid.mk' G
      have l1 : la ≤ 400 := by simp only [polOk, decide_eq_true_eq] at hpa; exact hpa.1
      have l2 : lb ≤ 400 := by simp only [polOk, decide_eq_true_eq] at hpb; exact hpb.1
      have hmk := makeHint
      have e2 : addK k f la g lb K = sumL K := by simp [addK, sumL, hpa, hpb]
      rw [e2]
      clear F G e2 hK
      go_enter Try.func44, Try.ntmps44
      go_wp2_with (first
        | (go_at_call_of 26 (Value.slice a la ca); refine (polOkI _ _ _ _ f HA.out).mono ?_; rw [hpa]; rintro r w1 ⟨rfl, hb1⟩; have HB1 := Hid.mk' hb1; clear hb1)
        | (go_at_call_of 26 (Value.slice b lb cb); refine (polOkI _ _ _ _ g (HB.out.below HB1.out)).mono ?_; rw [hpb]; rintro r w2 ⟨rfl, hb2⟩; have HB2 := Hid.mk' (bel_next HB1.out hb2); clear hb2)
        | (go_at_call_of 68 (Value.slice a la ca); refine (sumTimes _ w2.heap.size 0 _ 1 a la ca f (sumNew w2) ((HA.out.below HB2.out).below (bel_one w2 _)) ((HA.out.below HB2.out).apart (Nat.le_refl _)) (fun i hi => (HF.out.2 i hi).1) (fun i hi => by have := HF.out.2 i hi; omega) (by omega) (by omega) (by omega) (by simp)).mono ?_; rintro r w3 ⟨rfl, hs3, hg3⟩; have HS3 := Hid.mk' hs3; have HG3 := Hid.mk' ((World.grownBy_alloc w2 (.map #[] 0) (some w2.heap.size)).trans hg3); clear hs3 hg3)
        | (go_at_call_of 68 (Value.slice b lb cb); refine (sumTimes _ w2.heap.size (0 + la) _ k b lb cb g HS3.out ((HB.out.below HB2.out).grown HG3.out ((HB.out.below HB2.out).apart (Nat.le_refl _))) ((HB.out.below HB2.out).apart (Nat.le_refl _)) (fun i hi => (HG.out.2 i hi).1) (fun i hi => by have := HG.out.2 i hi; omega) k0 k1 (by omega) (by obtain ⟨D, ho, _⟩ := HS3.out; exact ho.lt)).mono ?_; rintro r w4 ⟨rfl, hs4, hg4⟩; have HS4 := Hid.mk' hs4; have HG4 := Hid.mk' (HG3.out.trans hg4); clear hs4 hg4))
      have hlo : w.heap.size ≤ w2.heap.size := HB2.out.size
      have hB4 : Below w.heap.size w w4 := HB2.out.grown HG4.out hlo (fun k' e => by cases e; exact hlo)
      refine (sumOpI _ _ _ _ HS4.out (by omega) hKf hKc).mono ?_
      rintro r w5 ⟨v, rfl, hb5, ho5⟩
      go_wp2
      refine bodyPost_ret (results_tmp2 rfl _ _ _) rfl ?_
      exact ⟨_, rfl, hB4.trans (hb5.mono hB4.size), ownsRow_low ho5 hB4.size⟩
theorem polAdd_K {f g : Nat → T} {la lb : Nat} (hpa : polOk la f = true) (hpb : polOk lb g = true) : Falls (addT f la g lb 0 0) ∧ ∀ m, m.ok = true → coef (addT f la g lb 0 0) m = timesC 1 g (timesC 1 f (fun _ => 0) la) lb m := by
  obtain ⟨_, h2, h3⟩ := mrg_facts (fl_of_ok hpa) (fl_of_ok hpb) (la - 0 + (lb - 0)) 0 0 (Nat.le_refl _)
  refine ⟨h2, fun m _ => ?_⟩
  rw [sum_two (fl_of_ok hpa) (fl_of_ok hpb), Int.one_mul]
  exact h3 m
theorem fromC_congr {f g : Nat → T} (r : Int → Int) (hr : r 0 = 0) {m : M} : ∀ (u i : Nat), (∀ j, i ≤ j → j < i + u → (g j).m = (f j).m ∧ (g j).c = r (f j).c) → fromC g u i m = r (fromC f u i m)
  | 0, _, _ => hr.symm
  | u + 1, i, h => by
    have h0 := h i (Nat.le_refl _) (by omega)
    rw [fromC, fromC, h0.1, h0.2, fromC_congr r hr u (i + 1) (fun j h1 h2 => h j (by omega) (by omega))]
    split <;> rfl
theorem neg_fl {g : Nat → T} {lb : Nat} (G : Fl g lb) : Fl (negT g lb) lb := by
  refine ⟨fun j i hji hi => ?_, fun i hi => ?_⟩
  · unfold negT
    rw [lf_scT _ _ _ _ hi, lf_scT _ _ _ _ (by omega)]
    exact G.1 j i hji hi
  · have h := G.2 i hi
    unfold negT
    rw [lf_scT _ _ _ _ hi]
    refine ⟨h.1, ?_, ?_⟩
    · show 1 ≤ 100 * (g i).c % 101
      omega
    · show 100 * (g i).c % 101 ≤ 100
      omega
theorem polSub_K {f g : Nat → T} {la lb : Nat} (hpa : polOk la f = true) (hpb : polOk lb g = true) : Falls (addT f la (negT g lb) lb 0 0) ∧ ∀ m, m.ok = true → coef (addT f la (negT g lb) lb 0 0) m = timesC 100 g (timesC 1 f (fun _ => 0) la) lb m := by
  obtain ⟨_, h2, h3⟩ := mrg_facts (fl_of_ok hpa) (neg_fl (fl_of_ok hpb)) (la - 0 + (lb - 0)) 0 0 (Nat.le_refl _)
  refine ⟨h2, fun m _ => ?_⟩
  rw [sum_two (fl_of_ok hpa) (fl_of_ok hpb)]
  have h4 := fromC_congr (f := g) (g := negT g lb) (fun c => 100 * c % 101) rfl (m := m) lb 0 (fun j _ hj => by
    unfold negT
    rw [lf_scT _ _ _ _ (by omega)]
    exact ⟨rfl, rfl⟩)
  refine (h3 m).trans ?_
  rw [Nat.sub_zero, Nat.sub_zero, h4]
  omega
set_option maxHeartbeats 1000000 in
theorem polAddI (w : World) (a b : Option Addr) (la ca lb cb : Nat) (f g : Nat → T) (ha : Rd w a la ca f) (hb : Rd w b lb cb g) :
    Calls Try.prog 18 #[.slice a la ca, .slice b lb cb] w fun r w' => ∃ a' cap', r = .returned (.tuple #[.slice a' (polAdd f la g lb).1.length cap', .bool (polAdd f la g lb).2]) ∧ Below w.heap.size w w' ∧ Out w.heap.size w' a' cap' (polAdd f la g lb).1 := by
  have hc := polAddTimesI w a b la ca lb cb f g 1 (by omega) (by omega) ha hb (addT f la g lb 0 0) polAdd_K
  have e : addK 1 f la g lb (addT f la g lb 0 0) = polAdd f la g lb := rfl
  rw [e] at hc
  have hlen := polAdd_len f la g lb
  generalize polAdd f la g lb = r at *
  obtain ⟨L, ok⟩ := r
  go_enter Try.func18, Try.ntmps18
  go_wp2_with (go_at_call 44; refine hc.mono ?_; rintro r w1 ⟨v, rfl, hb1, ho1⟩)
  refine bodyPost_ret (results_tmp2 rfl _ _ _) rfl ?_
  obtain ⟨a', cap', rfl, hout⟩ := out_of_owns ho1 (by omega)
  exact ⟨a', cap', rfl, hb1, hout⟩
end Go.Proofs.Ytfjmpempemingaa
