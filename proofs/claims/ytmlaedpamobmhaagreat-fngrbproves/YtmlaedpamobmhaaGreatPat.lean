/-
  Products of operators: their lists and numbers.
  The product of two operators: the program.
  The product of two operators: the model.
-/
import Derived.Test.YtmlaedpamobmhaaGreatPas
import Derived.Test.YtmlaedpamobmhaaGreatPag
import Derived.Test.YtmlaedpamobmhaaGreatPap
namespace Go.Proofs.YtmlaedpamobmhaaGreat
open Go.RowKit
set_option linter.unusedVariables false

/-- the term of a product in which i of the first slopes and k of the second ones were taken. -/
def termN (a b : T) (i k : Nat) : T := ⟨a.c * b.c % 101 * wy a.m.d b.m.x i % 101 * wy a.m.e b.m.y k % 101, ⟨a.m.x + b.m.x - i, a.m.y + b.m.y - k, a.m.d + b.m.d - i, a.m.e + b.m.e - k⟩⟩
def rowN (a b : T) (i k : Nat) : List T := (List.range k).map (termN a b i)
def emitN (a b : T) (i : Nat) : List T := (List.range i).flatMap fun i => rowN a b i (limY a b + 1)
theorem emitN_succ (a b : T) (i : Nat) : emitN a b (i + 1) = emitN a b i ++ rowN a b i (limY a b + 1) := by simp [emitN, List.range_succ]
theorem rowN_succ (a b : T) (i k : Nat) : rowN a b i (k + 1) = rowN a b i k ++ [termN a b i k] := by simp [rowN, List.range_succ]
theorem takeK_fst {lim : Nat} {s t : Int} {k : Nat} (h : k ≤ lim) : (takeK lim s t k).1.1 = (k : Int) := if_pos h
theorem emit_is {a b : T} {g : M} (h : Two a b g) : (emit h (allX a b)).map (·.1) = emitN a b (limX a b + 1) := by
  have key : ∀ i, i ≤ limX a b → ((allY a b).map (termK h (takeK (limX a b) a.m.d b.m.x i))).map (·.1) = rowN a b i (limY a b + 1) := fun i hi => by
    unfold allY uptoK rowN
    rw [List.map_map, List.map_map]
    refine List.map_congr_left (fun k hk => ?_)
    rw [List.mem_range] at hk
    show termT a b g (takeK (limX a b) a.m.d b.m.x i) (takeK (limY a b) a.m.e b.m.y k) = termN a b i k
    unfold termT termN
    rw [takeK_fst hi, takeK_fst (show k ≤ limY a b by omega), h.gx, h.gy, h.gd, h.ge]
    rfl
  have : ∀ n, n ≤ limX a b + 1 → (emit h (uptoK (limX a b) a.m.d b.m.x n)).map (·.1) = emitN a b n := fun n => by
    induction n with
    | zero => intro _; rfl
    | succ n ih =>
      intro hn
      rw [← uptoK_succ, emit_snoc, List.map_append, ih (by omega), key n (by omega), emitN_succ]
  exact this _ (Nat.le_refl _)
theorem addAll_is (c : M → Int) (xs : List TO) : addAll c xs = addAllT c (xs.map (·.1)) := by
  unfold addAll addAllT
  rw [List.foldl_map]
theorem emit_tok {a b : T} {g : M} (h : Two a b g) : TOK (emitN a b (limX a b + 1)) := by
  rw [← emit_is h]
  intro t ht
  obtain ⟨x, _, rfl⟩ := List.mem_map.1 ht
  exact x.2
/-- the product of two terms. -/
def pairL (a b : T) : List T := putAll (emitN a b (limX a b + 1)) []
theorem pairL_facts {a b : T} {g : M} (h : Two a b g) : Falls (pairL a b) ∧ coef (pairL a b) = addAllT (fun _ => 0) (emitN a b (limX a b + 1)) := putAll_facts _ [] (emit_tok h) falls_nil
theorem addL_pair {a b : T} {g : M} (h : Two a b g) {K : List T} (hK : Falls K) {c : M → Int} (hc : ∀ m, 0 ≤ c m ∧ c m ≤ 100) (hKc : ∀ m, m.ok = true → coef K m = c m) : Falls (addL K (pairL a b)) ∧ ∀ m, m.ok = true → coef (addL K (pairL a b)) m = addAll c (emit h (allX a b)) m := by
  have h1 := pairL_facts h
  have h2 := addL_facts hK h1.1
  refine ⟨h2.1, fun m hm => ?_⟩
  rw [h2.2, h1.2, hKc m hm, addAll_is, emit_is h, addAllT_add _ c m (emit_tok h) hc]
/-- one step of a product: nothing, if it is too much. -/
def stepM (K : List T) (a b : T) : Option (List T) := if (a.m.sum b.m).ok = true ∧ (addL K (pairL a b)).length ≤ 400 then some (addL K (pairL a b)) else none
def rowM (K : List T) (a : T) (g : Nat → T) : Nat → Option (List T)
  | 0 => some K
  | k + 1 => (rowM K a g k).bind fun K' => stepM K' a (g k)
def mulM (f : Nat → T) (g : Nat → T) (lb : Nat) : Nat → Option (List T)
  | 0 => some []
  | i + 1 => (mulM f g lb i).bind fun K => rowM K (f i) g lb
theorem rowM_none {K : List T} {a : T} {g : Nat → T} {k : Nat} (h : rowM K a g k = none) : ∀ j, k ≤ j → rowM K a g j = none := fun j hj => by
  induction j with
  | zero =>
    have e : k = 0 := by omega
    rw [e] at h
    exact h
  | succ j ih =>
    by_cases e : k = j + 1
    · rw [← e]; exact h
    · rw [rowM, ih (by omega)]; rfl
theorem mulM_none {f g : Nat → T} {lb i : Nat} (h : mulM f g lb i = none) : ∀ j, i ≤ j → mulM f g lb j = none := fun j hj => by
  induction j with
  | zero =>
    have e : i = 0 := by omega
    rw [e] at h
    exact h
  | succ j ih =>
    by_cases e : i = j + 1
    · rw [← e]; exact h
    · rw [mulM, ih (by omega)]; rfl
def wylMul (f : Nat → T) (la : Nat) (g : Nat → T) (lb : Nat) : List T × Bool := if polOk la f = true ∧ polOk lb g = true then mulO (mulM f g lb la) else ([], false)
theorem rowM_len {K : List T} {a : T} {g : Nat → T} (hK : K.length ≤ 400) : ∀ k K', rowM K a g k = some K' → K'.length ≤ 400
  | 0, K', h => by cases h; exact hK
  | k + 1, K', h => by
    rw [rowM] at h
    cases hr : rowM K a g k with
    | none => rw [hr] at h; cases h
    | some K1 =>
      rw [hr] at h
      change stepM K1 a (g k) = some K' at h
      unfold stepM at h
      split at h
      · rename_i hh; cases h; exact hh.2
      · cases h
theorem mulM_len {f g : Nat → T} {lb : Nat} : ∀ i K, mulM f g lb i = some K → K.length ≤ 400
  | 0, K, h => by cases h; exact Nat.zero_le _
  | i + 1, K, h => by
    rw [mulM] at h
    cases hr : mulM f g lb i with
    | none => rw [hr] at h; cases h
    | some K1 =>
      rw [hr] at h
      exact rowM_len (mulM_len i K1 hr) lb K h
theorem wylMul_len (f : Nat → T) (la : Nat) (g : Nat → T) (lb : Nat) : (wylMul f la g lb).1.length ≤ 400 := by
  unfold wylMul
  split
  · cases h : mulM f g lb la with
    | none => simp [mulO]
    | some K => exact mulM_len la K h
  · simp
end Go.Proofs.YtmlaedpamobmhaaGreat
namespace Go.Proofs.YtmlaedpamobmhaaGreat
open Go.RowKit Go.Maps
set_option linter.unusedVariables false

set_option maxRecDepth 100000 in
set_option maxHeartbeats 8000000 in
theorem wylMulV (w : World) (a b : Option Addr) (la ca lb cb : Nat) (f g : Nat → T) (ha : Rd w a la ca f) (hb : Rd w b lb cb g) :
    Calls Tryz.prog 50 #[.slice a la ca, .slice b lb cb] w fun r w' => ∃ v, r = .returned (.tuple #[v, .bool (wylMul f la g lb).2]) ∧ Below w.heap.size w w' ∧ w'.ownsRow w.heap.size 54 5 v (wylMul f la g lb).1.length (cellsL (wylMul f la g lb).1) := by
  have HA := Hid.mk' ha
  have HB := Hid.mk' hb
  have hla : (la : Int) ≤ 140737488351232 := by have := ha.2.1; omega
  have hlb : (lb : Int) ≤ 140737488351232 := by have := hb.2.1; omega
  clear ha hb
  cases hpa : polOk la f
  · have e1 : wylMul f la g lb = ([], false) := by simp [wylMul, hpa]
    rw [e1]
    go_enter Tryz.func50, Tryz.ntmps50
    go_wp2_with (go_at_call 46; refine (polOkI _ _ _ _ f HA.out).mono ?_; rw [hpa]; rintro r w1 ⟨rfl, hb1⟩; have HB1 := Hid.mk' hb1; clear hb1)
    refine bodyPost_ret (results_tmp2 rfl _ _ _) rfl ?_
    exact ⟨_, rfl, HB1.out, owns_nil w1 _⟩
  · cases hpb : polOk lb g
    · have e1 : wylMul f la g lb = ([], false) := by simp [wylMul, hpb]
      rw [e1]
      go_enter Tryz.func50, Tryz.ntmps50
      go_wp2_with (first
        | (go_at_call_of 46 (Value.slice a la ca); refine (polOkI _ _ _ _ f HA.out).mono ?_; rw [hpa]; rintro r w1 ⟨rfl, hb1⟩; have HB1 := Hid.mk' hb1; clear hb1)
        | (go_at_call_of 46 (Value.slice b lb cb); refine (polOkI _ _ _ _ g (HB.out.below HB1.out)).mono ?_; rw [hpb]; rintro r w2 ⟨rfl, hb2⟩; have HB2 := Hid.mk' hb2; clear hb2))
      refine bodyPost_ret (results_tmp2 rfl _ _ _) rfl ?_
      exact ⟨_, rfl, bel_next HB1.out HB2.out, owns_nil w2 _⟩
    · have e2 : wylMul f la g lb = mulO (mulM f g lb la) := by simp [wylMul, hpa, hpb]
      rw [e2]
      clear e2
      have l1 : la ≤ 400 := by have h := hpa; simp only [polOk, decide_eq_true_eq] at h; exact h.1
      have l2 : lb ≤ 400 := by have h := hpb; simp only [polOk, decide_eq_true_eq] at h; exact h.1
      have HPA := Hid.mk' hpa
      have HPB := Hid.mk' hpb
      have hmm := @run_makeMap Tryz.prog
      go_enter Tryz.func50, Tryz.ntmps50
      go_wp2_with (first
        | (go_at_call_of 46 (Value.slice a la ca); refine (polOkI _ _ _ _ f HA.out).mono ?_; rw [hpa]; rintro r w1 ⟨rfl, hb1⟩; have HB1 := Hid.mk' hb1; clear hb1)
        | (go_at_call_of 46 (Value.slice b lb cb); refine (polOkI _ _ _ _ g (HB.out.below HB1.out)).mono ?_; rw [hpb]; rintro r w2 ⟨rfl, hb2⟩; have HB2 := Hid.mk' (bel_next HB1.out hb2); clear hb2))
      clear hpa hpb
      have HRA := Hid.mk' (HA.out.below HB2.out)
      have HRB := Hid.mk' (HB.out.below HB2.out)
      have HNA := Hid.mk' (HRA.out.apart (Nat.le_refl _))
      have HNB := Hid.mk' (HRB.out.apart (Nat.le_refl _))
      have hlo : w.heap.size ≤ w2.heap.size := HB2.out.size
      have HS0 := Hid.mk' ((sumNew w2).cap)
      have HG0 := Hid.mk' (World.grownBy_alloc w2 (.map #[] 0) (some w2.heap.size))
      generalize hw3 : w2.alloc (.map #[] 0) = w3 at *
      clear hw3 hmm
      go_loopw [22] (fun v wr => ∃ (i : Nat) (K : List T) (c : M → Int), i ≤ la ∧ v = .int .i64 (i : Int) ∧ mulM f g lb i = some K ∧ Falls K ∧ (∀ m, m.ok = true → coef K m = c m) ∧ SumR wr w2.heap.size 65536 c ∧ w2.grownBy wr (some w2.heap.size)) (fun v _ => la - (intOf v).toNat)
      case atStart => exact ⟨0, [], fun _ => 0, Nat.zero_le _, rfl, rfl, falls_nil, fun _ _ => rfl, HS0.out, HG0.out⟩
      case round =>
        obtain ⟨i, K, c, hi, rfl, hM, hKf, hKc, hS, hg⟩ := hrel
        by_cases hlt : i < la
        · have hil : (i : Int) < (la : Int) := by omega
          have hri := HRA.out.grown hg HNA.out
          rcases hri.2.2 with h0 | ⟨pb, off, hpe, hblt, hcl⟩
          · omega
          obtain ⟨g0, g1, g2, g3, g4⟩ := hcl i hlt
          have hfi := polOk_at HPA.out hlt
          have HS := Hid.mk' hS
          have HG := Hid.mk' hg
          have HM := Hid.mk' hM
          clear hcl hri hS hg hM
          subst hpe
          go_wp2
          have hT1 : TermAt (wr.alloc (.cells #[.int .i64 (f i).c, .int .i64 (f i).m.x, .int .i64 (f i).m.y, .int .i64 (f i).m.d, .int .i64 (f i).m.e] 54)) wr.heap.size (f i) := World.alloc_heap_new wr _
          have HS1 := Hid.mk' (HS.out.grown (World.grownBy_alloc wr (.cells #[.int .i64 (f i).c, .int .i64 (f i).m.x, .int .i64 (f i).m.y, .int .i64 (f i).m.d, .int .i64 (f i).m.e] 54) none) (by simp))
          have HG1 := Hid.mk' (HG.out.trans (World.grownBy_alloc wr (.cells #[.int .i64 (f i).c, .int .i64 (f i).m.x, .int .i64 (f i).m.y, .int .i64 (f i).m.d, .int .i64 (f i).m.e] 54) (some w2.heap.size)))
          have hbl : w2.heap.size < wr.heap.size := HS.out.lt
          have hs1 : (wr.alloc (.cells #[.int .i64 (f i).c, .int .i64 (f i).m.x, .int .i64 (f i).m.y, .int .i64 (f i).m.d, .int .i64 (f i).m.e] 54)).heap.size = wr.heap.size + 1 := by simp
          clear g0 g1 g2 g3 g4
          generalize wr.alloc (.cells #[.int .i64 (f i).c, .int .i64 (f i).m.x, .int .i64 (f i).m.y, .int .i64 (f i).m.d, .int .i64 (f i).m.e] 54) = wi at *
          generalize wr.heap.size = Bf at *
          go_loopw [28] (fun v wr' => ∃ (k : Nat) (K' : List T) (c' : M → Int), k ≤ lb ∧ v = .int .i64 (k : Int) ∧ rowM K (f i) g k = some K' ∧ Falls K' ∧ (∀ m, m.ok = true → coef K' m = c' m) ∧ SumR wr' w2.heap.size 65536 c' ∧ w2.grownBy wr' (some w2.heap.size) ∧ TermAt wr' Bf (f i)) (fun v _ => lb - (intOf v).toNat)
          case atStart => exact ⟨0, K, c, Nat.zero_le _, rfl, rfl, hKf, hKc, HS1.out, HG1.out, hT1⟩
          case round =>
            obtain ⟨k, K', c', hk, rfl, hM', hKf', hKc', hS', hg', hT'⟩ := hrel
            by_cases hlt2 : k < lb
            · have hkl : (k : Int) < (lb : Int) := by omega
              have hrk := HRB.out.grown hg' HNB.out
              rcases hrk.2.2 with h0 | ⟨pb2, off2, hpe2, hblt2, hcl2⟩
              · omega
              obtain ⟨g0, g1, g2, g3, g4⟩ := hcl2 k hlt2
              obtain ⟨t0, t1, t2, t3, t4⟩ := hT'.cells
              have hgk := polOk_at HPB.out hlt2
              have htl : Bf < wr.heap.size := (Array.getElem?_eq_some_iff.1 hT').1
              have HSk := Hid.mk' (hS'.grown (World.grownBy_alloc wr (.cells #[.int .i64 (g k).c, .int .i64 (g k).m.x, .int .i64 (g k).m.y, .int .i64 (g k).m.d, .int .i64 (g k).m.e] 54) none) (by simp))
              have HGk := Hid.mk' (hg'.trans (World.grownBy_alloc wr (.cells #[.int .i64 (g k).c, .int .i64 (g k).m.x, .int .i64 (g k).m.y, .int .i64 (g k).m.d, .int .i64 (g k).m.e] 54) (some w2.heap.size)))
              have HTk : Hid (TermAt (wr.alloc (.cells #[.int .i64 (g k).c, .int .i64 (g k).m.x, .int .i64 (g k).m.y, .int .i64 (g k).m.d, .int .i64 (g k).m.e] 54)) Bf (f i)) := (Below.heap_alloc _ _ _ htl).trans hT'
              have HMk := Hid.mk' hM'
              have hcr := hS'.range
              clear hcl2 hrk hS' hg' hM' hT'
              subst hpe2
              by_cases hok : ((f i).m.sum (g k).m).ok = true
              · have hTwo : Two (f i) (g k) ((f i).m.sum (g k).m) := Two.of hfi.1 hgk.1 hok hfi.2 hgk.2
                obtain ⟨nf, nc⟩ := addL_pair hTwo hKf' hcr hKc'
                have hcall := addProdI _ w2.heap.size c' HSk.out (f i) (g k) hTwo nf nc
                by_cases h4 : (addL K' (pairL (f i) (g k))).length ≤ 400
                · have hstep : rowM K (f i) g (k + 1) = some (addL K' (pairL (f i) (g k))) := by rw [rowM, HMk.out]; show stepM _ _ _ = _; unfold stepM; rw [if_pos ⟨hok, h4⟩]
                  have HST := Hid.mk' hstep
                  rw [decide_eq_true h4] at hcall
                  clear hstep
                  go_wp2_with (go_at_call 90; refine hcall.mono ?_; rintro r w6 ⟨rfl, hs6, hg6⟩; have HS6 := Hid.mk' hs6; have HG6 := Hid.mk' hg6; clear hs6 hg6)
                  go_roundw
                  case rel => exact ⟨k + 1, _, _, by omega, by go_num, HST.out, nf, nc, HS6.out, HGk.out.trans HG6.out, (HG6.out.block _ (by simp; omega) (fun e => by cases e; omega)).trans HTk.out⟩
                  case measure => simp [intOf]; omega
                · have hstep : rowM K (f i) g (k + 1) = none := by rw [rowM, HMk.out]; show stepM _ _ _ = _; unfold stepM; rw [if_neg (fun h => h4 h.2)]
                  have hno : mulM f g lb la = none := mulM_none (i := i + 1) (by rw [mulM, HM.out]; exact rowM_none hstep lb (by omega)) la (by omega)
                  rw [decide_eq_false h4] at hcall
                  clear hstep
                  go_wp2_with (go_at_call 90; refine hcall.mono ?_; rintro r w6 ⟨rfl, hs6, hg6⟩; have HG6 := Hid.mk' hg6; clear hs6 hg6)
                  refine bodyPost_ret (results_tmp2 rfl _ _ _) rfl ?_
                  rw [hno]
                  exact ⟨_, rfl, HB2.out.grown (HGk.out.trans HG6.out) hlo (fun k' e => by cases e; exact hlo), owns_nil w6 _⟩
              · have hstep : rowM K (f i) g (k + 1) = none := by rw [rowM, HMk.out]; show stepM _ _ _ = _; unfold stepM; rw [if_neg (fun h => hok h.1)]
                have hno : mulM f g lb la = none := mulM_none (i := i + 1) (by rw [mulM, HM.out]; exact rowM_none hstep lb (by omega)) la (by omega)
                have hcall := addProdNo (wr.alloc (.cells #[.int .i64 (g k).c, .int .i64 (g k).m.x, .int .i64 (g k).m.y, .int .i64 (g k).m.d, .int .i64 (g k).m.e] 54)) w2.heap.size (f i) (g k) hfi.1 hgk.1 (by simpa using hok)
                clear hstep
                go_wp2_with (go_at_call 90; refine hcall.mono ?_; rintro r w6 ⟨rfl, hb6⟩; have HG6 := Hid.mk' (below_grown hb6 (some w2.heap.size)); clear hb6)
                refine bodyPost_ret (results_tmp2 rfl _ _ _) rfl ?_
                rw [hno]
                exact ⟨_, rfl, HB2.out.grown (HGk.out.trans HG6.out) hlo (fun k' e => by cases e; exact hlo), owns_nil w6 _⟩
            · obtain rfl : k = lb := by omega
              have HMk : Hid (mulM f g k (i + 1) = some K') := by show _ = _; rw [mulM, HM.out]; exact hM'
              have HSk := Hid.mk' hS'
              have HGk := Hid.mk' hg'
              clear hS' hg' hM' hT'
              go_wp2
              go_roundw
              case rel => exact ⟨i + 1, K', c', by omega, by go_num, HMk.out, hKf', hKc', HSk.out, HGk.out⟩
              case measure => simp [intOf]; omega
        · obtain rfl : i = la := by omega
          have hKl := mulM_len _ _ hM
          have e3 : mulO (mulM f g lb i) = sumL K := by rw [hM]; simp [mulO, sumL, hKl]
          go_wp2_with (go_at_call 91; refine (sumOpI _ _ _ _ hS (by omega) hKf hKc).mono ?_; rintro r w5 ⟨v, rfl, hb5, ho5⟩)
          refine bodyPost_ret (results_tmp2 rfl _ _ _) rfl ?_
          rw [e3]
          have hB4 : Below w.heap.size w wr := HB2.out.grown hg hlo (fun k' e => by cases e; exact hlo)
          exact ⟨_, rfl, hB4.trans (hb5.mono hB4.size), ownsRow_low ho5 hB4.size⟩
theorem wylMulI (w : World) (a b : Option Addr) (la ca lb cb : Nat) (f g : Nat → T) (ha : Rd w a la ca f) (hb : Rd w b lb cb g) :
    Calls Tryz.prog 50 #[.slice a la ca, .slice b lb cb] w fun r w' => ∃ a' cap', r = .returned (.tuple #[.slice a' (wylMul f la g lb).1.length cap', .bool (wylMul f la g lb).2]) ∧ Below w.heap.size w w' ∧ Out w.heap.size w' a' cap' (wylMul f la g lb).1 := by
  refine (wylMulV w a b la ca lb cb f g ha hb).mono ?_
  rintro r w' ⟨v, rfl, hb1, ho1⟩
  have hlen := wylMul_len f la g lb
  obtain ⟨a', cap', rfl, hout⟩ := out_of_owns ho1 (by omega)
  exact ⟨a', cap', rfl, hb1, hout⟩
end Go.Proofs.YtmlaedpamobmhaaGreat
namespace Go.Proofs.YtmlaedpamobmhaaGreat
open Go.RowKit
set_option linter.unusedVariables false

theorem fChoose_range (n k : Int) : 0 ≤ fChoose n k ∧ fChoose n k ≤ 100 := by unfold fChoose; split <;> omega
theorem fl_range (n : Int) : ∀ k : Nat, 0 ≤ fl n k ∧ fl n k ≤ 100
  | 0 => by unfold fl; omega
  | k + 1 => by unfold fl; omega
theorem fFall_range (n k : Int) : 0 ≤ fFall n k ∧ fFall n k ≤ 100 := by
  unfold fFall
  split
  · exact fl_range _ _
  · omega
set_option maxHeartbeats 1000000 in
theorem pairS (s t k : Int) (w : World) :
    Calls Tryz.prog 158 #[.int .i64 s, .int .i64 t, .int .i64 k] w fun e w' => e = .returned (.int .i64 (wy s t k)) ∧ w' = w := by
  have h1 := fChoose_range s k
  have h2 := fFall_range t k
  have hm : wy s t k = fChoose s k * fFall t k % 101 := fMul_in h1.1 h1.2 h2.1 h2.2
  have hb : 0 ≤ fChoose s k * fFall t k ∧ fChoose s k * fFall t k ≤ 10000 := ⟨Int.mul_nonneg h1.1 h2.1, by
    have := Int.mul_le_mul h1.2 h2.2 h2.1 (by omega); omega⟩
  rw [hm]
  have hc := chooseS s k
  have hf := fallS t k
  generalize fChoose s k = p at *
  generalize fFall t k = q at *
  generalize hpq : p * q = r at *
  clear hm
  go_enter Tryz.func158, Tryz.ntmps158
  go_wp2_with (first
    | (go_at_call 170; refine (hc _).mono ?_; rintro e w' ⟨rfl, hw'⟩; obtain rfl := hw'.symm; clear hw')
    | (go_at_call 171; refine (hf _).mono ?_; rintro e w' ⟨rfl, hw'⟩; obtain rfl := hw'.symm; clear hw'))
  go_ret
  exact ⟨rfl, rfl⟩
theorem putAll_snocW (xs : List T) (t : T) (L : List T) : putAll (xs ++ [t]) L = putT t.c t.m (putAll xs L) := by simp [putAll]
theorem putAll_len : ∀ (xs L : List T), (putAll xs L).length ≤ L.length + xs.length
  | [], L => Nat.le_refl _
  | t :: r, L => by
    have h1 := putAll_len r (putT t.c t.m L)
    have h2 := putT_len t.c t.m L
    show (putAll r (putT t.c t.m L)).length ≤ _
    rw [List.length_cons]
    omega
theorem emitN_len (a b : T) (i : Nat) : (emitN a b i).length = i * (limY a b + 1) := by
  unfold emitN
  rw [flat_len (limY a b + 1) _ (fun i => by simp [rowN])]
  simp
def MAt (W : World) (Bx : Nat) (m : M) : Prop := W.heap[Bx]? = some (.cells #[.int .i64 m.x, .int .i64 m.y, .int .i64 m.d, .int .i64 m.e] 52 (0, 0))
theorem MAt.cells {W : World} {Bx : Nat} {m : M} (h : MAt W Bx m) : W.cell? ⟨Bx, 0, none⟩ = some (.int .i64 m.x) ∧ W.cell? ⟨Bx, 1, none⟩ = some (.int .i64 m.y) ∧ W.cell? ⟨Bx, 2, none⟩ = some (.int .i64 m.d) ∧ W.cell? ⟨Bx, 3, none⟩ = some (.int .i64 m.e) := by
  unfold MAt at h
  refine ⟨?_, ?_, ?_, ?_⟩ <;> (unfold World.cell?; simp only [h]; rfl)
set_option maxRecDepth 100000 in
set_option maxHeartbeats 8000000 in
theorem monoNo (w : World) (a b : T) (h3 : (a.m.sum b.m).ok = false) :
    Calls Tryz.prog 130 #[.agg #[.int .i64 a.c, .int .i64 a.m.x, .int .i64 a.m.y, .int .i64 a.m.d, .int .i64 a.m.e], .agg #[.int .i64 b.c, .int .i64 b.m.x, .int .i64 b.m.y, .int .i64 b.m.d, .int .i64 b.m.e]] w fun e w' => ∃ v, e = .returned (.tuple #[v, .bool false]) ∧ Below w.heap.size w w' ∧ w'.ownsRow w.heap.size 54 5 v 0 (cellsL []) := by
  have hm : M.mul a.m b.m = (M.zero, false) := by simp [M.mul, h3]
  have hc := monMulS a.m.x a.m.y a.m.d a.m.e b.m.x b.m.y b.m.d b.m.e
  have ea : (⟨a.m.x, a.m.y, a.m.d, a.m.e⟩ : M) = a.m := rfl
  have eb : (⟨b.m.x, b.m.y, b.m.d, b.m.e⟩ : M) = b.m := rfl
  rw [ea, eb, hm] at hc
  have HO := Hid.mk' (owns_none ((w.alloc (.cells #[.int .i64 a.c, .int .i64 a.m.x, .int .i64 a.m.y, .int .i64 a.m.d, .int .i64 a.m.e] 54)).alloc (.cells #[.int .i64 b.c, .int .i64 b.m.x, .int .i64 b.m.y, .int .i64 b.m.d, .int .i64 b.m.e] 54)) w.heap.size (by simp; omega))
  have HW := Hid.mk' ((((Below.refl w.heap.size w).alloc (Nat.le_refl _) (.cells #[.int .i64 a.c, .int .i64 a.m.x, .int .i64 a.m.y, .int .i64 a.m.d, .int .i64 a.m.e] 54)).alloc (by simp) (.cells #[.int .i64 b.c, .int .i64 b.m.x, .int .i64 b.m.y, .int .i64 b.m.d, .int .i64 b.m.e] 54)).alloc (by simp; omega) (.cells #[] 54))
  go_enter Tryz.func130, Tryz.ntmps130
  go_wp2_with (go_at_call 157; refine (hc _).mono ?_; rintro e w1 ⟨rfl, hb1⟩)
  refine bodyPost_ret (results_tmp2 rfl _ _ _) rfl ?_
  have hO := HO.out
  simp only [World.size_alloc] at hO
  have hb2 := (HW.out.trans (hb1.mono (by simp; omega)))
  exact ⟨_, rfl, hb2.alloc hb2.size _, owns_below hO (hb1.alloc (Nat.le_trans (Nat.le_refl _) hb1.size) _)⟩
set_option maxRecDepth 100000 in
set_option maxHeartbeats 8000000 in
theorem monoYes (w : World) (a b : T) (h : Two a b (a.m.sum b.m)) :
    Calls Tryz.prog 130 #[.agg #[.int .i64 a.c, .int .i64 a.m.x, .int .i64 a.m.y, .int .i64 a.m.d, .int .i64 a.m.e], .agg #[.int .i64 b.c, .int .i64 b.m.x, .int .i64 b.m.y, .int .i64 b.m.d, .int .i64 b.m.e]] w fun e w' => ∃ v, e = .returned (.tuple #[v, .bool true]) ∧ Below w.heap.size w w' ∧ w'.ownsRow w.heap.size 54 5 v (pairL a b).length (cellsL (pairL a b)) := by
  have hm : M.mul a.m b.m = (a.m.sum b.m, true) := by simp [M.mul, h.ok1, h.ok2, h.ok3]
  have hc := monMulS a.m.x a.m.y a.m.d a.m.e b.m.x b.m.y b.m.d b.m.e
  have ea : (⟨a.m.x, a.m.y, a.m.d, a.m.e⟩ : M) = a.m := rfl
  have eb : (⟨b.m.x, b.m.y, b.m.d, b.m.e⟩ : M) = b.m := rfl
  rw [ea, eb, hm] at hc
  have m1 := M.ok_iff.1 h.ok1
  have m2 := M.ok_iff.1 h.ok2
  have m3 := M.ok_iff.1 h.ok3
  have lx := h.lx
  have ly := h.ly
  have k1 := h.c1
  have k2 := h.c2
  have H := Hid.mk' h
  have HO := Hid.mk' (owns_none ((w.alloc (.cells #[.int .i64 a.c, .int .i64 a.m.x, .int .i64 a.m.y, .int .i64 a.m.d, .int .i64 a.m.e] 54)).alloc (.cells #[.int .i64 b.c, .int .i64 b.m.x, .int .i64 b.m.y, .int .i64 b.m.d, .int .i64 b.m.e] 54)) w.heap.size (by simp; omega))
  have HW := Hid.mk' ((((Below.refl w.heap.size w).alloc (Nat.le_refl _) (.cells #[.int .i64 a.c, .int .i64 a.m.x, .int .i64 a.m.y, .int .i64 a.m.d, .int .i64 a.m.e] 54)).alloc (by simp) (.cells #[.int .i64 b.c, .int .i64 b.m.x, .int .i64 b.m.y, .int .i64 b.m.d, .int .i64 b.m.e] 54)).alloc (by simp; omega) (.cells #[] 54))
  have HTA : Hid (TermAt (((w.alloc (.cells #[.int .i64 a.c, .int .i64 a.m.x, .int .i64 a.m.y, .int .i64 a.m.d, .int .i64 a.m.e] 54)).alloc (.cells #[.int .i64 b.c, .int .i64 b.m.x, .int .i64 b.m.y, .int .i64 b.m.d, .int .i64 b.m.e] 54)).alloc (.cells #[] 54)) w.heap.size a) := (Below.heap_alloc _ _ _ (by simp; omega)).trans ((Below.heap_alloc _ _ _ (by simp)).trans (World.alloc_heap_new w _))
  have HTB : Hid (TermAt (((w.alloc (.cells #[.int .i64 a.c, .int .i64 a.m.x, .int .i64 a.m.y, .int .i64 a.m.d, .int .i64 a.m.e] 54)).alloc (.cells #[.int .i64 b.c, .int .i64 b.m.x, .int .i64 b.m.y, .int .i64 b.m.d, .int .i64 b.m.e] 54)).alloc (.cells #[] 54)) (w.heap.size + 1) b) := by
    have := World.alloc_heap_new (w.alloc (.cells #[.int .i64 a.c, .int .i64 a.m.x, .int .i64 a.m.y, .int .i64 a.m.d, .int .i64 a.m.e] 54)) (.cells #[.int .i64 b.c, .int .i64 b.m.x, .int .i64 b.m.y, .int .i64 b.m.d, .int .i64 b.m.e] 54)
    rw [World.size_alloc] at this
    exact (Below.heap_alloc _ _ _ (by simp)).trans this
  clear h
  generalize a.m.sum b.m = g at *
  go_enter Tryz.func130, Tryz.ntmps130
  go_wp2_with (go_at_call 157; refine (hc _).mono ?_; rintro e w1 ⟨rfl, hb1⟩; have HB1 := Hid.mk' hb1; clear hb1)
  have hb1 := HB1.out
  have hO := HO.out
  simp only [World.size_alloc] at hO
  have hbw : Below w.heap.size w w1 := HW.out.trans (hb1.mono (by simp; omega))
  have hs1 := hb1.size
  simp only [World.size_alloc] at hs1
  have hT1 : TermAt w1 w.heap.size a := (hb1.block _ (by simp; omega)).trans HTA.out
  have hT2 : TermAt w1 (w.heap.size + 1) b := (hb1.block _ (by simp)).trans HTB.out
  have hO1 := owns_below hO hb1
  have hG : MAt (w1.alloc (.cells #[.int .i64 g.x, .int .i64 g.y, .int .i64 g.d, .int .i64 g.e] 52)) w1.heap.size g := World.alloc_heap_new w1 _
  have hT1' : TermAt (w1.alloc (.cells #[.int .i64 g.x, .int .i64 g.y, .int .i64 g.d, .int .i64 g.e] 52)) w.heap.size a := (Below.heap_alloc _ _ _ (by omega)).trans hT1
  have hT2' : TermAt (w1.alloc (.cells #[.int .i64 g.x, .int .i64 g.y, .int .i64 g.d, .int .i64 g.e] 52)) (w.heap.size + 1) b := (Below.heap_alloc _ _ _ (by omega)).trans hT2
  have hO2 := hO1.alloc (.cells #[.int .i64 g.x, .int .i64 g.y, .int .i64 g.d, .int .i64 g.e] 52)
  have hB2 := hbw.alloc hbw.size (.cells #[.int .i64 g.x, .int .i64 g.y, .int .i64 g.d, .int .i64 g.e] 52)
  have hs2 : (w1.alloc (.cells #[.int .i64 g.x, .int .i64 g.y, .int .i64 g.d, .int .i64 g.e] 52)).heap.size = w1.heap.size + 1 := by simp
  generalize w1.alloc (.cells #[.int .i64 g.x, .int .i64 g.y, .int .i64 g.d, .int .i64 g.e] 52) = w3 at *
  generalize w1.heap.size = Bg at *
  clear hb1 hO hT1 hT2 hO1 hbw HB1 HO HW HTA HTB hc
  have hq0 : 0 ≤ a.c * b.c := Int.mul_nonneg k1.1 k2.1
  have hq1 : a.c * b.c ≤ 10000 := by have := Int.mul_le_mul k1.2 k2.2 k2.1 (by omega); omega
  go_loopw [6, 9] (fun v ii wr => ∃ i : Nat, i ≤ limX a b + 1 ∧ ii = .int .i64 (i : Int) ∧ wr.ownsRow w.heap.size 54 5 v (putAll (emitN a b i) []).length (cellsL (putAll (emitN a b i) [])) ∧ Below w.heap.size w wr ∧ TermAt wr w.heap.size a ∧ TermAt wr (w.heap.size + 1) b ∧ MAt wr Bg g) (fun _ ii _ => limX a b + 1 - (intOf ii).toNat)
  case atStart => exact ⟨0, Nat.zero_le _, rfl, hO2, hB2, hT1', hT2', hG⟩
  case round =>
    obtain ⟨i, hi, rfl, hown, hbl, hTa, hTb, hGg⟩ := hrel
    obtain ⟨a0, a1, a2, a3, a4⟩ := hTa.cells
    obtain ⟨b0, b1, b2, b3, b4⟩ := hTb.cells
    obtain ⟨g0, g1, g2, g3⟩ := hGg.cells
    by_cases hlt : i ≤ limX a b
    · have i1 : (i : Int) ≤ a.m.d := by omega
      have i2 : (i : Int) ≤ b.m.x := by omega
      have HOWN := Hid.mk' hown
      have HBL := Hid.mk' hbl
      have HTA2 := Hid.mk' hTa
      have HTB2 := Hid.mk' hTb
      have HGG := Hid.mk' hGg
      clear hown hbl hTa hTb hGg
      go_wp2
      clear a0 a1 a2 a3 a4 b0 b1 b2 b3 b4 g0 g1 g2 g3
      go_loopw [6, 10] (fun v kk wr => ∃ k : Nat, k ≤ limY a b + 1 ∧ kk = .int .i64 (k : Int) ∧ wr.ownsRow w.heap.size 54 5 v (putAll (emitN a b i ++ rowN a b i k) []).length (cellsL (putAll (emitN a b i ++ rowN a b i k) [])) ∧ Below w.heap.size w wr ∧ TermAt wr w.heap.size a ∧ TermAt wr (w.heap.size + 1) b ∧ MAt wr Bg g) (fun _ kk _ => limY a b + 1 - (intOf kk).toNat)
      case atStart => exact ⟨0, Nat.zero_le _, rfl, by have e0 : emitN a b i ++ rowN a b i 0 = emitN a b i := List.append_nil _; rw [e0]; exact HOWN.out, HBL.out, HTA2.out, HTB2.out, HGG.out⟩
      case round =>
        obtain ⟨k, hk, rfl, hown, hbl, hTa, hTb, hGg⟩ := hrel
        obtain ⟨a0, a1, a2, a3, a4⟩ := hTa.cells
        obtain ⟨b0, b1, b2, b3, b4⟩ := hTb.cells
        obtain ⟨g0, g1, g2, g3⟩ := hGg.cells
        have HOK := Hid.mk' hown
        have HBK := Hid.mk' hbl
        have HTAk := Hid.mk' hTa
        have HTBk := Hid.mk' hTb
        have HGGk := Hid.mk' hGg
        clear hown hbl hTa hTb hGg
        by_cases hlt2 : k ≤ limY a b
        · have j1 : (k : Int) ≤ a.m.e := by omega
          have j2 : (k : Int) ≤ b.m.y := by omega
          have p1 := fMul_range (fChoose a.m.d i) (fFall b.m.x i)
          have p2 := fMul_range (fChoose a.m.e k) (fFall b.m.y k)
          change 0 ≤ wy a.m.d b.m.x i ∧ wy a.m.d b.m.x i ≤ 100 at p1
          change 0 ≤ wy a.m.e b.m.y k ∧ wy a.m.e b.m.y k ≤ 100 at p2
          have q0 : 0 ≤ a.c * b.c % 101 ∧ a.c * b.c % 101 ≤ 100 := by omega
          have q1 : 0 ≤ a.c * b.c % 101 * wy a.m.d b.m.x i := Int.mul_nonneg q0.1 p1.1
          have q2 : a.c * b.c % 101 * wy a.m.d b.m.x i ≤ 10000 := by have := Int.mul_le_mul q0.2 p1.2 p1.1 (by omega); omega
          have q3 : 0 ≤ a.c * b.c % 101 * wy a.m.d b.m.x i % 101 ∧ a.c * b.c % 101 * wy a.m.d b.m.x i % 101 ≤ 100 := by omega
          have q4 : 0 ≤ a.c * b.c % 101 * wy a.m.d b.m.x i % 101 * wy a.m.e b.m.y k := Int.mul_nonneg q3.1 p2.1
          have q5 : a.c * b.c % 101 * wy a.m.d b.m.x i % 101 * wy a.m.e b.m.y k ≤ 10000 := by have := Int.mul_le_mul q3.2 p2.2 p2.1 (by omega); omega
          have hTN : termN a b i k = ⟨a.c * b.c % 101 * wy a.m.d b.m.x i % 101 * wy a.m.e b.m.y k % 101, ⟨g.x - i, g.y - k, g.d - i, g.e - k⟩⟩ := by
            unfold termN
            rw [H.out.gx, H.out.gy, H.out.gd, H.out.ge]
          have htok : TOK (emitN a b i ++ rowN a b i k) := by
            have hall := emit_tok H.out
            intro t ht
            refine hall t ?_
            unfold emitN
            rcases List.mem_append.1 ht with h1 | h1
            · unfold emitN at h1
              obtain ⟨i', hi', h2⟩ := List.mem_flatMap.1 h1
              exact List.mem_flatMap.2 ⟨i', List.mem_range.2 (by have := List.mem_range.1 hi'; omega), h2⟩
            · refine List.mem_flatMap.2 ⟨i, List.mem_range.2 (by omega), ?_⟩
              unfold rowN at h1 ⊢
              obtain ⟨k', hk', h2⟩ := List.mem_map.1 h1
              exact List.mem_map.2 ⟨k', List.mem_range.2 (by have := List.mem_range.1 hk'; omega), h2⟩
          have hfl := (putAll_facts _ [] htok falls_nil).1
          have hlen : (putAll (emitN a b i ++ rowN a b i k) []).length ≤ 1000 := by
            have h1 := putAll_len (emitN a b i ++ rowN a b i k) []
            have h2 : (rowN a b i k).length = k := by simp [rowN]
            rw [List.length_append, emitN_len, h2] at h1
            have h3 : i * (limY a b + 1) ≤ 15 * 16 := Nat.mul_le_mul (by omega) (by omega)
            simp at h1
            omega
          have hnx : putAll (emitN a b i ++ rowN a b i (k + 1)) [] = putT (a.c * b.c % 101 * wy a.m.d b.m.x i % 101 * wy a.m.e b.m.y k % 101) ⟨g.x - i, g.y - k, g.d - i, g.e - k⟩ (putAll (emitN a b i ++ rowN a b i k) []) := by
            rw [rowN_succ, ← List.append_assoc, putAll_snocW, hTN]
          have HNX := Hid.mk' hnx
          have HFL := Hid.mk' hfl
          have HLE := Hid.mk' hlen
          clear hTN htok hfl hlen hnx
          go_wp2_with (first
            | (go_at_call 158; refine (pairS _ _ _ _).mono ?_; rintro e w' ⟨rfl, hw'⟩; obtain rfl := hw'.symm; clear hw')
            | (go_at_call 78; refine (l4PutS _ w.heap.size _ _ _ _ _ _ _ HOK.out HBK.out.size HLE.out (cok_falls HFL.out) (by omega) (by omega)).mono ?_; rintro e w5 ⟨v5, rfl, hb5, ho5⟩; have HB5 := Hid.mk' hb5; have HO5 := Hid.mk' ho5; clear hb5 ho5))
          go_roundw
          case rel => exact ⟨k + 1, by omega, by go_num, by rw [HNX.out]; exact HO5.out, HBK.out.trans (HB5.out.mono HBK.out.size), (HB5.out.block _ (Array.getElem?_eq_some_iff.1 HTAk.out).1).trans HTAk.out, (HB5.out.block _ (Array.getElem?_eq_some_iff.1 HTBk.out).1).trans HTBk.out, (HB5.out.block _ (Array.getElem?_eq_some_iff.1 HGGk.out).1).trans HGGk.out⟩
          case measure => simp [intOf]; omega
        · have hkl : k = limY a b + 1 := by omega
          subst hkl
          have hoe := HOK.out
          rw [← emitN_succ] at hoe
          have HOE := Hid.mk' hoe
          clear hoe
          by_cases hd : ((limY a b + 1 : Nat) : Int) ≤ a.m.e
          · have hx : ¬ ((limY a b + 1 : Nat) : Int) ≤ b.m.y := by omega
            go_wp2
            go_roundw
            case rel => exact ⟨i + 1, by omega, by go_num, HOE.out, HBK.out, HTAk.out, HTBk.out, HGGk.out⟩
            case measure => simp [intOf]; omega
          · go_wp2
            go_roundw
            case rel => exact ⟨i + 1, by omega, by go_num, HOE.out, HBK.out, HTAk.out, HTBk.out, HGGk.out⟩
            case measure => simp [intOf]; omega
    · have hil : i = limX a b + 1 := by omega
      subst hil
      by_cases hd : ((limX a b + 1 : Nat) : Int) ≤ a.m.d
      · have hx : ¬ ((limX a b + 1 : Nat) : Int) ≤ b.m.x := by omega
        go_wp2
        refine bodyPost_ret (results_tmp2 rfl _ _ _) rfl ?_
        exact ⟨_, rfl, hbl, hown⟩
      · go_wp2
        refine bodyPost_ret (results_tmp2 rfl _ _ _) rfl ?_
        exact ⟨_, rfl, hbl, hown⟩
/-- the product of two terms, or none. -/
def pairO (a b : T) : List T := if (a.m.sum b.m).ok = true then pairL a b else []
theorem monoS (w : World) (a b : T) (h1 : a.m.ok = true ∧ 0 ≤ a.c ∧ a.c ≤ 100) (h2 : b.m.ok = true ∧ 0 ≤ b.c ∧ b.c ≤ 100) :
    Calls Tryz.prog 130 #[.agg #[.int .i64 a.c, .int .i64 a.m.x, .int .i64 a.m.y, .int .i64 a.m.d, .int .i64 a.m.e], .agg #[.int .i64 b.c, .int .i64 b.m.x, .int .i64 b.m.y, .int .i64 b.m.d, .int .i64 b.m.e]] w fun e w' => ∃ v, e = .returned (.tuple #[v, .bool (a.m.sum b.m).ok]) ∧ Below w.heap.size w w' ∧ w'.ownsRow w.heap.size 54 5 v (pairO a b).length (cellsL (pairO a b)) := by
  cases hok : (a.m.sum b.m).ok
  · have e : pairO a b = [] := by simp [pairO, hok]
    rw [e]
    exact monoNo w a b hok
  · have e : pairO a b = pairL a b := by simp [pairO, hok]
    rw [e]
    exact monoYes w a b ⟨h1.1, h2.1, hok, rfl, rfl, rfl, rfl, h1.2, h2.2⟩
theorem pairL_small {a b : T} (h : Two a b (a.m.sum b.m)) : (pairL a b).length ≤ 1000 := by
  have h1 := putAll_len (emitN a b (limX a b + 1)) []
  have m1 := M.ok_iff.1 h.ok1
  have lx := h.lx
  have ly := h.ly
  rw [emitN_len] at h1
  have h3 : (limX a b + 1) * (limY a b + 1) ≤ 16 * 16 := Nat.mul_le_mul (by omega) (by omega)
  unfold pairL
  simp at h1
  omega
theorem pairO_small {a b : T} (h1 : a.m.ok = true ∧ 0 ≤ a.c ∧ a.c ≤ 100) (h2 : b.m.ok = true ∧ 0 ≤ b.c ∧ b.c ≤ 100) : (pairO a b).length ≤ 1000 := by
  unfold pairO
  split
  · rename_i hok; exact pairL_small ⟨h1.1, h2.1, hok, rfl, rfl, rfl, rfl, h1.2, h2.2⟩
  · simp
end Go.Proofs.YtmlaedpamobmhaaGreat
