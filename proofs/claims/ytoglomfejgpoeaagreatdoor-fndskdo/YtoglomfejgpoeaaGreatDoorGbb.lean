/-
  Lists of terms that fall: their sums, and what is put to them.
  Products of operators: their lists and numbers.
  The product of two operators: the program.
-/
import Derived.Test.YtoglomfejgpoeaaGreatDoorGax
import Derived.Test.YtoglomfejgpoeaaGreatDoorGba
import Derived.Test.YtoglomfejgpoeaaGreatDoorGar
import Derived.Test.YtoglomfejgpoeaaGreatDoorGaz
import Derived.Test.YtoglomfejgpoeaaGreatDoorGay
namespace Go.Proofs.YtoglomfejgpoeaaGreatDoor
open Go.RowKit
set_option linter.unusedVariables false

theorem fromC_shift (f : Nat → T) (m : M) : ∀ (u i : Nat), fromC f u (i + 1) m = fromC (fun j => f (j + 1)) u i m
  | 0, _ => rfl
  | u + 1, i => by rw [fromC, fromC, fromC_shift f m u (i + 1)]
theorem fromC_lf (m : M) : ∀ L : List T, fromC (lf L) L.length 0 m = coef L m
  | [] => rfl
  | t :: r => by
    have e : (fun j => lf (t :: r) (j + 1)) = lf r := by funext j; simp [lf]
    have e0 : lf (t :: r) 0 = t := rfl
    rw [List.length_cons, fromC, e0, coef, fromC_shift, e, fromC_lf m r]
theorem fl_lf {L : List T} (h : Falls L) : Fl (lf L) L.length := by
  have at_ : ∀ i (hi : i < L.length), lf L i = L[i] := fun i hi => by unfold lf; rw [List.getD_eq_getElem?_getD, List.getElem?_eq_getElem hi]; rfl
  refine ⟨fun j i hji hi => ?_, fun i hi => ?_⟩
  · rw [at_ i hi, at_ j (by omega)]
    exact (List.pairwise_iff_getElem.1 h.1) j i (by omega) hi hji
  · rw [at_ i hi]
    exact h.2 _ (List.getElem_mem hi)
theorem coef_range {L : List T} (h : Falls L) (m : M) : 0 ≤ coef L m ∧ coef L m ≤ 100 := by
  induction L with
  | nil => simp [coef]
  | cons t r ih =>
    rw [coef]
    split
    · have := h.2 t (List.mem_cons_self ..); omega
    · exact ih h.tail
theorem falls_nil : Falls [] := ⟨List.Pairwise.nil, fun t h => by cases h⟩
/-- the sum of two lists. -/
def addL (K X : List T) : List T := addT (lf K) K.length (lf X) X.length 0 0
theorem addL_facts {K X : List T} (hK : Falls K) (hX : Falls X) : Falls (addL K X) ∧ ∀ m, coef (addL K X) m = (coef K m + coef X m) % 101 := by
  obtain ⟨_, h2, h3⟩ := mrg_facts (fl_lf hK) (fl_lf hX) (K.length - 0 + (X.length - 0)) 0 0 (Nat.le_refl _)
  refine ⟨h2, fun m => (h3 m).trans ?_⟩
  rw [Nat.sub_zero, Nat.sub_zero, fromC_lf, fromC_lf]
theorem putT_facts {L : List T} (hL : Falls L) {c : Int} {m : M} (hm : m.ok = true) (c0 : 0 ≤ c) (c1 : c ≤ 100) : Falls (putT c m L) ∧ ∀ x, coef (putT c m L) x = updC (coef L) m c x := by
  unfold putT
  by_cases hc : c = 0
  · rw [if_pos hc]
    refine ⟨hL, fun x => ?_⟩
    unfold updC
    split
    · rename_i hx
      have := coef_range hL m
      rw [meq_iff.1 hx, hc]
      omega
    · rfl
  · rw [if_neg hc]
    have G : Fl (fun _ => (⟨c, m⟩ : T)) 1 := ⟨fun j i h1 h2 => by omega, fun i hi => ⟨hm, by show 1 ≤ c; omega, c1⟩⟩
    obtain ⟨_, h2, h3⟩ := mrg_facts (fl_lf hL) G (L.length - 0 + (1 - 0)) 0 0 (Nat.le_refl _)
    refine ⟨h2, fun x => (h3 x).trans ?_⟩
    rw [Nat.sub_zero, Nat.sub_zero, fromC_lf]
    show (coef L x + (if meqB m x = true then c else 0)) % 101 = _
    have hr := coef_range hL x
    unfold updC
    by_cases hx : x = m
    · subst hx
      rw [if_pos (meqB_iff.2 rfl), if_pos (meq_iff.2 rfl)]
    · rw [if_neg (fun e => hx (meqB_iff.1 e).symm), if_neg (fun e => hx (meq_iff.1 e))]
      omega
def putAll (xs : List T) (L : List T) : List T := xs.foldl (fun L t => putT t.c t.m L) L
def addAllT (c : M → Int) (xs : List T) : M → Int := xs.foldl (fun c t => updC c t.m t.c) c
/-- terms with a monomial that is ok and a number of the field. -/
def TOK (xs : List T) : Prop := ∀ t ∈ xs, t.m.ok = true ∧ 0 ≤ t.c ∧ t.c ≤ 100
theorem putAll_facts : ∀ (xs : List T) (L : List T), TOK xs → Falls L → Falls (putAll xs L) ∧ coef (putAll xs L) = addAllT (coef L) xs
  | [], L, _, hL => ⟨hL, rfl⟩
  | t :: r, L, hx, hL => by
    have h1 := hx t (List.mem_cons_self ..)
    have h2 := putT_facts hL h1.1 h1.2.1 h1.2.2
    have h3 := putAll_facts r (putT t.c t.m L) (fun s hs => hx s (List.mem_cons_of_mem _ hs)) h2.1
    refine ⟨h3.1, ?_⟩
    show coef (putAll r (putT t.c t.m L)) = addAllT (updC (coef L) t.m t.c) r
    rw [h3.2, funext h2.2]
theorem addAllT_add : ∀ (xs : List T) (c : M → Int) (m : M), TOK xs → (∀ m, 0 ≤ c m ∧ c m ≤ 100) → addAllT c xs m = (c m + addAllT (fun _ => 0) xs m) % 101
  | [], c, m, _, hc => by
    have := hc m
    show c m = (c m + 0) % 101
    omega
  | t :: r, c, m, hx, hc => by
    have h1 := hx t (List.mem_cons_self ..)
    have hr : ∀ (d : M → Int), (∀ m, 0 ≤ d m ∧ d m ≤ 100) → ∀ m, 0 ≤ updC d t.m t.c m ∧ updC d t.m t.c m ≤ 100 := fun d hd m => by
      unfold updC
      split
      · omega
      · exact hd m
    have hz : ∀ m : M, (0 : Int) ≤ (fun _ => 0 : M → Int) m ∧ (fun _ => 0 : M → Int) m ≤ 100 := fun _ => ⟨Int.le_refl _, by show (0 : Int) ≤ 100; decide⟩
    have e1 := addAllT_add r (updC c t.m t.c) m (fun s hs => hx s (List.mem_cons_of_mem _ hs)) (hr c hc)
    have e2 := addAllT_add r (updC (fun _ => 0) t.m t.c) m (fun s hs => hx s (List.mem_cons_of_mem _ hs)) (hr _ hz)
    show addAllT (updC c t.m t.c) r m = (c m + addAllT (updC (fun _ => 0) t.m t.c) r m) % 101
    rw [e1, e2]
    unfold updC
    by_cases hx : m = t.m
    · subst hx
      rw [if_pos (meq_iff.2 rfl), if_pos (meq_iff.2 rfl)]
      clear e1 e2
      dsimp only
      omega
    · rw [if_neg (fun e => hx (meq_iff.1 e)), if_neg (fun e => hx (meq_iff.1 e))]
      clear e1 e2
      dsimp only
      omega
def mulO : Option (List T) → List T × Bool
  | some K => (K, true)
  | none => ([], false)
theorem cok_falls {L : List T} (h : Falls L) : Cok L := fun t ht => by have := h.2 t ht; omega
/-- terms that can be multiplied. -/
def Good (f : Nat → T) (n : Nat) : Prop := ∀ i, i < n → (f i).m.ok = true ∧ 0 ≤ (f i).c ∧ (f i).c ≤ 100
theorem good_ok {n : Nat} {f : Nat → T} (h : polOk n f = true) : n ≤ 400 ∧ Good f n := by
  have hp := h
  simp only [polOk, decide_eq_true_eq] at hp
  refine ⟨hp.1, fun i hi => ?_⟩
  have := (fl_of_ok h).2 i hi
  exact ⟨this.1, by omega, this.2.2⟩
theorem polOk_at {n : Nat} {f : Nat → T} (h : polOk n f = true) {i : Nat} (hi : i < n) : (f i).m.ok = true ∧ 0 ≤ (f i).c ∧ (f i).c ≤ 100 := by have := (fl_of_ok h).2 i hi; exact ⟨this.1, by omega, this.2.2⟩
end Go.Proofs.YtoglomfejgpoeaaGreatDoor
namespace Go.Proofs.YtoglomfejgpoeaaGreatDoor
open Go.RowKit
set_option linter.unusedVariables false

/-- the term of a product in which i of the first slopes and k of the second ones were taken. -/
def termN (a b : T) (i k : Nat) : T := ⟨a.c * b.c % 101 * wy a.m.d b.m.x i % 101 * wy a.m.e b.m.y k % 101, ⟨a.m.x + b.m.x - i, a.m.y + b.m.y - k, a.m.d + b.m.d - i, a.m.e + b.m.e - k⟩⟩
def rowN (a b : T) (i k : Nat) : List T := (List.range k).map (termN a b i)
def emitN (a b : T) (i : Nat) : List T := (List.range i).flatMap fun i => rowN a b i (limY a b + 1)
theorem emitN_succ (a b : T) (i : Nat) : emitN a b (i + 1) = emitN a b i ++ rowN a b i (limY a b + 1) := by simp [emitN, List.range_succ]
theorem rowN_succ (a b : T) (i k : Nat) : rowN a b i (k + 1) = rowN a b i k ++ [termN a b i k] := by simp [rowN, List.range_succ]
theorem takeK_fst {lim : Nat} {s t : Int} {k : Nat} (h : k ≤ lim) : (takeK lim s t k).1.1 = (k : Int) := if_pos h
theorem emit_is {a b : T} {g : M} (h : Two a b g) : (emit h (allX a b)).map (·.1) = emitN a b (limX a b + 1) := by
  have key : ∀ i, i ≤ limX a b → ((allY a b).map (termK h (takeK (limX a b) a.m.d b.m.x i))).map (·.1) = rowN a b i (limY a b + 1) := fun i hi => by
    unfold allY uptoK rowN
    rw [List.map_map, List.map_map]
    refine List.map_congr_left (fun k hk => ?_)
    rw [List.mem_range] at hk
    show termT a b g (takeK (limX a b) a.m.d b.m.x i) (takeK (limY a b) a.m.e b.m.y k) = termN a b i k
    unfold termT termN
    rw [takeK_fst hi, takeK_fst (show k ≤ limY a b by omega), h.gx, h.gy, h.gd, h.ge]
    rfl
  have : ∀ n, n ≤ limX a b + 1 → (emit h (uptoK (limX a b) a.m.d b.m.x n)).map (·.1) = emitN a b n := fun n => by
    induction n with
    | zero => intro _; rfl
    | succ n ih =>
      intro hn
      rw [← uptoK_succ, emit_snoc, List.map_append, ih (by omega), key n (by omega), emitN_succ]
  exact this _ (Nat.le_refl _)
theorem addAll_is (c : M → Int) (xs : List TO) : addAll c xs = addAllT c (xs.map (·.1)) := by
  unfold addAll addAllT
  rw [List.foldl_map]
theorem emit_tok {a b : T} {g : M} (h : Two a b g) : TOK (emitN a b (limX a b + 1)) := by
  rw [← emit_is h]
  intro t ht
  obtain ⟨x, _, rfl⟩ := List.mem_map.1 ht
  exact x.2
/-- the product of two terms. -/
def pairL (a b : T) : List T := putAll (emitN a b (limX a b + 1)) []
theorem pairL_facts {a b : T} {g : M} (h : Two a b g) : Falls (pairL a b) ∧ coef (pairL a b) = addAllT (fun _ => 0) (emitN a b (limX a b + 1)) := putAll_facts _ [] (emit_tok h) falls_nil
theorem addL_pair {a b : T} {g : M} (h : Two a b g) {K : List T} (hK : Falls K) {c : M → Int} (hc : ∀ m, 0 ≤ c m ∧ c m ≤ 100) (hKc : ∀ m, m.ok = true → coef K m = c m) : Falls (addL K (pairL a b)) ∧ ∀ m, m.ok = true → coef (addL K (pairL a b)) m = addAll c (emit h (allX a b)) m := by
  have h1 := pairL_facts h
  have h2 := addL_facts hK h1.1
  refine ⟨h2.1, fun m hm => ?_⟩
  rw [h2.2, h1.2, hKc m hm, addAll_is, emit_is h, addAllT_add _ c m (emit_tok h) hc]
/-- one step of a product: nothing, if it is too much. -/
def stepM (K : List T) (a b : T) : Option (List T) := if (a.m.sum b.m).ok = true ∧ (addL K (pairL a b)).length ≤ 400 then some (addL K (pairL a b)) else none
def rowM (K : List T) (a : T) (g : Nat → T) : Nat → Option (List T)
  | 0 => some K
  | k + 1 => (rowM K a g k).bind fun K' => stepM K' a (g k)
def mulM (f : Nat → T) (g : Nat → T) (lb : Nat) : Nat → Option (List T)
  | 0 => some []
  | i + 1 => (mulM f g lb i).bind fun K => rowM K (f i) g lb
theorem rowM_none {K : List T} {a : T} {g : Nat → T} {k : Nat} (h : rowM K a g k = none) : ∀ j, k ≤ j → rowM K a g j = none := fun j hj => by
  induction j with
  | zero =>
    have e : k = 0 := by omega
    rw [e] at h
    exact h
  | succ j ih =>
    by_cases e : k = j + 1
    · rw [← e]; exact h
    · rw [rowM, ih (by omega)]; rfl
theorem mulM_none {f g : Nat → T} {lb i : Nat} (h : mulM f g lb i = none) : ∀ j, i ≤ j → mulM f g lb j = none := fun j hj => by
  induction j with
  | zero =>
    have e : i = 0 := by omega
    rw [e] at h
    exact h
  | succ j ih =>
    by_cases e : i = j + 1
    · rw [← e]; exact h
    · rw [mulM, ih (by omega)]; rfl
def wylMul (f : Nat → T) (la : Nat) (g : Nat → T) (lb : Nat) : List T × Bool := if polOk la f = true ∧ polOk lb g = true then mulO (mulM f g lb la) else ([], false)
theorem rowM_len {K : List T} {a : T} {g : Nat → T} (hK : K.length ≤ 400) : ∀ k K', rowM K a g k = some K' → K'.length ≤ 400
  | 0, K', h => by cases h; exact hK
  | k + 1, K', h => by
    rw [rowM] at h
    cases hr : rowM K a g k with
    | none => rw [hr] at h; cases h
    | some K1 =>
      rw [hr] at h
      change stepM K1 a (g k) = some K' at h
      unfold stepM at h
      split at h
      · rename_i hh; cases h; exact hh.2
      · cases h
theorem mulM_len {f g : Nat → T} {lb : Nat} : ∀ i K, mulM f g lb i = some K → K.length ≤ 400
  | 0, K, h => by cases h; exact Nat.zero_le _
  | i + 1, K, h => by
    rw [mulM] at h
    cases hr : mulM f g lb i with
    | none => rw [hr] at h; cases h
    | some K1 =>
      rw [hr] at h
      exact rowM_len (mulM_len i K1 hr) lb K h
theorem wylMul_len (f : Nat → T) (la : Nat) (g : Nat → T) (lb : Nat) : (wylMul f la g lb).1.length ≤ 400 := by
  unfold wylMul
  split
  · cases h : mulM f g lb la with
    | none => simp [mulO]
    | some K => exact mulM_len la K h
  · simp
end Go.Proofs.YtoglomfejgpoeaaGreatDoor
namespace Go.Proofs.YtoglomfejgpoeaaGreatDoor
open Go.RowKit Go.Maps
set_option linter.unusedVariables false

set_option maxRecDepth 100000 in
set_option maxHeartbeats 8000000 in
theorem wylMulV (w : World) (a b : Option Addr) (la ca lb cb : Nat) (f g : Nat → T) (ha : Rd w a la ca f) (hb : Rd w b lb cb g) :
    Calls Tryz.prog 39 #[.slice a la ca, .slice b lb cb] w fun r w' => ∃ v, r = .returned (.tuple #[v, .bool (wylMul f la g lb).2]) ∧ Below w.heap.size w w' ∧ w'.ownsRow w.heap.size 80 5 v (wylMul f la g lb).1.length (cellsL (wylMul f la g lb).1) := by
  have HA := Hid.mk' ha
  have HB := Hid.mk' hb
  have hla : (la : Int) ≤ 140737488351232 := by have := ha.2.1; omega
  have hlb : (lb : Int) ≤ 140737488351232 := by have := hb.2.1; omega
  clear ha hb
  cases hpa : polOk la f
  · have e1 : wylMul f la g lb = ([], false) := by simp [wylMul, hpa]
    rw [e1]
    go_enter Tryz.func39, Tryz.ntmps39
    go_wp2_with (go_at_call 44; refine (polOkI _ _ _ _ f HA.out).mono ?_; rw [hpa]; rintro r w1 ⟨rfl, hb1⟩; have HB1 := Hid.mk' hb1; clear hb1)
    refine bodyPost_ret (results_tmp2 rfl _ _ _) rfl ?_
    exact ⟨_, rfl, HB1.out, owns_nil w1 _⟩
  · cases hpb : polOk lb g
    · have e1 : wylMul f la g lb = ([], false) := by simp [wylMul, hpb]
      rw [e1]
      go_enter Tryz.func39, Tryz.ntmps39
      go_wp2_with (first
        | (go_at_call_of 44 (Value.slice a la ca); refine (polOkI _ _ _ _ f HA.out).mono ?_; rw [hpa]; rintro r w1 ⟨rfl, hb1⟩; have HB1 := Hid.mk' hb1; clear hb1)
        | (go_at_call_of 44 (Value.slice b lb cb); refine (polOkI _ _ _ _ g (HB.out.below HB1.out)).mono ?_; rw [hpb]; rintro r w2 ⟨rfl, hb2⟩; have HB2 := Hid.mk' hb2; clear hb2))
      refine bodyPost_ret (results_tmp2 rfl _ _ _) rfl ?_
      exact ⟨_, rfl, bel_next HB1.out HB2.out, owns_nil w2 _⟩
    · have e2 : wylMul f la g lb = mulO (mulM f g lb la) := by simp [wylMul, hpa, hpb]
      rw [e2]
      clear e2
      have l1 : la ≤ 400 := by have h := hpa; simp only [polOk, decide_eq_true_eq] at h; exact h.1
      have l2 : lb ≤ 400 := by have h := hpb; simp only [polOk, decide_eq_true_eq] at h; exact h.1
      have HPA := Hid.mk' hpa
      have HPB := Hid.mk' hpb
      have hmm := @run_makeMap Tryz.prog
      go_enter Tryz.func39, Tryz.ntmps39
      go_wp2_with (first
        | (go_at_call_of 44 (Value.slice a la ca); refine (polOkI _ _ _ _ f HA.out).mono ?_; rw [hpa]; rintro r w1 ⟨rfl, hb1⟩; have HB1 := Hid.mk' hb1; clear hb1)
        | (go_at_call_of 44 (Value.slice b lb cb); refine (polOkI _ _ _ _ g (HB.out.below HB1.out)).mono ?_; rw [hpb]; rintro r w2 ⟨rfl, hb2⟩; have HB2 := Hid.mk' (bel_next HB1.out hb2); clear hb2))
      clear hpa hpb
      have HRA := Hid.mk' (HA.out.below HB2.out)
      have HRB := Hid.mk' (HB.out.below HB2.out)
      have HNA := Hid.mk' (HRA.out.apart (Nat.le_refl _))
      have HNB := Hid.mk' (HRB.out.apart (Nat.le_refl _))
      have hlo : w.heap.size ≤ w2.heap.size := HB2.out.size
      have HS0 := Hid.mk' ((sumNew w2).cap)
      have HG0 := Hid.mk' (World.grownBy_alloc w2 (.map #[] 0) (some w2.heap.size))
      generalize hw3 : w2.alloc (.map #[] 0) = w3 at *
      clear hw3 hmm
      go_loopw [22] (fun v wr => ∃ (i : Nat) (K : List T) (c : M → Int), i ≤ la ∧ v = .int .i64 (i : Int) ∧ mulM f g lb i = some K ∧ Falls K ∧ (∀ m, m.ok = true → coef K m = c m) ∧ SumR wr w2.heap.size 65536 c ∧ w2.grownBy wr (some w2.heap.size)) (fun v _ => la - (intOf v).toNat)
      case atStart => exact ⟨0, [], fun _ => 0, Nat.zero_le _, rfl, rfl, falls_nil, fun _ _ => rfl, HS0.out, HG0.out⟩
      case round =>
        obtain ⟨i, K, c, hi, rfl, hM, hKf, hKc, hS, hg⟩ := hrel
        by_cases hlt : i < la
        · have hil : (i : Int) < (la : Int) := by omega
          have hri := HRA.out.grown hg HNA.out
          rcases hri.2.2 with h0 | ⟨pb, off, hpe, hblt, hcl⟩
          · omega
          obtain ⟨g0, g1, g2, g3, g4⟩ := hcl i hlt
          have hfi := polOk_at HPA.out hlt
          have HS := Hid.mk' hS
          have HG := Hid.mk' hg
          have HM := Hid.mk' hM
          clear hcl hri hS hg hM
          subst hpe
          go_wp2
          have hT1 : TermAt (wr.alloc (.cells #[.int .i64 (f i).c, .int .i64 (f i).m.x, .int .i64 (f i).m.y, .int .i64 (f i).m.d, .int .i64 (f i).m.e] 80)) wr.heap.size (f i) := World.alloc_heap_new wr _
          have HS1 := Hid.mk' (HS.out.grown (World.grownBy_alloc wr (.cells #[.int .i64 (f i).c, .int .i64 (f i).m.x, .int .i64 (f i).m.y, .int .i64 (f i).m.d, .int .i64 (f i).m.e] 80) none) (by simp))
          have HG1 := Hid.mk' (HG.out.trans (World.grownBy_alloc wr (.cells #[.int .i64 (f i).c, .int .i64 (f i).m.x, .int .i64 (f i).m.y, .int .i64 (f i).m.d, .int .i64 (f i).m.e] 80) (some w2.heap.size)))
          have hbl : w2.heap.size < wr.heap.size := HS.out.lt
          have hs1 : (wr.alloc (.cells #[.int .i64 (f i).c, .int .i64 (f i).m.x, .int .i64 (f i).m.y, .int .i64 (f i).m.d, .int .i64 (f i).m.e] 80)).heap.size = wr.heap.size + 1 := by simp
          clear g0 g1 g2 g3 g4
          generalize wr.alloc (.cells #[.int .i64 (f i).c, .int .i64 (f i).m.x, .int .i64 (f i).m.y, .int .i64 (f i).m.d, .int .i64 (f i).m.e] 80) = wi at *
          generalize wr.heap.size = Bf at *
          go_loopw [28] (fun v wr' => ∃ (k : Nat) (K' : List T) (c' : M → Int), k ≤ lb ∧ v = .int .i64 (k : Int) ∧ rowM K (f i) g k = some K' ∧ Falls K' ∧ (∀ m, m.ok = true → coef K' m = c' m) ∧ SumR wr' w2.heap.size 65536 c' ∧ w2.grownBy wr' (some w2.heap.size) ∧ TermAt wr' Bf (f i)) (fun v _ => lb - (intOf v).toNat)
          case atStart => exact ⟨0, K, c, Nat.zero_le _, rfl, rfl, hKf, hKc, HS1.out, HG1.out, hT1⟩
          case round =>
            obtain ⟨k, K', c', hk, rfl, hM', hKf', hKc', hS', hg', hT'⟩ := hrel
            by_cases hlt2 : k < lb
            · have hkl : (k : Int) < (lb : Int) := by omega
              have hrk := HRB.out.grown hg' HNB.out
              rcases hrk.2.2 with h0 | ⟨pb2, off2, hpe2, hblt2, hcl2⟩
              · omega
              obtain ⟨g0, g1, g2, g3, g4⟩ := hcl2 k hlt2
              obtain ⟨t0, t1, t2, t3, t4⟩ := hT'.cells
              have hgk := polOk_at HPB.out hlt2
              have htl : Bf < wr.heap.size := (Array.getElem?_eq_some_iff.1 hT').1
              have HSk := Hid.mk' (hS'.grown (World.grownBy_alloc wr (.cells #[.int .i64 (g k).c, .int .i64 (g k).m.x, .int .i64 (g k).m.y, .int .i64 (g k).m.d, .int .i64 (g k).m.e] 80) none) (by simp))
              have HGk := Hid.mk' (hg'.trans (World.grownBy_alloc wr (.cells #[.int .i64 (g k).c, .int .i64 (g k).m.x, .int .i64 (g k).m.y, .int .i64 (g k).m.d, .int .i64 (g k).m.e] 80) (some w2.heap.size)))
              have HTk : Hid (TermAt (wr.alloc (.cells #[.int .i64 (g k).c, .int .i64 (g k).m.x, .int .i64 (g k).m.y, .int .i64 (g k).m.d, .int .i64 (g k).m.e] 80)) Bf (f i)) := (Below.heap_alloc _ _ _ htl).trans hT'
              have HMk := Hid.mk' hM'
              have hcr := hS'.range
              clear hcl2 hrk hS' hg' hM' hT'
              subst hpe2
              by_cases hok : ((f i).m.sum (g k).m).ok = true
              · have hTwo : Two (f i) (g k) ((f i).m.sum (g k).m) := Two.of hfi.1 hgk.1 hok hfi.2 hgk.2
                obtain ⟨nf, nc⟩ := addL_pair hTwo hKf' hcr hKc'
                have hcall := addProdI _ w2.heap.size c' HSk.out (f i) (g k) hTwo nf nc
                by_cases h4 : (addL K' (pairL (f i) (g k))).length ≤ 400
                · have hstep : rowM K (f i) g (k + 1) = some (addL K' (pairL (f i) (g k))) := by rw [rowM, HMk.out]; show stepM _ _ _ = _; unfold stepM; rw [if_pos ⟨hok, h4⟩]
                  have HST := Hid.mk' hstep
                  rw [decide_eq_true h4] at hcall
                  clear hstep
                  go_wp2_with (go_at_call 79; refine hcall.mono ?_; rintro r w6 ⟨rfl, hs6, hg6⟩; have HS6 := Hid.mk' hs6; have HG6 := Hid.mk' hg6; clear hs6 hg6)
                  go_roundw
                  case rel => exact ⟨k + 1, _, _, by omega, by go_num, HST.out, nf, nc, HS6.out, HGk.out.trans HG6.out, (HG6.out.block _ (by simp; omega) (fun e => by cases e; omega)).trans HTk.out⟩
                  case measure => simp [intOf]; omega
                · have hstep : rowM K (f i) g (k + 1) = none := by rw [rowM, HMk.out]; show stepM _ _ _ = _; unfold stepM; rw [if_neg (fun h => h4 h.2)]
                  have hno : mulM f g lb la = none := mulM_none (i := i + 1) (by rw [mulM, HM.out]; exact rowM_none hstep lb (by omega)) la (by omega)
                  rw [decide_eq_false h4] at hcall
                  clear hstep
                  go_wp2_with (go_at_call 79; refine hcall.mono ?_; rintro r w6 ⟨rfl, hs6, hg6⟩; have HG6 := Hid.mk' hg6; clear hs6 hg6)
                  refine bodyPost_ret (results_tmp2 rfl _ _ _) rfl ?_
                  rw [hno]
                  exact ⟨_, rfl, HB2.out.grown (HGk.out.trans HG6.out) hlo (fun k' e => by cases e; exact hlo), owns_nil w6 _⟩
              · have hstep : rowM K (f i) g (k + 1) = none := by rw [rowM, HMk.out]; show stepM _ _ _ = _; unfold stepM; rw [if_neg (fun h => hok h.1)]
                have hno : mulM f g lb la = none := mulM_none (i := i + 1) (by rw [mulM, HM.out]; exact rowM_none hstep lb (by omega)) la (by omega)
                have hcall := addProdNo (wr.alloc (.cells #[.int .i64 (g k).c, .int .i64 (g k).m.x, .int .i64 (g k).m.y, .int .i64 (g k).m.d, .int .i64 (g k).m.e] 80)) w2.heap.size (f i) (g k) hfi.1 hgk.1 (by simpa using hok)
                clear hstep
                go_wp2_with (go_at_call 79; refine hcall.mono ?_; rintro r w6 ⟨rfl, hb6⟩; have HG6 := Hid.mk' (below_grown hb6 (some w2.heap.size)); clear hb6)
                refine bodyPost_ret (results_tmp2 rfl _ _ _) rfl ?_
                rw [hno]
                exact ⟨_, rfl, HB2.out.grown (HGk.out.trans HG6.out) hlo (fun k' e => by cases e; exact hlo), owns_nil w6 _⟩
            · obtain rfl : k = lb := by omega
              have HMk : Hid (mulM f g k (i + 1) = some K') := by show _ = _; rw [mulM, HM.out]; exact hM'
              have HSk := Hid.mk' hS'
              have HGk := Hid.mk' hg'
              clear hS' hg' hM' hT'
              go_wp2
              go_roundw
              case rel => exact ⟨i + 1, K', c', by omega, by go_num, HMk.out, hKf', hKc', HSk.out, HGk.out⟩
              case measure => simp [intOf]; omega
        · obtain rfl : i = la := by omega
          have hKl := mulM_len _ _ hM
          have e3 : mulO (mulM f g lb i) = sumL K := by rw [hM]; simp [mulO, sumL, hKl]
          go_wp2_with (go_at_call 80; refine (sumOpI _ _ _ _ hS (by omega) hKf hKc).mono ?_; rintro r w5 ⟨v, rfl, hb5, ho5⟩)
          refine bodyPost_ret (results_tmp2 rfl _ _ _) rfl ?_
          rw [e3]
          have hB4 : Below w.heap.size w wr := HB2.out.grown hg hlo (fun k' e => by cases e; exact hlo)
          exact ⟨_, rfl, hB4.trans (hb5.mono hB4.size), ownsRow_low ho5 hB4.size⟩
theorem wylMulI (w : World) (a b : Option Addr) (la ca lb cb : Nat) (f g : Nat → T) (ha : Rd w a la ca f) (hb : Rd w b lb cb g) :
    Calls Tryz.prog 39 #[.slice a la ca, .slice b lb cb] w fun r w' => ∃ a' cap', r = .returned (.tuple #[.slice a' (wylMul f la g lb).1.length cap', .bool (wylMul f la g lb).2]) ∧ Below w.heap.size w w' ∧ Out w.heap.size w' a' cap' (wylMul f la g lb).1 := by
  refine (wylMulV w a b la ca lb cb f g ha hb).mono ?_
  rintro r w' ⟨v, rfl, hb1, ho1⟩
  have hlen := wylMul_len f la g lb
  obtain ⟨a', cap', rfl, hout⟩ := out_of_owns ho1 (by omega)
  exact ⟨a', cap', rfl, hb1, hout⟩
end Go.Proofs.YtoglomfejgpoeaaGreatDoor
