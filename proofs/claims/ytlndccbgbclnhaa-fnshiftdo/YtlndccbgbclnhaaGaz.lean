/-
  What is true of products: brackets, sums on both sides, how far two are apart.
  Turning an operator term by term.
  Operators with something put in for each monomial; what is done term by term.
-/
import Derived.Test.YtlndccbgbclnhaaGay
import Derived.Test.YtlndccbgbclnhaaGat
import Derived.Test.YtlndccbgbclnhaaGap
namespace Go.Proofs.Ytlndccbgbclnhaa
open Go.RowKit
set_option linter.unusedVariables false

theorem wm_ok {A B P : List T} (h : wmV A B = (P, true)) : okL P = true := by
  rcases wmV_case A B with h1 | ⟨Q, h1, o⟩
  · rw [h1] at h; simp at h
  · rw [h1] at h
    simp only [Prod.mk.injEq, and_true] at h
    rw [← h]; exact o
theorem wmV_if (A B : List T) : wmV A B = ([], false) ∨ ∃ P, wmV A B = (P, true) := (wmV_case A B).imp id (fun ⟨P, h, _⟩ => ⟨P, h⟩)
theorem addV_if (A B : List T) : addV A B = ([], false) ∨ ∃ P, addV A B = (P, true) := (addV_case A B).imp id (fun ⟨_, _, _, h⟩ => ⟨_, h⟩)
theorem wm_falls {A B P : List T} (h : wmV A B = (P, true)) : Falls P := (okL_falls (wm_ok h)).2
theorem wm_args {A B P : List T} (h : wmV A B = (P, true)) : okL A = true ∧ okL B = true := by
  unfold wmV wylMul at h
  split at h
  · rename_i hh; exact hh
  · simp at h
theorem wm_assoc {A B C X Y U V : List T} (h1 : wmV A B = (X, true)) (h2 : wmV B C = (Y, true)) (h3 : wmV X C = (U, true)) (h4 : wmV A Y = (V, true)) : U = V := by
  refine eq_of_Rp (wm_falls h3) (wm_falls h4) ?_
  rw [Rp_mul _ h3, Rp_mul _ h1, Rp_mul _ h4, Rp_mul _ h2, Lq.mul_assoc]
theorem addV_eq {A B S : List T} (oA : okL A = true) (oB : okL B = true) (oS : okL S = true) (h : Lq.sum (Rp stdG A) (Rp stdG B) = Rp stdG S) : addV A B = (S, true) := by
  have e : addL A B = S := eq_of_Rp (addL_facts (okL_falls oA).2 (okL_falls oB).2).1 (okL_falls oS).2 (by rw [Rp_add _ (okL_falls oA).2 (okL_falls oB).2]; exact h)
  rw [addV_ok oA oB (by rw [e]; exact (okL_falls oS).1), e]
theorem wm_left {A B C S X Y U : List T} (hS : addV B C = (S, true)) (h1 : wmV A B = (X, true)) (h2 : wmV A C = (Y, true)) (h3 : wmV A S = (U, true)) : addV X Y = (U, true) := by
  rcases addV_case B C with h | ⟨oB, oC, hl, h⟩
  · rw [h] at hS; simp at hS
  rw [h] at hS
  simp only [Prod.mk.injEq, and_true] at hS
  refine addV_eq (wm_ok h1) (wm_ok h2) (wm_ok h3) ?_
  rw [Rp_mul _ h1, Rp_mul _ h2, Rp_mul _ h3, ← hS, Rp_add _ (okL_falls oB).2 (okL_falls oC).2, Lq.mul_sum]
theorem wm_right {A B C S X Y U : List T} (hS : addV B C = (S, true)) (h1 : wmV B A = (X, true)) (h2 : wmV C A = (Y, true)) (h3 : wmV S A = (U, true)) : addV X Y = (U, true) := by
  rcases addV_case B C with h | ⟨oB, oC, hl, h⟩
  · rw [h] at hS; simp at hS
  rw [h] at hS
  simp only [Prod.mk.injEq, and_true] at hS
  refine addV_eq (wm_ok h1) (wm_ok h2) (wm_ok h3) ?_
  rw [Rp_mul _ h1, Rp_mul _ h2, Rp_mul _ h3, ← hS, Rp_add _ (okL_falls oB).2 (okL_falls oC).2, Lq.sum_mul]
/-! so many times a product -/
def scT1 (c : Int) (t : T) : T := ⟨c * t.c % 101, t.m⟩
theorem addL_sc {c : Int} (c1 : 1 ≤ c) (c2 : c ≤ 100) {K X : List T} (hK : Falls K) (hX : Falls X) : addL (scL c K) (scL c X) = scL c (addL K X) := by
  have f1 := scL_falls c1 c2 hK
  have f2 := scL_falls c1 c2 hX
  refine eq_of_Rp (addL_facts f1 f2).1 (scL_falls c1 c2 (addL_facts hK hX).1) ?_
  rw [Rp_add _ f1 f2, Rp_sc, Rp_sc, Rp_sc, Rp_add _ hK hX, Lq.sc_sum]
theorem pair_sc {c : Int} (c1 : 1 ≤ c) (c2 : c ≤ 100) {a b : T} {m : M} (h : Two a b m) : Two (scT1 c a) b m ∧ pairL (scT1 c a) b = scL c (pairL a b) := by
  have h2 : Two (scT1 c a) b m := ⟨h.ok1, h.ok2, h.ok3, h.gx, h.gy, h.gd, h.ge, ⟨by show 0 ≤ c * a.c % 101; omega, by show c * a.c % 101 ≤ 100; omega⟩, h.c2⟩
  refine ⟨h2, eq_of_Rp (pairL_facts h2).1 (scL_falls c1 c2 (pairL_facts h).1) ?_⟩
  rw [Rp_pair _ h2, Rp_sc, Rp_pair _ h, Lq.sc_sc]
  congr 1
  show zz (c * a.c % 101) * zz b.c = _
  rw [zz_mod, zz_mul]; grind
theorem rowM_sc {c : Int} (c1 : 1 ≤ c) (c2 : c ≤ 100) {K : List T} {a : T} {f : Nat → T} {lb : Nat} (hK : Falls K) (ha : a.m.ok = true ∧ 0 ≤ a.c ∧ a.c ≤ 100) (hg : Good f lb) : ∀ k, k ≤ lb → rowM (scL c K) (scT1 c a) f k = (rowM K a f k).map (scL c)
  | 0, _ => rfl
  | k + 1, hk => by
    rw [rowM, rowM, rowM_sc c1 c2 hK ha hg k (by omega)]
    cases hr : rowM K a f k with
    | none => rfl
    | some K1 =>
      show stepM (scL c K1) (scT1 c a) (f k) = (stepM K1 a (f k)).map (scL c)
      have hf1 := rowM_falls2 hK ha hg k K1 (by omega) hr
      have h2 := hg k (by omega)
      unfold stepM
      show (if (a.m.sum (f k).m).ok = true ∧ (addL (scL c K1) (pairL (scT1 c a) (f k))).length ≤ 400 then some (addL (scL c K1) (pairL (scT1 c a) (f k))) else none) = _
      by_cases hok : (a.m.sum (f k).m).ok = true
      · have tw : Two a (f k) (a.m.sum (f k).m) := ⟨ha.1, h2.1, hok, rfl, rfl, rfl, rfl, ha.2, h2.2⟩
        rw [(pair_sc c1 c2 tw).2, addL_sc c1 c2 hf1 (pairL_facts tw).1, scL_len]
        by_cases hl : (addL K1 (pairL a (f k))).length ≤ 400
        · rw [if_pos ⟨hok, hl⟩, if_pos ⟨hok, hl⟩]; rfl
        · rw [if_neg (fun h => hl h.2), if_neg (fun h => hl h.2)]; rfl
      · rw [if_neg (fun h => hok h.1), if_neg (fun h => hok h.1)]; rfl
theorem mulM_sc {c : Int} (c1 : 1 ≤ c) (c2 : c ≤ 100) {f f' f2 : Nat → T} {la lb : Nat} (hf : Good f la) (hg : Good f' lb) (he : ∀ i, i < la → f2 i = scT1 c (f i)) : ∀ i, i ≤ la → mulM f2 f' lb i = (mulM f f' lb i).map (scL c)
  | 0, _ => by show some [] = some (scL c []); rw [show scL c [] = [] from by rw [scL_map]; rfl]
  | i + 1, hi => by
    rw [mulM, mulM, mulM_sc c1 c2 hf hg he i (by omega)]
    cases hr : mulM f f' lb i with
    | none => rfl
    | some K1 =>
      show rowM (scL c K1) (f2 i) f' lb = (rowM K1 (f i) f' lb).map (scL c)
      rw [he i (by omega)]
      exact rowM_sc c1 c2 (mulM_falls2 hf hg i K1 (by omega) hr) (hf i (by omega)) hg lb (Nat.le_refl _)
theorem wm_sc {c : Int} (c1 : 1 ≤ c) (c2 : c ≤ 100) {A B P : List T} (h : wmV A B = (P, true)) : wmV (scL c A) B = (scL c P, true) := by
  obtain ⟨oA, oB⟩ := wm_args h
  have oS : okL (scL c A) = true := okL_of (by rw [scL_len]; exact (okL_falls oA).1) (scL_falls c1 c2 (okL_falls oA).2)
  unfold wmV wylMul at h ⊢
  rw [if_pos ⟨oA, oB⟩] at h
  rw [if_pos ⟨oS, oB⟩]
  obtain ⟨l1, g1⟩ := good_ok oA
  obtain ⟨l2, g2⟩ := good_ok oB
  rw [scL_len, mulM_sc c1 c2 g1 g2 (fun i hi => by rw [scL, lf_scT _ _ _ _ hi]; rfl) A.length (Nat.le_refl _)]
  cases hm : mulM (lf A) (lf B) B.length A.length with
  | none => rw [hm] at h; simp [mulO] at h
  | some K =>
    rw [hm] at h
    have : K = P := by simpa [mulO] using h
    rw [this]; rfl
/-! how far two are apart -/
theorem sum_f (A B : Lq) (u : Vq) (n k : Nat) : (Lq.sum A B).f u n k = A.f u n k + B.f u n k := rfl
theorem sc_f (c : Fq) (A : Lq) (u : Vq) (n k : Nat) : (Lq.sc c A).f u n k = c * A.f u n k := rfl
theorem nil_f (u : Vq) (n k : Nat) : Lq.nil.f u n k = 0 := rfl
theorem wmS_L {w : World} {a b : Option Addr} {ca cb : Nat} {L K : List T} (ha : RL w a ca L) (hb : RL w b cb K) : Calls Try.prog 23 #[.slice a L.length ca, .slice b K.length cb] w (Two2 w (wmV L K)) :=
  (wylMulS w a b L.length ca K.length cb (lf L) (lf K) ha hb).mono fun _ _ h => two_owns (wylMul_len _ _ _ _) h
end Go.Proofs.Ytlndccbgbclnhaa
namespace Go.Proofs.Ytlndccbgbclnhaa
open Go.RowKit Go.Maps
set_option linter.unusedVariables false

/-- what a turn makes of a sum that stands as K, and a term; Q: what is said of the world besides. -/
def Turns (g : Nat) (lb : Array Value) (st : List T → T → Option (List T)) (Q : World → Prop) : Prop :=
  ∀ (W : World) (b : Nat) (c : M → Int) (K : List T) (t : T), SumR W b 65536 c → Falls K → (∀ m, m.ok = true → coef K m = c m) → K.length ≤ 400 → (t.m.ok = true ∧ 1 ≤ t.c ∧ t.c ≤ 100) → Q W →
    Calls Try.prog g (#[.map (some b), .agg #[.int .i64 t.c, .int .i64 t.m.x, .int .i64 t.m.y, .int .i64 t.m.d, .int .i64 t.m.e]] ++ lb) W fun e w' => W.grownBy w' (some b) ∧
      ((∃ K' c', st K t = some K' ∧ e = .returned (.bool true) ∧ SumR w' b 65536 c' ∧ Falls K' ∧ ∀ m, m.ok = true → coef K' m = c' m) ∨ (st K t = none ∧ e = .returned (.bool false)))
def lim4 (K : List T) : Option (List T) := if K.length ≤ 400 then some K else none
def eachM (st : List T → T → Option (List T)) (f : Nat → T) : Nat → Option (List T)
  | 0 => some []
  | i + 1 => (eachM st f i).bind fun K => (st K (f i)).bind lim4
theorem eachM_none {st : List T → T → Option (List T)} {f : Nat → T} {i : Nat} (h : eachM st f i = none) : ∀ j, i ≤ j → eachM st f j = none := fun j hj => by
  induction j with
  | zero =>
    have e : i = 0 := by omega
    rw [e] at h
    exact h
  | succ j ih =>
    by_cases e : i = j + 1
    · rw [← e]; exact h
    · rw [eachM, ih (by omega)]; rfl
theorem eachM_len {st : List T → T → Option (List T)} {f : Nat → T} : ∀ i K, eachM st f i = some K → K.length ≤ 400
  | 0, K, h => by cases h; exact Nat.zero_le _
  | i + 1, K, h => by
    rw [eachM] at h
    cases hr : eachM st f i with
    | none => rw [hr] at h; cases h
    | some K1 =>
      rw [hr] at h
      change (st K1 (f i)).bind lim4 = some K at h
      cases hs : st K1 (f i) with
      | none => rw [hs] at h; cases h
      | some K2 =>
        rw [hs] at h
        change lim4 K2 = some K at h
        unfold lim4 at h
        split at h
        · cases h; assumption
        · cases h
def mapV (st : List T → T → Option (List T)) (f : Nat → T) (la : Nat) : List T × Bool := if polOk la f = true then mulO (eachM st f la) else ([], false)
theorem mapV_len (st : List T → T → Option (List T)) (f : Nat → T) (la : Nat) : (mapV st f la).1.length ≤ 400 := by
  unfold mapV
  split
  · cases h : eachM st f la with
    | none => simp [mulO]
    | some K => exact eachM_len la K h
  · simp
set_option maxRecDepth 100000 in
set_option maxHeartbeats 8000000 in
theorem mapEachV (w : World) (a : Option Addr) (la ca : Nat) (f : Nat → T) (g : Nat) (lb : Array Value) (st : List T → T → Option (List T)) (Q : World → Prop) (eg : ∀ args w, (callFunc g args).run Try.prog w = .ok (.enter g args) w) (hT : Turns g lb st Q) (hQ : ∀ W W' b, Q W → w.heap.size ≤ b → W.grownBy W' (some b) → Q W') (hQb : ∀ W', Q w → Below w.heap.size w W' → Q W') (hq : Q w) (ha : Rd w a la ca f) :
    Calls Try.prog 31 #[.slice a la ca, .func (.func g) #[] lb] w fun r w' => ∃ v, r = .returned (.tuple #[v, .bool (mapV st f la).2]) ∧ Below w.heap.size w w' ∧ w'.ownsRow w.heap.size 52 5 v (mapV st f la).1.length (cellsL (mapV st f la).1) := by
  have HA := Hid.mk' ha
  have HT := Hid.mk' hT
  have HQ := Hid.mk' hQ
  have HQB := Hid.mk' hQb
  have hla : (la : Int) ≤ 140737488351232 := by have := ha.2.1; omega
  clear ha hT hQ hQb
  cases hpa : polOk la f
  · have e1 : mapV st f la = ([], false) := by simp [mapV, hpa]
    rw [e1]
    go_enter Try.func31, Try.ntmps31
    go_wp2_with (go_at_call 39; refine (polOkI _ _ _ _ f HA.out).mono ?_; rw [hpa]; rintro r w1 ⟨rfl, hb1⟩; have HB1 := Hid.mk' hb1; clear hb1)
    refine bodyPost_ret (results_tmp2 rfl _ _ _) rfl ?_
    exact ⟨_, rfl, HB1.out, owns_nil w1 _⟩
  · have e2 : mapV st f la = mulO (eachM st f la) := by simp [mapV, hpa]
    rw [e2]
    clear e2
    have l1 : la ≤ 400 := by have h := hpa; simp only [polOk, decide_eq_true_eq] at h; exact h.1
    have HPA := Hid.mk' hpa
    have hmm := @run_makeMap Try.prog
    go_enter Try.func31, Try.ntmps31
    go_wp2_with (go_at_call 39; refine (polOkI _ _ _ _ f HA.out).mono ?_; rw [hpa]; rintro r w2 ⟨rfl, hb2⟩; have HB2 := Hid.mk' hb2; clear hb2)
    clear hpa
    have HRA := Hid.mk' (HA.out.below HB2.out)
    have HNA := Hid.mk' (HRA.out.apart (Nat.le_refl _))
    have hlo : w.heap.size ≤ w2.heap.size := HB2.out.size
    have HS0 := Hid.mk' ((sumNew w2).cap)
    have HG0 := Hid.mk' (World.grownBy_alloc w2 (.map #[] 0) (some w2.heap.size))
    have HQ0 := Hid.mk' (HQ.out _ _ _ (HQB.out w2 hq HB2.out) hlo HG0.out)
    generalize hw3 : w2.alloc (.map #[] 0) = w3 at *
    clear hw3 hmm
    go_loopw [15] (fun v wr => ∃ (i : Nat) (K : List T) (c : M → Int), i ≤ la ∧ v = .int .i64 (i : Int) ∧ eachM st f i = some K ∧ Falls K ∧ (∀ m, m.ok = true → coef K m = c m) ∧ SumR wr w2.heap.size 65536 c ∧ w2.grownBy wr (some w2.heap.size) ∧ Q wr) (fun v _ => la - (intOf v).toNat)
    case atStart => exact ⟨0, [], fun _ => 0, Nat.zero_le _, rfl, rfl, falls_nil, fun _ _ => rfl, HS0.out, HG0.out, HQ0.out⟩
    case round =>
      obtain ⟨i, K, c, hi, rfl, hM, hKf, hKc, hS, hg, hqr⟩ := hrel
      by_cases hlt : i < la
      · have hil : (i : Int) < (la : Int) := by omega
        have hri := HRA.out.grown hg HNA.out
        rcases hri.2.2 with h0 | ⟨pb, off, hpe, hblt, hcl⟩
        · omega
        obtain ⟨g0, g1, g2, g3, g4⟩ := hcl i hlt
        have hfi := (fl_of_ok HPA.out).2 i hlt
        have hKl := eachM_len i K hM
        have hg1 := World.grownBy_alloc wr (.cells #[.int .i64 (f i).c, .int .i64 (f i).m.x, .int .i64 (f i).m.y, .int .i64 (f i).m.d, .int .i64 (f i).m.e] 52) (some w2.heap.size)
        have hcall := HT.out (wr.alloc (.cells #[.int .i64 (f i).c, .int .i64 (f i).m.x, .int .i64 (f i).m.y, .int .i64 (f i).m.d, .int .i64 (f i).m.e] 52)) w2.heap.size c K (f i) (hS.grown (World.grownBy_alloc wr (.cells #[.int .i64 (f i).c, .int .i64 (f i).m.x, .int .i64 (f i).m.y, .int .i64 (f i).m.d, .int .i64 (f i).m.e] 52) none) (by simp)) hKf hKc hKl hfi (HQ.out _ _ _ hqr hlo hg1)
        have HC := Hid.mk' hcall
        have HS := Hid.mk' hS
        have HG := Hid.mk' (hg.trans hg1)
        have HM := Hid.mk' hM
        have HQR := Hid.mk' (HQ.out _ _ _ hqr hlo hg1)
        clear hcl hri hS hg hM hg1 hcall hqr
        subst hpe
        go_wp2_with fail
        refine HC.out.mono ?_
        rintro r w4 ⟨hg4, (⟨K', c', hst, rfl, hs4, hf4, hc4⟩ | ⟨hst, rfl⟩)⟩
        · have HS4 := Hid.mk' hs4
          have HG4 := Hid.mk' (HG.out.trans hg4)
          have HQ4 := Hid.mk' (HQ.out _ _ _ HQR.out hlo hg4)
          obtain ⟨D, ho, hcr, hat, hks⟩ := hs4
          have hsz := size_K ho hat hks hf4 hc4
          have hlen := ho.len Try.underlying48 3
          rw [hsz] at hlen
          clear ho hat hks hcr hg4 hsz
          by_cases h4 : K'.length ≤ 400
          · have h4' : (K'.length : Int) ≤ 400 := by omega
            have HST : Hid (eachM st f (i + 1) = some K') := by
              show _ = _
              rw [eachM, HM.out]
              show (st K (f i)).bind lim4 = _
              rw [hst]
              show lim4 K' = _
              exact if_pos h4
            go_wp2
            go_roundw
            case rel => exact ⟨i + 1, K', c', by omega, by go_num, HST.out, hf4, hc4, HS4.out, HG4.out, HQ4.out⟩
            case measure => simp [intOf]; omega
          · have h4' : (400 : Int) < (K'.length : Int) := by omega
            have hno : eachM st f la = none := eachM_none (i := i + 1) (by
              rw [eachM, HM.out]
              show (st K (f i)).bind lim4 = _
              rw [hst]
              show lim4 K' = _
              exact if_neg h4) la (by omega)
            go_wp2
            refine bodyPost_ret (results_tmp2 rfl _ _ _) rfl ?_
            rw [hno]
            exact ⟨_, rfl, HB2.out.grown HG4.out hlo (fun k' e => by cases e; exact hlo), owns_nil w4 _⟩
        · have hno : eachM st f la = none := eachM_none (i := i + 1) (by
            rw [eachM, HM.out]
            show (st K (f i)).bind lim4 = _
            rw [hst]
            rfl) la (by omega)
          have HG4 := Hid.mk' (HG.out.trans hg4)
          clear hg4
          go_wp2
          refine bodyPost_ret (results_tmp2 rfl _ _ _) rfl ?_
          rw [hno]
          exact ⟨_, rfl, HB2.out.grown HG4.out hlo (fun k' e => by cases e; exact hlo), owns_nil w4 _⟩
      · obtain rfl : i = la := by omega
        have hKl := eachM_len _ _ hM
        have e3 : mulO (eachM st f i) = sumL K := by rw [hM]; simp [mulO, sumL, hKl]
        go_wp2_with (go_at_call 42; refine (sumOpI _ _ _ _ hS (by omega) hKf hKc).mono ?_; rintro r w5 ⟨v, rfl, hb5, ho5⟩)
        refine bodyPost_ret (results_tmp2 rfl _ _ _) rfl ?_
        rw [e3]
        have hB4 : Below w.heap.size w wr := HB2.out.grown hg hlo (fun k' e => by cases e; exact hlo)
        exact ⟨_, rfl, hB4.trans (hb5.mono hB4.size), ownsRow_low ho5 hB4.size⟩
end Go.Proofs.Ytlndccbgbclnhaa
namespace Go.Proofs.Ytlndccbgbclnhaa
open Go.RowKit
set_option linter.unusedVariables false

/-- an operator with something put in for each monomial. -/
def Rg (φ : M → Lq) (L : List T) : Lq := ⟨fun u n k => lin (fun m => (φ m).f u n k) L, fun u v => by
    funext n k
    show lin (fun m => (φ m).f (va u v) n k) L = _
    rw [show (fun m => (φ m).f (va u v) n k) = (fun m => (φ m).f u n k + (φ m).f v n k) from funext fun m => by rw [(φ m).add]; rfl, lin_sum]
    rfl, fun c u => by
    funext n k
    show lin (fun m => (φ m).f (vs c u) n k) L = _
    rw [show (fun m => (φ m).f (vs c u) n k) = (fun m => c * (φ m).f u n k) from funext fun m => by rw [(φ m).smul]; rfl, lin_mul]
    rfl⟩
theorem Rg_mo (g : Gen) (L : List T) : Rp g L = Rg (mo g) L := rfl
theorem Rg_nil (φ : M → Lq) : Rg φ [] = Lq.nil := rfl
theorem Rg_add (φ : M → Lq) {L K : List T} (hL : Falls L) (hK : Falls K) : Rg φ (addL L K) = Lq.sum (Rg φ L) (Rg φ K) := Lq.ext fun u n k => lin_add (fun m => (φ m).f u n k) hL hK
theorem Rg_put (φ : M → Lq) {L : List T} (hL : Falls L) {c : Int} {m : M} (hm : m.ok = true) (c0 : 0 ≤ c) (c1 : c ≤ 100) : Rg φ (putT c m L) = Lq.sum (Rg φ L) (Lq.sc (zz c) (φ m)) := Lq.ext fun u n k => lin_put (fun m => (φ m).f u n k) hL hm c0 c1
def Rgn (φ : M → Lq) (f : Nat → T) (n : Nat) : Lq := Lq.sumN (fun i => Lq.sc (zz (f i).c) (φ (f i).m)) n
theorem Rgn_list (φ : M → Lq) (L : List T) : Rg φ L = Rgn φ (lf L) L.length := by
  refine Lq.ext fun u p q => ?_
  unfold Rgn
  rw [sumN_f]
  show su L _ = _
  have e : L = (List.range L.length).map (lf L) := by
    refine List.ext_getElem (by simp) (fun i h1 h2 => ?_)
    rw [List.getElem_map, List.getElem_range, lf_eq h1]
  have key : ∀ (f : T → Fq), su L f = su (List.range L.length) (fun i => f (lf L i)) := fun f => by
    have := su_map (lf L) f (List.range L.length)
    rw [← e] at this
    exact this
  rw [key]
  rfl
/-- a step that adds what is put in for a term. -/
def Adds (φ ψ : M → Lq) (st : List T → T → Option (List T)) : Prop := ∀ K t K', Falls K → (t.m.ok = true ∧ 1 ≤ t.c ∧ t.c ≤ 100) → st K t = some K' → Falls K' ∧ Rg φ K' = Lq.sum (Rg φ K) (Lq.sc (zz t.c) (ψ t.m))
theorem each_Rg {φ ψ : M → Lq} {st : List T → T → Option (List T)} (h : Adds φ ψ st) {f : Nat → T} {la : Nat} (hf : ∀ i, i < la → (f i).m.ok = true ∧ 1 ≤ (f i).c ∧ (f i).c ≤ 100) : ∀ i K, i ≤ la → eachM st f i = some K → Falls K ∧ Rg φ K = Rgn ψ f i
  | 0, K, _, hk => by cases hk; exact ⟨falls_nil, rfl⟩
  | i + 1, K, hi, hk => by
    rw [eachM] at hk
    cases hr : eachM st f i with
    | none => rw [hr] at hk; cases hk
    | some K1 =>
      rw [hr] at hk
      change (st K1 (f i)).bind lim4 = some K at hk
      cases hs : st K1 (f i) with
      | none => rw [hs] at hk; cases hk
      | some K2 =>
        rw [hs] at hk
        change lim4 K2 = some K at hk
        unfold lim4 at hk
        split at hk
        · cases hk
          have h1 := each_Rg h hf i K1 (by omega) hr
          have h2 := h K1 (f i) K h1.1 (hf i (by omega)) hs
          refine ⟨h2.1, ?_⟩
          rw [h2.2, h1.2]; rfl
        · cases hk
theorem map_Rg {φ ψ : M → Lq} {st : List T → T → Option (List T)} (h : Adds φ ψ st) {L X : List T} (hX : mapV st (lf L) L.length = (X, true)) : okL L = true ∧ okL X = true ∧ Rg φ X = Rg ψ L := by
  unfold mapV at hX
  split at hX
  · rename_i hok
    have hl := fl_of_ok hok
    cases hm : eachM st (lf L) L.length with
    | none => rw [hm] at hX; simp [mulO] at hX
    | some K =>
      rw [hm] at hX
      have e : K = X := by simpa [mulO] using hX
      have h1 := each_Rg h (fun i hi => hl.2 i hi) L.length K (Nat.le_refl _) hm
      rw [← e]
      exact ⟨hok, okL_of (eachM_len _ K hm) h1.1, by rw [h1.2, Rgn_list]⟩
  · simp at hX
theorem mapV_if (st : List T → T → Option (List T)) (L : List T) : mapV st (lf L) L.length = ([], false) ∨ ∃ X, mapV st (lf L) L.length = (X, true) := by
  unfold mapV
  split
  · cases eachM st (lf L) L.length with
    | none => exact .inl rfl
    | some K => exact .inr ⟨K, rfl⟩
  · exact .inl rfl
theorem ok_eq {P Q : List T} (hP : okL P = true) (hQ : okL Q = true) (h : Rp stdG P = Rp stdG Q) : P = Q := eq_of_Rp (okL_falls hP).2 (okL_falls hQ).2 h
end Go.Proofs.Ytlndccbgbclnhaa
