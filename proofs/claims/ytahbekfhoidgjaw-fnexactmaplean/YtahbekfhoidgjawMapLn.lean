/-
  A slope that leans: the program and the model.
-/
import Derived.Test.YtahbekfhoidgjawMapEach
import Derived.Test.YtahbekfhoidgjawWylMulI
import Derived.Test.YtahbekfhoidgjawWylMulS2
import Derived.Deep.RegionHeld3
namespace Go.Proofs.Ytahbekfhoidgjaw
open Go.RowKit Go.Maps
set_option linter.unusedVariables false

theorem two_good {a b : T} (h1 : a.m.ok = true ∧ 0 ≤ a.c ∧ a.c ≤ 100) (h2 : b.m.ok = true ∧ 0 ≤ b.c ∧ b.c ≤ 100) (hok : (a.m.sum b.m).ok = true) : Two a b (a.m.sum b.m) := ⟨h1.1, h2.1, hok, rfl, rfl, rfl, rfl, h1.2, h2.2⟩
theorem rowM_falls {K : List T} {a : T} {g : Nat → T} {lb : Nat} (hK : Falls K) (ha : a.m.ok = true ∧ 0 ≤ a.c ∧ a.c ≤ 100) (hg : Good g lb) : ∀ k K', k ≤ lb → rowM K a g k = some K' → Falls K'
  | 0, K', _, h => by cases h; exact hK
  | k + 1, K', hk, h => by
    rw [rowM] at h
    cases hr : rowM K a g k with
    | none => rw [hr] at h; cases h
    | some K1 =>
      rw [hr] at h
      change stepM K1 a (g k) = some K' at h
      unfold stepM at h
      split at h
      · rename_i hh
        cases h
        exact (addL_facts (rowM_falls hK ha hg k K1 (by omega) hr) (pairL_facts (two_good ha (hg k (by omega)) hh.1)).1).1
      · cases h
theorem mulM_falls {f g : Nat → T} {la lb : Nat} (hf : Good f la) (hg : Good g lb) : ∀ i K, i ≤ la → mulM f g lb i = some K → Falls K
  | 0, K, _, h => by cases h; exact falls_nil
  | i + 1, K, hi, h => by
    rw [mulM] at h
    cases hr : mulM f g lb i with
    | none => rw [hr] at h; cases h
    | some K1 =>
      rw [hr] at h
      exact rowM_falls (mulM_falls hf hg i K1 (by omega) hr) (hf i (by omega)) hg lb K (Nat.le_refl _) h
theorem good_falls {L : List T} (h : Falls L) : Good (lf L) L.length := fun i hi => by have := (fl_lf h).2 i hi; exact ⟨this.1, by omega, this.2.2⟩
theorem ok_falls {L : List T} (h : Falls L) (hl : L.length ≤ 400) : polOk L.length (lf L) = true := by
  have F := fl_lf h
  simp only [polOk, decide_eq_true_eq]
  refine ⟨hl, fun i hi => ?_⟩
  have h1 := F.2 i hi
  simp only [okAt, Bool.and_eq_true, Bool.or_eq_true, decide_eq_true_eq]
  refine ⟨⟨h1.2, h1.1⟩, ?_⟩
  by_cases h0 : i = 0
  · exact .inl h0
  · refine .inr ((ord_pos (F.2 (i - 1) (by omega)).1 h1.1).2 (F.1 (i - 1) i (by omega) hi))

theorem falls_single {t : T} (h : t.m.ok = true ∧ 1 ≤ t.c ∧ t.c ≤ 100) : Falls [t] := ⟨List.pairwise_singleton _ _, fun u hu => by rw [List.mem_singleton.1 hu]; exact h⟩
theorem wyl_falls {K s : List T} (hK : Falls K) (lK : K.length ≤ 400) (hs : Falls s) (ls : s.length ≤ 400) : wylMul (lf K) K.length (lf s) s.length = mulO (mulM (lf K) (lf s) s.length K.length) := if_pos ⟨ok_falls hK lK, ok_falls hs ls⟩
/-- a term with another operator in the place of its first slope, k times so far. -/
def leanP (s : List T) (t : T) : Nat → Option (List T)
  | 0 => some [⟨t.c, ⟨t.m.x, t.m.y, 0, 0⟩⟩]
  | k + 1 => (leanP s t k).bind fun K => mulM (lf K) (lf s) s.length K.length
def lastE (t : T) : T := ⟨1, ⟨0, 0, 0, t.m.e⟩⟩
def leanT (s : List T) (t : T) : Option (List T) := (leanP s t t.m.d.toNat).bind fun K => mulM (lf K) (lf [lastE t]) 1 K.length
theorem leanP_none {s : List T} {t : T} {i : Nat} (h : leanP s t i = none) : ∀ j, i ≤ j → leanP s t j = none := fun j hj => by
  induction j with
  | zero =>
    have e : i = 0 := by omega
    rw [e] at h
    exact h
  | succ j ih =>
    by_cases e : i = j + 1
    · rw [← e]; exact h
    · rw [leanP, ih (by omega)]; rfl
theorem first_ok {t : T} (h : t.m.ok = true ∧ 1 ≤ t.c ∧ t.c ≤ 100) : Falls [(⟨t.c, ⟨t.m.x, t.m.y, 0, 0⟩⟩ : T)] := falls_single ⟨by have := M.ok_iff.1 h.1; exact M.ok_iff.2 (by dsimp only; omega), h.2⟩
theorem lastE_ok {t : T} (h : t.m.ok = true) : Falls [lastE t] := falls_single ⟨by have := M.ok_iff.1 h; exact M.ok_iff.2 (by dsimp only [lastE]; omega), by show (1 : Int) ≤ 1; decide, by show (1 : Int) ≤ 100; decide⟩
theorem leanP_facts {s : List T} {t : T} (hs : Falls s) (h : t.m.ok = true ∧ 1 ≤ t.c ∧ t.c ≤ 100) : ∀ k K, leanP s t k = some K → Falls K ∧ K.length ≤ 400
  | 0, K, e => by cases e; exact ⟨first_ok h, by simp⟩
  | k + 1, K, e => by
    rw [leanP] at e
    cases hr : leanP s t k with
    | none => rw [hr] at e; cases e
    | some K1 =>
      rw [hr] at e
      have h1 := leanP_facts hs h k K1 hr
      exact ⟨mulM_falls (good_falls h1.1) (good_falls hs) _ _ (Nat.le_refl _) e, mulM_len _ _ e⟩
theorem leanT_facts {s : List T} {t : T} (hs : Falls s) (h : t.m.ok = true ∧ 1 ≤ t.c ∧ t.c ≤ 100) {X : List T} (e : leanT s t = some X) : Falls X ∧ X.length ≤ 400 := by
  unfold leanT at e
  cases hr : leanP s t t.m.d.toNat with
  | none => rw [hr] at e; cases e
  | some K1 =>
    rw [hr] at e
    have h1 := leanP_facts hs h _ K1 hr
    exact ⟨mulM_falls (good_falls h1.1) (good_falls (lastE_ok h.1)) _ _ (Nat.le_refl _) e, mulM_len _ _ e⟩
set_option maxRecDepth 100000 in
set_option maxHeartbeats 4000000 in
theorem mapLeantI (w : World) (t : T) (ht : t.m.ok = true ∧ 1 ≤ t.c ∧ t.c ≤ 100) (p : Option Addr) (s : List T) (cs : Nat) (hr : Rd w p s.length cs (lf s)) (hs : Falls s) (hl : s.length ≤ 400) :
    Calls Try.prog 34 #[.agg #[.int .i64 t.c, .int .i64 t.m.x, .int .i64 t.m.y, .int .i64 t.m.d, .int .i64 t.m.e], .slice p s.length cs] w fun r w' => ∃ v, r = .returned (.tuple #[v, .bool (mulO (leanT s t)).2]) ∧ Below w.heap.size w w' ∧ w'.ownsRow w.heap.size 40 5 v (mulO (leanT s t)).1.length (cellsL (mulO (leanT s t)).1) := by
  have HR := Hid.mk' hr
  have hdb := M.ok_iff.1 ht.1
  have hbx : TermAt (w.alloc (.cells #[.int .i64 t.c, .int .i64 t.m.x, .int .i64 t.m.y, .int .i64 t.m.d, .int .i64 t.m.e] 40)) w.heap.size t := World.alloc_heap_new w _
  have hB0 := bel_one w (.cells #[.int .i64 t.c, .int .i64 t.m.x, .int .i64 t.m.y, .int .i64 t.m.d, .int .i64 t.m.e] 40)
  have hof : polOf t.c ⟨t.m.x, t.m.y, 0, 0⟩ = [⟨t.c, ⟨t.m.x, t.m.y, 0, 0⟩⟩] := if_pos ⟨ht.2, M.ok_iff.2 (by dsimp only; omega)⟩
  have hoe : polOf 1 ⟨0, 0, 0, t.m.e⟩ = [lastE t] := if_pos ⟨⟨by decide, by decide⟩, M.ok_iff.2 (by dsimp only; omega)⟩
  have hc1 : ∀ u : World, Calls Try.prog 32 #[.int .i64 t.c, .agg #[.int .i64 t.m.x, .int .i64 t.m.y, .int .i64 0, .int .i64 0]] u fun r w' => ∃ v, r = .returned v ∧ Below u.heap.size u w' ∧ w'.ownsRow u.heap.size 40 5 v 1 (cellsL [⟨t.c, ⟨t.m.x, t.m.y, 0, 0⟩⟩]) := fun u => by
    have := polOfI t.c t.m.x t.m.y 0 0 u
    rwa [hof] at this
  have hc2 : ∀ u : World, Calls Try.prog 32 #[.int .i64 1, .agg #[.int .i64 0, .int .i64 0, .int .i64 0, .int .i64 t.m.e]] u fun r w' => ∃ v, r = .returned v ∧ Below u.heap.size u w' ∧ w'.ownsRow u.heap.size 40 5 v 1 (cellsL [lastE t]) := fun u => by
    have := polOfI 1 0 0 0 t.m.e u
    rwa [hoe] at this
  obtain ⟨b0, b1, b2, b3, b4⟩ := hbx.cells
  clear hr hof hoe
  go_enter Try.func34, Try.ntmps34
  go_wp2_with fail
  refine (hc1 _).mono ?_
  rintro r w1 ⟨v1, rfl, hb1, ho1⟩
  have hx1 : TermAt w1 w.heap.size t := (hb1.block _ (by simp)).trans hbx
  have HB1 := Hid.mk' (bel_next hB0 hb1)
  have HO1 := Hid.mk' (owns_lower ho1 hB0.size)
  clear hc1 hb1 ho1 hB0 hbx b0 b1 b2 b3 b4
  obtain ⟨b0, b1, b2, b3, b4⟩ := hx1.cells
  have HX1 := Hid.mk' hx1
  have hx1l : w.heap.size < w1.heap.size := (Array.getElem?_eq_some_iff.1 hx1).1
  clear hx1
  go_wp2_with fail
  clear b0 b1 b2 b3 b4
  go_loopw [6, 21] (fun v kk wr => ∃ (k : Nat) (K : List T), k ≤ t.m.d.toNat ∧ kk = .int .i64 (k : Int) ∧ leanP s t k = some K ∧ wr.ownsRow w.heap.size 40 5 v K.length (cellsL K) ∧ Below w1.heap.size w1 wr) (fun _ kk _ => t.m.d.toNat - (intOf kk).toNat)
  case atStart => exact ⟨0, _, Nat.zero_le _, rfl, rfl, HO1.out, Below.refl _ _⟩
  case round =>
    obtain ⟨k, K, hk, rfl, hM, hown, hbl⟩ := hrel
    obtain ⟨hKf, hKl⟩ := leanP_facts hs ht k K hM
    obtain ⟨pk, ck, hpk, hout⟩ := out_of_owns hown (by omega)
    subst hpk
    have HK := Hid.mk' hout.1
    have HM := Hid.mk' hM
    have HBW := Hid.mk' (bel_next HB1.out hbl)
    have HBX : Hid (TermAt wr w.heap.size t) := (hbl.block _ hx1l).trans HX1.out
    have HBL := Hid.mk' hbl
    have HOW := Hid.mk' hown
    clear hown hbl hout hM
    by_cases hlt : k < t.m.d.toNat
    · have hkl : (k : Int) < t.m.d := by omega
      have hcall : ∀ u, Rd u pk K.length ck (lf K) → Rd u p s.length cs (lf s) → Calls Try.prog 56 #[.slice pk K.length ck, .slice p s.length cs] u fun r w' => ∃ v, r = .returned (.tuple #[v, .bool (mulO (leanP s t (k + 1))).2]) ∧ Below u.heap.size u w' ∧ w'.ownsRow u.heap.size 40 5 v (mulO (leanP s t (k + 1))).1.length (cellsL (mulO (leanP s t (k + 1))).1) := fun u h1 h2 => by
        have := wylMulV u pk p K.length ck s.length cs (lf K) (lf s) h1 h2
        rw [wyl_falls hKf hKl hs hl] at this
        have e : leanP s t (k + 1) = mulM (lf K) (lf s) s.length K.length := by rw [leanP, HM.out]; rfl
        rw [e]
        exact this
      cases hst : leanP s t (k + 1) with
      | none =>
        rw [hst] at hcall
        have HN : Hid (leanT s t = none) := by
          show _ = _
          unfold leanT
          rw [leanP_none hst _ (by omega)]
          rfl
        go_wp2_with (go_at_call 56; refine (hcall _ HK.out (HR.out.below HBW.out)).mono ?_; rintro r w2 ⟨v2, rfl, hb2, ho2⟩; have HB2 := Hid.mk' (bel_next HBW.out hb2); clear hb2 ho2)
        refine bodyPost_ret (results_tmp2 rfl _ _ _) rfl ?_
        rw [HN.out]
        exact ⟨_, rfl, HB2.out, owns_nil w2 _⟩
      | some K' =>
        rw [hst] at hcall
        have HST := Hid.mk' hst
        clear hst
        go_wp2_with (go_at_call 56; refine (hcall _ HK.out (HR.out.below HBW.out)).mono ?_; rintro r w2 ⟨v2, rfl, hb2, ho2⟩; have HB2 := Hid.mk' (bel_next HBL.out hb2); have HO2 := Hid.mk' (owns_lower ho2 HBW.out.size); clear hb2 ho2)
        go_roundw
        case rel => exact ⟨k + 1, K', by omega, by go_num, HST.out, HO2.out, HB2.out⟩
        case measure => simp [intOf]; omega
    · have ek : k = t.m.d.toNat := by omega
      have hkl : ¬ (k : Int) < t.m.d := by omega
      have hcall : ∀ (u : World) q cq, Rd u pk K.length ck (lf K) → Rd u q 1 cq (lf [lastE t]) → Calls Try.prog 56 #[.slice pk K.length ck, .slice q 1 cq] u fun r w' => ∃ v, r = .returned (.tuple #[v, .bool (mulO (leanT s t)).2]) ∧ Below u.heap.size u w' ∧ w'.ownsRow u.heap.size 40 5 v (mulO (leanT s t)).1.length (cellsL (mulO (leanT s t)).1) := fun u q cq h1 h2 => by
        have := wylMulV u pk q K.length ck 1 cq (lf K) (lf [lastE t]) h1 h2
        rw [show wylMul (lf K) K.length (lf [lastE t]) 1 = mulO (mulM (lf K) (lf [lastE t]) 1 K.length) from wyl_falls hKf hKl (lastE_ok ht.1) (by simp)] at this
        have e : leanT s t = mulM (lf K) (lf [lastE t]) 1 K.length := by unfold leanT; rw [← ek, HM.out]; rfl
        rw [e]
        exact this
      obtain ⟨b0, b1, b2, b3, b4⟩ := HBX.out.cells
      clear ek
      go_wp2_with (first
        | (go_at_call 32; refine (hc2 _).mono ?_; rintro r w2 ⟨v2, rfl, hb2, ho2⟩; obtain ⟨q2, cq2, hq2, hout2⟩ := out_of_owns (L := [lastE t]) ho2 (by simp); subst hq2; have HK2 := Hid.mk' (HK.out.below hb2); have HE2 := Hid.mk' hout2.1; have HB2 := Hid.mk' (bel_next HBW.out hb2); clear hb2 ho2 hout2)
        | (go_at_call 56; refine (hcall _ _ _ HK2.out HE2.out).mono ?_; rintro r w3 ⟨v3, rfl, hb3, ho3⟩; have HB3 := Hid.mk' (bel_next HB2.out hb3); have HO3 := Hid.mk' (owns_lower ho3 HB2.out.size); clear hb3 ho3))
      refine bodyPost_ret (results_tmp2 rfl _ _ _) rfl ?_
      exact ⟨_, rfl, HB3.out, HO3.out⟩
def stLean (s : List T) (K : List T) (t : T) : Option (List T) := (leanT s t).bind fun X => some (addL K X)
set_option maxRecDepth 100000 in
set_option maxHeartbeats 4000000 in
theorem leanTurns (SB : Nat) (p : Option Addr) (s : List T) (cs : Nat) (hs : Falls s) (hsl : s.length ≤ 400) :
    Turns 33 #[.pointer (some ⟨SB, 0, none⟩)] (stLean s) (fun W => W.cell? ⟨SB, 0, none⟩ = some (.slice p s.length cs) ∧ Rd W p s.length cs (lf s)) := by
  intro W bm c K t hS hK hKc hl ht hq
  have hcr := hS.range
  have hbl := hS.lt
  have HS := Hid.mk' hS
  have hB0 := bel_one W (.cells #[.int .i64 t.c, .int .i64 t.m.x, .int .i64 t.m.y, .int .i64 t.m.d, .int .i64 t.m.e] 40)
  have q0 : (W.alloc (.cells #[.int .i64 t.c, .int .i64 t.m.x, .int .i64 t.m.y, .int .i64 t.m.d, .int .i64 t.m.e] 40)).cell? ⟨SB, 0, none⟩ = some (.slice p s.length cs) := (hB0.cell (p := ⟨SB, 0, none⟩) (World.block_lt_of_cell? W ⟨SB, 0, none⟩ hq.1)).trans hq.1
  have hcall := mapLeantI (W.alloc (.cells #[.int .i64 t.c, .int .i64 t.m.x, .int .i64 t.m.y, .int .i64 t.m.d, .int .i64 t.m.e] 40)) t ht p s cs (hq.2.below hB0) hs hsl
  have hW0 : bm < (W.alloc (.cells #[.int .i64 t.c, .int .i64 t.m.x, .int .i64 t.m.y, .int .i64 t.m.d, .int .i64 t.m.e] 40)).heap.size := by simp; omega
  have hlt : (leanT s t = none ∨ ∃ X, leanT s t = some X) := by cases leanT s t with
    | none => exact .inl rfl
    | some X => exact .inr ⟨X, rfl⟩
  obtain ⟨X, hXf, hXl, hX2, hX1⟩ : ∃ X, Falls X ∧ X.length ≤ 400 ∧ ((leanT s t = some X ∧ (mulO (leanT s t)).2 = true) ∨ (leanT s t = none ∧ X = [] ∧ (mulO (leanT s t)).2 = false)) ∧ (mulO (leanT s t)).1 = X := by
    rcases hlt with h0 | ⟨X, h0⟩
    · exact ⟨[], falls_nil, by simp, .inr ⟨h0, rfl, by rw [h0]; rfl⟩, by rw [h0]; rfl⟩
    · have hf := leanT_facts hs ht h0
      exact ⟨X, hf.1, hf.2, .inl ⟨h0, by rw [h0]; rfl⟩, by rw [h0]; rfl⟩
  rw [hX1] at hcall
  have hadd := addL_facts hK hXf
  have HX2 := Hid.mk' hX2
  generalize (mulO (leanT s t)).2 = bo at *
  clear hS hq hlt hX1 hX2
  show Calls Try.prog 33 #[.map (some bm), .agg #[.int .i64 t.c, .int .i64 t.m.x, .int .i64 t.m.y, .int .i64 t.m.d, .int .i64 t.m.e], .pointer (some ⟨SB, 0, none⟩)] W _
  go_enter Try.func33, Try.ntmps33
  go_wp2_with (first
    | (go_at_call 34; refine hcall.mono ?_; rintro r w2 ⟨v2, rfl, hb2, ho2⟩; obtain ⟨a2, c2, hv2, hout2⟩ := out_of_owns ho2 (by omega); subst hv2; have HB2 := Hid.mk' (bel_next hB0 hb2); have hw2 := hb2.size; have HOUT := Hid.mk' hout2; clear hb2 ho2 hout2)
    | (go_at_call 35; refine (sumTimes w2 bm 65536 c 1 a2 X.length c2 (lf X) (HS.out.grown (grown_of_below HB2.out) (by simp)) HOUT.out.1 (by rcases HOUT.out.2.2 with h0 | ⟨g, off, h1, h2⟩; exact .inl h0; refine .inr (fun b' off' e1 e2 => ?_); rw [h1] at e1; cases e1; cases e2; omega) (fun i hi => ((fl_lf hXf).2 i hi).1) (fun i hi => by have := ((fl_lf hXf).2 i hi).2; omega) (by omega) (by omega) (by omega) (by omega)).mono ?_; rintro r w3 ⟨rfl, hs3, hg3⟩; have HS3 := Hid.mk' hs3.cap; have HG3 := Hid.mk' (World.grownBy.trans (⟨HB2.out.os, HB2.out.tape, HB2.out.output, HB2.out.size, fun k hk _ => HB2.out.block k hk⟩ : W.grownBy w2 (some bm)) hg3); clear hs3 hg3))
  go_ret
  refine ⟨HG3.out, ?_⟩
  rcases HX2.out with ⟨h0, h1⟩ | ⟨h0, _, h1⟩
  · refine .inl ⟨addL K X, timesC 1 (lf X) c X.length, by rw [stLean, h0]; rfl, by rw [h1]; rfl, HS3.out, hadd.1, fun m hm => ?_⟩
    have hr := coef_range hXf m
    rw [hadd.2, timesC_is (fl_lf hXf) hcr X.length (Nat.le_refl _) m, fromC_lf, hKc m hm]
    omega
  · exact .inr ⟨by rw [stLean, h0]; rfl, by rw [h1]; rfl⟩

def slD : T := ⟨1, ⟨0, 0, 1, 0⟩⟩
def slX (c : Int) : M := ⟨1, 0, 0, 0⟩
/-- the slope that leans. -/
def leanS (c : Int) : List T := addL [slD] (polOf c ⟨1, 0, 0, 0⟩)
theorem slD_falls : Falls [slD] := falls_single ⟨by decide, by decide, by decide⟩
theorem ofX_falls (c : Int) : Falls (polOf c ⟨1, 0, 0, 0⟩) := by
  unfold polOf
  split
  · rename_i h; exact falls_single ⟨h.2, h.1⟩
  · exact falls_nil
theorem ofX_len (c : Int) : (polOf c ⟨1, 0, 0, 0⟩).length ≤ 1 := by unfold polOf; split <;> simp
theorem leanS_falls (c : Int) : Falls (leanS c) := (addL_facts slD_falls (ofX_falls c)).1
theorem leanS_len (c : Int) : (leanS c).length ≤ 400 := by
  have h1 := addT_len (lf [slD]) [slD].length (lf (polOf c ⟨1, 0, 0, 0⟩)) (polOf c ⟨1, 0, 0, 0⟩).length 0 0
  have h2 := ofX_len c
  unfold leanS addL
  simp at h1 ⊢
  omega
theorem leanS_is (c : Int) : polAdd (lf [slD]) 1 (lf (polOf c ⟨1, 0, 0, 0⟩)) (polOf c ⟨1, 0, 0, 0⟩).length = (leanS c, true) :=
  if_pos ⟨ok_falls slD_falls (by simp), ok_falls (ofX_falls c) (by have := ofX_len c; omega), leanS_len c⟩
theorem leanS_put {c : Int} (h0 : 0 ≤ c) (h1 : c ≤ 100) : putT c ⟨1, 0, 0, 0⟩ [slD] = leanS c := by
  have a1 := putT_facts slD_falls (m := ⟨1, 0, 0, 0⟩) (by decide) h0 h1
  have a2 := addL_facts slD_falls (ofX_falls c)
  refine falls_one a1.1 a2.1 (fun m hm => ?_)
  rw [a1.2, leanS, a2.2]
  have hr := coef_range slD_falls m
  by_cases hc : 1 ≤ c
  · have e3 : polOf c ⟨1, 0, 0, 0⟩ = [⟨c, ⟨1, 0, 0, 0⟩⟩] := if_pos ⟨⟨hc, h1⟩, by decide⟩
    rw [e3]
    unfold updC
    by_cases hx : m = ⟨1, 0, 0, 0⟩
    · subst hx
      rw [if_pos (meq_iff.2 rfl)]
      rfl
    · rw [if_neg (fun e => hx (meq_iff.1 e))]
      have e2 : coef [(⟨c, ⟨1, 0, 0, 0⟩⟩ : T)] m = 0 := by
        show (if meqB _ m = true then c else 0) = 0
        exact if_neg (fun e => hx (meqB_iff.1 e).symm)
      rw [e2]
      omega
  · have e3 : polOf c ⟨1, 0, 0, 0⟩ = [] := if_neg (fun h => hc h.1.1)
    rw [e3]
    have e0 : c = 0 := by omega
    unfold updC
    split
    · rename_i hx
      rw [← meq_iff.1 hx, e0]
      rfl
    · show coef [slD] m = (coef [slD] m + 0) % 101
      omega
def mapLean (f : Nat → T) (n : Nat) (c : Int) : List T × Bool := if 0 ≤ c ∧ c ≤ 100 then mapV (stLean (leanS c)) f n else ([], false)
theorem mapLean_len (f : Nat → T) (n : Nat) (c : Int) : (mapLean f n c).1.length ≤ 400 := by
  unfold mapLean
  split
  · exact mapV_len _ _ _
  · simp
set_option maxHeartbeats 4000000 in
theorem mapLeanI (w : World) (p : Option Addr) (n cap : Nat) (f : Nat → T) (c : Int) (ha : Rd w p n cap f) :
    Calls Try.prog 14 #[.slice p n cap, .int .i64 c] w fun r w' => ∃ a' cap', r = .returned (.tuple #[.slice a' (mapLean f n c).1.length cap', .bool (mapLean f n c).2]) ∧ Below w.heap.size w w' ∧ Out w.heap.size w' a' cap' (mapLean f n c).1 := by
  have HA := Hid.mk' ha
  clear ha
  by_cases hr : 0 ≤ c ∧ c ≤ 100
  · have e1 : mapLean f n c = mapV (stLean (leanS c)) f n := if_pos hr
    have hlen := mapLean_len f n c
    rw [e1] at hlen ⊢
    have hx := ofX_len c
    have hc1 : ∀ u : World, Calls Try.prog 32 #[.int .i64 1, .agg #[.int .i64 0, .int .i64 0, .int .i64 1, .int .i64 0]] u fun r w' => ∃ v, r = .returned v ∧ Below u.heap.size u w' ∧ w'.ownsRow u.heap.size 40 5 v 1 (cellsL [slD]) := fun u => by
      have := polOfI 1 0 0 1 0 u
      rwa [show polOf 1 ⟨0, 0, 1, 0⟩ = [slD] from rfl] at this
    have hc2 : ∀ u : World, Calls Try.prog 32 #[.int .i64 c, .agg #[.int .i64 1, .int .i64 0, .int .i64 0, .int .i64 0]] u fun r w' => ∃ v, r = .returned v ∧ Below u.heap.size u w' ∧ w'.ownsRow u.heap.size 40 5 v (polOf c ⟨1, 0, 0, 0⟩).length (cellsL (polOf c ⟨1, 0, 0, 0⟩)) := fun u => polOfI c 1 0 0 0 u
    go_enter Try.func14, Try.ntmps14
    go_wp2_with (go_at_call 22; refine (okI_in c _ hr.1 hr.2).mono ?_; rintro e w' ⟨rfl, hw'⟩; obtain rfl := hw'.symm; clear hw')
    refine (hc1 _).mono ?_
    rintro r w1 ⟨v1, rfl, hb1, ho1⟩
    obtain ⟨p1, c1, hp1, hout1⟩ := out_of_owns (L := [slD]) ho1 (by simp)
    subst hp1
    have HB1 := Hid.mk' hb1
    have HR1 := Hid.mk' hout1.1
    clear hb1 ho1 hout1 hc1
    go_wp2_with fail
    refine (hc2 _).mono ?_
    rintro r w2 ⟨v2, rfl, hb2, ho2⟩
    obtain ⟨p2, c2, hp2, hout2⟩ := out_of_owns ho2 (by omega)
    subst hp2
    have HB2 := Hid.mk' (bel_next HB1.out hb2)
    have hadd := polAddI w2 p1 p2 1 c1 _ c2 (lf [slD]) (lf (polOf c ⟨1, 0, 0, 0⟩)) (HR1.out.below hb2) hout2.1
    rw [leanS_is] at hadd
    clear hb2 ho2 hout2 hc2 HR1
    go_wp2_with fail
    refine hadd.mono ?_
    rintro r w3 ⟨a3, c3, rfl, hb3, hout3⟩
    have HB3 := Hid.mk' (bel_next HB2.out hb3)
    have HR3 := Hid.mk' hout3.1
    clear hb3 hout3 hadd
    have hB4 := bel_one w3 (.cells #[.slice a3 (leanS c).length c3] 24)
    have q4 : (w3.alloc (.cells #[.slice a3 (leanS c).length c3] 24)).cell? ⟨w3.heap.size, 0, none⟩ = some (.slice a3 (leanS c).length c3) := by rw [World.cell?_alloc_at _ _ _ _ rfl]; rfl
    have hs4 : (w3.alloc (.cells #[.slice a3 (leanS c).length c3] 24)).heap.size = w3.heap.size + 1 := by simp
    have hc := mapEachV (w3.alloc (.cells #[.slice a3 (leanS c).length c3] 24)) p n cap f 33 #[.pointer (some ⟨w3.heap.size, 0, none⟩)] (stLean (leanS c)) (fun W => W.cell? ⟨w3.heap.size, 0, none⟩ = some (.slice a3 (leanS c).length c3) ∧ Rd W a3 (leanS c).length c3 (lf (leanS c))) (enters_of Try.func33 (by kernel_rfl) rfl) (leanTurns _ a3 (leanS c) c3 (leanS_falls c) (leanS_len c))
      (fun W W' bm hq hlo hg => by
        rw [hs4] at hlo
        have n1 : w3.heap.size ≠ bm := by omega
        refine ⟨(World.cell?_of_block (w := W) (a := ⟨w3.heap.size, 0, none⟩) (hg.block _ (World.block_lt_of_cell? W ⟨w3.heap.size, 0, none⟩ hq.1) (fun e => n1 (by cases e; rfl)))).trans hq.1, hq.2.grown hg ?_⟩
        rcases HR3.out.2.2 with h0 | ⟨b3, o3, h1, h2, _⟩
        · exact .inl h0
        · refine .inr (fun b' off' e1 e2 => ?_)
          rw [h1] at e1
          cases e1
          cases e2
          omega)
      (fun W' hq hb => ⟨(hb.cell (p := ⟨w3.heap.size, 0, none⟩) (by rw [hs4]; show w3.heap.size < _; omega)).trans hq.1, hq.2.below hb⟩) ⟨q4, HR3.out.below hB4⟩ (HA.out.below (bel_next HB3.out hB4))
    have HB4 := Hid.mk' (bel_next HB3.out hB4)
    clear q4 hs4 hB4
    go_wp2_with (go_at_call 23; refine hc.mono ?_; rintro r w5 ⟨v5, rfl, hb5, ho5⟩; have HB5 := Hid.mk' (bel_next HB4.out hb5); have HO5 := Hid.mk' (owns_lower ho5 HB4.out.size); clear hb5 ho5)
    refine bodyPost_ret (results_tmp2 rfl _ _ _) rfl ?_
    obtain ⟨a', cap', rfl, hout⟩ := out_of_owns HO5.out (by omega)
    exact ⟨a', cap', rfl, HB5.out, hout⟩
  · have e1 : mapLean f n c = ([], false) := if_neg hr
    rw [e1]
    go_enter Try.func14, Try.ntmps14
    go_wp2_with (go_at_call 22; refine (okI_out c _ (by omega)).mono ?_; rintro e w' ⟨rfl, hw'⟩; obtain rfl := hw'.symm; clear hw')
    refine bodyPost_ret (results_tmp2 rfl _ _ _) rfl ?_
    exact ⟨none, 0, rfl, Below.refl _ _, ⟨⟨Nat.le_refl _, by simp, .inl rfl⟩, .inl rfl, .inl rfl⟩⟩
theorem cell_underL {u u' : World} {k o : Nat} {v : Value} (hb : Below u.heap.size u u') (hv : u.cell? ⟨k, o, none⟩ = some v) : u'.cell? ⟨k, o, none⟩ = some v := (hb.cell (p := ⟨k, o, none⟩) (World.block_lt_of_cell? u ⟨k, o, none⟩ hv)).trans hv
theorem owns_single (w : World) (lo : Nat) (t : T) (h : lo ≤ w.heap.size) : (w.alloc (.cells #[.int .i64 t.c, .int .i64 t.m.x, .int .i64 t.m.y, .int .i64 t.m.d, .int .i64 t.m.e] 40)).ownsRow lo 40 5 (.slice (some ⟨w.heap.size, 0, none⟩) 1 1) 1 (cellsL [t]) := by
  rw [cellsL_one]
  exact World.ownsRow_lit w #[.int .i64 t.c, .int .i64 t.m.x, .int .i64 t.m.y, .int .i64 t.m.d, .int .i64 t.m.e] 1 h (by unfold maxLen; omega) rfl
set_option maxRecDepth 100000 in
set_option maxHeartbeats 16000000 in
theorem mapLeanS (w : World) (p : Option Addr) (n cap : Nat) (f : Nat → T) (c : Int) (h : Rd w p n cap f) :
    Calls Try.prog 13 #[.slice p n cap, .int .i64 c] w fun r w' => ∃ v, r = .returned (.tuple #[v, .bool (mapLean f n c).2]) ∧ Below w.heap.size w w' ∧ w'.ownsRow w.heap.size 40 5 v (mapLean f n c).1.length (cellsL (mapLean f n c).1) := by
  have HA := Hid.mk' h
  have hn : (n : Int) ≤ 140737488351232 := by have := h.2.1; omega
  have hO0 := owns_none w w.heap.size (Nat.le_refl _)
  have hB0 := bel_one w (.cells #[] 40)
  clear h
  cases hpa : polOk n f
  · have e1 : mapLean f n c = ([], false) := by simp [mapLean, mapV, hpa]
    rw [e1]
    go_enter Try.func13, Try.ntmps13
    go_wp2_with (go_at_call 17; refine (polOkS _ _ _ _ f (HA.out.below hB0)).mono ?_; rw [hpa]; rintro r w1 ⟨rfl, hb1⟩; have HB1 := Hid.mk' (bel_next hB0 hb1); have HO1 := Hid.mk' (owns_below hO0 hb1); clear hb1)
    all_goals (refine bodyPost_ret (results_tmp2 rfl _ _ _) rfl ?_)
    all_goals exact ⟨_, rfl, HB1.out, HO1.out⟩
  by_cases hr : 0 ≤ c ∧ c ≤ 100
  case neg =>
    have e1 : mapLean f n c = ([], false) := if_neg hr
    rw [e1]
    go_enter Try.func13, Try.ntmps13
    go_wp2_with (first
      | (go_at_call 17; refine (polOkS _ _ _ _ f (HA.out.below hB0)).mono ?_; rw [hpa]; rintro r w1 ⟨rfl, hb1⟩; have HB1 := Hid.mk' (bel_next hB0 hb1); have HO1 := Hid.mk' (owns_below hO0 hb1); clear hb1)
      | (go_at_call 18; refine (okS_out c _ (by omega)).mono ?_; rintro e w' ⟨rfl, hw'⟩; obtain rfl := hw'.symm; clear hw'))
    all_goals (refine bodyPost_ret (results_tmp2 rfl _ _ _) rfl ?_)
    all_goals exact ⟨_, rfl, HB1.out, HO1.out⟩
  have e1 : mapLean f n c = mulO (eachM (stLean (leanS c)) f n) := by simp [mapLean, mapV, hpa, hr]
  rw [e1]
  clear e1
  have l1 := (good_ok hpa).1
  have HPA := Hid.mk' hpa
  go_enter Try.func13, Try.ntmps13
  go_wp2_with (first
    | (go_at_call 17; refine (polOkS _ _ _ _ f (HA.out.below hB0)).mono ?_; rw [hpa]; rintro r w1 ⟨rfl, hb1⟩; have HB1 := Hid.mk' (bel_next hB0 hb1); have HO1 := Hid.mk' (owns_below hO0 hb1); clear hb1)
    | (go_at_call 18; refine (okS_in c _ hr.1 hr.2).mono ?_; rintro e w' ⟨rfl, hw'⟩; obtain rfl := hw'.symm; clear hw'))
  have hBl := bel_next HB1.out (bel_one w1 (.cells #[.int .i64 1, .int .i64 0, .int .i64 0, .int .i64 1, .int .i64 0] 40))
  refine (l4PutS _ w.heap.size _ [slD] c 1 0 0 0 (owns_single w1 w.heap.size slD HB1.out.size) hBl.size (by simp) (cok_falls slD_falls) hr.1 hr.2).mono ?_
  rintro r w2 ⟨v2, rfl, hb2, ho2⟩
  rw [leanS_put hr.1 hr.2] at ho2
  obtain ⟨ps, cs, hps, hout2⟩ := out_of_owns ho2 (by have := leanS_len c; omega)
  subst hps
  have HRS := Hid.mk' hout2.1
  have HB2 := Hid.mk' (bel_next hBl hb2)
  have HO2 := Hid.mk' (owns_below (owns_below HO1.out (bel_one w1 (.cells #[.int .i64 1, .int .i64 0, .int .i64 0, .int .i64 1, .int .i64 0] 40))) hb2)
  have hsf := leanS_falls c
  have hsl := leanS_len c
  clear hb2 ho2 hout2 hBl hO0 hB0
  generalize hsd : leanS c = s at *
  have HSD := Hid.mk' hsd
  clear hsd
  go_wp2_with fail
  go_loopw [6, 8] (fun v ii wr => ∃ (i : Nat) (K : List T), i ≤ n ∧ ii = .int .i64 (i : Int) ∧ eachM (stLean s) f i = some K ∧ Falls K ∧ wr.ownsRow w.heap.size 40 5 v K.length (cellsL K) ∧ Below w2.heap.size w2 wr) (fun _ ii _ => n - (intOf ii).toNat)
  case atStart => exact ⟨0, [], Nat.zero_le _, rfl, rfl, falls_nil, HO2.out, Below.refl _ _⟩
  case round =>
    obtain ⟨i, K, hi, rfl, hM, hKf, hown, hbl2⟩ := hrel
    have hbl := bel_next HB2.out hbl2
    by_cases hlt : i < n
    · have hil : (i : Int) < (n : Int) := by omega
      have hfi := (fl_of_ok HPA.out).2 i hlt
      have hKl := eachM_len i K hM
      have HM := Hid.mk' hM
      obtain ⟨po, co, hpo, _⟩ := out_of_owns hown (by omega)
      subst hpo
      have HOWN := Hid.mk' hown
      have HBL := Hid.mk' hbl
      have HRW := Hid.mk' (HRS.out.below hbl2)
      have HB2W := Hid.mk' hbl2
      clear hown hbl hM hbl2
      have hri := HA.out.below HBL.out
      rcases hri.2.2 with h0 | ⟨pb, off, hpe, hblt, hcl⟩
      · omega
      subst hpe
      obtain ⟨g0, g1, g2, g3, g4⟩ := hcl i hlt
      clear hcl hri
      have hdb := M.ok_iff.1 hfi.1
      go_wp2_with fail
      have hq := M4.box wr 38 (f i).m.x (f i).m.y (f i).m.d (f i).m.e
      obtain ⟨q0, q1, q2, q3⟩ := hq
      have g5 := cell_underL (bel_one wr (.cells #[.int .i64 (f i).m.x, .int .i64 (f i).m.y, .int .i64 (f i).m.d, .int .i64 (f i).m.e] 38)) g0
      have HBQ := Hid.mk' (bel_next HBL.out (bel_one wr (.cells #[.int .i64 (f i).m.x, .int .i64 (f i).m.y, .int .i64 (f i).m.d, .int .i64 (f i).m.e] 38)))
      have HB2Q := Hid.mk' (bel_next HB2W.out (bel_one wr (.cells #[.int .i64 (f i).m.x, .int .i64 (f i).m.y, .int .i64 (f i).m.d, .int .i64 (f i).m.e] 38)))
      have HRQ := Hid.mk' (HRW.out.below (bel_one wr (.cells #[.int .i64 (f i).m.x, .int .i64 (f i).m.y, .int .i64 (f i).m.d, .int .i64 (f i).m.e] 38)))
      have HOQ := Hid.mk' (owns_below HOWN.out (bel_one wr (.cells #[.int .i64 (f i).m.x, .int .i64 (f i).m.y, .int .i64 (f i).m.d, .int .i64 (f i).m.e] 38)))
      clear g0 g1 g2 g3 g4
      generalize wr.alloc (.cells #[.int .i64 (f i).m.x, .int .i64 (f i).m.y, .int .i64 (f i).m.d, .int .i64 (f i).m.e] 38) = wq at HBQ HB2Q HRQ HOQ q0 q1 q2 q3 g5 ⊢
      generalize wr.heap.size = bx at q0 q1 q2 q3 ⊢
      have hQ0 : wq.drew.cell? ⟨pb, off + i * 5, none⟩ = some (.int .i64 (f i).c) ∧ wq.drew.cell? ⟨bx, 0, none⟩ = some (.int .i64 (f i).m.x) ∧ wq.drew.cell? ⟨bx, 1, none⟩ = some (.int .i64 (f i).m.y) := ⟨g5, q0, q1⟩
      go_region_held3 (fun u => u.cell? ⟨pb, off + i * 5, none⟩ = some (.int .i64 (f i).c) ∧ u.cell? ⟨bx, 0, none⟩ = some (.int .i64 (f i).m.x) ∧ u.cell? ⟨bx, 1, none⟩ = some (.int .i64 (f i).m.y)) (first | with_reducible exact hQ0 | with_reducible exact ⟨cell_underL (bel_one _ _) hQ0.1, cell_underL (bel_one _ _) hQ0.2.1, cell_underL (bel_one _ _) hQ0.2.2⟩) (fail)
      have HB3 := Hid.mk' (HBQ.out.alloc HBQ.out.size (.cells #[.int .i64 (f i).c, .int .i64 (f i).m.x, .int .i64 (f i).m.y, .int .i64 0, .int .i64 0] 40)).drew
      have HR3 := Hid.mk' ((HRQ.out.below (bel_one wq (.cells #[.int .i64 (f i).c, .int .i64 (f i).m.x, .int .i64 (f i).m.y, .int .i64 0, .int .i64 0] 40))).below (Below.refl _ _).drew)
      have HO3 := Hid.mk' (owns_below (owns_below HOQ.out (bel_one wq (.cells #[.int .i64 (f i).c, .int .i64 (f i).m.x, .int .i64 (f i).m.y, .int .i64 0, .int .i64 0] 40))) (Below.refl _ _).drew)
      have HX3 := Hid.mk' (owns_below (owns_single wq w.heap.size ⟨(f i).c, ⟨(f i).m.x, (f i).m.y, 0, 0⟩⟩ HBQ.out.size) (Below.refl _ _).drew)
      have HB23 := Hid.mk' (HB2Q.out.alloc HB2Q.out.size (.cells #[.int .i64 (f i).c, .int .i64 (f i).m.x, .int .i64 (f i).m.y, .int .i64 0, .int .i64 0] 40)).drew
      have d3 : (wq.alloc (.cells #[.int .i64 (f i).c, .int .i64 (f i).m.x, .int .i64 (f i).m.y, .int .i64 0, .int .i64 0] 40)).drew.cell? ⟨bx, 2, none⟩ = _ := cell_underL (bel_one wq (.cells #[.int .i64 (f i).c, .int .i64 (f i).m.x, .int .i64 (f i).m.y, .int .i64 0, .int .i64 0] 40)).drew q2
      have e3 : (wq.alloc (.cells #[.int .i64 (f i).c, .int .i64 (f i).m.x, .int .i64 (f i).m.y, .int .i64 0, .int .i64 0] 40)).drew.cell? ⟨bx, 3, none⟩ = _ := cell_underL (bel_one wq (.cells #[.int .i64 (f i).c, .int .i64 (f i).m.x, .int .i64 (f i).m.y, .int .i64 0, .int .i64 0] 40)).drew q3
      rename_i hheld
      clear hheld hQ0 q0 q1 q2 q3 g5 HBQ HB2Q HRQ HOQ
      dsimp only at HX3
      generalize (wq.alloc (.cells #[.int .i64 (f i).c, .int .i64 (f i).m.x, .int .i64 (f i).m.y, .int .i64 0, .int .i64 0] 40)).drew = w3 at HB3 HR3 HO3 HX3 HB23 d3 e3 ⊢
      generalize wq.heap.size = gx at HX3 ⊢
      have HDE := Hid.mk' (And.intro d3 e3)
      clear d3 e3
      go_wp2_with fail
      go_loopw [10, 11, 12] (fun v ok kk wr2 => ∃ k : Nat, k ≤ (f i).m.d.toNat ∧ kk = .int .i64 (k : Int) ∧ Below w3.heap.size w3 wr2 ∧ ((∃ X, ok = .bool true ∧ leanP s (f i) k = some X ∧ wr2.ownsRow w.heap.size 40 5 v X.length (cellsL X)) ∨ (ok = .bool false ∧ leanT s (f i) = none ∧ wr2.ownsRow w.heap.size 40 5 v 0 (cellsL [])))) (fun _ _ kk _ => (f i).m.d.toNat - (intOf kk).toNat)
      case atStart => exact ⟨0, Nat.zero_le _, rfl, Below.refl _ _, .inl ⟨_, rfl, rfl, HX3.out⟩⟩
      case round =>
        obtain ⟨k, hk, rfl, hbl, hcase⟩ := hrel
        have d4 := cell_underL hbl HDE.out.1
        have HE4 := Hid.mk' (cell_underL hbl HDE.out.2)
        have HB4 := Hid.mk' hbl
        have HBW := Hid.mk' (bel_next HB3.out hbl)
        have HB2R := Hid.mk' (bel_next HB23.out hbl)
        have HOR := Hid.mk' (owns_below HO3.out hbl)
        have HRR := Hid.mk' (HR3.out.below hbl)
        clear hbl
        rcases hcase with ⟨X, rfl, hP, hown⟩ | ⟨rfl, hP, hown⟩
        · obtain ⟨hXf, hXl⟩ := leanP_facts hsf hfi k X hP
          obtain ⟨pk, ck, hpk, hout⟩ := out_of_owns hown (by omega)
          subst hpk
          have HK := Hid.mk' hout.1
          have HP := Hid.mk' hP
          clear hout hown hP
          by_cases hlk : k < (f i).m.d.toNat
          · have hkl : (k : Int) < (f i).m.d := by omega
            have hcall : ∀ u, Rd u pk X.length ck (lf X) → Rd u ps s.length cs (lf s) → Calls Try.prog 29 #[.slice pk X.length ck, .slice ps s.length cs] u fun r w' => ∃ v, r = .returned (.tuple #[v, .bool (mulO (leanP s (f i) (k + 1))).2]) ∧ Below u.heap.size u w' ∧ w'.ownsRow u.heap.size 40 5 v (mulO (leanP s (f i) (k + 1))).1.length (cellsL (mulO (leanP s (f i) (k + 1))).1) := fun u h1 h2 => by
              have := mulS4 u pk ps X.length ck s.length cs (lf X) (lf s) h1 h2 hXl hsl (good_falls hXf) (good_falls hsf)
              have e : leanP s (f i) (k + 1) = mulM (lf X) (lf s) s.length X.length := by rw [leanP, HP.out]; rfl
              rw [e]
              exact this
            go_wp2_with (go_at_call 29; refine (hcall _ HK.out HRR.out).mono ?_; rintro r w5 ⟨v5, rfl, hb5, ho5⟩; have HB5 := Hid.mk' (bel_next HB4.out hb5); have HO5 := Hid.mk' (owns_lower ho5 HBW.out.size); clear hb5 ho5)
            go_roundw
            case rel =>
              refine ⟨k + 1, by omega, by go_num, HB5.out, ?_⟩
              have ho := HO5.out
              cases hst : leanP s (f i) (k + 1) with
              | none =>
                rw [hst] at ho
                exact .inr ⟨rfl, by unfold leanT; rw [leanP_none hst _ (by omega)]; rfl, ho⟩
              | some X' =>
                rw [hst] at ho
                exact .inl ⟨X', rfl, rfl, ho⟩
            case measure => simp [intOf]; omega
          · have ek : k = (f i).m.d.toNat := by omega
            have hkl : ¬ (k : Int) < (f i).m.d := by omega
            have hcall : ∀ (u : World) q cq, Rd u pk X.length ck (lf X) → Rd u q 1 cq (lf [lastE (f i)]) → Calls Try.prog 29 #[.slice pk X.length ck, .slice q 1 cq] u fun r w' => ∃ v, r = .returned (.tuple #[v, .bool (mulO (leanT s (f i))).2]) ∧ Below u.heap.size u w' ∧ w'.ownsRow u.heap.size 40 5 v (mulO (leanT s (f i))).1.length (cellsL (mulO (leanT s (f i))).1) := fun u q cq h1 h2 => by
              have := mulS4 u pk q X.length ck 1 cq (lf X) (lf [lastE (f i)]) h1 h2 hXl (by omega) (good_falls hXf) (good_falls (lastE_ok hfi.1))
              have e : leanT s (f i) = mulM (lf X) (lf [lastE (f i)]) 1 X.length := by unfold leanT; rw [← ek, HP.out]; rfl
              rw [e]
              exact this
            have e4 := HE4.out
            clear ek
            go_wp2_with fail
            obtain ⟨_, _, hqe, hoe⟩ := out_of_owns (L := [lastE (f i)]) (owns_single wr w.heap.size (lastE (f i)) HBW.out.size) (by simp)
            cases hqe
            refine (hcall _ _ _ (HK.out.below (bel_one wr (.cells #[.int .i64 1, .int .i64 0, .int .i64 0, .int .i64 0, .int .i64 (f i).m.e] 40))) hoe.1).mono ?_
            rintro r w5 ⟨v5, rfl, hb5, ho5⟩
            have HBW5 := Hid.mk' (bel_next (bel_next HBW.out (bel_one wr (.cells #[.int .i64 1, .int .i64 0, .int .i64 0, .int .i64 0, .int .i64 (f i).m.e] 40))) hb5)
            have HB25 := Hid.mk' (bel_next (bel_next HB2R.out (bel_one wr (.cells #[.int .i64 1, .int .i64 0, .int .i64 0, .int .i64 0, .int .i64 (f i).m.e] 40))) hb5)
            have HO5 := Hid.mk' (owns_below (owns_below HOR.out (bel_one wr (.cells #[.int .i64 1, .int .i64 0, .int .i64 0, .int .i64 0, .int .i64 (f i).m.e] 40))) hb5)
            clear hb5 hoe hcall e4
            rcases (show leanT s (f i) = none ∨ ∃ X2, leanT s (f i) = some X2 by cases leanT s (f i) with
              | none => exact .inl rfl
              | some X2 => exact .inr ⟨X2, rfl⟩) with hP2 | ⟨X2, hP2⟩
            · rw [hP2] at ho5
              rw [hP2]
              obtain ⟨a5, c5, hv5, hx5⟩ := out_of_owns (L := []) ho5 (by simp)
              subst hv5
              have HX5 := Hid.mk' hx5.1
              have hX2f := falls_nil
              have hX2l : ([] : List T).length ≤ 400 := by simp
              clear ho5 hx5
              go_wp2_with fail
              obtain ⟨_, _, hov, hor⟩ := out_of_owns HO5.out (by omega)
              cases hov
              refine (l3AddS _ _ _ _ _ _ _ (lf K) (lf []) hor.1 HX5.out (by omega) (cok_falls hKf).at (cok_falls hX2f).at).mono ?_
              rintro r w6 ⟨v6, rfl, hb6, ho6⟩
              change w6.ownsRow w5.heap.size 40 5 v6 (addL K []).length (cellsL (addL K [])) at ho6
              have hal : (addL K []).length ≤ 2000 := by have := addT_len (lf K) K.length (lf ([] : List T)) ([] : List T).length 0 0; unfold addL; omega
              obtain ⟨p6, c6, hp6, _⟩ := out_of_owns ho6 (by omega)
              subst hp6
              have HB6 := Hid.mk' (bel_next HBW5.out hb6)
              have HB26 := Hid.mk' (bel_next HB25.out hb6)
              have HO6 := Hid.mk' (owns_lower ho6 HBW5.out.size)
              clear hb6 ho6 hor
              have HN : Hid (eachM (stLean s) f n = none) := eachM_none (i := i + 1) (by rw [eachM, HM.out]; show (stLean s K (f i)).bind lim4 = none; rw [stLean, hP2]; rfl) n (by omega)
              go_wp2
              refine bodyPost_ret (results_tmp2 rfl _ _ _) rfl ?_
              rw [HSD.out, HN.out]
              exact ⟨_, rfl, HB6.out.alloc HB6.out.size _, owns_none _ w.heap.size HB6.out.size⟩
            · have hX2 := leanT_facts hsf hfi hP2
              have hX2f := hX2.1
              have hX2l := hX2.2
              rw [hP2] at ho5
              rw [hP2]
              obtain ⟨a5, c5, hv5, hx5⟩ := out_of_owns (L := X2) ho5 (by omega)
              subst hv5
              have HX5 := Hid.mk' hx5.1
              clear ho5 hx5 hX2
              go_wp2_with fail
              obtain ⟨_, _, hov, hor⟩ := out_of_owns HO5.out (by omega)
              cases hov
              refine (l3AddS _ _ _ _ _ _ _ (lf K) (lf X2) hor.1 HX5.out (by omega) (cok_falls hKf).at (cok_falls hX2f).at).mono ?_
              rintro r w6 ⟨v6, rfl, hb6, ho6⟩
              change w6.ownsRow w5.heap.size 40 5 v6 (addL K X2).length (cellsL (addL K X2)) at ho6
              have hal : (addL K X2).length ≤ 2000 := by have := addT_len (lf K) K.length (lf X2) X2.length 0 0; unfold addL; omega
              obtain ⟨p6, c6, hp6, _⟩ := out_of_owns ho6 (by omega)
              subst hp6
              have HB6 := Hid.mk' (bel_next HBW5.out hb6)
              have HB26 := Hid.mk' (bel_next HB25.out hb6)
              have HO6 := Hid.mk' (owns_lower ho6 HBW5.out.size)
              clear hb6 ho6 hor
              have hadd := (addL_facts hKf hX2f).1
              have hst : stLean s K (f i) = some (addL K X2) := by rw [stLean, hP2]; rfl
              by_cases h4 : (addL K X2).length ≤ 400
              · have h4' : ((addL K X2).length : Int) ≤ 400 := by omega
                have HST : Hid (eachM (stLean s) f (i + 1) = some (addL K X2)) := by
                  show _ = _
                  rw [eachM, HM.out]
                  show (stLean s K (f i)).bind lim4 = _
                  rw [hst]
                  exact if_pos h4
                clear hst
                go_wp2
                go_roundw
                case rel => exact ⟨i + 1, _, by omega, by go_num, HST.out, hadd, HO6.out, HB26.out⟩
                case measure => simp [intOf]; omega
              · have h4' : (400 : Int) < ((addL K X2).length : Int) := by omega
                have HN : Hid (eachM (stLean s) f n = none) := eachM_none (i := i + 1) (by rw [eachM, HM.out]; show (stLean s K (f i)).bind lim4 = none; rw [hst]; exact if_neg h4) n (by omega)
                clear hst
                go_wp2
                refine bodyPost_ret (results_tmp2 rfl _ _ _) rfl ?_
                rw [HSD.out, HN.out]
                exact ⟨_, rfl, HB6.out.alloc HB6.out.size _, owns_none _ w.heap.size HB6.out.size⟩
        · obtain ⟨a5, c5, hv5, hx5⟩ := out_of_owns (L := []) hown (by simp)
          subst hv5
          have HX5 := Hid.mk' hx5.1
          have hX2f := falls_nil
          have hX2l : ([] : List T).length ≤ 400 := by simp
          have hP2 := hP
          clear hx5 hown hP
          have hkc : (k : Int) < (f i).m.d ∨ ¬ (k : Int) < (f i).m.d := by omega
          rcases hkc with hkl | hkl
          · go_wp2_with fail
            obtain ⟨_, _, hov, hor⟩ := out_of_owns HOR.out (by omega)
            cases hov
            refine (l3AddS _ _ _ _ _ _ _ (lf K) (lf []) hor.1 HX5.out (by omega) (cok_falls hKf).at (cok_falls hX2f).at).mono ?_
            rintro r w6 ⟨v6, rfl, hb6, ho6⟩
            change w6.ownsRow wr.heap.size 40 5 v6 (addL K []).length (cellsL (addL K [])) at ho6
            have hal : (addL K []).length ≤ 2000 := by have := addT_len (lf K) K.length (lf ([] : List T)) ([] : List T).length 0 0; unfold addL; omega
            obtain ⟨p6, c6, hp6, _⟩ := out_of_owns ho6 (by omega)
            subst hp6
            have HB6 := Hid.mk' (bel_next HBW.out hb6)
            have HB26 := Hid.mk' (bel_next HB2R.out hb6)
            have HO6 := Hid.mk' (owns_lower ho6 HBW.out.size)
            clear hb6 ho6 hor
            have HN : Hid (eachM (stLean s) f n = none) := eachM_none (i := i + 1) (by rw [eachM, HM.out]; show (stLean s K (f i)).bind lim4 = none; rw [stLean, hP2]; rfl) n (by omega)
            go_wp2
            refine bodyPost_ret (results_tmp2 rfl _ _ _) rfl ?_
            rw [HSD.out, HN.out]
            exact ⟨_, rfl, HB6.out.alloc HB6.out.size _, owns_none _ w.heap.size HB6.out.size⟩
          · go_wp2_with fail
            obtain ⟨_, _, hov, hor⟩ := out_of_owns HOR.out (by omega)
            cases hov
            refine (l3AddS _ _ _ _ _ _ _ (lf K) (lf []) hor.1 HX5.out (by omega) (cok_falls hKf).at (cok_falls hX2f).at).mono ?_
            rintro r w6 ⟨v6, rfl, hb6, ho6⟩
            change w6.ownsRow wr.heap.size 40 5 v6 (addL K []).length (cellsL (addL K [])) at ho6
            have hal : (addL K []).length ≤ 2000 := by have := addT_len (lf K) K.length (lf ([] : List T)) ([] : List T).length 0 0; unfold addL; omega
            obtain ⟨p6, c6, hp6, _⟩ := out_of_owns ho6 (by omega)
            subst hp6
            have HB6 := Hid.mk' (bel_next HBW.out hb6)
            have HB26 := Hid.mk' (bel_next HB2R.out hb6)
            have HO6 := Hid.mk' (owns_lower ho6 HBW.out.size)
            clear hb6 ho6 hor
            have HN : Hid (eachM (stLean s) f n = none) := eachM_none (i := i + 1) (by rw [eachM, HM.out]; show (stLean s K (f i)).bind lim4 = none; rw [stLean, hP2]; rfl) n (by omega)
            go_wp2
            refine bodyPost_ret (results_tmp2 rfl _ _ _) rfl ?_
            rw [HSD.out, HN.out]
            exact ⟨_, rfl, HB6.out.alloc HB6.out.size _, owns_none _ w.heap.size HB6.out.size⟩
    · obtain rfl : i = n := by omega
      have HM := Hid.mk' hM
      have HOWN := Hid.mk' hown
      have HBL := Hid.mk' hbl
      clear hown hbl hM
      go_wp2
      refine bodyPost_ret (results_tmp2 rfl _ _ _) rfl ?_
      rw [HSD.out, HM.out]
      exact ⟨_, rfl, HBL.out, HOWN.out⟩
end Go.Proofs.Ytahbekfhoidgjaw
