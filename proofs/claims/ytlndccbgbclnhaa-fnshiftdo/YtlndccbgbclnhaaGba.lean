/-
  A slope that leans: the program and the model.
  A slope leans on its time: as other times and slopes put in.
  How often less than 0: the number of a turned term, the program and the model.
-/
import Derived.Test.YtlndccbgbclnhaaGaz
import Derived.Test.YtlndccbgbclnhaaGat
import Derived.Test.YtlndccbgbclnhaaGau
import Derived.Deep.RegionHeld3
namespace Go.Proofs.Ytlndccbgbclnhaa
open Go.RowKit Go.Maps
set_option linter.unusedVariables false


theorem falls_single {t : T} (h : t.m.ok = true ∧ 1 ≤ t.c ∧ t.c ≤ 100) : Falls [t] := ⟨List.pairwise_singleton _ _, fun u hu => by rw [List.mem_singleton.1 hu]; exact h⟩
theorem wyl_falls {K s : List T} (hK : Falls K) (lK : K.length ≤ 400) (hs : Falls s) (ls : s.length ≤ 400) : wylMul (lf K) K.length (lf s) s.length = mulO (mulM (lf K) (lf s) s.length K.length) := if_pos ⟨ok_falls hK lK, ok_falls hs ls⟩
/-- a term with another operator in the place of its first slope, k times so far. -/
def leanP (s : List T) (t : T) : Nat → Option (List T)
  | 0 => some [⟨t.c, ⟨t.m.x, t.m.y, 0, 0⟩⟩]
  | k + 1 => (leanP s t k).bind fun K => mulM (lf K) (lf s) s.length K.length
def lastE (t : T) : T := ⟨1, ⟨0, 0, 0, t.m.e⟩⟩
def leanT (s : List T) (t : T) : Option (List T) := (leanP s t t.m.d.toNat).bind fun K => mulM (lf K) (lf [lastE t]) 1 K.length
theorem leanP_none {s : List T} {t : T} {i : Nat} (h : leanP s t i = none) : ∀ j, i ≤ j → leanP s t j = none := fun j hj => by
  induction j with
  | zero =>
    have e : i = 0 := by omega
    rw [e] at h
    exact h
  | succ j ih =>
    by_cases e : i = j + 1
    · rw [← e]; exact h
    · rw [leanP, ih (by omega)]; rfl
theorem first_ok {t : T} (h : t.m.ok = true ∧ 1 ≤ t.c ∧ t.c ≤ 100) : Falls [(⟨t.c, ⟨t.m.x, t.m.y, 0, 0⟩⟩ : T)] := falls_single ⟨by have := M.ok_iff.1 h.1; exact M.ok_iff.2 (by dsimp only; omega), h.2⟩
theorem lastE_ok {t : T} (h : t.m.ok = true) : Falls [lastE t] := falls_single ⟨by have := M.ok_iff.1 h; exact M.ok_iff.2 (by dsimp only [lastE]; omega), by show (1 : Int) ≤ 1; decide, by show (1 : Int) ≤ 100; decide⟩
theorem leanP_facts {s : List T} {t : T} (hs : Falls s) (h : t.m.ok = true ∧ 1 ≤ t.c ∧ t.c ≤ 100) : ∀ k K, leanP s t k = some K → Falls K ∧ K.length ≤ 400
  | 0, K, e => by cases e; exact ⟨first_ok h, by simp⟩
  | k + 1, K, e => by
    rw [leanP] at e
    cases hr : leanP s t k with
    | none => rw [hr] at e; cases e
    | some K1 =>
      rw [hr] at e
      have h1 := leanP_facts hs h k K1 hr
      exact ⟨mulM_falls (good_falls h1.1) (good_falls hs) _ _ (Nat.le_refl _) e, mulM_len _ _ e⟩
theorem leanT_facts {s : List T} {t : T} (hs : Falls s) (h : t.m.ok = true ∧ 1 ≤ t.c ∧ t.c ≤ 100) {X : List T} (e : leanT s t = some X) : Falls X ∧ X.length ≤ 400 := by
  unfold leanT at e
  cases hr : leanP s t t.m.d.toNat with
  | none => rw [hr] at e; cases e
  | some K1 =>
    rw [hr] at e
    have h1 := leanP_facts hs h _ K1 hr
    exact ⟨mulM_falls (good_falls h1.1) (good_falls (lastE_ok h.1)) _ _ (Nat.le_refl _) e, mulM_len _ _ e⟩
set_option maxRecDepth 100000 in
set_option maxHeartbeats 4000000 in
theorem mapLeantI (w : World) (t : T) (ht : t.m.ok = true ∧ 1 ≤ t.c ∧ t.c ≤ 100) (p : Option Addr) (s : List T) (cs : Nat) (hr : Rd w p s.length cs (lf s)) (hs : Falls s) (hl : s.length ≤ 400) :
    Calls Try.prog 58 #[.agg #[.int .i64 t.c, .int .i64 t.m.x, .int .i64 t.m.y, .int .i64 t.m.d, .int .i64 t.m.e], .slice p s.length cs] w fun r w' => ∃ v, r = .returned (.tuple #[v, .bool (mulO (leanT s t)).2]) ∧ Below w.heap.size w w' ∧ w'.ownsRow w.heap.size 52 5 v (mulO (leanT s t)).1.length (cellsL (mulO (leanT s t)).1) := by
  have HR := Hid.mk' hr
  have hdb := M.ok_iff.1 ht.1
  have hbx : TermAt (w.alloc (.cells #[.int .i64 t.c, .int .i64 t.m.x, .int .i64 t.m.y, .int .i64 t.m.d, .int .i64 t.m.e] 52)) w.heap.size t := World.alloc_heap_new w _
  have hB0 := bel_one w (.cells #[.int .i64 t.c, .int .i64 t.m.x, .int .i64 t.m.y, .int .i64 t.m.d, .int .i64 t.m.e] 52)
  have hof : polOf t.c ⟨t.m.x, t.m.y, 0, 0⟩ = [⟨t.c, ⟨t.m.x, t.m.y, 0, 0⟩⟩] := if_pos ⟨ht.2, M.ok_iff.2 (by dsimp only; omega)⟩
  have hoe : polOf 1 ⟨0, 0, 0, t.m.e⟩ = [lastE t] := if_pos ⟨⟨by decide, by decide⟩, M.ok_iff.2 (by dsimp only; omega)⟩
  have hc1 : ∀ u : World, Calls Try.prog 56 #[.int .i64 t.c, .agg #[.int .i64 t.m.x, .int .i64 t.m.y, .int .i64 0, .int .i64 0]] u fun r w' => ∃ v, r = .returned v ∧ Below u.heap.size u w' ∧ w'.ownsRow u.heap.size 52 5 v 1 (cellsL [⟨t.c, ⟨t.m.x, t.m.y, 0, 0⟩⟩]) := fun u => by
    have := polOfI t.c t.m.x t.m.y 0 0 u
    rwa [hof] at this
  have hc2 : ∀ u : World, Calls Try.prog 56 #[.int .i64 1, .agg #[.int .i64 0, .int .i64 0, .int .i64 0, .int .i64 t.m.e]] u fun r w' => ∃ v, r = .returned v ∧ Below u.heap.size u w' ∧ w'.ownsRow u.heap.size 52 5 v 1 (cellsL [lastE t]) := fun u => by
    have := polOfI 1 0 0 0 t.m.e u
    rwa [hoe] at this
  obtain ⟨b0, b1, b2, b3, b4⟩ := hbx.cells
  clear hr hof hoe
  go_enter Try.func58, Try.ntmps58
  go_wp2_with fail
  refine (hc1 _).mono ?_
  rintro r w1 ⟨v1, rfl, hb1, ho1⟩
  have hx1 : TermAt w1 w.heap.size t := (hb1.block _ (by simp)).trans hbx
  have HB1 := Hid.mk' (bel_next hB0 hb1)
  have HO1 := Hid.mk' (owns_lower ho1 hB0.size)
  clear hc1 hb1 ho1 hB0 hbx b0 b1 b2 b3 b4
  obtain ⟨b0, b1, b2, b3, b4⟩ := hx1.cells
  have HX1 := Hid.mk' hx1
  have hx1l : w.heap.size < w1.heap.size := (Array.getElem?_eq_some_iff.1 hx1).1
  clear hx1
  go_wp2_with fail
  clear b0 b1 b2 b3 b4
  go_loopw [6, 21] (fun v kk wr => ∃ (k : Nat) (K : List T), k ≤ t.m.d.toNat ∧ kk = .int .i64 (k : Int) ∧ leanP s t k = some K ∧ wr.ownsRow w.heap.size 52 5 v K.length (cellsL K) ∧ Below w1.heap.size w1 wr) (fun _ kk _ => t.m.d.toNat - (intOf kk).toNat)
  case atStart => exact ⟨0, _, Nat.zero_le _, rfl, rfl, HO1.out, Below.refl _ _⟩
  case round =>
    obtain ⟨k, K, hk, rfl, hM, hown, hbl⟩ := hrel
    obtain ⟨hKf, hKl⟩ := leanP_facts hs ht k K hM
    obtain ⟨pk, ck, hpk, hout⟩ := out_of_owns hown (by omega)
    subst hpk
    have HK := Hid.mk' hout.1
    have HM := Hid.mk' hM
    have HBW := Hid.mk' (bel_next HB1.out hbl)
    have HBX : Hid (TermAt wr w.heap.size t) := (hbl.block _ hx1l).trans HX1.out
    have HBL := Hid.mk' hbl
    have HOW := Hid.mk' hown
    clear hown hbl hout hM
    by_cases hlt : k < t.m.d.toNat
    · have hkl : (k : Int) < t.m.d := by omega
      have hcall : ∀ u, Rd u pk K.length ck (lf K) → Rd u p s.length cs (lf s) → Calls Try.prog 12 #[.slice pk K.length ck, .slice p s.length cs] u fun r w' => ∃ v, r = .returned (.tuple #[v, .bool (mulO (leanP s t (k + 1))).2]) ∧ Below u.heap.size u w' ∧ w'.ownsRow u.heap.size 52 5 v (mulO (leanP s t (k + 1))).1.length (cellsL (mulO (leanP s t (k + 1))).1) := fun u h1 h2 => by
        have := wylMulV u pk p K.length ck s.length cs (lf K) (lf s) h1 h2
        rw [wyl_falls hKf hKl hs hl] at this
        have e : leanP s t (k + 1) = mulM (lf K) (lf s) s.length K.length := by rw [leanP, HM.out]; rfl
        rw [e]
        exact this
      cases hst : leanP s t (k + 1) with
      | none =>
        rw [hst] at hcall
        have HN : Hid (leanT s t = none) := by
          show _ = _
          unfold leanT
          rw [leanP_none hst _ (by omega)]
          rfl
        go_wp2_with (go_at_call 12; refine (hcall _ HK.out (HR.out.below HBW.out)).mono ?_; rintro r w2 ⟨v2, rfl, hb2, ho2⟩; have HB2 := Hid.mk' (bel_next HBW.out hb2); clear hb2 ho2)
        refine bodyPost_ret (results_tmp2 rfl _ _ _) rfl ?_
        rw [HN.out]
        exact ⟨_, rfl, HB2.out, owns_nil w2 _⟩
      | some K' =>
        rw [hst] at hcall
        have HST := Hid.mk' hst
        clear hst
        go_wp2_with (go_at_call 12; refine (hcall _ HK.out (HR.out.below HBW.out)).mono ?_; rintro r w2 ⟨v2, rfl, hb2, ho2⟩; have HB2 := Hid.mk' (bel_next HBL.out hb2); have HO2 := Hid.mk' (owns_lower ho2 HBW.out.size); clear hb2 ho2)
        go_roundw
        case rel => exact ⟨k + 1, K', by omega, by go_num, HST.out, HO2.out, HB2.out⟩
        case measure => simp [intOf]; omega
    · have ek : k = t.m.d.toNat := by omega
      have hkl : ¬ (k : Int) < t.m.d := by omega
      have hcall : ∀ (u : World) q cq, Rd u pk K.length ck (lf K) → Rd u q 1 cq (lf [lastE t]) → Calls Try.prog 12 #[.slice pk K.length ck, .slice q 1 cq] u fun r w' => ∃ v, r = .returned (.tuple #[v, .bool (mulO (leanT s t)).2]) ∧ Below u.heap.size u w' ∧ w'.ownsRow u.heap.size 52 5 v (mulO (leanT s t)).1.length (cellsL (mulO (leanT s t)).1) := fun u q cq h1 h2 => by
        have := wylMulV u pk q K.length ck 1 cq (lf K) (lf [lastE t]) h1 h2
        rw [show wylMul (lf K) K.length (lf [lastE t]) 1 = mulO (mulM (lf K) (lf [lastE t]) 1 K.length) from wyl_falls hKf hKl (lastE_ok ht.1) (by simp)] at this
        have e : leanT s t = mulM (lf K) (lf [lastE t]) 1 K.length := by unfold leanT; rw [← ek, HM.out]; rfl
        rw [e]
        exact this
      obtain ⟨b0, b1, b2, b3, b4⟩ := HBX.out.cells
      clear ek
      go_wp2_with (first
        | (go_at_call 56; refine (hc2 _).mono ?_; rintro r w2 ⟨v2, rfl, hb2, ho2⟩; obtain ⟨q2, cq2, hq2, hout2⟩ := out_of_owns (L := [lastE t]) ho2 (by simp); subst hq2; have HK2 := Hid.mk' (HK.out.below hb2); have HE2 := Hid.mk' hout2.1; have HB2 := Hid.mk' (bel_next HBW.out hb2); clear hb2 ho2 hout2)
        | (go_at_call 12; refine (hcall _ _ _ HK2.out HE2.out).mono ?_; rintro r w3 ⟨v3, rfl, hb3, ho3⟩; have HB3 := Hid.mk' (bel_next HB2.out hb3); have HO3 := Hid.mk' (owns_lower ho3 HB2.out.size); clear hb3 ho3))
      refine bodyPost_ret (results_tmp2 rfl _ _ _) rfl ?_
      exact ⟨_, rfl, HB3.out, HO3.out⟩
def stLean (s : List T) (K : List T) (t : T) : Option (List T) := (leanT s t).bind fun X => some (addL K X)
set_option maxRecDepth 100000 in
set_option maxHeartbeats 4000000 in
theorem leanTurns (SB : Nat) (p : Option Addr) (s : List T) (cs : Nat) (hs : Falls s) (hsl : s.length ≤ 400) :
    Turns 57 #[.pointer (some ⟨SB, 0, none⟩)] (stLean s) (fun W => W.cell? ⟨SB, 0, none⟩ = some (.slice p s.length cs) ∧ Rd W p s.length cs (lf s)) := by
  intro W bm c K t hS hK hKc hl ht hq
  have hcr := hS.range
  have hbl := hS.lt
  have HS := Hid.mk' hS
  have hB0 := bel_one W (.cells #[.int .i64 t.c, .int .i64 t.m.x, .int .i64 t.m.y, .int .i64 t.m.d, .int .i64 t.m.e] 52)
  have q0 : (W.alloc (.cells #[.int .i64 t.c, .int .i64 t.m.x, .int .i64 t.m.y, .int .i64 t.m.d, .int .i64 t.m.e] 52)).cell? ⟨SB, 0, none⟩ = some (.slice p s.length cs) := (hB0.cell (p := ⟨SB, 0, none⟩) (World.block_lt_of_cell? W ⟨SB, 0, none⟩ hq.1)).trans hq.1
  have hcall := mapLeantI (W.alloc (.cells #[.int .i64 t.c, .int .i64 t.m.x, .int .i64 t.m.y, .int .i64 t.m.d, .int .i64 t.m.e] 52)) t ht p s cs (hq.2.below hB0) hs hsl
  have hW0 : bm < (W.alloc (.cells #[.int .i64 t.c, .int .i64 t.m.x, .int .i64 t.m.y, .int .i64 t.m.d, .int .i64 t.m.e] 52)).heap.size := by simp; omega
  have hlt : (leanT s t = none ∨ ∃ X, leanT s t = some X) := by cases leanT s t with
    | none => exact .inl rfl
    | some X => exact .inr ⟨X, rfl⟩
  obtain ⟨X, hXf, hXl, hX2, hX1⟩ : ∃ X, Falls X ∧ X.length ≤ 400 ∧ ((leanT s t = some X ∧ (mulO (leanT s t)).2 = true) ∨ (leanT s t = none ∧ X = [] ∧ (mulO (leanT s t)).2 = false)) ∧ (mulO (leanT s t)).1 = X := by
    rcases hlt with h0 | ⟨X, h0⟩
    · exact ⟨[], falls_nil, by simp, .inr ⟨h0, rfl, by rw [h0]; rfl⟩, by rw [h0]; rfl⟩
    · have hf := leanT_facts hs ht h0
      exact ⟨X, hf.1, hf.2, .inl ⟨h0, by rw [h0]; rfl⟩, by rw [h0]; rfl⟩
  rw [hX1] at hcall
  have hadd := addL_facts hK hXf
  have HX2 := Hid.mk' hX2
  generalize (mulO (leanT s t)).2 = bo at *
  clear hS hq hlt hX1 hX2
  show Calls Try.prog 57 #[.map (some bm), .agg #[.int .i64 t.c, .int .i64 t.m.x, .int .i64 t.m.y, .int .i64 t.m.d, .int .i64 t.m.e], .pointer (some ⟨SB, 0, none⟩)] W _
  go_enter Try.func57, Try.ntmps57
  go_wp2_with (first
    | (go_at_call 58; refine hcall.mono ?_; rintro r w2 ⟨v2, rfl, hb2, ho2⟩; obtain ⟨a2, c2, hv2, hout2⟩ := out_of_owns ho2 (by omega); subst hv2; have HB2 := Hid.mk' (bel_next hB0 hb2); have hw2 := hb2.size; have HOUT := Hid.mk' hout2; clear hb2 ho2 hout2)
    | (go_at_call 59; refine (sumTimes w2 bm 65536 c 1 a2 X.length c2 (lf X) (HS.out.grown (grown_of_below HB2.out) (by simp)) HOUT.out.1 (by rcases HOUT.out.2.2 with h0 | ⟨g, off, h1, h2⟩; exact .inl h0; refine .inr (fun b' off' e1 e2 => ?_); rw [h1] at e1; cases e1; cases e2; omega) (fun i hi => ((fl_lf hXf).2 i hi).1) (fun i hi => by have := ((fl_lf hXf).2 i hi).2; omega) (by omega) (by omega) (by omega) (by omega)).mono ?_; rintro r w3 ⟨rfl, hs3, hg3⟩; have HS3 := Hid.mk' hs3.cap; have HG3 := Hid.mk' (World.grownBy.trans (⟨HB2.out.os, HB2.out.tape, HB2.out.output, HB2.out.size, fun k hk _ => HB2.out.block k hk⟩ : W.grownBy w2 (some bm)) hg3); clear hs3 hg3))
  go_ret
  refine ⟨HG3.out, ?_⟩
  rcases HX2.out with ⟨h0, h1⟩ | ⟨h0, _, h1⟩
  · refine .inl ⟨addL K X, timesC 1 (lf X) c X.length, by rw [stLean, h0]; rfl, by rw [h1]; rfl, HS3.out, hadd.1, fun m hm => ?_⟩
    have hr := coef_range hXf m
    rw [hadd.2, timesC_is (fl_lf hXf) hcr X.length (Nat.le_refl _) m, fromC_lf, hKc m hm]
    omega
  · exact .inr ⟨by rw [stLean, h0]; rfl, by rw [h1]; rfl⟩

def slD : T := ⟨1, ⟨0, 0, 1, 0⟩⟩
def slX (c : Int) : M := ⟨1, 0, 0, 0⟩
/-- the slope that leans. -/
def leanS (c : Int) : List T := addL [slD] (polOf c ⟨1, 0, 0, 0⟩)
theorem slD_falls : Falls [slD] := falls_single ⟨by decide, by decide, by decide⟩
theorem ofX_falls (c : Int) : Falls (polOf c ⟨1, 0, 0, 0⟩) := by
  unfold polOf
  split
  · rename_i h; exact falls_single ⟨h.2, h.1⟩
  · exact falls_nil
theorem ofX_len (c : Int) : (polOf c ⟨1, 0, 0, 0⟩).length ≤ 1 := by unfold polOf; split <;> simp
theorem leanS_falls (c : Int) : Falls (leanS c) := (addL_facts slD_falls (ofX_falls c)).1
theorem leanS_len (c : Int) : (leanS c).length ≤ 400 := by
  have h1 := addT_len (lf [slD]) [slD].length (lf (polOf c ⟨1, 0, 0, 0⟩)) (polOf c ⟨1, 0, 0, 0⟩).length 0 0
  have h2 := ofX_len c
  unfold leanS addL
  simp at h1 ⊢
  omega
theorem leanS_is (c : Int) : polAdd (lf [slD]) 1 (lf (polOf c ⟨1, 0, 0, 0⟩)) (polOf c ⟨1, 0, 0, 0⟩).length = (leanS c, true) :=
  if_pos ⟨ok_falls slD_falls (by simp), ok_falls (ofX_falls c) (by have := ofX_len c; omega), leanS_len c⟩
theorem leanS_put {c : Int} (h0 : 0 ≤ c) (h1 : c ≤ 100) : putT c ⟨1, 0, 0, 0⟩ [slD] = leanS c := by
  have a1 := putT_facts slD_falls (m := ⟨1, 0, 0, 0⟩) (by decide) h0 h1
  have a2 := addL_facts slD_falls (ofX_falls c)
  refine falls_one a1.1 a2.1 (fun m hm => ?_)
  rw [a1.2, leanS, a2.2]
  have hr := coef_range slD_falls m
  by_cases hc : 1 ≤ c
  · have e3 : polOf c ⟨1, 0, 0, 0⟩ = [⟨c, ⟨1, 0, 0, 0⟩⟩] := if_pos ⟨⟨hc, h1⟩, by decide⟩
    rw [e3]
    unfold updC
    by_cases hx : m = ⟨1, 0, 0, 0⟩
    · subst hx
      rw [if_pos (meq_iff.2 rfl)]
      rfl
    · rw [if_neg (fun e => hx (meq_iff.1 e))]
      have e2 : coef [(⟨c, ⟨1, 0, 0, 0⟩⟩ : T)] m = 0 := by
        show (if meqB _ m = true then c else 0) = 0
        exact if_neg (fun e => hx (meqB_iff.1 e).symm)
      rw [e2]
      omega
  · have e3 : polOf c ⟨1, 0, 0, 0⟩ = [] := if_neg (fun h => hc h.1.1)
    rw [e3]
    have e0 : c = 0 := by omega
    unfold updC
    split
    · rename_i hx
      rw [← meq_iff.1 hx, e0]
      rfl
    · show coef [slD] m = (coef [slD] m + 0) % 101
      omega
def mapLean (f : Nat → T) (n : Nat) (c : Int) : List T × Bool := if 0 ≤ c ∧ c ≤ 100 then mapV (stLean (leanS c)) f n else ([], false)
theorem mapLean_len (f : Nat → T) (n : Nat) (c : Int) : (mapLean f n c).1.length ≤ 400 := by
  unfold mapLean
  split
  · exact mapV_len _ _ _
  · simp
set_option maxHeartbeats 4000000 in
theorem mapLeanI (w : World) (p : Option Addr) (n cap : Nat) (f : Nat → T) (c : Int) (ha : Rd w p n cap f) :
    Calls Try.prog 20 #[.slice p n cap, .int .i64 c] w fun r w' => ∃ a' cap', r = .returned (.tuple #[.slice a' (mapLean f n c).1.length cap', .bool (mapLean f n c).2]) ∧ Below w.heap.size w w' ∧ Out w.heap.size w' a' cap' (mapLean f n c).1 := by
  have HA := Hid.mk' ha
  clear ha
  by_cases hr : 0 ≤ c ∧ c ≤ 100
  · have e1 : mapLean f n c = mapV (stLean (leanS c)) f n := if_pos hr
    have hlen := mapLean_len f n c
    rw [e1] at hlen ⊢
    have hx := ofX_len c
    have hc1 : ∀ u : World, Calls Try.prog 56 #[.int .i64 1, .agg #[.int .i64 0, .int .i64 0, .int .i64 1, .int .i64 0]] u fun r w' => ∃ v, r = .returned v ∧ Below u.heap.size u w' ∧ w'.ownsRow u.heap.size 52 5 v 1 (cellsL [slD]) := fun u => by
      have := polOfI 1 0 0 1 0 u
      rwa [show polOf 1 ⟨0, 0, 1, 0⟩ = [slD] from rfl] at this
    have hc2 : ∀ u : World, Calls Try.prog 56 #[.int .i64 c, .agg #[.int .i64 1, .int .i64 0, .int .i64 0, .int .i64 0]] u fun r w' => ∃ v, r = .returned v ∧ Below u.heap.size u w' ∧ w'.ownsRow u.heap.size 52 5 v (polOf c ⟨1, 0, 0, 0⟩).length (cellsL (polOf c ⟨1, 0, 0, 0⟩)) := fun u => polOfI c 1 0 0 0 u
    go_enter Try.func20, Try.ntmps20
    go_wp2_with (go_at_call 30; refine (okI_in c _ hr.1 hr.2).mono ?_; rintro e w' ⟨rfl, hw'⟩; obtain rfl := hw'.symm; clear hw')
    refine (hc1 _).mono ?_
    rintro r w1 ⟨v1, rfl, hb1, ho1⟩
    obtain ⟨p1, c1, hp1, hout1⟩ := out_of_owns (L := [slD]) ho1 (by simp)
    subst hp1
    have HB1 := Hid.mk' hb1
    have HR1 := Hid.mk' hout1.1
    clear hb1 ho1 hout1 hc1
    go_wp2_with fail
    refine (hc2 _).mono ?_
    rintro r w2 ⟨v2, rfl, hb2, ho2⟩
    obtain ⟨p2, c2, hp2, hout2⟩ := out_of_owns ho2 (by omega)
    subst hp2
    have HB2 := Hid.mk' (bel_next HB1.out hb2)
    have hadd := polAddI w2 p1 p2 1 c1 _ c2 (lf [slD]) (lf (polOf c ⟨1, 0, 0, 0⟩)) (HR1.out.below hb2) hout2.1
    rw [leanS_is] at hadd
    clear hb2 ho2 hout2 hc2 HR1
    go_wp2_with fail
    refine hadd.mono ?_
    rintro r w3 ⟨a3, c3, rfl, hb3, hout3⟩
    have HB3 := Hid.mk' (bel_next HB2.out hb3)
    have HR3 := Hid.mk' hout3.1
    clear hb3 hout3 hadd
    have hB4 := bel_one w3 (.cells #[.slice a3 (leanS c).length c3] 23)
    have q4 : (w3.alloc (.cells #[.slice a3 (leanS c).length c3] 23)).cell? ⟨w3.heap.size, 0, none⟩ = some (.slice a3 (leanS c).length c3) := by rw [World.cell?_alloc_at _ _ _ _ rfl]; rfl
    have hs4 : (w3.alloc (.cells #[.slice a3 (leanS c).length c3] 23)).heap.size = w3.heap.size + 1 := by simp
    have hc := mapEachV (w3.alloc (.cells #[.slice a3 (leanS c).length c3] 23)) p n cap f 57 #[.pointer (some ⟨w3.heap.size, 0, none⟩)] (stLean (leanS c)) (fun W => W.cell? ⟨w3.heap.size, 0, none⟩ = some (.slice a3 (leanS c).length c3) ∧ Rd W a3 (leanS c).length c3 (lf (leanS c))) (enters_of Try.func57 (by kernel_rfl) rfl) (leanTurns _ a3 (leanS c) c3 (leanS_falls c) (leanS_len c))
      (fun W W' bm hq hlo hg => by
        rw [hs4] at hlo
        have n1 : w3.heap.size ≠ bm := by omega
        refine ⟨(World.cell?_of_block (w := W) (a := ⟨w3.heap.size, 0, none⟩) (hg.block _ (World.block_lt_of_cell? W ⟨w3.heap.size, 0, none⟩ hq.1) (fun e => n1 (by cases e; rfl)))).trans hq.1, hq.2.grown hg ?_⟩
        rcases HR3.out.2.2 with h0 | ⟨b3, o3, h1, h2, _⟩
        · exact .inl h0
        · refine .inr (fun b' off' e1 e2 => ?_)
          rw [h1] at e1
          cases e1
          cases e2
          omega)
      (fun W' hq hb => ⟨(hb.cell (p := ⟨w3.heap.size, 0, none⟩) (by rw [hs4]; show w3.heap.size < _; omega)).trans hq.1, hq.2.below hb⟩) ⟨q4, HR3.out.below hB4⟩ (HA.out.below (bel_next HB3.out hB4))
    have HB4 := Hid.mk' (bel_next HB3.out hB4)
    clear q4 hs4 hB4
    go_wp2_with (go_at_call 31; refine hc.mono ?_; rintro r w5 ⟨v5, rfl, hb5, ho5⟩; have HB5 := Hid.mk' (bel_next HB4.out hb5); have HO5 := Hid.mk' (owns_lower ho5 HB4.out.size); clear hb5 ho5)
    refine bodyPost_ret (results_tmp2 rfl _ _ _) rfl ?_
    obtain ⟨a', cap', rfl, hout⟩ := out_of_owns HO5.out (by omega)
    exact ⟨a', cap', rfl, HB5.out, hout⟩
  · have e1 : mapLean f n c = ([], false) := if_neg hr
    rw [e1]
    go_enter Try.func20, Try.ntmps20
    go_wp2_with (go_at_call 30; refine (okI_out c _ (by omega)).mono ?_; rintro e w' ⟨rfl, hw'⟩; obtain rfl := hw'.symm; clear hw')
    refine bodyPost_ret (results_tmp2 rfl _ _ _) rfl ?_
    exact ⟨none, 0, rfl, Below.refl _ _, ⟨⟨Nat.le_refl _, by simp, .inl rfl⟩, .inl rfl, .inl rfl⟩⟩
theorem cell_underL {u u' : World} {k o : Nat} {v : Value} (hb : Below u.heap.size u u') (hv : u.cell? ⟨k, o, none⟩ = some v) : u'.cell? ⟨k, o, none⟩ = some v := (hb.cell (p := ⟨k, o, none⟩) (World.block_lt_of_cell? u ⟨k, o, none⟩ hv)).trans hv
theorem owns_single (w : World) (lo : Nat) (t : T) (h : lo ≤ w.heap.size) : (w.alloc (.cells #[.int .i64 t.c, .int .i64 t.m.x, .int .i64 t.m.y, .int .i64 t.m.d, .int .i64 t.m.e] 52)).ownsRow lo 52 5 (.slice (some ⟨w.heap.size, 0, none⟩) 1 1) 1 (cellsL [t]) := by
  rw [cellsL_one]
  exact World.ownsRow_lit w #[.int .i64 t.c, .int .i64 t.m.x, .int .i64 t.m.y, .int .i64 t.m.d, .int .i64 t.m.e] 1 h (by unfold maxLen; omega) rfl
set_option maxRecDepth 100000 in
set_option maxHeartbeats 16000000 in
theorem mapLeanS (w : World) (p : Option Addr) (n cap : Nat) (f : Nat → T) (c : Int) (h : Rd w p n cap f) :
    Calls Try.prog 21 #[.slice p n cap, .int .i64 c] w fun r w' => ∃ v, r = .returned (.tuple #[v, .bool (mapLean f n c).2]) ∧ Below w.heap.size w w' ∧ w'.ownsRow w.heap.size 52 5 v (mapLean f n c).1.length (cellsL (mapLean f n c).1) := by
  have HA := Hid.mk' h
  have hn : (n : Int) ≤ 140737488351232 := by have := h.2.1; omega
  have hO0 := owns_none w w.heap.size (Nat.le_refl _)
  have hB0 := bel_one w (.cells #[] 52)
  clear h
  cases hpa : polOk n f
  · have e1 : mapLean f n c = ([], false) := by simp [mapLean, mapV, hpa]
    rw [e1]
    go_enter Try.func21, Try.ntmps21
    go_wp2_with (go_at_call 36; refine (polOkS _ _ _ _ f (HA.out.below hB0)).mono ?_; rw [hpa]; rintro r w1 ⟨rfl, hb1⟩; have HB1 := Hid.mk' (bel_next hB0 hb1); have HO1 := Hid.mk' (owns_below hO0 hb1); clear hb1)
    all_goals (refine bodyPost_ret (results_tmp2 rfl _ _ _) rfl ?_)
    all_goals exact ⟨_, rfl, HB1.out, HO1.out⟩
  by_cases hr : 0 ≤ c ∧ c ≤ 100
  case neg =>
    have e1 : mapLean f n c = ([], false) := if_neg hr
    rw [e1]
    go_enter Try.func21, Try.ntmps21
    go_wp2_with (first
      | (go_at_call 36; refine (polOkS _ _ _ _ f (HA.out.below hB0)).mono ?_; rw [hpa]; rintro r w1 ⟨rfl, hb1⟩; have HB1 := Hid.mk' (bel_next hB0 hb1); have HO1 := Hid.mk' (owns_below hO0 hb1); clear hb1)
      | (go_at_call 14; refine (okS_out c _ (by omega)).mono ?_; rintro e w' ⟨rfl, hw'⟩; obtain rfl := hw'.symm; clear hw'))
    all_goals (refine bodyPost_ret (results_tmp2 rfl _ _ _) rfl ?_)
    all_goals exact ⟨_, rfl, HB1.out, HO1.out⟩
  have e1 : mapLean f n c = mulO (eachM (stLean (leanS c)) f n) := by simp [mapLean, mapV, hpa, hr]
  rw [e1]
  clear e1
  have l1 := (good_ok hpa).1
  have HPA := Hid.mk' hpa
  go_enter Try.func21, Try.ntmps21
  go_wp2_with (first
    | (go_at_call 36; refine (polOkS _ _ _ _ f (HA.out.below hB0)).mono ?_; rw [hpa]; rintro r w1 ⟨rfl, hb1⟩; have HB1 := Hid.mk' (bel_next hB0 hb1); have HO1 := Hid.mk' (owns_below hO0 hb1); clear hb1)
    | (go_at_call 14; refine (okS_in c _ hr.1 hr.2).mono ?_; rintro e w' ⟨rfl, hw'⟩; obtain rfl := hw'.symm; clear hw'))
  have hBl := bel_next HB1.out (bel_one w1 (.cells #[.int .i64 1, .int .i64 0, .int .i64 0, .int .i64 1, .int .i64 0] 52))
  refine (l4PutS _ w.heap.size _ [slD] c 1 0 0 0 (owns_single w1 w.heap.size slD HB1.out.size) hBl.size (by simp) (cok_falls slD_falls) hr.1 hr.2).mono ?_
  rintro r w2 ⟨v2, rfl, hb2, ho2⟩
  rw [leanS_put hr.1 hr.2] at ho2
  obtain ⟨ps, cs, hps, hout2⟩ := out_of_owns ho2 (by have := leanS_len c; omega)
  subst hps
  have HRS := Hid.mk' hout2.1
  have HB2 := Hid.mk' (bel_next hBl hb2)
  have HO2 := Hid.mk' (owns_below (owns_below HO1.out (bel_one w1 (.cells #[.int .i64 1, .int .i64 0, .int .i64 0, .int .i64 1, .int .i64 0] 52))) hb2)
  have hsf := leanS_falls c
  have hsl := leanS_len c
  clear hb2 ho2 hout2 hBl hO0 hB0
  generalize hsd : leanS c = s at *
  have HSD := Hid.mk' hsd
  clear hsd
  go_wp2_with fail
  go_loopw [6, 8] (fun v ii wr => ∃ (i : Nat) (K : List T), i ≤ n ∧ ii = .int .i64 (i : Int) ∧ eachM (stLean s) f i = some K ∧ Falls K ∧ wr.ownsRow w.heap.size 52 5 v K.length (cellsL K) ∧ Below w2.heap.size w2 wr) (fun _ ii _ => n - (intOf ii).toNat)
  case atStart => exact ⟨0, [], Nat.zero_le _, rfl, rfl, falls_nil, HO2.out, Below.refl _ _⟩
  case round =>
    obtain ⟨i, K, hi, rfl, hM, hKf, hown, hbl2⟩ := hrel
    have hbl := bel_next HB2.out hbl2
    by_cases hlt : i < n
    · have hil : (i : Int) < (n : Int) := by omega
      have hfi := (fl_of_ok HPA.out).2 i hlt
      have hKl := eachM_len i K hM
      have HM := Hid.mk' hM
      obtain ⟨po, co, hpo, _⟩ := out_of_owns hown (by omega)
      subst hpo
      have HOWN := Hid.mk' hown
      have HBL := Hid.mk' hbl
      have HRW := Hid.mk' (HRS.out.below hbl2)
      have HB2W := Hid.mk' hbl2
      clear hown hbl hM hbl2
      have hri := HA.out.below HBL.out
      rcases hri.2.2 with h0 | ⟨pb, off, hpe, hblt, hcl⟩
      · omega
      subst hpe
      obtain ⟨g0, g1, g2, g3, g4⟩ := hcl i hlt
      clear hcl hri
      have hdb := M.ok_iff.1 hfi.1
      go_wp2_with fail
      have hq := M4.box wr 50 (f i).m.x (f i).m.y (f i).m.d (f i).m.e
      obtain ⟨q0, q1, q2, q3⟩ := hq
      have g5 := cell_underL (bel_one wr (.cells #[.int .i64 (f i).m.x, .int .i64 (f i).m.y, .int .i64 (f i).m.d, .int .i64 (f i).m.e] 50)) g0
      have HBQ := Hid.mk' (bel_next HBL.out (bel_one wr (.cells #[.int .i64 (f i).m.x, .int .i64 (f i).m.y, .int .i64 (f i).m.d, .int .i64 (f i).m.e] 50)))
      have HB2Q := Hid.mk' (bel_next HB2W.out (bel_one wr (.cells #[.int .i64 (f i).m.x, .int .i64 (f i).m.y, .int .i64 (f i).m.d, .int .i64 (f i).m.e] 50)))
      have HRQ := Hid.mk' (HRW.out.below (bel_one wr (.cells #[.int .i64 (f i).m.x, .int .i64 (f i).m.y, .int .i64 (f i).m.d, .int .i64 (f i).m.e] 50)))
      have HOQ := Hid.mk' (owns_below HOWN.out (bel_one wr (.cells #[.int .i64 (f i).m.x, .int .i64 (f i).m.y, .int .i64 (f i).m.d, .int .i64 (f i).m.e] 50)))
      clear g0 g1 g2 g3 g4
      generalize wr.alloc (.cells #[.int .i64 (f i).m.x, .int .i64 (f i).m.y, .int .i64 (f i).m.d, .int .i64 (f i).m.e] 50) = wq at HBQ HB2Q HRQ HOQ q0 q1 q2 q3 g5 ⊢
      generalize wr.heap.size = bx at q0 q1 q2 q3 ⊢
      have hQ0 : wq.drew.cell? ⟨pb, off + i * 5, none⟩ = some (.int .i64 (f i).c) ∧ wq.drew.cell? ⟨bx, 0, none⟩ = some (.int .i64 (f i).m.x) ∧ wq.drew.cell? ⟨bx, 1, none⟩ = some (.int .i64 (f i).m.y) := ⟨g5, q0, q1⟩
      go_region_held3 (fun u => u.cell? ⟨pb, off + i * 5, none⟩ = some (.int .i64 (f i).c) ∧ u.cell? ⟨bx, 0, none⟩ = some (.int .i64 (f i).m.x) ∧ u.cell? ⟨bx, 1, none⟩ = some (.int .i64 (f i).m.y)) (first | with_reducible exact hQ0 | with_reducible exact ⟨cell_underL (bel_one _ _) hQ0.1, cell_underL (bel_one _ _) hQ0.2.1, cell_underL (bel_one _ _) hQ0.2.2⟩) (fail)
      have HB3 := Hid.mk' (HBQ.out.alloc HBQ.out.size (.cells #[.int .i64 (f i).c, .int .i64 (f i).m.x, .int .i64 (f i).m.y, .int .i64 0, .int .i64 0] 52)).drew
      have HR3 := Hid.mk' ((HRQ.out.below (bel_one wq (.cells #[.int .i64 (f i).c, .int .i64 (f i).m.x, .int .i64 (f i).m.y, .int .i64 0, .int .i64 0] 52))).below (Below.refl _ _).drew)
      have HO3 := Hid.mk' (owns_below (owns_below HOQ.out (bel_one wq (.cells #[.int .i64 (f i).c, .int .i64 (f i).m.x, .int .i64 (f i).m.y, .int .i64 0, .int .i64 0] 52))) (Below.refl _ _).drew)
      have HX3 := Hid.mk' (owns_below (owns_single wq w.heap.size ⟨(f i).c, ⟨(f i).m.x, (f i).m.y, 0, 0⟩⟩ HBQ.out.size) (Below.refl _ _).drew)
      have HB23 := Hid.mk' (HB2Q.out.alloc HB2Q.out.size (.cells #[.int .i64 (f i).c, .int .i64 (f i).m.x, .int .i64 (f i).m.y, .int .i64 0, .int .i64 0] 52)).drew
      have d3 : (wq.alloc (.cells #[.int .i64 (f i).c, .int .i64 (f i).m.x, .int .i64 (f i).m.y, .int .i64 0, .int .i64 0] 52)).drew.cell? ⟨bx, 2, none⟩ = _ := cell_underL (bel_one wq (.cells #[.int .i64 (f i).c, .int .i64 (f i).m.x, .int .i64 (f i).m.y, .int .i64 0, .int .i64 0] 52)).drew q2
      have e3 : (wq.alloc (.cells #[.int .i64 (f i).c, .int .i64 (f i).m.x, .int .i64 (f i).m.y, .int .i64 0, .int .i64 0] 52)).drew.cell? ⟨bx, 3, none⟩ = _ := cell_underL (bel_one wq (.cells #[.int .i64 (f i).c, .int .i64 (f i).m.x, .int .i64 (f i).m.y, .int .i64 0, .int .i64 0] 52)).drew q3
      rename_i hheld
      clear hheld hQ0 q0 q1 q2 q3 g5 HBQ HB2Q HRQ HOQ
      dsimp only at HX3
      generalize (wq.alloc (.cells #[.int .i64 (f i).c, .int .i64 (f i).m.x, .int .i64 (f i).m.y, .int .i64 0, .int .i64 0] 52)).drew = w3 at HB3 HR3 HO3 HX3 HB23 d3 e3 ⊢
      generalize wq.heap.size = gx at HX3 ⊢
      have HDE := Hid.mk' (And.intro d3 e3)
      clear d3 e3
      go_wp2_with fail
      go_loopw [10, 11, 12] (fun v ok kk wr2 => ∃ k : Nat, k ≤ (f i).m.d.toNat ∧ kk = .int .i64 (k : Int) ∧ Below w3.heap.size w3 wr2 ∧ ((∃ X, ok = .bool true ∧ leanP s (f i) k = some X ∧ wr2.ownsRow w.heap.size 52 5 v X.length (cellsL X)) ∨ (ok = .bool false ∧ leanT s (f i) = none ∧ wr2.ownsRow w.heap.size 52 5 v 0 (cellsL [])))) (fun _ _ kk _ => (f i).m.d.toNat - (intOf kk).toNat)
      case atStart => exact ⟨0, Nat.zero_le _, rfl, Below.refl _ _, .inl ⟨_, rfl, rfl, HX3.out⟩⟩
      case round =>
        obtain ⟨k, hk, rfl, hbl, hcase⟩ := hrel
        have d4 := cell_underL hbl HDE.out.1
        have HE4 := Hid.mk' (cell_underL hbl HDE.out.2)
        have HB4 := Hid.mk' hbl
        have HBW := Hid.mk' (bel_next HB3.out hbl)
        have HB2R := Hid.mk' (bel_next HB23.out hbl)
        have HOR := Hid.mk' (owns_below HO3.out hbl)
        have HRR := Hid.mk' (HR3.out.below hbl)
        clear hbl
        rcases hcase with ⟨X, rfl, hP, hown⟩ | ⟨rfl, hP, hown⟩
        · obtain ⟨hXf, hXl⟩ := leanP_facts hsf hfi k X hP
          obtain ⟨pk, ck, hpk, hout⟩ := out_of_owns hown (by omega)
          subst hpk
          have HK := Hid.mk' hout.1
          have HP := Hid.mk' hP
          clear hout hown hP
          by_cases hlk : k < (f i).m.d.toNat
          · have hkl : (k : Int) < (f i).m.d := by omega
            have hcall : ∀ u, Rd u pk X.length ck (lf X) → Rd u ps s.length cs (lf s) → Calls Try.prog 60 #[.slice pk X.length ck, .slice ps s.length cs] u fun r w' => ∃ v, r = .returned (.tuple #[v, .bool (mulO (leanP s (f i) (k + 1))).2]) ∧ Below u.heap.size u w' ∧ w'.ownsRow u.heap.size 52 5 v (mulO (leanP s (f i) (k + 1))).1.length (cellsL (mulO (leanP s (f i) (k + 1))).1) := fun u h1 h2 => by
              have := mulS4 u pk ps X.length ck s.length cs (lf X) (lf s) h1 h2 hXl hsl (good_falls hXf) (good_falls hsf)
              have e : leanP s (f i) (k + 1) = mulM (lf X) (lf s) s.length X.length := by rw [leanP, HP.out]; rfl
              rw [e]
              exact this
            go_wp2_with (go_at_call 60; refine (hcall _ HK.out HRR.out).mono ?_; rintro r w5 ⟨v5, rfl, hb5, ho5⟩; have HB5 := Hid.mk' (bel_next HB4.out hb5); have HO5 := Hid.mk' (owns_lower ho5 HBW.out.size); clear hb5 ho5)
            go_roundw
            case rel =>
              refine ⟨k + 1, by omega, by go_num, HB5.out, ?_⟩
              have ho := HO5.out
              cases hst : leanP s (f i) (k + 1) with
              | none =>
                rw [hst] at ho
                exact .inr ⟨rfl, by unfold leanT; rw [leanP_none hst _ (by omega)]; rfl, ho⟩
              | some X' =>
                rw [hst] at ho
                exact .inl ⟨X', rfl, rfl, ho⟩
            case measure => simp [intOf]; omega
          · have ek : k = (f i).m.d.toNat := by omega
            have hkl : ¬ (k : Int) < (f i).m.d := by omega
            have hcall : ∀ (u : World) q cq, Rd u pk X.length ck (lf X) → Rd u q 1 cq (lf [lastE (f i)]) → Calls Try.prog 60 #[.slice pk X.length ck, .slice q 1 cq] u fun r w' => ∃ v, r = .returned (.tuple #[v, .bool (mulO (leanT s (f i))).2]) ∧ Below u.heap.size u w' ∧ w'.ownsRow u.heap.size 52 5 v (mulO (leanT s (f i))).1.length (cellsL (mulO (leanT s (f i))).1) := fun u q cq h1 h2 => by
              have := mulS4 u pk q X.length ck 1 cq (lf X) (lf [lastE (f i)]) h1 h2 hXl (by omega) (good_falls hXf) (good_falls (lastE_ok hfi.1))
              have e : leanT s (f i) = mulM (lf X) (lf [lastE (f i)]) 1 X.length := by unfold leanT; rw [← ek, HP.out]; rfl
              rw [e]
              exact this
            have e4 := HE4.out
            clear ek
            go_wp2_with fail
            obtain ⟨_, _, hqe, hoe⟩ := out_of_owns (L := [lastE (f i)]) (owns_single wr w.heap.size (lastE (f i)) HBW.out.size) (by simp)
            cases hqe
            refine (hcall _ _ _ (HK.out.below (bel_one wr (.cells #[.int .i64 1, .int .i64 0, .int .i64 0, .int .i64 0, .int .i64 (f i).m.e] 52))) hoe.1).mono ?_
            rintro r w5 ⟨v5, rfl, hb5, ho5⟩
            have HBW5 := Hid.mk' (bel_next (bel_next HBW.out (bel_one wr (.cells #[.int .i64 1, .int .i64 0, .int .i64 0, .int .i64 0, .int .i64 (f i).m.e] 52))) hb5)
            have HB25 := Hid.mk' (bel_next (bel_next HB2R.out (bel_one wr (.cells #[.int .i64 1, .int .i64 0, .int .i64 0, .int .i64 0, .int .i64 (f i).m.e] 52))) hb5)
            have HO5 := Hid.mk' (owns_below (owns_below HOR.out (bel_one wr (.cells #[.int .i64 1, .int .i64 0, .int .i64 0, .int .i64 0, .int .i64 (f i).m.e] 52))) hb5)
            clear hb5 hoe hcall e4
            rcases (show leanT s (f i) = none ∨ ∃ X2, leanT s (f i) = some X2 by cases leanT s (f i) with
              | none => exact .inl rfl
              | some X2 => exact .inr ⟨X2, rfl⟩) with hP2 | ⟨X2, hP2⟩
            · rw [hP2] at ho5
              rw [hP2]
              obtain ⟨a5, c5, hv5, hx5⟩ := out_of_owns (L := []) ho5 (by simp)
              subst hv5
              have HX5 := Hid.mk' hx5.1
              have hX2f := falls_nil
              have hX2l : ([] : List T).length ≤ 400 := by simp
              clear ho5 hx5
              go_wp2_with fail
              obtain ⟨_, _, hov, hor⟩ := out_of_owns HO5.out (by omega)
              cases hov
              refine (l3AddS _ _ _ _ _ _ _ (lf K) (lf []) hor.1 HX5.out (by omega) (cok_falls hKf).at (cok_falls hX2f).at).mono ?_
              rintro r w6 ⟨v6, rfl, hb6, ho6⟩
              change w6.ownsRow w5.heap.size 52 5 v6 (addL K []).length (cellsL (addL K [])) at ho6
              have hal : (addL K []).length ≤ 2000 := by have := addT_len (lf K) K.length (lf ([] : List T)) ([] : List T).length 0 0; unfold addL; omega
              obtain ⟨p6, c6, hp6, _⟩ := out_of_owns ho6 (by omega)
              subst hp6
              have HB6 := Hid.mk' (bel_next HBW5.out hb6)
              have HB26 := Hid.mk' (bel_next HB25.out hb6)
              have HO6 := Hid.mk' (owns_lower ho6 HBW5.out.size)
              clear hb6 ho6 hor
              have HN : Hid (eachM (stLean s) f n = none) := eachM_none (i := i + 1) (by rw [eachM, HM.out]; show (stLean s K (f i)).bind lim4 = none; rw [stLean, hP2]; rfl) n (by omega)
              go_wp2
              refine bodyPost_ret (results_tmp2 rfl _ _ _) rfl ?_
              rw [HSD.out, HN.out]
              exact ⟨_, rfl, HB6.out.alloc HB6.out.size _, owns_none _ w.heap.size HB6.out.size⟩
            · have hX2 := leanT_facts hsf hfi hP2
              have hX2f := hX2.1
              have hX2l := hX2.2
              rw [hP2] at ho5
              rw [hP2]
              obtain ⟨a5, c5, hv5, hx5⟩ := out_of_owns (L := X2) ho5 (by omega)
              subst hv5
              have HX5 := Hid.mk' hx5.1
              clear ho5 hx5 hX2
              go_wp2_with fail
              obtain ⟨_, _, hov, hor⟩ := out_of_owns HO5.out (by omega)
              cases hov
              refine (l3AddS _ _ _ _ _ _ _ (lf K) (lf X2) hor.1 HX5.out (by omega) (cok_falls hKf).at (cok_falls hX2f).at).mono ?_
              rintro r w6 ⟨v6, rfl, hb6, ho6⟩
              change w6.ownsRow w5.heap.size 52 5 v6 (addL K X2).length (cellsL (addL K X2)) at ho6
              have hal : (addL K X2).length ≤ 2000 := by have := addT_len (lf K) K.length (lf X2) X2.length 0 0; unfold addL; omega
              obtain ⟨p6, c6, hp6, _⟩ := out_of_owns ho6 (by omega)
              subst hp6
              have HB6 := Hid.mk' (bel_next HBW5.out hb6)
              have HB26 := Hid.mk' (bel_next HB25.out hb6)
              have HO6 := Hid.mk' (owns_lower ho6 HBW5.out.size)
              clear hb6 ho6 hor
              have hadd := (addL_facts hKf hX2f).1
              have hst : stLean s K (f i) = some (addL K X2) := by rw [stLean, hP2]; rfl
              by_cases h4 : (addL K X2).length ≤ 400
              · have h4' : ((addL K X2).length : Int) ≤ 400 := by omega
                have HST : Hid (eachM (stLean s) f (i + 1) = some (addL K X2)) := by
                  show _ = _
                  rw [eachM, HM.out]
                  show (stLean s K (f i)).bind lim4 = _
                  rw [hst]
                  exact if_pos h4
                clear hst
                go_wp2
                go_roundw
                case rel => exact ⟨i + 1, _, by omega, by go_num, HST.out, hadd, HO6.out, HB26.out⟩
                case measure => simp [intOf]; omega
              · have h4' : (400 : Int) < ((addL K X2).length : Int) := by omega
                have HN : Hid (eachM (stLean s) f n = none) := eachM_none (i := i + 1) (by rw [eachM, HM.out]; show (stLean s K (f i)).bind lim4 = none; rw [hst]; exact if_neg h4) n (by omega)
                clear hst
                go_wp2
                refine bodyPost_ret (results_tmp2 rfl _ _ _) rfl ?_
                rw [HSD.out, HN.out]
                exact ⟨_, rfl, HB6.out.alloc HB6.out.size _, owns_none _ w.heap.size HB6.out.size⟩
        · obtain ⟨a5, c5, hv5, hx5⟩ := out_of_owns (L := []) hown (by simp)
          subst hv5
          have HX5 := Hid.mk' hx5.1
          have hX2f := falls_nil
          have hX2l : ([] : List T).length ≤ 400 := by simp
          have hP2 := hP
          clear hx5 hown hP
          have hkc : (k : Int) < (f i).m.d ∨ ¬ (k : Int) < (f i).m.d := by omega
          rcases hkc with hkl | hkl
          · go_wp2_with fail
            obtain ⟨_, _, hov, hor⟩ := out_of_owns HOR.out (by omega)
            cases hov
            refine (l3AddS _ _ _ _ _ _ _ (lf K) (lf []) hor.1 HX5.out (by omega) (cok_falls hKf).at (cok_falls hX2f).at).mono ?_
            rintro r w6 ⟨v6, rfl, hb6, ho6⟩
            change w6.ownsRow wr.heap.size 52 5 v6 (addL K []).length (cellsL (addL K [])) at ho6
            have hal : (addL K []).length ≤ 2000 := by have := addT_len (lf K) K.length (lf ([] : List T)) ([] : List T).length 0 0; unfold addL; omega
            obtain ⟨p6, c6, hp6, _⟩ := out_of_owns ho6 (by omega)
            subst hp6
            have HB6 := Hid.mk' (bel_next HBW.out hb6)
            have HB26 := Hid.mk' (bel_next HB2R.out hb6)
            have HO6 := Hid.mk' (owns_lower ho6 HBW.out.size)
            clear hb6 ho6 hor
            have HN : Hid (eachM (stLean s) f n = none) := eachM_none (i := i + 1) (by rw [eachM, HM.out]; show (stLean s K (f i)).bind lim4 = none; rw [stLean, hP2]; rfl) n (by omega)
            go_wp2
            refine bodyPost_ret (results_tmp2 rfl _ _ _) rfl ?_
            rw [HSD.out, HN.out]
            exact ⟨_, rfl, HB6.out.alloc HB6.out.size _, owns_none _ w.heap.size HB6.out.size⟩
          · go_wp2_with fail
            obtain ⟨_, _, hov, hor⟩ := out_of_owns HOR.out (by omega)
            cases hov
            refine (l3AddS _ _ _ _ _ _ _ (lf K) (lf []) hor.1 HX5.out (by omega) (cok_falls hKf).at (cok_falls hX2f).at).mono ?_
            rintro r w6 ⟨v6, rfl, hb6, ho6⟩
            change w6.ownsRow wr.heap.size 52 5 v6 (addL K []).length (cellsL (addL K [])) at ho6
            have hal : (addL K []).length ≤ 2000 := by have := addT_len (lf K) K.length (lf ([] : List T)) ([] : List T).length 0 0; unfold addL; omega
            obtain ⟨p6, c6, hp6, _⟩ := out_of_owns ho6 (by omega)
            subst hp6
            have HB6 := Hid.mk' (bel_next HBW.out hb6)
            have HB26 := Hid.mk' (bel_next HB2R.out hb6)
            have HO6 := Hid.mk' (owns_lower ho6 HBW.out.size)
            clear hb6 ho6 hor
            have HN : Hid (eachM (stLean s) f n = none) := eachM_none (i := i + 1) (by rw [eachM, HM.out]; show (stLean s K (f i)).bind lim4 = none; rw [stLean, hP2]; rfl) n (by omega)
            go_wp2
            refine bodyPost_ret (results_tmp2 rfl _ _ _) rfl ?_
            rw [HSD.out, HN.out]
            exact ⟨_, rfl, HB6.out.alloc HB6.out.size _, owns_none _ w.heap.size HB6.out.size⟩
    · obtain rfl : i = n := by omega
      have HM := Hid.mk' hM
      have HOWN := Hid.mk' hown
      have HBL := Hid.mk' hbl
      clear hown hbl hM
      go_wp2
      refine bodyPost_ret (results_tmp2 rfl _ _ _) rfl ?_
      rw [HSD.out, HM.out]
      exact ⟨_, rfl, HBL.out, HOWN.out⟩
end Go.Proofs.Ytlndccbgbclnhaa
namespace Go.Proofs.Ytlndccbgbclnhaa
open Go.RowKit
set_option linter.unusedVariables false

theorem take_Rp (g : Gen) (L : List T) {i : Nat} (hi : i < L.length) : Rp g (L.take (i + 1)) = Lq.sum (Rp g (L.take i)) (Lq.sc (zz (lf L i).c) (mo g (lf L i).m)) := by
  refine Lq.ext fun u n k => ?_
  show su (L.take (i + 1)) _ = su (L.take i) _ + _
  rw [List.take_succ_eq_append_getElem hi, su_append]
  show _ + (_ + 0) = _
  rw [lf_eq hi]
  show su (L.take i) _ + (zz L[i].c * _ + 0) = su (L.take i) _ + zz L[i].c * _
  grind
theorem falls_take {L : List T} (h : Falls L) (i : Nat) : Falls (L.take i) := ⟨h.1.sublist (List.take_sublist i L), fun t ht => h.2 t (List.mem_of_mem_take ht)⟩
/-- a step that adds just the term makes of an operator itself. -/
theorem map_self {st : List T → T → Option (List T)} (h : Adds (mo stdG) (mo stdG) st) (hs : ∀ K t, Falls K → (t.m.ok = true ∧ 1 ≤ t.c ∧ t.c ≤ 100) → ∃ K', st K t = some K') {L : List T} (hL : okL L = true) : mapV st (lf L) L.length = (L, true) := by
  have hok : polOk L.length (lf L) = true := hL
  have fL := (okL_falls hL)
  have hl := fl_of_ok hok
  have key : ∀ i, i ≤ L.length → eachM st (lf L) i = some (L.take i) := fun i => by
    induction i with
    | zero => intro _; rfl
    | succ i ih =>
      intro hi
      rw [eachM, ih (by omega)]
      show (st (L.take i) (lf L i)).bind lim4 = _
      obtain ⟨K', hK'⟩ := hs (L.take i) (lf L i) (falls_take fL.2 i) (hl.2 i (by omega))
      have h2 := h _ _ _ (falls_take fL.2 i) (hl.2 i (by omega)) hK'
      have e : K' = L.take (i + 1) := eq_of_Rp h2.1 (falls_take fL.2 _) (by
        rw [take_Rp stdG L (by omega)]
        exact h2.2)
      rw [hK', e]
      show lim4 (L.take (i + 1)) = _
      unfold lim4
      rw [if_pos (by rw [List.length_take]; omega)]
  unfold mapV
  rw [if_pos hok, key L.length (Nat.le_refl _), List.take_length]
  rfl
theorem lean_wey {x d : Lq} (h : Wey x d) (c : Fq) : Wey x (Lq.sum d (Lq.sc c x)) := by
  unfold Wey
  rw [Lq.sum_mul, Lq.mul_sum, h, Lq.sc_mul, Lq.mul_sc]
  refine Lq.ext fun u n k => ?_
  simp only [sum_f, sc_f]
  grind
theorem com_sum {A B C : Lq} (h1 : Lq.Com A C) (h2 : Lq.Com B C) (c : Fq) : Lq.Com (Lq.sum A (Lq.sc c B)) C := by
  unfold Lq.Com
  rw [Lq.sum_mul, Lq.mul_sum, Lq.sc_mul, Lq.mul_sc, h1, h2]
def leanG (c : Fq) (g : Gen) : Gen := ⟨g.x, g.y, Lq.sum g.d (Lq.sc c g.x), g.e, lean_wey g.wx c, g.wy, g.xy, g.xe, com_sum g.dy g.xy c, com_sum g.de g.xe c⟩
theorem gen_ext {g h : Gen} (h1 : g.x = h.x) (h2 : g.y = h.y) (h3 : g.d = h.d) (h4 : g.e = h.e) : g = h := by
  cases g; cases h
  simp only at h1 h2 h3 h4
  subst h1 h2 h3 h4
  rfl
theorem leanG_zero (g : Gen) : leanG 0 g = g := gen_ext rfl rfl (by show Lq.sum g.d (Lq.sc 0 g.x) = g.d; rw [Lq.sc_zero, Lq.sum_nil]) rfl
theorem leanG_add (a b : Fq) (g : Gen) : leanG a (leanG b g) = leanG (a + b) g := gen_ext rfl rfl (by
  show Lq.sum (Lq.sum g.d (Lq.sc b g.x)) (Lq.sc a g.x) = Lq.sum g.d (Lq.sc (a + b) g.x)
  rw [Lq.sum_assoc, Lq.sc_add, Lq.sum_comm (Lq.sc b g.x)]) rfl
theorem leanS_Rp (g : Gen) {c : Int} (c0 : 0 ≤ c) (c1 : c ≤ 100) : Rp g (leanS c) = (leanG (zz c) g).d := by
  unfold leanS
  rw [Rp_add g slD_falls (ofX_falls c), Rp_one]
  show Lq.sum (Lq.sc (zz 1) g.d) _ = Lq.sum g.d (Lq.sc (zz c) g.x)
  rw [zz_one, Lq.sc_one]
  congr 1
  by_cases hc : 1 ≤ c
  · have e3 : polOf c ⟨1, 0, 0, 0⟩ = [⟨c, ⟨1, 0, 0, 0⟩⟩] := if_pos ⟨⟨hc, c1⟩, by decide⟩
    rw [e3, Rp_one]
    rfl
  · have e3 : polOf c ⟨1, 0, 0, 0⟩ = [] := if_neg (fun h => hc h.1.1)
    have e0 : c = 0 := by omega
    rw [e3, e0, zz_zero, Lq.sc_zero]
    rfl
theorem mulM_wm {A B K : List T} (oA : okL A = true) (oB : okL B = true) (h : mulM (lf A) (lf B) B.length A.length = some K) : wmV A B = (K, true) := by
  have h1 : polOk A.length (lf A) = true := oA
  have h2 : polOk B.length (lf B) = true := oB
  unfold wmV wylMul
  rw [if_pos ⟨h1, h2⟩, h]; rfl
theorem one_ok {t : T} (h : t.m.ok = true ∧ 1 ≤ t.c ∧ t.c ≤ 100) : okL [t] = true := okL_of (by simp) (falls_single h)
theorem base_ok {t : T} (h : t.m.ok = true ∧ 1 ≤ t.c ∧ t.c ≤ 100) : okL [⟨t.c, ⟨t.m.x, t.m.y, 0, 0⟩⟩] = true := by
  obtain ⟨x1, x2, y1, y2, d1, d2, e1, e2⟩ := M.ok_iff.1 h.1
  exact one_ok ⟨M.ok_iff.2 ⟨x1, x2, y1, y2, by show (0 : Int) ≤ 0; omega, by show (0 : Int) ≤ 15; omega, by show (0 : Int) ≤ 0; omega, by show (0 : Int) ≤ 15; omega⟩, h.2⟩
theorem last_ok {t : T} (h : t.m.ok = true ∧ 1 ≤ t.c ∧ t.c ≤ 100) : okL [lastE t] = true := by
  obtain ⟨x1, x2, y1, y2, d1, d2, e1, e2⟩ := M.ok_iff.1 h.1
  exact one_ok ⟨M.ok_iff.2 ⟨by show (0 : Int) ≤ 0; omega, by show (0 : Int) ≤ 15; omega, by show (0 : Int) ≤ 0; omega, by show (0 : Int) ≤ 15; omega, by show (0 : Int) ≤ 0; omega, by show (0 : Int) ≤ 15; omega, e1, e2⟩, by show (1 : Int) ≤ 1; omega, by show (1 : Int) ≤ 100; omega⟩
theorem leanP_Rp (g : Gen) {c : Int} (c0 : 0 ≤ c) (c1 : c ≤ 100) {t : T} (ht : t.m.ok = true ∧ 1 ≤ t.c ∧ t.c ≤ 100) : ∀ k K, leanP (leanS c) t k = some K → okL K = true ∧ Rp g K = Lq.sc (zz t.c) (Lq.mul (Lq.mul (Lq.pow g.x t.m.x.toNat) (Lq.pow g.y t.m.y.toNat)) (Lq.pow (leanG (zz c) g).d k))
  | 0, K, h => by
    cases h
    exact ⟨base_ok ht, by rw [Rp_one]; rfl⟩
  | k + 1, K, h => by
    rw [leanP] at h
    cases hr : leanP (leanS c) t k with
    | none => rw [hr] at h; cases h
    | some K1 =>
      rw [hr] at h
      change mulM (lf K1) (lf (leanS c)) (leanS c).length K1.length = some K at h
      have h1 := leanP_Rp g c0 c1 ht k K1 hr
      have hw := mulM_wm h1.1 (okL_of (leanS_len c) (leanS_falls c)) h
      refine ⟨wm_ok hw, ?_⟩
      rw [Rp_mul g hw, h1.2, leanS_Rp g c0 c1, Lq.sc_mul]
      rfl
theorem lean_adds (g : Gen) {c : Int} (c0 : 0 ≤ c) (c1 : c ≤ 100) : Adds (mo g) (mo (leanG (zz c) g)) (stLean (leanS c)) := fun K t K' hK ht h => by
  unfold stLean leanT at h
  cases hp : leanP (leanS c) t t.m.d.toNat with
  | none => rw [hp] at h; cases h
  | some K1 =>
    rw [hp] at h
    have h1 := leanP_Rp g c0 c1 ht _ K1 hp
    change ((mulM (lf K1) (lf [lastE t]) 1 K1.length).bind fun X => some (addL K X)) = some K' at h
    cases hm : mulM (lf K1) (lf [lastE t]) 1 K1.length with
    | none => rw [hm] at h; cases h
    | some X =>
      rw [hm] at h
      change some (addL K X) = some K' at h
      cases h
      have hw := mulM_wm h1.1 (last_ok ht) hm
      have fX := wm_falls hw
      refine ⟨(addL_facts hK fX).1, ?_⟩
      rw [Rg_add _ hK fX, ← Rg_mo g X, Rp_mul g hw, h1.2, Rp_one, Lq.sc_mul]
      congr 2
      show Lq.mul _ (Lq.sc (zz 1) (Lq.pow g.e t.m.e.toNat)) = _
      rw [zz_one, Lq.sc_one]
      rfl
def lnV (L : List T) (c : Int) : List T × Bool := mapLean (lf L) L.length c
theorem lnV_if (L : List T) (c : Int) : lnV L c = ([], false) ∨ ∃ X, lnV L c = (X, true) := by
  unfold lnV mapLean
  split
  · exact mapV_if _ L
  · exact .inl rfl
theorem ln_facts {L X : List T} {c : Int} (h : lnV L c = (X, true)) : 0 ≤ c ∧ c ≤ 100 ∧ okL L = true ∧ okL X = true ∧ ∀ g, Rp g X = Rp (leanG (zz c) g) L := by
  unfold lnV mapLean at h
  split at h
  · rename_i hc
    have h1 := fun g => map_Rg (lean_adds g hc.1 hc.2) h
    exact ⟨hc.1, hc.2, (h1 stdG).1, (h1 stdG).2.1, fun g => (h1 g).2.2⟩
  · simp at h
theorem leanS_zero : leanS 0 = [slD] := by
  have e3 : polOf 0 ⟨1, 0, 0, 0⟩ = [] := if_neg (fun h => by have := h.1.1; omega)
  unfold leanS
  rw [e3, addL_nil slD_falls]
theorem step_one {a b : T} {K : List T} (ha : a.m.ok = true ∧ 1 ≤ a.c ∧ a.c ≤ 100) (hb : b.m.ok = true ∧ 1 ≤ b.c ∧ b.c ≤ 100) (hs : (a.m.sum b.m).ok = true) (hK : okL K = true) (he : Lq.sc (zz a.c * zz b.c) (Lq.mul (mo stdG a.m) (mo stdG b.m)) = Rp stdG K) : mulM (lf [a]) (lf [b]) 1 1 = some K := by
  have tw : Two a b (a.m.sum b.m) := ⟨ha.1, hb.1, hs, rfl, rfl, rfl, rfl, ⟨by omega, ha.2.2⟩, by omega, hb.2.2⟩
  have hp := pairL_facts tw
  have e0 : addL [] (pairL a b) = K := eq_of_Rp (addL_facts falls_nil hp.1).1 (okL_falls hK).2 (by
    rw [Rp_add _ falls_nil hp.1, Rp_pair _ tw, he]
    show Lq.sum Lq.nil _ = _
    rw [Lq.sum_comm, Lq.sum_nil])
  show (some []).bind (fun K => rowM K a (lf [b]) 1) = _
  show (some []).bind (fun K' => stepM K' a b) = _
  show stepM [] a b = _
  unfold stepM
  rw [e0, if_pos ⟨hs, (okL_falls hK).1⟩]
theorem lean0_P {t : T} (ht : t.m.ok = true ∧ 1 ≤ t.c ∧ t.c ≤ 100) : ∀ k, k ≤ 15 → leanP [slD] t k = some [⟨t.c, ⟨t.m.x, t.m.y, k, 0⟩⟩]
  | 0, _ => rfl
  | k + 1, hk => by
    obtain ⟨x1, x2, y1, y2, d1, d2, e1, e2⟩ := M.ok_iff.1 ht.1
    rw [leanP, lean0_P ht k (by omega)]
    show mulM (lf [(⟨t.c, ⟨t.m.x, t.m.y, k, 0⟩⟩ : T)]) (lf [slD]) 1 1 = _
    have okk : ∀ j : Nat, j ≤ 15 → (⟨t.m.x, t.m.y, (j : Int), 0⟩ : M).ok = true := fun j hj => M.ok_iff.2 ⟨x1, x2, y1, y2, by show (0 : Int) ≤ (j : Int); omega, by show (j : Int) ≤ 15; omega, by show (0 : Int) ≤ 0; omega, by show (0 : Int) ≤ 15; omega⟩
    have es : (⟨t.m.x, t.m.y, (k : Int), 0⟩ : M).sum slD.m = ⟨t.m.x, t.m.y, ((k + 1 : Nat) : Int), 0⟩ := by
      show (⟨t.m.x + 0, t.m.y + 0, (k : Int) + 1, 0 + 0⟩ : M) = _
      rw [Int.add_zero, Int.add_zero, Int.add_zero]
      congr 1
    refine step_one ⟨okk k (by omega), ht.2⟩ ⟨by decide, by decide, by decide⟩ (by rw [es]; exact okk (k + 1) hk) (one_ok ⟨okk (k + 1) hk, ht.2⟩) ?_
    rw [Rp_one]
    show Lq.sc (zz t.c * zz 1) (Lq.mul (Lq.mul (Lq.mul (Lq.pow stdG.x t.m.x.toNat) (Lq.pow stdG.y t.m.y.toNat)) (Lq.mul (Lq.pow stdG.d ((k : Int)).toNat) Lq.one)) stdG.d) = Lq.sc (zz t.c) (Lq.mul (Lq.mul (Lq.pow stdG.x t.m.x.toNat) (Lq.pow stdG.y t.m.y.toNat)) (Lq.mul (Lq.pow stdG.d (((k + 1 : Nat) : Int)).toNat) Lq.one))
    rw [zz_one, show zz t.c * 1 = zz t.c by grind, show ((k : Int)).toNat = k by omega, show (((k + 1 : Nat) : Int)).toNat = k + 1 by omega]
    rfl
theorem lean0_T {t : T} (ht : t.m.ok = true ∧ 1 ≤ t.c ∧ t.c ≤ 100) : leanT [slD] t = some [t] := by
  obtain ⟨x1, x2, y1, y2, d1, d2, e1, e2⟩ := M.ok_iff.1 ht.1
  unfold leanT
  rw [lean0_P ht _ (by omega)]
  show mulM (lf [(⟨t.c, ⟨t.m.x, t.m.y, (t.m.d.toNat : Int), 0⟩⟩ : T)]) (lf [lastE t]) 1 1 = _
  rw [Int.toNat_of_nonneg d1]
  have hm : (⟨t.m.x, t.m.y, t.m.d, 0⟩ : M).ok = true := M.ok_iff.2 ⟨x1, x2, y1, y2, d1, d2, by show (0 : Int) ≤ 0; omega, by show (0 : Int) ≤ 15; omega⟩
  have hl : (lastE t).m.ok = true ∧ 1 ≤ (lastE t).c ∧ (lastE t).c ≤ 100 := ⟨M.ok_iff.2 ⟨by show (0 : Int) ≤ 0; omega, by show (0 : Int) ≤ 15; omega, by show (0 : Int) ≤ 0; omega, by show (0 : Int) ≤ 15; omega, by show (0 : Int) ≤ 0; omega, by show (0 : Int) ≤ 15; omega, e1, e2⟩, by show (1 : Int) ≤ 1; omega, by show (1 : Int) ≤ 100; omega⟩
  have es : (⟨t.m.x, t.m.y, t.m.d, 0⟩ : M).sum (lastE t).m = t.m := by
    show (⟨t.m.x + 0, t.m.y + 0, t.m.d + 0, 0 + t.m.e⟩ : M) = t.m
    rw [Int.add_zero, Int.add_zero, Int.add_zero, Int.zero_add]
  refine step_one ⟨hm, ht.2⟩ hl (by rw [es]; exact ht.1) (one_ok ht) ?_
  rw [Rp_one]
  show Lq.sc (zz t.c * zz 1) (Lq.mul (Lq.mul (Lq.mul (Lq.pow stdG.x t.m.x.toNat) (Lq.pow stdG.y t.m.y.toNat)) (Lq.mul (Lq.pow stdG.d t.m.d.toNat) Lq.one)) (Lq.pow stdG.e t.m.e.toNat)) = _
  rw [zz_one, show zz t.c * 1 = zz t.c by grind]
  rfl
theorem ln_zero {L : List T} (h : okL L = true) : lnV L 0 = (L, true) := by
  unfold lnV mapLean
  rw [if_pos ⟨by omega, by omega⟩]
  refine map_self (by
    have := lean_adds stdG (c := 0) (by omega) (by omega)
    rw [zz_zero, leanG_zero] at this
    exact this) (fun K t hK ht => ?_) h
  unfold stLean
  rw [leanS_zero, lean0_T ht]
  exact ⟨_, rfl⟩
theorem ln_mul {A B X Y AB U V : List T} {c : Int} (h1 : lnV A c = (X, true)) (h2 : lnV B c = (Y, true)) (h3 : wmV A B = (AB, true)) (h4 : lnV AB c = (U, true)) (h5 : wmV X Y = (V, true)) : U = V :=
  ok_eq (ln_facts h4).2.2.2.1 (wm_ok h5) (by rw [(ln_facts h4).2.2.2.2, Rp_mul _ h3, Rp_mul _ h5, (ln_facts h1).2.2.2.2, (ln_facts h2).2.2.2.2])
theorem ln_add {A X Z W : List T} {c d : Int} (h1 : lnV A c = (X, true)) (h2 : lnV X d = (Z, true)) (h3 : lnV A (fAdd c d) = (W, true)) : Z = W := by
  obtain ⟨c0, c1, _, _, e1⟩ := ln_facts h1
  obtain ⟨d0, d1, _, oZ, e2⟩ := ln_facts h2
  obtain ⟨_, _, _, oW, e3⟩ := ln_facts h3
  refine ok_eq oZ oW ?_
  rw [e2, e1, e3, leanG_add, fAdd_in c0 c1 d0 d1, zz_mod, zz_add]
end Go.Proofs.Ytlndccbgbclnhaa
namespace Go.Proofs.Ytlndccbgbclnhaa
open Go.RowKit Go.Maps
set_option linter.unusedVariables false

def sgn (n : Int) : Int := if n % 2 = 0 then 1 else 100
theorem sgn_range (n : Int) : 0 ≤ sgn n ∧ sgn n ≤ 100 := by unfold sgn; split <;> omega
theorem pw_sgn : ∀ n : Nat, pw 100 n = sgn (n : Int)
  | 0 => rfl
  | n + 1 => by
    rw [pw, pw_sgn n]
    unfold sgn
    split <;> split <;> omega
/-- the number of a turned term. -/
def sg (t : T) (n : Int) : Int := t.c * sgn n % 101
theorem sg_range (t : T) (n : Int) : 0 ≤ sg t n ∧ sg t n ≤ 100 := by unfold sg; omega
theorem sg_pos {t : T} {n : Int} (h : 1 ≤ t.c) (h' : t.c ≤ 100) : 1 ≤ sg t n := by
  unfold sg sgn
  split <;> omega
/-- the cells of a term, in a box. -/
abbrev B5 (b : Nat) (t : T) (u : World) : Prop := u.cell? ⟨b, 0, none⟩ = some (.int .i64 t.c) ∧ u.cell? ⟨b, 1, none⟩ = some (.int .i64 t.m.x) ∧ u.cell? ⟨b, 2, none⟩ = some (.int .i64 t.m.y) ∧ u.cell? ⟨b, 3, none⟩ = some (.int .i64 t.m.d) ∧ u.cell? ⟨b, 4, none⟩ = some (.int .i64 t.m.e)
theorem B5.below {b : Nat} {t : T} {u u' : World} (h : B5 b t u) (hb : Below u.heap.size u u') (h2 : b < u.heap.size) : B5 b t u' :=
  ⟨(hb.cell (p := ⟨b, 0, none⟩) h2).trans h.1, (hb.cell (p := ⟨b, 1, none⟩) h2).trans h.2.1, (hb.cell (p := ⟨b, 2, none⟩) h2).trans h.2.2.1, (hb.cell (p := ⟨b, 3, none⟩) h2).trans h.2.2.2.1, (hb.cell (p := ⟨b, 4, none⟩) h2).trans h.2.2.2.2⟩
theorem B5.lt {b : Nat} {t : T} {u : World} (h : B5 b t u) : b < u.heap.size := World.block_lt_of_cell? u ⟨b, 0, none⟩ h.1
theorem B5.box (w : World) (t : T) : B5 w.heap.size t (w.alloc (.cells #[.int .i64 t.c, .int .i64 t.m.x, .int .i64 t.m.y, .int .i64 t.m.d, .int .i64 t.m.e] 52)) := by
  refine ⟨?_, ?_, ?_, ?_, ?_⟩ <;> (rw [World.cell?_alloc_at _ _ _ _ rfl]; rfl)
theorem B5.far {w : World} {b o b' o' : Nat} {v : Value} (h : b' ≠ b) : (w.setCell ⟨b, o, none⟩ v).cell? ⟨b', o', none⟩ = w.cell? ⟨b', o', none⟩ := World.cell?_of_block (w := w) (Below.heap_setCell _ _ _ _ h)
theorem B5.set {b g o : Nat} {t : T} {u : World} (h : B5 b t u) (hg : b ≠ g) (v : Value) : B5 b t (u.setCell ⟨g, o, none⟩ v) :=
  ⟨(B5.far hg).trans h.1, (B5.far hg).trans h.2.1, (B5.far hg).trans h.2.2.1, (B5.far hg).trans h.2.2.2.1, (B5.far hg).trans h.2.2.2.2⟩
theorem B5.alloc {b : Nat} {t : T} {u : World} (h : B5 b t u) (o : Obj) : B5 b t (u.alloc o) := h.below (bel_one u o) h.lt
theorem B5.set5 {b g : Nat} {t : T} {u : World} (h : B5 b t u) (hg : b ≠ g) (v0 v1 v2 v3 v4 : Value) : B5 b t (((((u.setCell ⟨g, 0, none⟩ v0).setCell ⟨g, 1, none⟩ v1).setCell ⟨g, 2, none⟩ v2).setCell ⟨g, 3, none⟩ v3).setCell ⟨g, 4, none⟩ v4) :=
  ((((h.set hg v0).set hg v1).set hg v2).set hg v3).set hg v4
end Go.Proofs.Ytlndccbgbclnhaa
