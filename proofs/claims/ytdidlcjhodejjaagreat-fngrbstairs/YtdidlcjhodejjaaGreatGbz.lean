/-
  Pair by pair until none is left, or something is too much: (*impl.grbMaking).lookAtAll.
  A basis is made: the program's GrbMake.
  The least basis, as lists: who is needed, in which order, and what is left of each by the others.
-/
import Derived.Test.YtdidlcjhodejjaaGreatGby
import Derived.Test.YtdidlcjhodejjaaGreatGbo
import Derived.Test.YtdidlcjhodejjaaGreatGbm
namespace Go.Proofs.YtdidlcjhodejjaaGreat
open Go.RowKit Go.Deep Go.Joins
set_option linter.unusedVariables false

def PopP (w : World) (lo Mb g : Nat) (o : Int) (f : Nat) (B : Bs) (j : Nat) (p : Option Addr) (u : World) : Prop :=
  Fr (fun k => lo ≤ k) w u ∧ ((j < tri B.m ∧ ∃ pb nx tvL tvP lv LS PS Bq, p = some ⟨pb, 0, none⟩ ∧ MW u lo Mb g o f B (j + 1) tvL tvP lv LS PS Bq ∧ PrAt u pb (prQ (fun i => ldL o (B.L i)) j) nx) ∨ (tri B.m ≤ j ∧ p = none ∧ ∃ tvL tvP lv LS PS Bq, MW u lo Mb g o f B j tvL tvP lv LS PS Bq))
theorem popMI (w : World) (lo Mb g : Nat) (o : Int) (f : Nat) (B : Bs) (j : Nat) (tvL tvP lv : Value) (LS PS : List Value) (Bq : Nat → Nat) (h : MW w lo Mb g o f B j tvL tvP lv LS PS Bq) :
    Calls Tryz.prog 80 #[.pointer (some ⟨Mb, 4, none⟩)] w fun r u => ∃ p, r = .returned (.pointer p) ∧ PopP w lo Mb g o f B j p u := by
  by_cases hlt : j < tri B.m
  · refine (popK w lo Mb 4 lv B.m _ Bq j (tri B.m) h.qu hlt).mono ?_
    rintro r u ⟨rfl, hq, hp, hf, hk⟩
    refine ⟨_, rfl, hf.mono (fun k _ e => by rw [e]; exact h.lo), .inl ⟨hlt, Bq j, _, tvL, tvP, lv, LS, PS, Bq, rfl, ⟨h.bx.kx hk hq, hq, (h.bk.fr hf (fun b e => .inr (.inl e))).yet (fun b _ q => ?_), by omega, h.m12, h.lo⟩, hp⟩⟩
    rcases q with q | q | q | ⟨i, i1, i2, q⟩
    · exact .inl q
    · exact .inr (.inl q)
    · exact .inr (.inr (.inl q))
    · exact .inr (.inr (.inr ⟨i, by omega, i2, q⟩))
  · refine (popI_none w lo Mb 4 lv B.m _ Bq j (tri B.m) h.qu hlt).mono ?_
    rintro r u ⟨rfl, rfl⟩
    exact ⟨_, rfl, Fr.refl _ _, .inr ⟨by omega, rfl, tvL, tvP, lv, LS, PS, Bq, h⟩⟩
/-- a pair is not the making's box: it has a number where that has a list. -/
theorem pr_ne {w : World} {pb Mb : Nat} {p : Pr} {nx : Option Addr} {tvL tvP : Value} {o : Int} {f : Nat} (h : PrAt w pb p nx) (hx : Mx w Mb tvL tvP o f) : ¬ pb = Mb := fun e => by
  have h1 := h.a2
  have h2 := hx.c2
  rw [e, h2] at h1
  cases h1
def AllP (w : World) (lo Mb g : Nat) (o : Int) (G : Bs × Bool) (r : Ending) (w' : World) : Prop :=
  Fr (fun k => lo ≤ k) w w' ∧ ((G.2 = true ∧ r = .returned (.tuple #[])) ∨ (G.2 = false ∧ r = .panicked [{ v := tooMuch, recovered := false }])) ∧ ∃ f a tvL tvP lv LS PS Bq, MW w' lo Mb g o f G.1 a tvL tvP lv LS PS Bq
theorem allP_of {w w' : World} {lo Mb g : Nat} {o : Int} {G : Bs × Bool} {r : Ending} {B : Bs} {d : Bool} (hG : G = (B, d)) (hf : Fr (fun k => lo ≤ k) w w') (hr : (d = true ∧ r = .returned (.tuple #[])) ∨ (d = false ∧ r = .panicked [{ v := tooMuch, recovered := false }])) {f a : Nat} {tvL tvP lv : Value} {LS PS : List Value} {Bq : Nat → Nat} (hm : MW w' lo Mb g o f B a tvL tvP lv LS PS Bq) : AllP w lo Mb g o G r w' := by
  subst hG
  exact ⟨hf, hr, f, a, tvL, tvP, lv, LS, PS, Bq, hm⟩
set_option maxRecDepth 100000 in
set_option maxHeartbeats 8000000 in
theorem lookAtAllI (w : World) (lo Mb g : Nat) (o : Int) (f0 : Nat) (hf60 : f0 ≤ 60) (B0 : Bs) (tvL tvP lv : Value) (LS PS : List Value) (Bq : Nat → Nat) (h : MW w lo Mb g o f0 B0 0 tvL tvP lv LS PS Bq) (hB : BsOk o g B0) (hg : g ≤ 12) {G : Bs × Bool} (hG : grun o g f0 B0 0 = G) :
    Calls Tryz.prog 99 #[.pointer (some ⟨Mb, 0, none⟩)] w (AllP w lo Mb g o G) := by
  have HH := Hid.mk' h
  have HB := Hid.mk' hB
  have HG := Hid.mk' hG
  clear h hB hG
  go_enter Tryz.func99, Tryz.ntmps99
  go_wp2_with fail
  refine (popMI w lo Mb g o f0 B0 0 _ _ _ _ _ _ HH.out).mono ?_
  rintro r w1 ⟨p1, rfl, hp1⟩
  have HP1 := Hid.mk' hp1
  clear hp1
  go_wp2
  go_loopg [2] f0 (fun gk pv wr => ∃ (B : Bs) (j : Nat) (p : Option Addr) (wb : World), gk ≤ 60 ∧ pv = .pointer p ∧ BsOk o g B ∧ grun o g gk B j = G ∧ Fr (fun k => lo ≤ k) w wb ∧ PopP wb lo Mb g o gk B j p wr)
  case atStart => exact ⟨B0, 0, p1, w, hf60, rfl, HB.out, HG.out, Fr.refl _ _, HP1.out⟩
  case round =>
    obtain ⟨B, j, p, wb, hgk, rfl, hBo, hgr, hFb, hF1, hcase⟩ := hrel
    have hF := hFb.trans hF1
    have HF := Hid.mk' hF
    have HGR := Hid.mk' hgr
    have HBo := Hid.mk' hBo
    rcases hcase with ⟨hlt, pb, nx, tvL1, tvP1, lv1, LS1, PS1, Bq1, rfl, hM, hpr⟩ | ⟨hge, rfl, tvL1, tvP1, lv1, LS1, PS1, Bq1, hM⟩
    · have HM := Hid.mk' hM
      have HPR := Hid.mk' hpr
      have c7 := hM.bx.c7
      have z7 := hM.bx.fz 7
      clear hF hFb hF1 hgr hBo hM hpr
      rcases gk with _ | gk
      · have HGE := Hid.mk' (HGR.out.symm.trans (grun_out hlt))
        go_wp2
        refine ⟨rfl, ?_⟩
        exact allP_of HGE.out HF.out (.inr ⟨rfl, rfl⟩) HM.out
      have hf1 : (((gk + 1 : Nat) : Int) == 0) = false := by simp; omega
      have hfw : IntKind.i64.wrap (((gk + 1 : Nat) : Int) - 1) = (gk : Int) := by rw [IntKind.wrap_i64]; omega
      have hfw2 : ((gk + 1 : Nat) : Int) - 1 = (gk : Int) := by omega
      have hM2 : MW (wr.setCell ⟨Mb, 7, none⟩ (.int .i64 (gk : Int))) lo Mb g o gk B (j + 1) tvL1 tvP1 lv1 LS1 PS1 Bq1 := ⟨HM.out.bx.set7 gk, HM.out.qu.put (by decide) _, HM.out.bk.fr ((Fr.refl (QY lo Mb lv1 Bq1 (j + 1) (tri B.m)) wr).set (fun _ => .inr (.inl rfl))) (fun b q => q), HM.out.le, HM.out.m12, HM.out.lo⟩
      have HM2 := Hid.mk' hM2
      have hF2 : Fr (fun k => lo ≤ k) w (wr.setCell ⟨Mb, 7, none⟩ (.int .i64 (gk : Int))) := HF.out.set (fun _ => HM.out.lo)
      have HF2 := Hid.mk' hF2
      have HPR2 : Hid (PrAt (wr.setCell ⟨Mb, 7, none⟩ (.int .i64 (gk : Int))) pb (prQ (fun i => ldL o (B.L i)) j) nx) := HPR.out.fr ((Fr.refl (fun k => k = Mb) wr).set (fun _ => rfl)) (pr_ne HPR.out HM.out.bx)
      obtain ⟨E, hE⟩ : ∃ E, stepB o g B (pq j).1 (pq j).2 = E := ⟨_, rfl⟩
      have hcl := lookAtI (wr.setCell ⟨Mb, 7, none⟩ (.int .i64 (gk : Int))) lo Mb g o gk B j _ _ _ _ _ _ HM2.out HBo.out hg hlt pb nx HPR2.out
      rw [hE] at hcl
      have HCL := Hid.mk' hcl
      have HE := Hid.mk' hE
      clear hM2 hF2 hcl hE
      go_wp2_with fail
      refine HCL.out.mono ?_
      rintro r w3 ⟨hF3, hc3⟩
      have HF3 := Hid.mk' (HF2.out.trans hF3)
      clear c7 z7 hF3 HCL
      rcases hc3 with ⟨tvL3, tvP3, lv3, LS3, PS3, Bq3, rfl, rfl, hM3⟩ | ⟨B3, tvL3, tvP3, lv3, LS3, PS3, Bq3, rfl, rfl, hM3⟩
      · have hGE : G = (B, false) := HGR.out.symm.trans (by rw [grun, if_pos hlt]; simp only [HE.out])
        have HM3 := Hid.mk' hM3
        clear hM3
        refine ⟨rfl, ?_⟩
        exact allP_of hGE HF3.out (.inr ⟨rfl, rfl⟩) HM3.out
      · have hGE : grun o g gk B3 (j + 1) = G := by
          rw [← HGR.out, grun, if_pos hlt]
          simp only [HE.out]
        obtain ⟨h1, h2⟩ := pq_lt hlt
        have hB3 := stepB_ok HBo.out (by omega) h2 HE.out
        have HGE := Hid.mk' hGE
        have HB3 := Hid.mk' hB3
        have HM3 := Hid.mk' hM3
        clear hGE hB3 hM3
        go_wp2_with fail
        refine (popMI w3 lo Mb g o gk B3 (j + 1) _ _ _ _ _ _ HM3.out).mono ?_
        rintro r w4 ⟨p4, rfl, hp4⟩
        have HP4 := Hid.mk' hp4
        clear hp4
        go_wp2
        go_roundg gk
        case measure => omega
        case rel => exact ⟨B3, j + 1, p4, w3, by omega, rfl, HB3.out, HGE.out, HF3.out, HP4.out⟩
    · have HGE := Hid.mk' (HGR.out.symm.trans (grun_stop (o := o) (g := g) (f := gk) hge))
      have HM := Hid.mk' hM
      clear hF hFb hF1 hgr hBo hM
      go_wp2
      go_end0
      exact allP_of HGE.out HF.out (.inl ⟨rfl, rfl⟩) HM.out
end Go.Proofs.YtdidlcjhodejjaaGreat
namespace Go.Proofs.YtdidlcjhodejjaaGreat
open Go.RowKit Go.Deep Go.Joins
set_option linter.unusedVariables false

set_option maxRecDepth 100000 in
set_option maxHeartbeats 2000000 in
theorem redEnds_yesM (g : Nat) (bd : Array Value) (w : World) (Q : World → Prop) (eg : ∀ args w, (callFunc g args).run Tryz.prog w = .ok (.enter g args) w) (h : Calls Tryz.prog g bd w fun r w' => r = .returned (.tuple #[]) ∧ Q w') :
    Calls Tryz.prog 78 #[.func (.func g) bd #[]] w fun r w' => r = .returned (.bool true) ∧ ∃ w1, Q w1 ∧ w' = w1.alloc (.cells #[] 149) := by
  have HC := Hid.mk' h
  clear h
  go_enter_defers Tryz.func78, Tryz.ntmps78
  go_wp2_with fail
  refine HC.out.mono ?_
  rintro r w1 ⟨rfl, hq⟩
  have HQ := Hid.mk' hq
  clear hq HC
  go_wp2
  refine leaves_cons (f := 123) (args := #[]) (by simp) (by simp [go_sem]) ?_
  refine (ends1_idle _).mono ?_
  rintro e u' w'' ⟨rfl, rfl, rfl⟩
  simp [Leaves, settle, results, Tryz.results78, go_sem]
  exact ⟨w1, HQ.out, rfl⟩
set_option maxRecDepth 100000 in
set_option maxHeartbeats 2000000 in
theorem redEnds_noM (g : Nat) (bd : Array Value) (w : World) (Q : World → Prop) (eg : ∀ args w, (callFunc g args).run Tryz.prog w = .ok (.enter g args) w) (h : Calls Tryz.prog g bd w fun r w' => r = .panicked [{ v := tooMuch, recovered := false }] ∧ Q w') :
    Calls Tryz.prog 78 #[.func (.func g) bd #[]] w fun r w' => r = .returned (.bool false) ∧ ∃ w1, Q w1 ∧ w' = w1.alloc (.cells #[] 149) := by
  have HC := Hid.mk' h
  clear h
  go_enter_defers Tryz.func78, Tryz.ntmps78
  go_wp2_with fail
  refine HC.out.mono ?_
  rintro r w1 ⟨rfl, hq⟩
  have HQ := Hid.mk' hq
  clear hq HC
  go_wp2
  refine leaves_cons (f := 123) (args := #[]) (by simp) (by simp [go_sem]) ?_
  refine (ends1_caught _).mono ?_
  rintro e u' w'' ⟨rfl, rfl, rfl⟩
  simp [Leaves, settle, results, Tryz.results78, go_sem]
  exact ⟨w1, HQ.out, rfl⟩
theorem own_low {w : World} {lo lo' : Nat} {e : TypeId} {size : Nat} {v : Value} {n : Nat} {xs : List Value} (h : w.ownsRow lo e size v n xs) (hl : lo' ≤ lo) : w.ownsRow lo' e size v n xs := ⟨h.1, h.2.imp id (fun ⟨g, cap, cur, e1, e2, r⟩ => ⟨g, cap, cur, e1, Nat.le_trans hl e2, r⟩)⟩
theorem BsW.low {Y : Nat → Prop} {w : World} {lo lo' : Nat} {tvL tvP : Value} {g nL : Nat} {L : Nat → List T} {nP : Nat} {Q : Nat → Nat → List T} {LS PS : List Value} (h : BsW Y w lo tvL tvP g nL L nP Q LS PS) (hl : lo' ≤ lo) : BsW Y w lo' tvL tvP g nL L nP Q LS PS := ⟨own_low h.rL hl, own_low h.rP hl, h.eL, h.eP, h.nL, h.nP⟩
/-- the box of the making, new. -/
theorem mw_new (w : World) (lo n : Nat) (o : Int) (f : Nat) (L : Nat → List T) (hlo : lo ≤ w.heap.size) : MW (w.alloc (.cells #[.slice none 0 0, .slice none 0 0, .bool false, .int .i64 o, .slice none 0 0, .pointer none, .pointer none, .int .i64 (f : Int)] 120)) lo w.heap.size n o f ⟨0, L, fun k => oneP k⟩ 0 (.slice none 0 0) (.slice none 0 0) (.slice none 0 0) [] [] (fun _ => 0) := by
  have c : ∀ i, (w.alloc (.cells #[.slice none 0 0, .slice none 0 0, .bool false, .int .i64 o, .slice none 0 0, .pointer none, .pointer none, .int .i64 (f : Int)] 120)).cell? ⟨w.heap.size, i, none⟩ = #[Value.slice none 0 0, .slice none 0 0, .bool false, .int .i64 o, .slice none 0 0, .pointer none, .pointer none, .int .i64 (f : Int)][i]? := fun i => World.cell?_alloc_at _ _ _ _ rfl
  have z : ∀ j, (w.alloc (.cells #[.slice none 0 0, .slice none 0 0, .bool false, .int .i64 o, .slice none 0 0, .pointer none, .pointer none, .int .i64 (f : Int)] 120)).frozen? ⟨w.heap.size, j, none⟩ = false := fun j => by rw [World.frozen?_alloc_at _ _ _ _ rfl]
  exact ⟨⟨c 0, c 1, c 2, c 3, c 7, z⟩, ⟨c 4, c 5, ⟨_, c 6, fun q => absurd q (Nat.lt_irrefl _)⟩, ⟨z 4, z 5, z 6⟩, ⟨rfl, .inl ⟨rfl, rfl⟩⟩, fun g hg => by simp [Value.ownBlock] at hg, fun j j1 j2 => absurd j2 (Nat.not_lt_zero _), fun j j1 j2 => absurd j2 (Nat.not_lt_zero _), fun i j _ _ j2 => absurd j2 (Nat.not_lt_zero _), hlo⟩, BsW.none _ _ _ _ _ _, Nat.le_refl _, Nat.zero_le _, hlo⟩
set_option maxRecDepth 100000 in
set_option maxHeartbeats 8000000 in
theorem grbMakeI_bad (w : World) (o : Int) (a : Option Addr) (n cap : Nat) (ad : Nat → Option Addr) (cp : Nat → Nat) (L : Nat → List T) (h : RdS w a n cap ad (lN L) cp (fN L)) (fuel : Int) (hbad : ¬ ((1 ≤ o ∧ o ≤ 3) ∧ lstOk n (lN L) (fN L) = true ∧ (1 ≤ n ∧ n ≤ 3) ∧ (0 ≤ fuel ∧ fuel ≤ 60))) :
    Calls Tryz.prog 55 #[.int .i64 o, .slice a n cap, .int .i64 fuel] w (MakeP w n (⟨0, fun _ => [], fun _ _ => []⟩, false)) := by
  have q1 : (n : Int) ≤ 140737488351232 := by have := h.2.1; omega
  have HH := Hid.mk' (h.below (bel_one w (.cells #[.slice none 0 0, .slice none 0 0, .bool false] 77)))
  have HX0 := Hid.mk' (Own3.box w 77 (.slice none 0 0) (.slice none 0 0) (.bool false))
  clear h
  by_cases ho : 1 ≤ o ∧ o ≤ 3
  rotate_left
  · have ho' : o < 1 ∨ 3 < o := by omega
    clear hbad
    go_enter Tryz.func55, Tryz.ntmps55
    go_wp2_with fail
    refine (redLeadsI_out _ _ _ _ _ ho').mono ?_
    rintro r w2 ⟨rfl, hb2⟩
    have HB2 := Hid.mk' (bel_next (bel_one w (.cells #[.slice none 0 0, .slice none 0 0, .bool false] 77)) hb2)
    obtain ⟨⟨x0, x1, x2⟩, xz⟩ := HX0.out.below hb2
    clear hb2
    go_wp2
    refine bodyPost_ret (v := .agg #[.slice none 0 0, .slice none 0 0, .bool false]) (by simp [results, Tryz.results55, go_sem, *]) rfl ?_
    exact ⟨_, _, [], [], rfl, bel_s3 HB2.out (Nat.le_refl _) _ _ _, BsW.none _ _ _ _ _ _⟩
  obtain ⟨o1, o2⟩ := ho
  cases hl : lstOk n (lN L) (fN L)
  · clear hbad
    go_enter Tryz.func55, Tryz.ntmps55
    go_wp2_with fail
    refine (redLeadsI_no _ _ _ _ _ _ _ _ _ HH.out o1 o2 hl).mono ?_
    rintro r w2 ⟨rfl, hb2⟩
    have HB2 := Hid.mk' (bel_next (bel_one w (.cells #[.slice none 0 0, .slice none 0 0, .bool false] 77)) hb2)
    obtain ⟨⟨x0, x1, x2⟩, xz⟩ := HX0.out.below hb2
    clear hb2
    go_wp2
    refine bodyPost_ret (v := .agg #[.slice none 0 0, .slice none 0 0, .bool false]) (by simp [results, Tryz.results55, go_sem, *]) rfl ?_
    exact ⟨_, _, [], [], rfl, bel_s3 HB2.out (Nat.le_refl _) _ _ _, BsW.none _ _ _ _ _ _⟩
  have hrest : n = 0 ∨ (n ≠ 0 ∧ 3 < n) ∨ ((n ≠ 0 ∧ n ≤ 3) ∧ fuel < 0) ∨ ((n ≠ 0 ∧ n ≤ 3) ∧ 0 ≤ fuel ∧ 60 < fuel) := by
    by_cases h1 : n = 0
    · exact .inl h1
    · by_cases h2 : 3 < n
      · exact .inr (.inl ⟨h1, h2⟩)
      · by_cases h3 : fuel < 0
        · exact .inr (.inr (.inl ⟨⟨h1, by omega⟩, h3⟩))
        · by_cases h4 : 60 < fuel
          · exact .inr (.inr (.inr ⟨⟨h1, by omega⟩, by omega, h4⟩))
          · exact absurd ⟨⟨o1, o2⟩, hl, ⟨by omega, by omega⟩, by omega, by omega⟩ hbad
  have n12 := (lstOk_all hl).1
  clear hbad
  go_enter Tryz.func55, Tryz.ntmps55
  go_wp2_with fail
  refine (redLeadsI _ _ _ _ _ _ _ _ _ HH.out o1 o2 hl).mono ?_
  rintro r w2 ⟨v, rfl, hb2, _⟩
  have HB2 := Hid.mk' (bel_next (bel_one w (.cells #[.slice none 0 0, .slice none 0 0, .bool false] 77)) hb2)
  obtain ⟨⟨x0, x1, x2⟩, xz⟩ := HX0.out.below hb2
  clear hb2
  rcases hrest with h1 | ⟨h1, h2⟩ | ⟨⟨h1, h2⟩, h3⟩ | ⟨⟨h1, h2⟩, h3, h4⟩
  · have e1 : ((n : Int) == 0) = true := by rw [h1]; rfl
    clear h1
    go_wp2
    refine bodyPost_ret (v := .agg #[.slice none 0 0, .slice none 0 0, .bool false]) (by simp [results, Tryz.results55, go_sem, *]) rfl ?_
    exact ⟨_, _, [], [], rfl, bel_s3 HB2.out (Nat.le_refl _) _ _ _, BsW.none _ _ _ _ _ _⟩
  · have e1 : ((n : Int) == 0) = false := beq_eq_false_iff_ne.2 (by omega)
    have e2 : (3 : Int) < (n : Int) := by omega
    clear h1 h2
    go_wp2
    refine bodyPost_ret (v := .agg #[.slice none 0 0, .slice none 0 0, .bool false]) (by simp [results, Tryz.results55, go_sem, *]) rfl ?_
    exact ⟨_, _, [], [], rfl, bel_s3 HB2.out (Nat.le_refl _) _ _ _, BsW.none _ _ _ _ _ _⟩
  · have e1 : ((n : Int) == 0) = false := beq_eq_false_iff_ne.2 (by omega)
    have e2 : ¬ (3 : Int) < (n : Int) := by omega
    clear h1 h2
    go_wp2
    refine bodyPost_ret (v := .agg #[.slice none 0 0, .slice none 0 0, .bool false]) (by simp [results, Tryz.results55, go_sem, *]) rfl ?_
    exact ⟨_, _, [], [], rfl, bel_s3 HB2.out (Nat.le_refl _) _ _ _, BsW.none _ _ _ _ _ _⟩
  · have e1 : ((n : Int) == 0) = false := beq_eq_false_iff_ne.2 (by omega)
    have e2 : ¬ (3 : Int) < (n : Int) := by omega
    have e3 : ¬ fuel < 0 := by omega
    clear h1 h2
    go_wp2
    refine bodyPost_ret (v := .agg #[.slice none 0 0, .slice none 0 0, .bool false]) (by simp [results, Tryz.results55, go_sem, *]) rfl ?_
    exact ⟨_, _, [], [], rfl, bel_s3 HB2.out (Nat.le_refl _) _ _ _, BsW.none _ _ _ _ _ _⟩
set_option maxRecDepth 100000 in
set_option maxHeartbeats 8000000 in
theorem grbMakeI_ok (w : World) (o : Int) (a : Option Addr) (n cap : Nat) (ad : Nat → Option Addr) (cp : Nat → Nat) (L : Nat → List T) (h : RdS w a n cap ad (lN L) cp (fN L)) (fu : Nat) (ho : 1 ≤ o ∧ o ≤ 3) (hl : lstOk n (lN L) (fN L) = true) (hn : 1 ≤ n ∧ n ≤ 3) (hf : fu ≤ 60) {G : Bs × Bool} (hG : grun o n fu (grb0 n L) 0 = G) :
    Calls Tryz.prog 55 #[.int .i64 o, .slice a n cap, .int .i64 (fu : Int)] w (MakeP w n G) := by
  have bx := bel_one w (.cells #[.slice none 0 0, .slice none 0 0, .bool false] 77)
  have HH := Hid.mk' (h.below bx)
  have HX0 := Hid.mk' (Own3.box w 77 (.slice none 0 0) (.slice none 0 0) (.bool false))
  have HG := Hid.mk' hG
  have HL := Hid.mk' hl
  have HBX := Hid.mk' bx
  have hlo0 : ∀ b off, a = some ⟨b, off, none⟩ → b < w.heap.size + 1 := fun b off e => by
    rcases h.2.2.1 with h0 | ⟨b', off', e', hlt, _⟩
    · omega
    · rw [e'] at e; cases e; omega
  have hel0 : ∀ i, i < n → ∀ b off, ad i = some ⟨b, off, none⟩ → b < w.heap.size + 1 := fun i hi b off e => by
    rcases (h.2.2.2 i hi).2.2 with h0 | ⟨b', off', e', hlt, _⟩
    · exact absurd h0 ((lstOk_all hl).2 i hi).1
    · rw [e'] at e; cases e; omega
  have HLO := Hid.mk' hlo0
  have HEL := Hid.mk' hel0
  obtain ⟨o1, o2⟩ := ho
  have e1 : ((n : Int) == 0) = false := beq_eq_false_iff_ne.2 (by omega)
  have e2 : ¬ (3 : Int) < (n : Int) := by omega
  have e3 : ¬ (fu : Int) < 0 := by omega
  have e4 : ¬ (60 : Int) < (fu : Int) := by omega
  have n12 := (lstOk_all hl).1
  clear h hG bx hlo0 hel0
  go_enter Tryz.func55, Tryz.ntmps55
  go_wp2_with fail
  refine (redLeadsI _ _ _ _ _ _ _ _ _ HH.out o1 o2 hl).mono ?_
  rintro r w2 ⟨v, rfl, hb2, _⟩
  have hb02 := bel_next HBX.out hb2
  have HB2 := Hid.mk' hb02
  have HX2 := Hid.mk' (HX0.out.below hb2)
  have HH2 := Hid.mk' (HH.out.below hb2)
  have hs2 : w.heap.size + 1 ≤ w2.heap.size := HX2.out.lt
  have HM3 := Hid.mk' (mw_new w2 (w.heap.size + 1) n o fu L hs2)
  have bm := bel_one w2 (.cells #[.slice none 0 0, .slice none 0 0, .bool false, .int .i64 o, .slice none 0 0, .pointer none, .pointer none, .int .i64 (fu : Int)] 120)
  have HBM := Hid.mk' bm
  have HAG := Hid.mk' (addGivenI (w2.alloc (.cells #[.slice none 0 0, .slice none 0 0, .bool false, .int .i64 o, .slice none 0 0, .pointer none, .pointer none, .int .i64 (fu : Int)] 120)) w2.heap.size o fu ⟨o1, o2⟩ a n cap ad cp L (HH2.out.below bm) hl hn (w.heap.size + 1) HLO.out HEL.out _ _ _ _ _ _ HM3.out (by simp; omega))
  clear hb2 hb02 bm HX0 HH
  go_wp2_with fail
  refine HAG.out.mono ?_
  rintro r w4 ⟨rfl, tvL4, tvP4, lv4, LS4, PS4, Bq4, hM4, hF4⟩
  have HF4 : Hid (Fr (fun k => w.heap.size + 1 ≤ k) w2 w4) := (Fr.of_below HBM.out).trans hF4
  have HM4 := Hid.mk' hM4
  have HALL := Hid.mk' (lookAtAllI w4 (w.heap.size + 1) w2.heap.size n o fu hf (grb0 n L) _ _ _ _ _ _ HM4.out (grb0_ok ⟨o1, o2⟩ hl) (by omega) HG.out)
  clear hM4 hF4 HAG HM3
  obtain ⟨BG, d, hGd⟩ : ∃ BG d, G = (BG, d) := ⟨_, _, rfl⟩
  subst hGd
  have key : Calls Tryz.prog 78 #[.func (.func 99) #[.pointer (some ⟨w2.heap.size, 0, none⟩)] #[]] w4 fun r w' => r = .returned (.bool d) ∧ ∃ w1, (Fr (fun k => w.heap.size + 1 ≤ k) w4 w1 ∧ ∃ f a tvL tvP lv LS PS Bq, MW w1 (w.heap.size + 1) w2.heap.size n o f BG a tvL tvP lv LS PS Bq) ∧ w' = w1.alloc (.cells #[] 149) := by
    cases d
    · exact redEnds_noM 99 _ w4 (fun w1 => Fr (fun k => w.heap.size + 1 ≤ k) w4 w1 ∧ ∃ f a tvL tvP lv LS PS Bq, MW w1 (w.heap.size + 1) w2.heap.size n o f BG a tvL tvP lv LS PS Bq) (enters_of Tryz.func99 (by kernel_rfl) rfl) (HALL.out.mono fun r u ⟨k1, k2, k3⟩ => by
        rcases k2 with ⟨q, _⟩ | ⟨_, q⟩
        · cases q
        · exact ⟨q, k1, k3⟩)
    · exact redEnds_yesM 99 _ w4 (fun w1 => Fr (fun k => w.heap.size + 1 ≤ k) w4 w1 ∧ ∃ f a tvL tvP lv LS PS Bq, MW w1 (w.heap.size + 1) w2.heap.size n o f BG a tvL tvP lv LS PS Bq) (enters_of Tryz.func99 (by kernel_rfl) rfl) (HALL.out.mono fun r u ⟨k1, k2, k3⟩ => by
        rcases k2 with ⟨_, q⟩ | ⟨q, _⟩
        · exact ⟨q, k1, k3⟩
        · cases q)
  have HKEY := Hid.mk' key
  clear key HALL
  go_wp2_with fail
  refine HKEY.out.mono ?_
  rintro r w6 ⟨rfl, w5, ⟨hF5, f5, a5, tvL, tvP, lv, LS, PS, Bq, hM5⟩, rfl⟩
  have b6 := bel_one w5 (.cells #[] 149)
  have hM6 := hM5.below b6
  have hF6 : Fr (fun k => w.heap.size + 1 ≤ k) w2 (w5.alloc (.cells #[] 149)) := (HF4.out.trans hF5).next b6
  generalize w5.alloc (.cells #[] 149) = w6 at hM6 hF6 ⊢
  obtain ⟨la, lc, lad, lcp, rfl, _⟩ := hM6.bk.readL (by have := hM6.m12; omega)
  obtain ⟨pa, pc, pA, pC, pAD, pCP, rfl, _⟩ := hM6.bk.readP (by have := hM6.m12; omega)
  have HM6 := Hid.mk' hM6
  have HF6 := Hid.mk' hF6
  obtain ⟨⟨x0, x1, x2⟩, xz⟩ := HX2.out.fr hF6 (by omega)
  obtain ⟨c0, c1, c2, c3, c7, cz⟩ := hM6.bx
  have hne1 : w2.heap.size ≠ w.heap.size := by omega
  have hne2 : w.heap.size ≠ w2.heap.size := by omega
  clear hM5 hM6 hF5 hF6 b6 HKEY c3 c7
  go_wp2
  refine bodyPost_ret (v := .agg #[.slice la BG.m lc, .slice pa BG.m pc, .bool d]) (by simp [results, Tryz.results55, go_sem, *]) rfl ?_
  have hFw : Below w.heap.size w w6 := Fr.below HB2.out HF6.out (fun k q => by omega) (Nat.le_refl _)
  have hY : Fr (QY (w.heap.size + 1) w2.heap.size lv Bq a5 (tri BG.m)) w6 ((((w6.setCell ⟨w2.heap.size, 2, none⟩ (.bool d)).setCell ⟨w.heap.size, 0, none⟩ (.slice la BG.m lc)).setCell ⟨w.heap.size, 1, none⟩ (.slice pa BG.m pc)).setCell ⟨w.heap.size, 2, none⟩ (.bool d)) := ((((Fr.refl _ w6).set (fun _ => .inr (.inl rfl))).set (fun _ => .inl (by omega))).set (fun _ => .inl (by omega))).set (fun _ => .inl (by omega))
  exact ⟨_, _, LS, PS, rfl, bel_s3 (hFw.setCell (show w.heap.size ≤ w2.heap.size by omega) _) (Nat.le_refl _) _ _ _, (((HM6.out.bk.fr hY (fun b q => q)).yet (fun b _ q => .inl (Nat.lt_succ_of_lt q)))).low (Nat.le_succ _)⟩
theorem grbMakeI (w : World) (o : Int) (a : Option Addr) (n cap : Nat) (ad : Nat → Option Addr) (cp : Nat → Nat) (L : Nat → List T) (h : RdS w a n cap ad (lN L) cp (fN L)) (fuel : Int) :
    Calls Tryz.prog 55 #[.int .i64 o, .slice a n cap, .int .i64 fuel] w (MakeP w n (grbMake o n L fuel)) := by
  by_cases hc : (1 ≤ o ∧ o ≤ 3) ∧ lstOk n (lN L) (fN L) = true ∧ (1 ≤ n ∧ n ≤ 3) ∧ (0 ≤ fuel ∧ fuel ≤ 60)
  · obtain ⟨fu, rfl⟩ : ∃ fu : Nat, fuel = (fu : Int) := ⟨fuel.toNat, by omega⟩
    exact grbMakeI_ok w o a n cap ad cp L h fu hc.1 hc.2.1 hc.2.2.1 (by omega) (by unfold grbMake; rw [if_pos hc, Int.toNat_natCast])
  · rw [grbMake_bad hc]
    exact grbMakeI_bad w o a n cap ad cp L h fuel hc
end Go.Proofs.YtdidlcjhodejjaaGreat
namespace Go.Proofs.YtdidlcjhodejjaaGreat
open Go.RowKit Go.Deep Go.Joins
set_option linter.unusedVariables false

abbrev Lof (l : List (List T)) : Nat → List T := fun i => l.getD i []
/-- all but one. -/
def othL {α : Type} (l : List α) (i : Nat) : List α := l.take i ++ l.drop (i + 1)
/-- one in another's place. -/
def putL {α : Type} (l : List α) (i : Nat) (y : α) : List α := l.take i ++ y :: l.drop (i + 1)
/-- no other greatest monomial divides this one; of some that are the same the first one is needed. -/
def need (k : Nat → M) (n i : Nat) : Bool := decide (∀ j, j < n → ¬ (j ≠ i ∧ M.dvd (k j) (k i) = true ∧ (meqB (k j) (k i) = false ∨ j < i)))
def selN {α : Type} (nd : Nat → Bool) (f : Nat → α) : Nat → List α
  | 0 => []
  | j + 1 => if nd j = true then selN nd f j ++ [f j] else selN nd f j
def insN {α : Type} (lt : α → α → Bool) (x : α) : List α → List α
  | [] => [x]
  | y :: r => if lt x y = true then x :: y :: r else y :: insN lt x r
def srtN {α : Type} (lt : α → α → Bool) : List α → List α → List α
  | acc, [] => acc
  | acc, x :: r => srtN lt (insN lt x acc) r
def ltO (o : Int) (A B : List T) : Bool := decide (rkW o (ldL o A).m < rkW o (ldL o B).m)
theorem ord_lt {o : Int} {a b : M} (ho : 1 ≤ o ∧ o ≤ 3) (ha : a.ok = true) (hb : b.ok = true) : M.ord o a b < 0 ↔ rkW o a < rkW o b := by
  rw [rkW_ord ho ha hb]
  unfold c3
  split
  · simp_all
  · split <;> simp_all
theorem ldL_ok {o : Int} {A : List T} (h : okL A = true ∧ A.length ≠ 0) : (ldL o A).m.ok = true := (ldL_good (okL_falls h.1).2 h.2).1
def monL (o : Int) (R : List T) : List T := scV (fInv (ldL o R).c) R
/-- what is left of one by others, with 1 times its greatest monomial. -/
def lftL (o : Int) (p : List T) (oth : List (List T)) : Option (List T) :=
  match redAll o p oth.length (lN (Lof oth)) (fN (Lof oth)) with
  | some S => if S.r.length = 0 then none else some (monL o S.r)
  | none => none
def lstRun (o : Int) : Nat → Nat → List (List T) → Option (List (List T))
  | 0, _, l => some l
  | u + 1, i, l => match lftL o (Lof l i) (othL l i) with
    | none => none
    | some Y => lstRun o u (i + 1) (putL l i Y)
def leastL (o : Int) (n : Nat) (L : Nat → List T) : List (List T) := srtN (ltO o) [] (selN (need (fun i => (ldL o (L i)).m) n) L n)
/-- what GrbLeast answers; none, if it is too much. -/
def grbLeast (o : Int) (n : Nat) (L : Nat → List T) : Option (List (List T)) :=
  if (1 ≤ o ∧ o ≤ 3) ∧ lstOk n (lN L) (fN L) = true then lstRun o (leastL o n L).length 0 (leastL o n L) else none
theorem lstRun_no {o : Int} {u i : Nat} {l : List (List T)} (h : lftL o (Lof l i) (othL l i) = none) : lstRun o (u + 1) i l = none := by
  show (match lftL o (Lof l i) (othL l i) with | none => none | some Y => lstRun o u (i + 1) (putL l i Y)) = none
  rw [h]
theorem lstRun_yes {o : Int} {u i : Nat} {l : List (List T)} {Y : List T} (h : lftL o (Lof l i) (othL l i) = some Y) : lstRun o (u + 1) i l = lstRun o u (i + 1) (putL l i Y) := by
  show (match lftL o (Lof l i) (othL l i) with | none => none | some Y => lstRun o u (i + 1) (putL l i Y)) = _
  rw [h]
theorem selN_map {α β : Type} (g : α → β) (nd : Nat → Bool) (f : Nat → α) : ∀ n, (selN nd f n).map g = selN nd (fun i => g (f i)) n
  | 0 => rfl
  | n + 1 => by
    unfold selN
    split
    · rw [List.map_append, selN_map g nd f n]; rfl
    · exact selN_map g nd f n
theorem selN_mem {α : Type} {nd : Nat → Bool} {f : Nat → α} {x : α} : ∀ {n}, x ∈ selN nd f n → ∃ i, i < n ∧ nd i = true ∧ x = f i
  | 0, h => by cases h
  | n + 1, h => by
    unfold selN at h
    split at h
    · rename_i hn
      rcases List.mem_append.1 h with h | h
      · obtain ⟨i, h1, h2, h3⟩ := selN_mem h; exact ⟨i, by omega, h2, h3⟩
      · exact ⟨n, by omega, hn, by simpa using h⟩
    · obtain ⟨i, h1, h2, h3⟩ := selN_mem h; exact ⟨i, by omega, h2, h3⟩
theorem selN_len {α : Type} (nd : Nat → Bool) (f : Nat → α) : ∀ n, (selN nd f n).length ≤ n
  | 0 => Nat.le_refl _
  | n + 1 => by
    have := selN_len nd f n
    unfold selN
    split
    · simp; omega
    · omega
theorem insN_map {α β : Type} (g : α → β) (lt : β → β → Bool) (x : α) : ∀ l : List α, (insN (fun a b => lt (g a) (g b)) x l).map g = insN lt (g x) (l.map g)
  | [] => rfl
  | y :: r => by
    show (if lt (g x) (g y) = true then x :: y :: r else y :: insN (fun a b => lt (g a) (g b)) x r).map g = if lt (g x) (g y) = true then g x :: g y :: r.map g else g y :: insN lt (g x) (r.map g)
    split
    · rfl
    · rw [List.map_cons, insN_map g lt x r]
theorem srtN_map {α β : Type} (g : α → β) (lt : β → β → Bool) : ∀ (l acc : List α), (srtN (fun a b => lt (g a) (g b)) acc l).map g = srtN lt (acc.map g) (l.map g)
  | [], acc => rfl
  | x :: r, acc => by
    show (srtN (fun a b => lt (g a) (g b)) (insN (fun a b => lt (g a) (g b)) x acc) r).map g = srtN lt (insN lt (g x) (acc.map g)) (r.map g)
    rw [srtN_map g lt r, insN_map]
theorem insN_mem {α : Type} {lt : α → α → Bool} {x z : α} : ∀ {l : List α}, z ∈ insN lt x l ↔ z = x ∨ z ∈ l
  | [] => by simp [insN]
  | y :: r => by
    unfold insN
    split
    · simp
    · simp only [List.mem_cons, insN_mem (l := r)]
      constructor
      · rintro (h | h | h)
        · exact .inr (.inl h)
        · exact .inl h
        · exact .inr (.inr h)
      · rintro (h | h | h)
        · exact .inr (.inl h)
        · exact .inl h
        · exact .inr (.inr h)
theorem insN_len {α : Type} (lt : α → α → Bool) (x : α) : ∀ l : List α, (insN lt x l).length = l.length + 1
  | [] => rfl
  | y :: r => by
    unfold insN
    split
    · rfl
    · show (insN lt x r).length + 1 = _; rw [insN_len lt x r]; rfl
theorem srtN_mem {α : Type} {lt : α → α → Bool} {z : α} : ∀ {l acc : List α}, z ∈ srtN lt acc l ↔ z ∈ acc ∨ z ∈ l
  | [], acc => by simp [srtN]
  | x :: r, acc => by
    show z ∈ srtN lt (insN lt x acc) r ↔ _
    rw [srtN_mem (l := r), insN_mem]
    simp only [List.mem_cons]
    constructor
    · rintro ((h | h) | h)
      · exact .inr (.inl h)
      · exact .inl h
      · exact .inr (.inr h)
    · rintro (h | h | h)
      · exact .inl (.inr h)
      · exact .inl (.inl h)
      · exact .inr h
theorem srtN_len {α : Type} (lt : α → α → Bool) : ∀ l acc : List α, (srtN lt acc l).length = acc.length + l.length
  | [], acc => rfl
  | x :: r, acc => by
    show (srtN lt (insN lt x acc) r).length = _
    rw [srtN_len lt r, insN_len]
    show acc.length + 1 + r.length = acc.length + (r.length + 1)
    omega
theorem srtN_snoc {α : Type} (lt : α → α → Bool) (x : α) : ∀ l acc : List α, srtN lt acc (l ++ [x]) = insN lt x (srtN lt acc l)
  | [], acc => rfl
  | y :: r, acc => srtN_snoc lt x r (insN lt y acc)
theorem putL_len {α : Type} {l : List α} {i : Nat} {y : α} (h : i < l.length) : (putL l i y).length = l.length := by
  unfold putL
  rw [List.length_append, List.length_take, List.length_cons, List.length_drop]
  omega
theorem othL_len {α : Type} {l : List α} {i : Nat} (h : i < l.length) : (othL l i).length = l.length - 1 := by
  unfold othL
  rw [List.length_append, List.length_take, List.length_drop]
  omega
theorem putL_map {α β : Type} (g : α → β) (l : List α) (i : Nat) (y : α) : (putL l i y).map g = putL (l.map g) i (g y) := by
  unfold putL
  rw [List.map_append, List.map_cons, List.map_take, List.map_drop]
theorem othL_map {α β : Type} (g : α → β) (l : List α) (i : Nat) : (othL l i).map g = othL (l.map g) i := by
  unfold othL
  rw [List.map_append, List.map_take, List.map_drop]
theorem othL_mem {α : Type} {l : List α} {i : Nat} {x : α} (h : x ∈ othL l i) : x ∈ l := by
  rcases List.mem_append.1 h with h | h
  · exact List.mem_of_mem_take h
  · exact List.mem_of_mem_drop h
theorem putL_mem {α : Type} {l : List α} {i : Nat} {x y : α} (h : x ∈ putL l i y) : x = y ∨ x ∈ l := by
  rcases List.mem_append.1 h with h | h
  · exact .inr (List.mem_of_mem_take h)
  · rcases List.mem_cons.1 h with h | h
    · exact .inl h
    · exact .inr (List.mem_of_mem_drop h)
theorem putL_set {α : Type} {l : List α} {i : Nat} {y : α} (h : i < l.length) : putL l i y = l.set i y := by
  unfold putL
  rw [List.set_eq_take_append_cons_drop, if_pos h]
/-- operators that are ok, none of them 0. -/
def okA (l : List (List T)) : Prop := ∀ p ∈ l, okL p = true ∧ p.length ≠ 0
theorem lof_mem {l : List (List T)} {i : Nat} (h : i < l.length) : Lof l i ∈ l := by
  show l.getD i [] ∈ l
  rw [List.getD_eq_getElem?_getD, List.getElem?_eq_getElem h]
  exact List.getElem_mem h
theorem okA_lst {l : List (List T)} (h : okA l) (h12 : l.length ≤ 12) : lstOk l.length (lN (Lof l)) (fN (Lof l)) = true :=
  decide_eq_true ⟨h12, fun i hi => ⟨(h _ (lof_mem hi)).2, (h _ (lof_mem hi)).1⟩⟩
theorem lst_okA {n : Nat} {L : Nat → List T} (h : lstOk n (lN L) (fN L) = true) {nd : Nat → Bool} : okA (selN nd L n) := fun p hp => by
  obtain ⟨i, hi, _, rfl⟩ := selN_mem hp
  exact ⟨((lstOk_all h).2 i hi).2, ((lstOk_all h).2 i hi).1⟩
theorem leastL_ok {o : Int} {n : Nat} {L : Nat → List T} (h : lstOk n (lN L) (fN L) = true) : okA (leastL o n L) ∧ (leastL o n L).length ≤ 12 := by
  refine ⟨fun p hp => ?_, ?_⟩
  · rcases srtN_mem.1 hp with h1 | h1
    · cases h1
    · exact lst_okA h p h1
  · unfold leastL
    rw [srtN_len]
    have h1 := selN_len (need (fun i => (ldL o (L i)).m) n) L n
    have h2 := (lstOk_all h).1
    simp only [List.length_nil]
    omega
theorem monL_ok {o : Int} {R : List T} (h : okL R = true) (h0 : R.length ≠ 0) : okL (monL o R) = true ∧ (monL o R).length = R.length ∧ monL o R = scL (fInv (ldL o R).c) R := by
  obtain ⟨_, c1, c2⟩ := ldL_good (o := o) (okL_falls h).2 h0
  have p1 := fInv_pos c1 c2
  have p2 := (fInv_bd (ldL o R).c).2
  have e : monL o R = scL (fInv (ldL o R).c) R := scV_is p1 p2 h
  refine ⟨?_, ?_, e⟩
  · rw [e]; exact okL_of (by rw [scL_len]; exact (okL_falls h).1) (scL_falls p1 p2 (okL_falls h).2)
  · rw [e, scL_len]
theorem redAll_rest {o : Int} {p : List T} {n : Nat} {ln : Nat → Nat} {f : Nat → Nat → T} {S : Dv} (h : redAll o p n ln f = some S) : okL S.r = true ∧ S.r.length ≤ 300 := by
  unfold redAll at h
  split at h
  · rename_i hh
    obtain ⟨h1, _⟩ := dvRun_ok hh.2.2 (DvOk.start hh.2.1) h
    have := h1.r.2
    exact ⟨okL_of (by omega) h1.r.1, by omega⟩
  · cases h
theorem lftL_ok {o : Int} {p : List T} {oth : List (List T)} {Y : List T} (h : lftL o p oth = some Y) : okL Y = true ∧ Y.length ≠ 0 := by
  unfold lftL at h
  split at h
  · rename_i S hS
    split at h
    · cases h
    · rename_i h0
      cases h
      have h1 := redAll_rest hS
      have h2 := monL_ok (o := o) h1.1 h0
      exact ⟨h2.1, by rw [h2.2.1]; exact h0⟩
  · cases h
theorem putL_ok {l : List (List T)} {i : Nat} {Y : List T} (h : okA l) (hY : okL Y = true ∧ Y.length ≠ 0) : okA (putL l i Y) := fun p hp => by
  rcases putL_mem hp with rfl | h1
  · exact hY
  · exact h p h1
theorem othL_ok {l : List (List T)} {i : Nat} (h : okA l) : okA (othL l i) := fun p hp => h p (othL_mem hp)
end Go.Proofs.YtdidlcjhodejjaaGreat
