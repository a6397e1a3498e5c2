/-
  A basis is made: the program's GrbMake.
  Whether two bases are the same (laws.heBase): two that hold the same.
  Nothing is left of the pairs of a basis (laws.heBasis).
-/
import Derived.Test.YtmlaedpamobmhaaGreatGbx
import Derived.Test.YtmlaedpamobmhaaGreatGbs
import Derived.Test.YtmlaedpamobmhaaGreatGbo
import Derived.Test.YtmlaedpamobmhaaGreatGbu
import Derived.Test.YtmlaedpamobmhaaGreatGba
import Derived.Test.YtmlaedpamobmhaaGreatGay
import Derived.Test.YtmlaedpamobmhaaGreatGbm
namespace Go.Proofs.YtmlaedpamobmhaaGreat
open Go.RowKit Go.Deep Go.Joins
set_option linter.unusedVariables false

set_option maxRecDepth 100000 in
set_option maxHeartbeats 2000000 in
theorem redEnds_yesM (g : Nat) (bd : Array Value) (w : World) (Q : World → Prop) (eg : ∀ args w, (callFunc g args).run Tryz.prog w = .ok (.enter g args) w) (h : Calls Tryz.prog g bd w fun r w' => r = .returned (.tuple #[]) ∧ Q w') :
    Calls Tryz.prog 41 #[.func (.func g) bd #[]] w fun r w' => r = .returned (.bool true) ∧ ∃ w1, Q w1 ∧ w' = w1.alloc (.cells #[] 114) := by
  have HC := Hid.mk' h
  clear h
  go_enter_defers Tryz.func41, Tryz.ntmps41
  go_wp2_with fail
  refine HC.out.mono ?_
  rintro r w1 ⟨rfl, hq⟩
  have HQ := Hid.mk' hq
  clear hq HC
  go_wp2
  refine leaves_cons (f := 83) (args := #[]) (by simp) (by simp [go_sem]) ?_
  refine (ends1_idle _).mono ?_
  rintro e u' w'' ⟨rfl, rfl, rfl⟩
  simp [Leaves, settle, results, Tryz.results41, go_sem]
  exact ⟨w1, HQ.out, rfl⟩
set_option maxRecDepth 100000 in
set_option maxHeartbeats 2000000 in
theorem redEnds_noM (g : Nat) (bd : Array Value) (w : World) (Q : World → Prop) (eg : ∀ args w, (callFunc g args).run Tryz.prog w = .ok (.enter g args) w) (h : Calls Tryz.prog g bd w fun r w' => r = .panicked [{ v := tooMuch, recovered := false }] ∧ Q w') :
    Calls Tryz.prog 41 #[.func (.func g) bd #[]] w fun r w' => r = .returned (.bool false) ∧ ∃ w1, Q w1 ∧ w' = w1.alloc (.cells #[] 114) := by
  have HC := Hid.mk' h
  clear h
  go_enter_defers Tryz.func41, Tryz.ntmps41
  go_wp2_with fail
  refine HC.out.mono ?_
  rintro r w1 ⟨rfl, hq⟩
  have HQ := Hid.mk' hq
  clear hq HC
  go_wp2
  refine leaves_cons (f := 83) (args := #[]) (by simp) (by simp [go_sem]) ?_
  refine (ends1_caught _).mono ?_
  rintro e u' w'' ⟨rfl, rfl, rfl⟩
  simp [Leaves, settle, results, Tryz.results41, go_sem]
  exact ⟨w1, HQ.out, rfl⟩
theorem own_low {w : World} {lo lo' : Nat} {e : TypeId} {size : Nat} {v : Value} {n : Nat} {xs : List Value} (h : w.ownsRow lo e size v n xs) (hl : lo' ≤ lo) : w.ownsRow lo' e size v n xs := ⟨h.1, h.2.imp id (fun ⟨g, cap, cur, e1, e2, r⟩ => ⟨g, cap, cur, e1, Nat.le_trans hl e2, r⟩)⟩
theorem BsW.low {Y : Nat → Prop} {w : World} {lo lo' : Nat} {tvL tvP : Value} {g nL : Nat} {L : Nat → List T} {nP : Nat} {Q : Nat → Nat → List T} {LS PS : List Value} (h : BsW Y w lo tvL tvP g nL L nP Q LS PS) (hl : lo' ≤ lo) : BsW Y w lo' tvL tvP g nL L nP Q LS PS := ⟨own_low h.rL hl, own_low h.rP hl, h.eL, h.eP, h.nL, h.nP⟩
/-- the box of the making, new. -/
theorem mw_new (w : World) (lo n : Nat) (o : Int) (f : Nat) (L : Nat → List T) (hlo : lo ≤ w.heap.size) : MW (w.alloc (.cells #[.slice none 0 0, .slice none 0 0, .bool false, .int .i64 o, .slice none 0 0, .pointer none, .pointer none, .int .i64 (f : Int)] 71)) lo w.heap.size n o f ⟨0, L, fun k => oneP k⟩ 0 (.slice none 0 0) (.slice none 0 0) (.slice none 0 0) [] [] (fun _ => 0) := by
  have c : ∀ i, (w.alloc (.cells #[.slice none 0 0, .slice none 0 0, .bool false, .int .i64 o, .slice none 0 0, .pointer none, .pointer none, .int .i64 (f : Int)] 71)).cell? ⟨w.heap.size, i, none⟩ = #[Value.slice none 0 0, .slice none 0 0, .bool false, .int .i64 o, .slice none 0 0, .pointer none, .pointer none, .int .i64 (f : Int)][i]? := fun i => World.cell?_alloc_at _ _ _ _ rfl
  have z : ∀ j, (w.alloc (.cells #[.slice none 0 0, .slice none 0 0, .bool false, .int .i64 o, .slice none 0 0, .pointer none, .pointer none, .int .i64 (f : Int)] 71)).frozen? ⟨w.heap.size, j, none⟩ = false := fun j => by rw [World.frozen?_alloc_at _ _ _ _ rfl]
  exact ⟨⟨c 0, c 1, c 2, c 3, c 7, z⟩, ⟨c 4, c 5, ⟨_, c 6, fun q => absurd q (Nat.lt_irrefl _)⟩, ⟨z 4, z 5, z 6⟩, ⟨rfl, .inl ⟨rfl, rfl⟩⟩, fun g hg => by simp [Value.ownBlock] at hg, fun j j1 j2 => absurd j2 (Nat.not_lt_zero _), fun j j1 j2 => absurd j2 (Nat.not_lt_zero _), fun i j _ _ j2 => absurd j2 (Nat.not_lt_zero _), hlo⟩, BsW.none _ _ _ _ _ _, Nat.le_refl _, Nat.zero_le _, hlo⟩
set_option maxRecDepth 100000 in
set_option maxHeartbeats 8000000 in
theorem grbMakeI_bad (w : World) (o : Int) (a : Option Addr) (n cap : Nat) (ad : Nat → Option Addr) (cp : Nat → Nat) (L : Nat → List T) (h : RdS w a n cap ad (lN L) cp (fN L)) (fuel : Int) (hbad : ¬ ((1 ≤ o ∧ o ≤ 3) ∧ lstOk n (lN L) (fN L) = true ∧ (1 ≤ n ∧ n ≤ 3) ∧ (0 ≤ fuel ∧ fuel ≤ 60))) :
    Calls Tryz.prog 10 #[.int .i64 o, .slice a n cap, .int .i64 fuel] w (MakeP w n (⟨0, fun _ => [], fun _ _ => []⟩, false)) := by
  have q1 : (n : Int) ≤ 140737488351232 := by have := h.2.1; omega
  have HH := Hid.mk' (h.below (bel_one w (.cells #[.slice none 0 0, .slice none 0 0, .bool false] 28)))
  have HX0 := Hid.mk' (Own3.box w 28 (.slice none 0 0) (.slice none 0 0) (.bool false))
  clear h
  by_cases ho : 1 ≤ o ∧ o ≤ 3
  rotate_left
  · have ho' : o < 1 ∨ 3 < o := by omega
    clear hbad
    go_enter Tryz.func10, Tryz.ntmps10
    go_wp2_with fail
    refine (redLeadsI_out _ _ _ _ _ ho').mono ?_
    rintro r w2 ⟨rfl, hb2⟩
    have HB2 := Hid.mk' (bel_next (bel_one w (.cells #[.slice none 0 0, .slice none 0 0, .bool false] 28)) hb2)
    obtain ⟨⟨x0, x1, x2⟩, xz⟩ := HX0.out.below hb2
    clear hb2
    go_wp2
    refine bodyPost_ret (v := .agg #[.slice none 0 0, .slice none 0 0, .bool false]) (by simp [results, Tryz.results10, go_sem, *]) rfl ?_
    exact ⟨_, _, [], [], rfl, bel_s3 HB2.out (Nat.le_refl _) _ _ _, BsW.none _ _ _ _ _ _⟩
  obtain ⟨o1, o2⟩ := ho
  cases hl : lstOk n (lN L) (fN L)
  · clear hbad
    go_enter Tryz.func10, Tryz.ntmps10
    go_wp2_with fail
    refine (redLeadsI_no _ _ _ _ _ _ _ _ _ HH.out o1 o2 hl).mono ?_
    rintro r w2 ⟨rfl, hb2⟩
    have HB2 := Hid.mk' (bel_next (bel_one w (.cells #[.slice none 0 0, .slice none 0 0, .bool false] 28)) hb2)
    obtain ⟨⟨x0, x1, x2⟩, xz⟩ := HX0.out.below hb2
    clear hb2
    go_wp2
    refine bodyPost_ret (v := .agg #[.slice none 0 0, .slice none 0 0, .bool false]) (by simp [results, Tryz.results10, go_sem, *]) rfl ?_
    exact ⟨_, _, [], [], rfl, bel_s3 HB2.out (Nat.le_refl _) _ _ _, BsW.none _ _ _ _ _ _⟩
  have hrest : n = 0 ∨ (n ≠ 0 ∧ 3 < n) ∨ ((n ≠ 0 ∧ n ≤ 3) ∧ fuel < 0) ∨ ((n ≠ 0 ∧ n ≤ 3) ∧ 0 ≤ fuel ∧ 60 < fuel) := by
    by_cases h1 : n = 0
    · exact .inl h1
    · by_cases h2 : 3 < n
      · exact .inr (.inl ⟨h1, h2⟩)
      · by_cases h3 : fuel < 0
        · exact .inr (.inr (.inl ⟨⟨h1, by omega⟩, h3⟩))
        · by_cases h4 : 60 < fuel
          · exact .inr (.inr (.inr ⟨⟨h1, by omega⟩, by omega, h4⟩))
          · exact absurd ⟨⟨o1, o2⟩, hl, ⟨by omega, by omega⟩, by omega, by omega⟩ hbad
  have n12 := (lstOk_all hl).1
  clear hbad
  go_enter Tryz.func10, Tryz.ntmps10
  go_wp2_with fail
  refine (redLeadsI _ _ _ _ _ _ _ _ _ HH.out o1 o2 hl).mono ?_
  rintro r w2 ⟨v, rfl, hb2, _⟩
  have HB2 := Hid.mk' (bel_next (bel_one w (.cells #[.slice none 0 0, .slice none 0 0, .bool false] 28)) hb2)
  obtain ⟨⟨x0, x1, x2⟩, xz⟩ := HX0.out.below hb2
  clear hb2
  rcases hrest with h1 | ⟨h1, h2⟩ | ⟨⟨h1, h2⟩, h3⟩ | ⟨⟨h1, h2⟩, h3, h4⟩
  · have e1 : ((n : Int) == 0) = true := by rw [h1]; rfl
    clear h1
    go_wp2
    refine bodyPost_ret (v := .agg #[.slice none 0 0, .slice none 0 0, .bool false]) (by simp [results, Tryz.results10, go_sem, *]) rfl ?_
    exact ⟨_, _, [], [], rfl, bel_s3 HB2.out (Nat.le_refl _) _ _ _, BsW.none _ _ _ _ _ _⟩
  · have e1 : ((n : Int) == 0) = false := beq_eq_false_iff_ne.2 (by omega)
    have e2 : (3 : Int) < (n : Int) := by omega
    clear h1 h2
    go_wp2
    refine bodyPost_ret (v := .agg #[.slice none 0 0, .slice none 0 0, .bool false]) (by simp [results, Tryz.results10, go_sem, *]) rfl ?_
    exact ⟨_, _, [], [], rfl, bel_s3 HB2.out (Nat.le_refl _) _ _ _, BsW.none _ _ _ _ _ _⟩
  · have e1 : ((n : Int) == 0) = false := beq_eq_false_iff_ne.2 (by omega)
    have e2 : ¬ (3 : Int) < (n : Int) := by omega
    clear h1 h2
    go_wp2
    refine bodyPost_ret (v := .agg #[.slice none 0 0, .slice none 0 0, .bool false]) (by simp [results, Tryz.results10, go_sem, *]) rfl ?_
    exact ⟨_, _, [], [], rfl, bel_s3 HB2.out (Nat.le_refl _) _ _ _, BsW.none _ _ _ _ _ _⟩
  · have e1 : ((n : Int) == 0) = false := beq_eq_false_iff_ne.2 (by omega)
    have e2 : ¬ (3 : Int) < (n : Int) := by omega
    have e3 : ¬ fuel < 0 := by omega
    clear h1 h2
    go_wp2
    refine bodyPost_ret (v := .agg #[.slice none 0 0, .slice none 0 0, .bool false]) (by simp [results, Tryz.results10, go_sem, *]) rfl ?_
    exact ⟨_, _, [], [], rfl, bel_s3 HB2.out (Nat.le_refl _) _ _ _, BsW.none _ _ _ _ _ _⟩
set_option maxRecDepth 100000 in
set_option maxHeartbeats 8000000 in
theorem grbMakeI_ok (w : World) (o : Int) (a : Option Addr) (n cap : Nat) (ad : Nat → Option Addr) (cp : Nat → Nat) (L : Nat → List T) (h : RdS w a n cap ad (lN L) cp (fN L)) (fu : Nat) (ho : 1 ≤ o ∧ o ≤ 3) (hl : lstOk n (lN L) (fN L) = true) (hn : 1 ≤ n ∧ n ≤ 3) (hf : fu ≤ 60) {G : Bs × Bool} (hG : grun o n fu (grb0 n L) 0 = G) :
    Calls Tryz.prog 10 #[.int .i64 o, .slice a n cap, .int .i64 (fu : Int)] w (MakeP w n G) := by
  have bx := bel_one w (.cells #[.slice none 0 0, .slice none 0 0, .bool false] 28)
  have HH := Hid.mk' (h.below bx)
  have HX0 := Hid.mk' (Own3.box w 28 (.slice none 0 0) (.slice none 0 0) (.bool false))
  have HG := Hid.mk' hG
  have HL := Hid.mk' hl
  have HBX := Hid.mk' bx
  have hlo0 : ∀ b off, a = some ⟨b, off, none⟩ → b < w.heap.size + 1 := fun b off e => by
    rcases h.2.2.1 with h0 | ⟨b', off', e', hlt, _⟩
    · omega
    · rw [e'] at e; cases e; omega
  have hel0 : ∀ i, i < n → ∀ b off, ad i = some ⟨b, off, none⟩ → b < w.heap.size + 1 := fun i hi b off e => by
    rcases (h.2.2.2 i hi).2.2 with h0 | ⟨b', off', e', hlt, _⟩
    · exact absurd h0 ((lstOk_all hl).2 i hi).1
    · rw [e'] at e; cases e; omega
  have HLO := Hid.mk' hlo0
  have HEL := Hid.mk' hel0
  obtain ⟨o1, o2⟩ := ho
  have e1 : ((n : Int) == 0) = false := beq_eq_false_iff_ne.2 (by omega)
  have e2 : ¬ (3 : Int) < (n : Int) := by omega
  have e3 : ¬ (fu : Int) < 0 := by omega
  have e4 : ¬ (60 : Int) < (fu : Int) := by omega
  have n12 := (lstOk_all hl).1
  clear h hG bx hlo0 hel0
  go_enter Tryz.func10, Tryz.ntmps10
  go_wp2_with fail
  refine (redLeadsI _ _ _ _ _ _ _ _ _ HH.out o1 o2 hl).mono ?_
  rintro r w2 ⟨v, rfl, hb2, _⟩
  have hb02 := bel_next HBX.out hb2
  have HB2 := Hid.mk' hb02
  have HX2 := Hid.mk' (HX0.out.below hb2)
  have HH2 := Hid.mk' (HH.out.below hb2)
  have hs2 : w.heap.size + 1 ≤ w2.heap.size := HX2.out.lt
  have HM3 := Hid.mk' (mw_new w2 (w.heap.size + 1) n o fu L hs2)
  have bm := bel_one w2 (.cells #[.slice none 0 0, .slice none 0 0, .bool false, .int .i64 o, .slice none 0 0, .pointer none, .pointer none, .int .i64 (fu : Int)] 71)
  have HBM := Hid.mk' bm
  have HAG := Hid.mk' (addGivenI (w2.alloc (.cells #[.slice none 0 0, .slice none 0 0, .bool false, .int .i64 o, .slice none 0 0, .pointer none, .pointer none, .int .i64 (fu : Int)] 71)) w2.heap.size o fu ⟨o1, o2⟩ a n cap ad cp L (HH2.out.below bm) hl hn (w.heap.size + 1) HLO.out HEL.out _ _ _ _ _ _ HM3.out (by simp; omega))
  clear hb2 hb02 bm HX0 HH
  go_wp2_with fail
  refine HAG.out.mono ?_
  rintro r w4 ⟨rfl, tvL4, tvP4, lv4, LS4, PS4, Bq4, hM4, hF4⟩
  have HF4 : Hid (Fr (fun k => w.heap.size + 1 ≤ k) w2 w4) := (Fr.of_below HBM.out).trans hF4
  have HM4 := Hid.mk' hM4
  have HALL := Hid.mk' (lookAtAllI w4 (w.heap.size + 1) w2.heap.size n o fu hf (grb0 n L) _ _ _ _ _ _ HM4.out (grb0_ok ⟨o1, o2⟩ hl) (by omega) HG.out)
  clear hM4 hF4 HAG HM3
  obtain ⟨BG, d, hGd⟩ : ∃ BG d, G = (BG, d) := ⟨_, _, rfl⟩
  subst hGd
  have key : Calls Tryz.prog 41 #[.func (.func 42) #[.pointer (some ⟨w2.heap.size, 0, none⟩)] #[]] w4 fun r w' => r = .returned (.bool d) ∧ ∃ w1, (Fr (fun k => w.heap.size + 1 ≤ k) w4 w1 ∧ ∃ f a tvL tvP lv LS PS Bq, MW w1 (w.heap.size + 1) w2.heap.size n o f BG a tvL tvP lv LS PS Bq) ∧ w' = w1.alloc (.cells #[] 114) := by
    cases d
    · exact redEnds_noM 42 _ w4 (fun w1 => Fr (fun k => w.heap.size + 1 ≤ k) w4 w1 ∧ ∃ f a tvL tvP lv LS PS Bq, MW w1 (w.heap.size + 1) w2.heap.size n o f BG a tvL tvP lv LS PS Bq) (enters_of Tryz.func42 (by kernel_rfl) rfl) (HALL.out.mono fun r u ⟨k1, k2, k3⟩ => by
        rcases k2 with ⟨q, _⟩ | ⟨_, q⟩
        · cases q
        · exact ⟨q, k1, k3⟩)
    · exact redEnds_yesM 42 _ w4 (fun w1 => Fr (fun k => w.heap.size + 1 ≤ k) w4 w1 ∧ ∃ f a tvL tvP lv LS PS Bq, MW w1 (w.heap.size + 1) w2.heap.size n o f BG a tvL tvP lv LS PS Bq) (enters_of Tryz.func42 (by kernel_rfl) rfl) (HALL.out.mono fun r u ⟨k1, k2, k3⟩ => by
        rcases k2 with ⟨_, q⟩ | ⟨q, _⟩
        · exact ⟨q, k1, k3⟩
        · cases q)
  have HKEY := Hid.mk' key
  clear key HALL
  go_wp2_with fail
  refine HKEY.out.mono ?_
  rintro r w6 ⟨rfl, w5, ⟨hF5, f5, a5, tvL, tvP, lv, LS, PS, Bq, hM5⟩, rfl⟩
  have b6 := bel_one w5 (.cells #[] 114)
  have hM6 := hM5.below b6
  have hF6 : Fr (fun k => w.heap.size + 1 ≤ k) w2 (w5.alloc (.cells #[] 114)) := (HF4.out.trans hF5).next b6
  generalize w5.alloc (.cells #[] 114) = w6 at hM6 hF6 ⊢
  obtain ⟨la, lc, lad, lcp, rfl, _⟩ := hM6.bk.readL (by have := hM6.m12; omega)
  obtain ⟨pa, pc, pA, pC, pAD, pCP, rfl, _⟩ := hM6.bk.readP (by have := hM6.m12; omega)
  have HM6 := Hid.mk' hM6
  have HF6 := Hid.mk' hF6
  obtain ⟨⟨x0, x1, x2⟩, xz⟩ := HX2.out.fr hF6 (by omega)
  obtain ⟨c0, c1, c2, c3, c7, cz⟩ := hM6.bx
  have hne1 : w2.heap.size ≠ w.heap.size := by omega
  have hne2 : w.heap.size ≠ w2.heap.size := by omega
  clear hM5 hM6 hF5 hF6 b6 HKEY c3 c7
  go_wp2
  refine bodyPost_ret (v := .agg #[.slice la BG.m lc, .slice pa BG.m pc, .bool d]) (by simp [results, Tryz.results10, go_sem, *]) rfl ?_
  have hFw : Below w.heap.size w w6 := Fr.below HB2.out HF6.out (fun k q => by omega) (Nat.le_refl _)
  have hY : Fr (QY (w.heap.size + 1) w2.heap.size lv Bq a5 (tri BG.m)) w6 ((((w6.setCell ⟨w2.heap.size, 2, none⟩ (.bool d)).setCell ⟨w.heap.size, 0, none⟩ (.slice la BG.m lc)).setCell ⟨w.heap.size, 1, none⟩ (.slice pa BG.m pc)).setCell ⟨w.heap.size, 2, none⟩ (.bool d)) := ((((Fr.refl _ w6).set (fun _ => .inr (.inl rfl))).set (fun _ => .inl (by omega))).set (fun _ => .inl (by omega))).set (fun _ => .inl (by omega))
  exact ⟨_, _, LS, PS, rfl, bel_s3 (hFw.setCell (show w.heap.size ≤ w2.heap.size by omega) _) (Nat.le_refl _) _ _ _, (((HM6.out.bk.fr hY (fun b q => q)).yet (fun b _ q => .inl (Nat.lt_succ_of_lt q)))).low (Nat.le_succ _)⟩
theorem grbMakeI (w : World) (o : Int) (a : Option Addr) (n cap : Nat) (ad : Nat → Option Addr) (cp : Nat → Nat) (L : Nat → List T) (h : RdS w a n cap ad (lN L) cp (fN L)) (fuel : Int) :
    Calls Tryz.prog 10 #[.int .i64 o, .slice a n cap, .int .i64 fuel] w (MakeP w n (grbMake o n L fuel)) := by
  by_cases hc : (1 ≤ o ∧ o ≤ 3) ∧ lstOk n (lN L) (fN L) = true ∧ (1 ≤ n ∧ n ≤ 3) ∧ (0 ≤ fuel ∧ fuel ≤ 60)
  · obtain ⟨fu, rfl⟩ : ∃ fu : Nat, fuel = (fu : Int) := ⟨fuel.toNat, by omega⟩
    exact grbMakeI_ok w o a n cap ad cp L h fu hc.1 hc.2.1 hc.2.2.1 (by omega) (by unfold grbMake; rw [if_pos hc, Int.toNat_natCast])
  · rw [grbMake_bad hc]
    exact grbMakeI_bad w o a n cap ad cp L h fuel hc
end Go.Proofs.YtmlaedpamobmhaaGreat
namespace Go.Proofs.YtmlaedpamobmhaaGreat
open Go.RowKit Go.Deep Go.Joins
set_option linter.unusedVariables false

theorem heL_same {w : World} {a a' : Option Addr} {n cap cap' : Nat} {ad ad' : Nat → Option Addr} {cp cp' : Nat → Nat} {L : Nat → List T} (h : RdS w a n cap ad (lN L) cp (fN L)) (h' : RdS w a' n cap' ad' (lN L) cp' (fN L)) :
    Calls Tryz.prog 14 #[.slice a n cap, .slice a' n cap'] w (Val w (.bool true)) := by
  have := heListT w a a' n cap n cap' ad ad' cp cp' L L h h'
  rwa [lsq_same] at this
set_option maxRecDepth 100000 in
set_option maxHeartbeats 4000000 in
theorem heBaseT (w : World) (n m g : Nat) (d : Bool) (L : Nat → List T) (Q : Nat → Nat → List T) (a a' : Option Addr) (c c' : Nat) (ad ad' : Nat → Option Addr) (cp cp' : Nat → Nat) (h : RdS w a n c ad (lN L) cp (fN L)) (h' : RdS w a' n c' ad' (lN L) cp' (fN L)) (pa pa' : Option Addr) (pc pc' : Nat) (A A' : Nat → Option Addr) (C C' : Nat → Nat) (AD AD' : Nat → Nat → Option Addr) (CP CP' : Nat → Nat → Nat) (k : R3 w pa m pc g A C AD CP Q) (k' : R3 w pa' m pc' g A' C' AD' CP' Q) :
    Calls Tryz.prog 11 #[.agg #[.slice a n c, .slice pa m pc, .bool d], .agg #[.slice a' n c', .slice pa' m pc', .bool d]] w (Val w (.bool true)) := by
  have hm : (m : Int) ≤ 140737488351232 := by have := k.2.1; omega
  have b1 := bel_one w (.cells #[.slice a n c, .slice pa m pc, .bool d] 28)
  have b2 := bel_next b1 (bel_one _ (.cells #[.slice a' n c', .slice pa' m pc', .bool d] 28))
  have o1 := (Own3.box w 28 (.slice a n c) (.slice pa m pc) (.bool d)).below (bel_one _ (.cells #[.slice a' n c', .slice pa' m pc', .bool d] 28))
  have o2 := Own3.box (w.alloc (.cells #[.slice a n c, .slice pa m pc, .bool d] 28)) 28 (.slice a' n c') (.slice pa' m pc') (.bool d)
  have hdd : (d != d) = false := by simp
  have hmm : ((m : Int) != (m : Int)) = false := by simp
  have HH := Hid.mk' (h.below b2)
  have HH' := Hid.mk' (h'.below b2)
  have HK := Hid.mk' (k.below b2)
  have HK' := Hid.mk' (k'.below b2)
  have HB := Hid.mk' b2
  have HO1 := Hid.mk' o1
  have HO2 := Hid.mk' o2
  clear h h' k k' b1 b2 o1 o2
  unfold Val
  go_enter Tryz.func11, Tryz.ntmps11
  go_wp2_with fail
  refine (heL_same HH.out HH'.out).mono ?_
  rintro r w1 ⟨rfl, hb1⟩
  have HO1a := Hid.mk' (HO1.out.below hb1)
  have HO2a := Hid.mk' (HO2.out.below hb1)
  have HKa := Hid.mk' (HK.out.below hb1)
  have HKa' := Hid.mk' (HK'.out.below hb1)
  have HBa := Hid.mk' (bel_next HB.out hb1)
  clear hb1 HH HH' HK HK' HB HO1 HO2
  obtain ⟨B1, hB1⟩ : ∃ B1, w.heap.size = B1 := ⟨_, rfl⟩
  have e2 : (w.alloc (.cells #[.slice a n c, .slice pa m pc, .bool d] 28)).heap.size = B1 + 1 := by rw [← hB1]; simp
  rw [e2] at HO2a
  obtain ⟨⟨x0, x1, x2⟩, xz⟩ := HO1a.out
  obtain ⟨⟨y0, y1, y2⟩, yz⟩ := HO2a.out
  rw [hB1] at x0 x1 x2 HO1a
  have HE := Hid.mk' hB1
  clear xz yz
  simp only [hB1]
  have hlt1 := HO1a.out.lt
  have hlt2 := HO2a.out.lt
  go_wp2
  go_loopw [5] (fun v wr => ∃ i : Nat, i ≤ m ∧ v = .int .i64 (i : Int) ∧ Below w1.heap.size w1 wr) (fun v _ => m - (intOf v).toNat)
  case atStart => exact ⟨0, Nat.zero_le _, rfl, Below.refl _ _⟩
  case round =>
    obtain ⟨i, hi, rfl, hBr⟩ := hrel
    have r1 : wr.cell? ⟨B1, 1, none⟩ = some (.slice pa m pc) := (hBr.cell (p := ⟨B1, 1, none⟩) hlt1).trans x1
    have r2 : wr.cell? ⟨B1 + 1, 1, none⟩ = some (.slice pa' m pc') := (hBr.cell (p := ⟨B1 + 1, 1, none⟩) hlt2).trans y1
    clear x0 x1 x2 y0 y1 y2
    by_cases hlt : i < m
    · rcases HKa.out.2.2.1 with h0 | ⟨b, off, rfl, hblt, hcl⟩
      · omega
      rcases HKa'.out.2.2.1 with h0 | ⟨b', off', rfl, hblt', hcl'⟩
      · omega
      have hil : (i : Int) < (m : Int) := by omega
      have hbr : b < wr.heap.size := Nat.lt_of_lt_of_le hblt hBr.size
      have hbr' : b' < wr.heap.size := Nat.lt_of_lt_of_le hblt' hBr.size
      have hb1r : B1 < wr.heap.size := Nat.lt_of_lt_of_le hlt1 hBr.size
      have hb2r : B1 + 1 < wr.heap.size := Nat.lt_of_lt_of_le hlt2 hBr.size
      have ne := Ext.there wr
      have g0 : wr.cell? ⟨b, off + i, none⟩ = some (.slice (A i) g (C i)) := (hBr.cell (p := ⟨b, off + i, none⟩) hblt).trans (hcl i hlt)
      have g1 : wr.cell? ⟨b', off' + i, none⟩ = some (.slice (A' i) g (C' i)) := (hBr.cell (p := ⟨b', off' + i, none⟩) hblt').trans (hcl' i hlt)
      have s0 : ∀ u : Ext wr, u.1.cell? ⟨b, off + i, none⟩ = some (.slice (A i) g (C i)) := fun u => (u.cell hbr).trans g0
      have s1 : ∀ u : Ext wr, u.1.cell? ⟨b', off' + i, none⟩ = some (.slice (A' i) g (C' i)) := fun u => (u.cell hbr').trans g1
      have s2 : ∀ u : Ext wr, u.1.cell? ⟨B1, 1, none⟩ = some (.slice (some ⟨b, off, none⟩) m pc) := fun u => (u.cell hb1r).trans r1
      have s3 : ∀ u : Ext wr, u.1.cell? ⟨B1 + 1, 1, none⟩ = some (.slice (some ⟨b', off', none⟩) m pc') := fun u => (u.cell hb2r).trans r2
      have HKi := Hid.mk' ((HKa.out.2.2.2 i hlt).below hBr)
      have HKi' := Hid.mk' ((HKa'.out.2.2.2 i hlt).below hBr)
      have HBr := Hid.mk' hBr
      have hcall : ∀ u : Ext wr, Calls Tryz.prog 14 #[.slice (A i) g (C i), .slice (A' i) g (C' i)] u.1 fun r w' => r = .returned (.bool true) ∧ Below u.1.heap.size u.1 w' := fun u => heL_same (HKi.out.below u.2) (HKi'.out.below u.2)
      clear hcl hcl' hBr g0 g1
      go_wp2_with fail
      refine wp_region_ext (by kernel_rfl) (by kernel_rfl) ?_
      repeat (go_big_quiet_step (first | (go_at_call 14; exact ext_grows (hcall _)) | fail))
      refine wpQuiet_nil ?_
      rintro _ ⟨v, rfl⟩
      have HV := Hid.mk' v.2
      clear s0 s1 s2 s3 ne hcall
      go_wp2
      go_roundw
      case rel => exact ⟨i + 1, by omega, by go_num, bel_next HBr.out HV.out⟩
      case measure => simp [intOf]; omega
    · have hnl : ¬ (i : Int) < (m : Int) := by omega
      have HBr := Hid.mk' hBr
      clear hBr
      go_wp2
      go_ret
      exact ⟨rfl, hB1 ▸ bel_next HBa.out HBr.out⟩
end Go.Proofs.YtmlaedpamobmhaaGreat
namespace Go.Proofs.YtmlaedpamobmhaaGreat
open Go.RowKit Go.Deep Go.Joins
set_option linter.unusedVariables false

theorem sprI_L3 {w : World} (o : Int) {a b : Option Addr} {ca cb : Nat} {A B : List T} (ha : RL w a ca A) (hb : RL w b cb B) : Calls Tryz.prog 22 #[.int .i64 o, .slice a A.length ca, .slice b B.length cb] w (Two2 w (sprPoly o (lf A) A.length (lf B) B.length)) :=
  (sprPolyI w o a b A.length ca B.length cb (lf A) (lf B) ha hb).mono fun _ _ h => two_out h
abbrev C2m (p1 o1 p2 o2 : Nat) (v1 v2 : Value) (u : World) : Prop := u.cell? ⟨p1, o1, none⟩ = some v1 ∧ u.cell? ⟨p2, o2, none⟩ = some v2
set_option maxRecDepth 100000 in
set_option maxHeartbeats 8000000 in
theorem heBasisT (w : World) (o : Int) (a : Option Addr) (n c : Nat) (ad0 : Nat → Option Addr) (cp0 : Nat → Nat) (L : Nat → List T) (h : RdS w a n c ad0 (lN L) cp0 (fN L)) (hn : 1 ≤ n ∧ n ≤ 12) (ho : 1 ≤ o ∧ o ≤ 3) (hl : lstOk n (lN L) (fN L) = true) (hB : Bas o n L) :
    Calls Tryz.prog 15 #[.int .i64 o, .slice a n c] w (Val w (.bool true)) := by
  obtain ⟨lb, off, rfl, hlb, hcl⟩ := h.2.2.1.resolve_left (by omega)
  have HG := Hid.mk' h
  have HCL := Hid.mk' hcl
  have HL := Hid.mk' hl
  have HBS := Hid.mk' hB
  have HO := Hid.mk' ho
  obtain ⟨n1, n2⟩ := hn
  have n12 : (n : Int) ≤ 12 := by omega
  clear h hcl hl hB ho
  unfold Val
  go_enter Tryz.func15, Tryz.ntmps15
  go_wp2
  go_loopw [5] (fun vk wr => ∃ k : Nat, 1 ≤ k ∧ k ≤ n ∧ vk = .int .i64 (k : Int) ∧ Below w.heap.size w wr) (fun vk _ => n - (intOf vk).toNat)
  case atStart => exact ⟨1, Nat.le_refl _, by omega, rfl, Below.refl _ _⟩
  case round =>
    obtain ⟨k, hk1, hk2, rfl, hBel⟩ := hrel
    have HBk := Hid.mk' hBel
    by_cases hlt : k < n
    · have hkl : (k : Int) < (n : Int) := by omega
      clear hBel
      go_wp2
      go_loopw [6] (fun vi wi => ∃ i : Nat, i ≤ k ∧ vi = .int .i64 (i : Int) ∧ Below w.heap.size w wi) (fun vi _ => k - (intOf vi).toNat)
      case atStart => exact ⟨0, Nat.zero_le _, rfl, HBk.out⟩
      case round =>
        obtain ⟨i, hi, rfl, hBi⟩ := hrel
        have HBi := Hid.mk' hBi
        by_cases hik : i < k
        · have hil : (i : Int) < (k : Int) := by omega
          have hin : (i : Int) < (n : Int) := by omega
          have hbd : lb < wr.heap.size := Nat.lt_of_lt_of_le hlb hBi.size
          obtain ⟨A, hA⟩ : ∃ A, L i = A := ⟨_, rfl⟩
          obtain ⟨Bk, hBk⟩ : ∃ A, L k = A := ⟨_, rfl⟩
          have hBd := bel_next hBi ((Below.refl _ wr).drew)
          have hS : C2m lb (off + i) lb (off + k) (.slice (ad0 i) A.length (cp0 i)) (.slice (ad0 k) Bk.length (cp0 k)) wr.drew := ⟨(hBd.cell (p := ⟨lb, off + i, none⟩) hlb).trans (by rw [← hA]; exact HCL.out i (by omega)), (hBd.cell (p := ⟨lb, off + k, none⟩) hlb).trans (by rw [← hBk]; exact HCL.out k hlt)⟩
          have RA : Hid (RL wr.drew (ad0 i) (cp0 i) A) := by rw [← hA]; exact (HG.out.2.2.2 i (by omega)).below hBd
          have RB : Hid (RL wr.drew (ad0 k) (cp0 k) Bk) := by rw [← hBk]; exact (HG.out.2.2.2 k hlt).below hBd
          obtain ⟨s, sb, hsp⟩ : ∃ s sb, sprPoly o (lf A) A.length (lf Bk) Bk.length = (s, sb) := ⟨_, _, rfl⟩
          have hc := sprI_L3 (w := wr.drew) o RA.out RB.out
          rw [hsp] at hc
          have HC := Hid.mk' hc
          have hsp' : sprPoly o (lf (L i)) (L i).length (lf (L k)) (L k).length = (s, sb) := by rw [hA, hBk]; exact hsp
          have HSP := Hid.mk' hsp'
          have HBd := Hid.mk' hBd
          have HS := Hid.mk' hS
          clear hS hc hsp hsp' hA hBk hBi hBd
          go_wp2_with fail
          have hS := HS.out
          go_region_held3 (fun u => u.cell? ⟨lb, off + i, none⟩ = some (.slice (ad0 i) A.length (cp0 i)) ∧ u.cell? ⟨lb, off + k, none⟩ = some (.slice (ad0 k) Bk.length (cp0 k))) (first | with_reducible exact hS | with_reducible exact C2g.below hS b5) (first | (go_at_call 22; refine HC.out.mono ?_; rintro e w5 ⟨za, zc, rfl, b5, hz⟩))
          have HZ5 : Hid (RL w5 za zc s) := hz
          have HB5 := Hid.mk' (bel_next HBd.out b5)
          have HG5 := Hid.mk' (HG.out.below HB5.out)
          clear hS b5 hz HC RA RB HS
          obtain ⟨R, hR⟩ : ∃ R, redAll o s n (lN L) (fN L) = R := ⟨_, rfl⟩
          have HR := Hid.mk' hR
          clear hR
          rcases R with _ | S
          · go_wp2_with fail
            refine (redI_no HZ5.out HG5.out HR.out).mono ?_
            rintro e w6 ⟨qa6, qc6, ad6, cp6, la6, lc6, rfl, hb6, _, _⟩
            have HB6 := Hid.mk' (bel_next HB5.out hb6)
            clear hb6
            cases sb
            · go_wp2
              go_roundw
              case rel => exact ⟨i + 1, by omega, by go_num, HB6.out⟩
              case measure => simp [intOf]; omega
            · go_wp2
              go_roundw
              case rel => exact ⟨i + 1, by omega, by go_num, HB6.out⟩
              case measure => simp [intOf]; omega
          · cases sb
            · have hs300 : (S.r.length : Int) ≤ 300 := by have := (redAll_ok HR.out).1.r.2; omega
              go_wp2_with fail
              refine (redI_yes HZ5.out HG5.out HR.out).mono ?_
              rintro e w6 ⟨qa6, qc6, ad6, cp6, la6, lc6, rfl, hb6, _, _⟩
              have HB6 := Hid.mk' (bel_next HB5.out hb6)
              clear hb6
              go_wp2
              go_roundw
              case rel => exact ⟨i + 1, by omega, by go_num, HB6.out⟩
              case measure => simp [intOf]; omega
            · have hr0 : S.r.length = 0 := by rw [HBS.out.left HR.out (pair_idl (lds_of HO.out HL.out) (by omega) hlt HSP.out)]; rfl
              have hs0 : ((S.r.length : Nat) : Int) = 0 := by omega
              go_wp2_with fail
              refine (redI_yes HZ5.out HG5.out HR.out).mono ?_
              rintro e w6 ⟨qa6, qc6, ad6, cp6, la6, lc6, rfl, hb6, _, _⟩
              have HB6 := Hid.mk' (bel_next HB5.out hb6)
              rw [hr0]
              clear hb6
              go_wp2
              go_roundw
              case rel => exact ⟨i + 1, by omega, by go_num, HB6.out⟩
              case measure => simp [intOf]; omega
        · have hie : i = k := by omega
          subst hie
          have hnl : ¬ (i : Int) < (i : Int) := by omega
          go_wp2
          go_roundw
          case rel => exact ⟨i + 1, by omega, by omega, by go_num, HBi.out⟩
          case measure => simp [intOf]; omega
    · have hkn : k = n := by omega
      subst hkn
      have hkl : ¬ (k : Int) < (k : Int) := by omega
      clear hBel
      go_wp2_with fail
      refine (lstOkI _ _ _ _ _ _ _ _ (HG.out.below HBk.out)).mono ?_
      rw [HL.out]
      rintro e w9 ⟨rfl, hb9⟩
      have HB9 := Hid.mk' (bel_next HBk.out hb9)
      clear hb9
      go_wp2
      go_ret
      exact ⟨rfl, HB9.out⟩
end Go.Proofs.YtmlaedpamobmhaaGreat
