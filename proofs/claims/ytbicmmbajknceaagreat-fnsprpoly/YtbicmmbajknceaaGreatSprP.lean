/-
  What is left of a pair of operators: the program and the model.
-/
import Derived.Test.YtbicmmbajknceaaGreatSprL
import Derived.Test.YtbicmmbajknceaaGreatGaz
namespace Go.Proofs.YtbicmmbajknceaaGreat
open Go.RowKit Go.Deep Go.Joins
set_option linter.unusedVariables false

theorem out_low {lo lo' : Nat} {w : World} {a : Option Addr} {cap : Nat} {L : List T} (h : Out lo w a cap L) (hl : lo' ≤ lo) : Out lo' w a cap L := ⟨h.1, h.2.1, h.2.2.imp id (fun ⟨g, off, he, hlo⟩ => ⟨g, off, he, Nat.le_trans hl hlo⟩)⟩
theorem one_ok {t : T} (h : t.m.ok = true ∧ 1 ≤ t.c ∧ t.c ≤ 100) : okL [t] = true :=
  okL_of (by simp) ⟨List.pairwise_singleton _ _, fun s hs => by simp at hs; subst hs; exact h⟩
/-- one term times an operator, less another one times another one. -/
def diffV (u v : T) (f : Nat → T) (n : Nat) (g : Nat → T) (m : Nat) : List T × Bool :=
  if (wylMul (lf [u]) 1 f n).2 = true ∧ (wylMul (lf [v]) 1 g m).2 = true then polSub (lf (wylMul (lf [u]) 1 f n).1) (wylMul (lf [u]) 1 f n).1.length (lf (wylMul (lf [v]) 1 g m).1) (wylMul (lf [v]) 1 g m).1.length else ([], false)
theorem diffV_len (u v : T) (f : Nat → T) (n : Nat) (g : Nat → T) (m : Nat) : (diffV u v f n g m).1.length ≤ 400 := by
  unfold diffV
  split
  · exact polSub_len _ _ _ _
  · simp
def sprPoly (o : Int) (f : Nat → T) (n : Nat) (g : Nat → T) (m : Nat) : List T × Bool :=
  if sprOk o n f m g = true then diffV (sprU o n f m g) (sprV o n f m g) f n g m else ([], false)
theorem sprPoly_len (o : Int) (f : Nat → T) (n : Nat) (g : Nat → T) (m : Nat) : (sprPoly o f n g m).1.length ≤ 400 := by
  unfold sprPoly
  split
  · exact diffV_len _ _ _ _ _ _
  · simp
/-- an operator less a term times another one, as the model takes it. -/
def lessV (L : List T) (t : T) (g : Nat → T) (m : Nat) : List T × Bool :=
  match mulM (lf [t]) g m 1 with
  | none => ([], false)
  | some Y => if (subL L Y).length ≤ 400 then (subL L Y, true) else ([], false)
theorem lessV_len (L : List T) (t : T) (g : Nat → T) (m : Nat) : (lessV L t g m).1.length ≤ 400 := by
  unfold lessV
  split
  · simp
  · split
    · assumption
    · simp
theorem mulM_neg {t : T} (ht : t.m.ok = true ∧ 1 ≤ t.c ∧ t.c ≤ 100) {g : Nat → T} {m : Nat} (hg : Good g m) : mulM (lf [⟨101 - t.c, t.m⟩]) g m 1 = (mulM (lf [t]) g m 1).map (scL 100) := by
  refine mulM_sc (by omega) (by omega) (f := lf [t]) (la := 1) (fun i hi => ?_) hg (fun i hi => ?_) 1 (Nat.le_refl _)
  · obtain rfl : i = 0 := by omega
    exact ⟨ht.1, by show 0 ≤ t.c; omega, ht.2.2⟩
  · obtain rfl : i = 0 := by omega
    show (⟨101 - t.c, t.m⟩ : T) = ⟨100 * t.c % 101, t.m⟩
    congr 1
    omega
theorem less_diff {u v : T} {f : Nat → T} {n : Nat} {g : Nat → T} {m : Nat} (hu : u.m.ok = true ∧ 1 ≤ u.c ∧ u.c ≤ 100) (hv : v.m.ok = true ∧ 1 ≤ v.c ∧ v.c ≤ 100) (hf : polOk n f = true) (hg : polOk m g = true) :
    diffV u v f n g m = match mulM (lf [u]) f n 1 with | none => ([], false) | some X => lessV X v g m := by
  have o1 : polOk 1 (lf [u]) = true := one_ok hu
  have o2 : polOk 1 (lf [v]) = true := one_ok hv
  have e1 : wylMul (lf [u]) 1 f n = mulO (mulM (lf [u]) f n 1) := if_pos ⟨o1, hf⟩
  have e2 : wylMul (lf [v]) 1 g m = mulO (mulM (lf [v]) g m 1) := if_pos ⟨o2, hg⟩
  unfold diffV
  rw [e1, e2]
  cases hX : mulM (lf [u]) f n 1 with
  | none => exact if_neg (by simp [mulO])
  | some X =>
    unfold lessV
    cases hY : mulM (lf [v]) g m 1 with
    | none => exact if_neg (by simp [mulO])
    | some Y =>
      have kX : okL X = true := okL_of (mulM_len _ X hX) (mulM_falls2 (good_ok o1).2 (good_ok hf).2 _ X (Nat.le_refl _) hX)
      have kY : okL Y = true := okL_of (mulM_len _ Y hY) (mulM_falls2 (good_ok o2).2 (good_ok hg).2 _ Y (Nat.le_refl _) hY)
      rw [if_pos (by simp [mulO])]
      show subV X Y = if (subL X Y).length ≤ 400 then (subL X Y, true) else ([], false)
      by_cases hl : (subL X Y).length ≤ 400
      · rw [if_pos hl, subV_ok kX kY hl]
      · rw [if_neg hl]
        rcases subV_case X Y with h | ⟨_, _, h, _⟩
        · exact h
        · exact absurd h hl
set_option maxRecDepth 100000 in
set_option maxHeartbeats 4000000 in
theorem l7LessS (w : World) (pa : Option Addr) (pc : Nat) (L : List T) (t : T) (b : Option Addr) (m cb : Nat) (g : Nat → T) (hp : RL w pa pc L) (hl : L.length ≤ 400) (hL : Falls L) (ht : t.m.ok = true ∧ 1 ≤ t.c ∧ t.c ≤ 100) (hb : Rd w b m cb g) (hg : polOk m g = true) :
    Calls Tryz.prog 38 #[.slice pa L.length pc, .agg #[.int .i64 t.c, .int .i64 t.m.x, .int .i64 t.m.y, .int .i64 t.m.d, .int .i64 t.m.e], .slice b m cb] w fun r w' => ∃ v, r = .returned (.tuple #[v, .bool (lessV L t g m).2]) ∧ Below w.heap.size w w' ∧ w'.ownsRow w.heap.size 33 5 v (lessV L t g m).1.length (cellsL (lessV L t g m).1) := by
  obtain ⟨l2, gg⟩ := good_ok hg
  have HP := Hid.mk' hp
  have HG := Hid.mk' hb
  have HL := Hid.mk' hL
  have hmn := mulM_neg ht gg
  obtain ⟨t0, t1, t2⟩ := ht
  have gs : Good (lf [(⟨101 - t.c, t.m⟩ : T)]) 1 := fun i hi => by
    obtain rfl : i = 0 := by omega
    exact ⟨t0, by show 0 ≤ 101 - t.c; omega, by show 101 - t.c ≤ 100; omega⟩
  have gt : Good (lf [t]) 1 := fun i hi => by
    obtain rfl : i = 0 := by omega
    exact ⟨t0, by show 0 ≤ t.c; omega, t2⟩
  have hcall := fun (W : World) (h : RL W (some ⟨w.heap.size + 1, 0, none⟩) 1 [(⟨101 - t.c, t.m⟩ : T)]) (h' : Rd W b m cb g) => mulS4 W (some ⟨w.heap.size + 1, 0, none⟩) b 1 1 m cb (lf [(⟨101 - t.c, t.m⟩ : T)]) g h h' (by omega) l2 gs gg
  rw [hmn] at hcall
  have HGT := Hid.mk' gt
  have HGG := Hid.mk' gg
  clear hp hb hL gs gt gg hmn
  unfold lessV
  have hrl := one_RL (w.alloc (.cells #[.int .i64 t.c, .int .i64 t.m.x, .int .i64 t.m.y, .int .i64 t.m.d, .int .i64 t.m.e] 33)) (⟨101 - t.c, t.m⟩ : T)
  rw [World.size_alloc] at hrl
  have HRL := Hid.mk' hrl
  have HBL := Hid.mk' (bel_two w (.cells #[.int .i64 t.c, .int .i64 t.m.x, .int .i64 t.m.y, .int .i64 t.m.d, .int .i64 t.m.e] 33) (.cells #[.int .i64 (101 - t.c), .int .i64 t.m.x, .int .i64 t.m.y, .int .i64 t.m.d, .int .i64 t.m.e] 33))
  clear hrl
  cases hY : mulM (lf [t]) g m 1 with
  | none =>
    rw [hY] at hcall
    simp only [Option.map_none, mulO] at hcall
    go_enter Tryz.func38, Tryz.ntmps38
    go_wp2_with fail
    refine (hcall _ HRL.out (HG.out.below HBL.out)).mono ?_
    rintro r w1 ⟨v1, rfl, hb1, ho1⟩
    have HB1 := Hid.mk' (bel_next HBL.out hb1)
    clear hb1 ho1 hcall
    go_wp2
    refine bodyPost_ret (results_tmp2 rfl _ _ _) rfl ?_
    exact ⟨_, rfl, HB1.out.alloc HB1.out.size _, owns_none w1 w.heap.size HB1.out.size⟩
  | some Y =>
    have fY := mulM_falls2 HGT.out HGG.out 1 Y (Nat.le_refl _) hY
    have lY := mulM_len 1 Y hY
    have fS := scL_falls (c := 100) (by omega) (by omega) fY
    have lS := scL_len 100 Y
    have hsl := subL_len L Y
    rw [hY] at hcall
    simp only [Option.map_some, mulO] at hcall
    obtain ⟨Z, hZ⟩ : ∃ Z, scL 100 Y = Z := ⟨_, rfl⟩
    rw [hZ] at hcall fS lS
    have hadd : subL L Y = addL L Z := by rw [← hZ]; rfl
    dsimp only
    rw [hadd] at hsl ⊢
    have lZ : Z.length ≤ 400 := by omega
    have c1 : Hid (∀ i, i < L.length → 0 ≤ (lf L i).c ∧ (lf L i).c ≤ 100) := fun i hi => by have := (fl_lf HL.out).2 i hi; omega
    have c2 : Hid (∀ i, i < Z.length → 0 ≤ (lf Z i).c ∧ (lf Z i).c ≤ 100) := fun i hi => by have := (fl_lf fS).2 i hi; omega
    have HAD : Hid (addT (lf L) L.length (lf Z) Z.length 0 0 = addL L Z) := rfl
    obtain ⟨R, hR⟩ : ∃ R, addL L Z = R := ⟨_, rfl⟩
    rw [hR] at hsl HAD ⊢
    have hRl : R.length ≤ 1000 := by omega
    clear hZ hadd hR fS fY lS hsl
    by_cases hle : R.length ≤ 400
    · have hg4 : ¬ (400 : Int) < (R.length : Int) := by omega
      rw [if_pos hle]
      go_enter Tryz.func38, Tryz.ntmps38
      go_wp2_with fail
      refine (hcall _ HRL.out (HG.out.below HBL.out)).mono ?_
      rintro r w1 ⟨v1, rfl, hb1, ho1⟩
      obtain ⟨a1, k1, rfl, hout⟩ := out_of_owns ho1 (by omega)
      have HB1 := Hid.mk' (bel_next HBL.out hb1)
      have HZ1 := Hid.mk' hout.1
      clear hb1 ho1 hout hcall
      go_wp2_with fail
      refine (l3AddS _ _ _ _ _ _ _ (lf L) (lf Z) (HP.out.below HB1.out) HZ1.out (by omega) c1.out c2.out).mono ?_
      rw [HAD.out]
      rintro r w2 ⟨v2, rfl, hb2, ho2⟩
      have HB2 := Hid.mk' (bel_next HB1.out hb2)
      have HO2 := Hid.mk' (ownsRow_low ho2 HB1.out.size)
      obtain ⟨a2, k2, rfl, hout⟩ := out_of_owns ho2 (by omega)
      clear hb2 ho2 hout
      go_wp2
      refine bodyPost_ret (results_tmp2 rfl _ _ _) rfl ?_
      exact ⟨_, rfl, HB2.out, HO2.out⟩
    · have hg4 : (400 : Int) < (R.length : Int) := by omega
      rw [if_neg hle]
      go_enter Tryz.func38, Tryz.ntmps38
      go_wp2_with fail
      refine (hcall _ HRL.out (HG.out.below HBL.out)).mono ?_
      rintro r w1 ⟨v1, rfl, hb1, ho1⟩
      obtain ⟨a1, k1, rfl, hout⟩ := out_of_owns ho1 (by omega)
      have HB1 := Hid.mk' (bel_next HBL.out hb1)
      have HZ1 := Hid.mk' hout.1
      clear hb1 ho1 hout hcall
      go_wp2_with fail
      refine (l3AddS _ _ _ _ _ _ _ (lf L) (lf Z) (HP.out.below HB1.out) HZ1.out (by omega) c1.out c2.out).mono ?_
      rw [HAD.out]
      rintro r w2 ⟨v2, rfl, hb2, ho2⟩
      have HB2 := Hid.mk' (bel_next HB1.out hb2)
      have HO2 := Hid.mk' (ownsRow_low ho2 HB1.out.size)
      obtain ⟨a2, k2, rfl, hout⟩ := out_of_owns ho2 (by omega)
      clear hb2 ho2 hout
      go_wp2
      refine bodyPost_ret (results_tmp2 rfl _ _ _) rfl ?_
      exact ⟨_, rfl, HB2.out.alloc HB2.out.size _, owns_none w2 w.heap.size HB2.out.size⟩
end Go.Proofs.YtbicmmbajknceaaGreat
